/- Contracts of eqIdS, markIdS and heldIdS, of rows of ids. -/
import Derived.Test.YtpkdadccapemcaaDoorKidsSpec
import Derived.Test.YtpkdadccapemcaaDoorEqOps
namespace Go.Proofs.YtpkdadccapemcaaDoor
open Go.RowKit
set_option linter.unusedSimpArgs false
set_option linter.unusedVariables false
attribute [local go_sem ↓] Go.wp_at_zero Go.wp_at_succ

theorem idCells_at : ∀ (L : List (Int × Int)) (i : Nat) (x : Int × Int), L[i]? = some x → (idCells L)[i * 2]? = some (.int .i64 x.1) ∧ (idCells L)[i * 2 + 1]? = some (.int .i64 x.2)
  | [], i, x, h => by simp at h
  | y :: r, 0, x, h => by simp at h; subst h; simp [idCells]
  | y :: r, i + 1, x, h => by
    have ih := idCells_at r i x (by simpa using h)
    have e : idCells (y :: r) = .int .i64 y.1 :: .int .i64 y.2 :: idCells r := rfl
    rw [e, show (i + 1) * 2 = i * 2 + 1 + 1 by omega]
    simpa using ih
theorem eqId_same (a b : Int) (w : World) :
    Calls Tryd.prog 37 #[.agg #[.int .i64 a, .int .i64 b], .agg #[.int .i64 a, .int .i64 b]] w fun e w' => e = .returned (.bool true) ∧ Below w.heap.size w w' := by
  go_enter Tryd.func37, Tryd.ntmps37
  go_wp2
  go_ret
  exact ⟨rfl, by go_grown⟩

set_option maxHeartbeats 1000000 in
theorem eqIdS_rows (L : List (Int × Int)) (v1 v2 : Value) (base1 base2 : Nat) (w : World) (h1 : w.ownsRow base1 38 2 v1 L.length (idCells L)) (h2 : w.ownsRow base2 38 2 v2 L.length (idCells L)) (hn : L.length ≤ 1048576) :
    Calls Tryd.prog 21 #[v1, v2] w fun e w' => e = .returned (.bool true) ∧ Below w.heap.size w w' := by
  rcases row_cases h1 with ⟨h0, p1, c1, rfl⟩ | ⟨h0, g1, cap1, rfl, hc1, hg1, hx1⟩
  · rcases row_cases h2 with ⟨_, p2, c2, rfl⟩ | ⟨h0', _⟩
    · go_enter Tryd.func21, Tryd.ntmps21
      go_wp2
      refine wp_loop_rounds 1 ?_
      rw [rounds_succ]
      go_wp2
      go_ret
      exact ⟨rfl, Below.refl _ _⟩
    · omega
  · rcases row_cases h2 with ⟨h0', _⟩ | ⟨_, g2, cap2, rfl, hc2, hg2, hx2⟩
    · omega
    · have HX1 := hideIt hx1
      have HX2 := hideIt hx2
      clear h1 h2 hx1 hx2
      go_enter Tryd.func21, Tryd.ntmps21
      go_wp2
      go_loopw [5] (fun i wr => ∃ k : Nat, k ≤ L.length ∧ i = .int .i64 k ∧ Below w.heap.size w wr)
        (fun i _ => L.length - (intOf i).toNat)
      case atStart => exact ⟨0, Nat.zero_le _, rfl, by go_grown⟩
      case round =>
        obtain ⟨k, hk, rfl, hB⟩ := hrel
        have HB : Hid (Below w.heap.size w wr) := hB
        by_cases hlt : k < L.length
        · obtain ⟨i0, i1⟩ := idCells_at L k L[k] (by simp [hlt])
          have y0 := ((bcell hB).1 g1 _ hg1).trans ((HX1.out (k * 2) (by omega)).trans i0)
          have y1 := ((bcell hB).1 g1 _ hg1).trans ((HX1.out (k * 2 + 1) (by omega)).trans i1)
          have z0 := ((bcell hB).1 g2 _ hg2).trans ((HX2.out (k * 2) (by omega)).trans i0)
          have z1 := ((bcell hB).1 g2 _ hg2).trans ((HX2.out (k * 2 + 1) (by omega)).trans i1)
          have hg1' := Nat.lt_of_lt_of_le hg1 hB.size
          have hg2' := Nat.lt_of_lt_of_le hg2 hB.size
          generalize L[k].1 = xa at *
          generalize L[k].2 = xb at *
          have hlt' : (k : Int) < (L.length : Int) := by omega
          have hk0 : (0 : Int) ≤ (k : Int) := by omega
          clear hB i0 i1
          go_wp2
          go_region_held3 (fun w' => w'.cell? ⟨g1, k * 2, none⟩ = some (.int .i64 xa) ∧ w'.cell? ⟨g1, k * 2 + 1, none⟩ = some (.int .i64 xb) ∧ w'.cell? ⟨g2, k * 2, none⟩ = some (.int .i64 xa) ∧ w'.cell? ⟨g2, k * 2 + 1, none⟩ = some (.int .i64 xb))
            (first | exact ⟨y0, y1, z0, z1⟩ | exact ⟨((bcell hb2).1 g1 _ hg1').trans y0, ((bcell hb2).1 g1 _ hg1').trans y1, ((bcell hb2).1 g2 _ hg2').trans z0, ((bcell hb2).1 g2 _ hg2').trans z1⟩)
            (first | (go_at_call 37; refine (eqId_same _ _ _).mono ?_; rintro e w2 ⟨rfl, hb2⟩; have HB2 : Hid (Below w.heap.size w w2) := (HB.out.drew).trans (hb2.mono (by have := HB.out.size; simpa using this))))
          rename_i hS
          clear hS hb2
          go_wp2
          exact ⟨⟨k + 1, by omega, by go_num, HB2.out⟩, by simp [intOf]; omega⟩
        · clear hB
          go_wp2
          go_ret
          exact ⟨rfl, HB.out⟩

/-- What marks leave: 1, 2, 3 and so on. -/
def marksI (n : Nat) : List (Int × Int) := (List.range n).map fun (i : Nat) => (1 + 2 * (i : Int), 2 + 2 * (i : Int))
theorem marksI_len (n : Nat) : (marksI n).length = n := by simp [marksI]
theorem marksI_at {n i : Nat} (h : i < n) : (marksI n)[i]? = some (1 + 2 * (i : Int), 2 + 2 * (i : Int)) := by simp [marksI, h]

set_option maxHeartbeats 1000000 in
theorem heldIdS_row (v : Value) (n base : Nat) (w : World) (h : w.ownsRow base 38 2 v n (idCells (marksI n))) (hn : n ≤ 1048576) :
    Calls Tryd.prog 23 #[v, .int .i64 1] w fun e w' => e = .returned (.int .i64 (1 + 2 * n)) ∧ Below w.heap.size w w' := by
  rcases row_cases h with ⟨rfl, p1, c1, rfl⟩ | ⟨h0, g, cap, rfl, hc, hg, hx⟩
  · go_enter Tryd.func23, Tryd.ntmps23
    go_wp2
    refine wp_loop_rounds 1 ?_
    rw [rounds_succ]
    go_wp2
    go_ret
    exact ⟨rfl, Below.refl _ _⟩
  · have HX := hideIt hx
    clear h hx
    go_enter Tryd.func23, Tryd.ntmps23
    go_wp2
    go_loopw [1, 5] (fun q i wr => ∃ k : Nat, k ≤ n ∧ i = .int .i64 k ∧ q = .int .i64 (1 + 2 * k) ∧ Below w.heap.size w wr)
      (fun _ i _ => n - (intOf i).toNat)
    case atStart => exact ⟨0, Nat.zero_le _, rfl, rfl, by go_grown⟩
    case round =>
      obtain ⟨k, hk, rfl, rfl, hB⟩ := hrel
      have HB : Hid (Below w.heap.size w wr) := hB
      by_cases hlt : k < n
      · obtain ⟨i0, i1⟩ := idCells_at _ k _ (marksI_at hlt)
        have y0 := ((bcell hB).1 g _ hg).trans ((HX.out (k * 2) (by omega)).trans i0)
        have y1 := ((bcell hB).1 g _ hg).trans ((HX.out (k * 2 + 1) (by omega)).trans i1)
        have hlt' : (k : Int) < (n : Int) := by omega
        have hk0 : (0 : Int) ≤ (k : Int) := by omega
        clear hB i0 i1
        go_wp2
        exact ⟨⟨k + 1, by omega, by go_num, by go_num, HB.out⟩, by simp [intOf]; omega⟩
      · obtain rfl : k = n := by omega
        clear hB
        go_wp2
        go_ret
        exact ⟨rfl, HB.out⟩

/-- A block of ids of which the first k are marked. -/
def MarkI (w : World) (g cap k : Nat) : Prop := ∃ cur : Array Value, w.heap[g]? = some (.cells cur 38 (0, 0)) ∧ cur.size = cap * 2 ∧ ∀ i, i < k → cur[i * 2]? = some (.int .i64 (1 + 2 * (i : Int))) ∧ cur[i * 2 + 1]? = some (.int .i64 (2 + 2 * (i : Int)))
theorem MarkI.step {w : World} {g cap k : Nat} (h : MarkI w g cap k) (hk : k < cap) : MarkI ((w.setCell ⟨g, k * 2, none⟩ (.int .i64 (1 + 2 * (k : Int)))).setCell ⟨g, k * 2 + 1, none⟩ (.int .i64 (1 + 2 * (k : Int) + 1))) g cap (k + 1) := by
  obtain ⟨cur, hb, hs, hc⟩ := h
  have b0 := heap_setCell_same w g (k * 2) cur 38 (.int .i64 (1 + 2 * (k : Int))) hb
  have b1 := heap_setCell_same _ g (k * 2 + 1) _ 38 (.int .i64 (1 + 2 * (k : Int) + 1)) b0
  refine ⟨_, b1, by simpa using hs, fun i hi => ?_⟩
  rcases Nat.lt_or_ge i k with h1 | h1
  · obtain ⟨c0, c1⟩ := hc i h1
    simp only [Array.getElem?_setIfInBounds, Array.size_setIfInBounds]
    rw [if_neg (by omega), if_neg (by omega), if_neg (by omega), if_neg (by omega)]
    exact ⟨c0, c1⟩
  · obtain rfl : i = k := by omega
    constructor
    · simp [Array.getElem?_setIfInBounds]; omega
    · simp [Array.getElem?_setIfInBounds]; omega
theorem MarkI.frozen {w : World} {g cap k : Nat} (h : MarkI w g cap k) (j : Nat) : w.frozen? ⟨g, j, none⟩ = false := by
  obtain ⟨cur, h1, _⟩ := h
  simp [World.frozen?, h1]
theorem MarkI.cell {w : World} {g cap k : Nat} (h : MarkI w g cap k) (j : Nat) (hj : j < cap * 2) : ∃ u, w.cell? ⟨g, j, none⟩ = some u := by
  obtain ⟨cur, h1, h2, _⟩ := h
  exact ⟨cur[j]'(by omega), by simp [World.cell?, h1]⟩
theorem MarkI.row {w : World} {g cap n base : Nat} (h : MarkI w g cap n) (hn : n ≤ cap) (hm : cap ≤ maxLen) (hb : base ≤ g) : w.ownsRow base 38 2 (.slice (some ⟨g, 0, none⟩) n cap) n (idCells (marksI n)) := by
  obtain ⟨cur, h1, h2, h3⟩ := h
  refine ⟨by rw [idCells_len, marksI_len], .inr ⟨g, cap, cur, rfl, hb, h1, hn, hm, h2, ?_⟩⟩
  apply List.ext_getElem?
  intro j
  rcases Nat.lt_or_ge j (n * 2) with hj | hj
  · rw [List.getElem?_take_of_lt hj]
    obtain ⟨c0, c1⟩ := h3 (j / 2) (by omega)
    obtain ⟨d0, d1⟩ := idCells_at (marksI n) (j / 2) _ (marksI_at (by omega))
    rcases Nat.mod_two_eq_zero_or_one j with hm2 | hm2
    · rw [show j = j / 2 * 2 by omega, d0]
      simpa using c0
    · rw [show j = j / 2 * 2 + 1 by omega, d1]
      simpa using c1
  · rw [List.getElem?_eq_none (by simp; omega), List.getElem?_eq_none (by rw [idCells_len, marksI_len]; omega)]

set_option maxHeartbeats 2000000 in
theorem markIdS_row (v : Value) (n base : Nat) (xs : List Value) (w : World) (h : w.ownsRow base 38 2 v n xs) (hn : n ≤ 1048576) :
    Calls Tryd.prog 22 #[v, .int .i64 1] w fun e w' => e = .returned (.int .i64 (1 + 2 * n)) ∧ w'.ownsRow base 38 2 v n (idCells (marksI n)) ∧ w.grownBy w' v.ownBlock := by
  rcases Nat.eq_zero_or_pos n with rfl | h0
  · have h' := h
    rcases row_cases h with ⟨_, p1, c1, rfl⟩ | ⟨h0, _⟩
    · have HR : Hid (w.ownsRow base 38 2 (.slice p1 0 c1) 0 (idCells (marksI 0))) := by
        obtain ⟨e1, e2⟩ := h'
        have : xs = [] := List.eq_nil_of_length_eq_zero (by simpa using e1)
        subst this
        exact ⟨rfl, e2.imp id (fun ⟨g, cap, cur, a1, a2, a3, a4, a5, a6, _⟩ => ⟨g, cap, cur, a1, a2, a3, a4, a5, a6, by simp [marksI, idCells]⟩)⟩
      clear h h'
      go_enter Tryd.func22, Tryd.ntmps22
      go_wp2
      refine wp_loop_rounds 1 ?_
      rw [rounds_succ]
      go_wp2
      go_ret
      exact ⟨rfl, HR.out, ⟨rfl, rfl, rfl, Nat.le_refl _, fun _ _ _ => rfl⟩⟩
    · omega
  · obtain ⟨g, cap, cur, rfl, hb, hg, hc, hmx, hcs, _⟩ : ∃ g cap cur, v = .slice (some ⟨g, 0, none⟩) n cap ∧ base ≤ g ∧ w.heap[g]? = some (.cells cur 38 (0, 0)) ∧ n ≤ cap ∧ cap ≤ maxLen ∧ cur.size = cap * 2 ∧ cur.toList.take (n * 2) = xs := by
      rcases h.2 with ⟨_, h1⟩ | h1
      · omega
      · exact h1
    have HM0 : Hid (MarkI w g cap 0) := ⟨cur, hg, hcs, fun i hi => by omega⟩
    clear h hg hcs
    go_enter Tryd.func22, Tryd.ntmps22
    go_wp2
    go_loopw [1, 5] (fun q i wr => ∃ k : Nat, k ≤ n ∧ i = .int .i64 k ∧ q = .int .i64 (1 + 2 * k) ∧ MarkI wr g cap k ∧ w.grownBy wr (some g))
      (fun _ i _ => n - (intOf i).toNat)
    case atStart => exact ⟨0, Nat.zero_le _, rfl, rfl, HM0.out, ⟨rfl, rfl, rfl, Nat.le_refl _, fun _ _ _ => rfl⟩⟩
    case round =>
      obtain ⟨k, hk, rfl, rfl, hM, hG⟩ := hrel
      have HM := hideIt hM
      have HG := hideIt hG
      by_cases hlt : k < n
      · have hfz : ∀ j, wr.frozen? ⟨g, j, none⟩ = false := fun j => hM.frozen j
        obtain ⟨v0, e0⟩ := hM.cell (k * 2) (by omega)
        obtain ⟨v1, e1⟩ := hM.cell (k * 2 + 1) (by omega)
        have hlt' : (k : Int) < (n : Int) := by omega
        have hk0 : (0 : Int) ≤ (k : Int) := by omega
        clear hM hG
        go_wp2
        exact ⟨⟨k + 1, by omega, by go_num, by go_num, HM.out.step (by omega), (HG.out.trans (set_cell_grown _ ⟨g, _, none⟩ _)).trans (set_cell_grown _ ⟨g, _, none⟩ _)⟩, by simp [intOf]; omega⟩
      · obtain rfl : k = n := by omega
        clear hM hG
        go_wp2
        go_ret
        exact ⟨rfl, HM.out.row hc hmx hb, HG.out⟩

set_option maxRecDepth 100000 in
set_option maxHeartbeats 1000000 in
theorem specKids_any (l : List Op7) (g cap : Nat) (r m s : Int) (w : World) (hl : OpsAt w g l) (hn : l.length ≤ 1048576) (hcap : l.length ≤ cap) :
    Calls Tryd.prog 18 #[.slice (some ⟨g, 0, none⟩) l.length cap, .agg #[.int .i64 r, .int .i64 m], .int .i64 s] w fun e w' => ∃ v, e = .returned v ∧ w'.ownsRow w.heap.size 38 2 v (kidIds l r m s).length (idCells (kidIds l r m s)) ∧ Below w.heap.size w w' := by
  have HL := hideIt hl
  have hgw := hl.1
  clear hl
  have HB0 : Hid (Below w.heap.size w (w.alloc (.cells #[.int .i64 r, .int .i64 m] 38))) := (Below.refl _ _).alloc (Nat.le_refl _) _
  cases ho : opsB l
  all_goals
    have HO := hideIt ho
    clear ho
    go_enter Tryd.func18, Tryd.ntmps18
    go_wp2_with fail
    refine (specOps_any l _ _ _ (HL.out.below HB0.out hgw) hn hcap).mono ?_
    rintro e w1 ⟨rfl, hb1⟩
    rw [HO.out]
    have HB1 : Hid (Below w.heap.size w w1) := HB0.out.trans (hb1.mono (by simp))
    have k0 : w1.cell? ⟨w.heap.size, 0, none⟩ = some (.int .i64 r) := by rw [(bcell hb1).1 _ _ (by simp)]; simp [go_sem]
    have k1 : w1.cell? ⟨w.heap.size, 1, none⟩ = some (.int .i64 m) := by rw [(bcell hb1).1 _ _ (by simp)]; simp [go_sem]
    have hz0 : w.heap.size < w1.heap.size := by have := hb1.size; simp at this; omega
    clear hb1
  · have e : kidIds l r m s = [] := by unfold kidIds; rw [HO.out]; rfl
    have HE := hideIt e
    clear e
    go_wp2
    go_ret
    refine ⟨_, rfl, ?_, HB1.out.alloc HB1.out.size _⟩
    rw [HE.out]
    have h := World.ownsRow_made (base := w.heap.size) (e := 38) (size := 2) w1 #[] 0 HB1.out.size (Nat.zero_le _) rfl
    exact h
  · go_wp2_with fail
    refine (l2Kids_any l _ _ _ _ _ _ (HL.out.below HB1.out hgw) hn hcap).mono ?_
    rintro e w2 ⟨v, rfl, hrow, hb2⟩
    have HB2 := hideIt (Bstep HB1.out hb2)
    have HRW := hideIt (ownsRow_base HB1.out.size hrow)
    clear hb2 hrow
    go_wp2
    go_ret
    exact ⟨_, rfl, by unfold kidIds; rw [HO.out, if_pos rfl, idsOf_len]; exact HRW.out, HB2.out⟩
end Go.Proofs.YtpkdadccapemcaaDoor
