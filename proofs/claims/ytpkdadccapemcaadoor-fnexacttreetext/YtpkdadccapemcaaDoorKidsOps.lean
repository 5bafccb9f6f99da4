/- Contracts of both TreeKids. -/
import Derived.Test.YtpkdadccapemcaaDoorTreeOf
import Derived.Test.YtpkdadccapemcaaDoorSpecOps
import Derived.OwnWalk
namespace Go.Proofs.YtpkdadccapemcaaDoor
open Go.RowKit
set_option linter.unusedSimpArgs false
set_option linter.unusedVariables false
attribute [local go_sem ↓] Go.wp_at_zero Go.wp_at_succ

/-- The ids of signs. -/
def idsOf (L : List Op7) : List (Int × Int) := L.map fun o => (o.a, o.b)
/-- The cells of ids. -/
def idCells (L : List (Int × Int)) : List Value := L.flatMap fun x => [.int .i64 x.1, .int .i64 x.2]
theorem idCells_len : ∀ L : List (Int × Int), (idCells L).length = L.length * 2
  | [] => rfl
  | x :: r => by have := idCells_len r; simp [idCells] at this ⊢; omega
/-- Which ids were put beside one, on a side, if what was done is ok. -/
def kidIds (l : List Op7) (r m s : Int) : List (Int × Int) := if opsB l = true then idsOf (kidsL l (r, m, s)) else []
theorem idCells_more (L : List Op7) (o : Op7) : idCells (idsOf (L ++ [o])) = idCells (idsOf L) ++ [.int .i64 o.a, .int .i64 o.b] := by simp [idCells, idsOf]
theorem idsOf_len (L : List Op7) : (idsOf L).length = L.length := by simp [idsOf]

theorem infoId : (Tryd.prog.info? 38).map (fun i => (i.zero, i.size, i.bytes)) = some (some (.agg #[.int .i64 0, .int .i64 0]), 2, 16) := by kernel_rfl
theorem ids_one : ∀ {a b : Int}, ∀ u ∈ [Value.int .i64 a, .int .i64 b], u.oneCell' = true := by
  intro a b u hu
  simp at hu
  rcases hu with rfl | rfl <;> rfl

theorem ownsRow_base {w : World} {b b' : Nat} {T : TypeId} {m : Nat} {v : Value} {n : Nat} {xs : List Value} (hb : b' ≤ b) (h : w.ownsRow b T m v n xs) : w.ownsRow b' T m v n xs := by
  refine ⟨h.1, ?_⟩
  rcases h.2 with h1 | ⟨g, cap, cur, h1, h2, h3⟩
  · exact .inl h1
  · exact .inr ⟨g, cap, cur, h1, Nat.le_trans hb h2, h3⟩
/-- A row is nothing, or lies in a block. -/
theorem row_cases {w : World} {base : Nat} {T : TypeId} {m : Nat} {v : Value} {n : Nat} {xs : List Value} (h : w.ownsRow base T m v n xs) : (n = 0 ∧ ∃ p c, v = .slice p 0 c) ∨ (0 < n ∧ ∃ g cap, v = .slice (some ⟨g, 0, none⟩) n cap ∧ n ≤ cap ∧ g < w.heap.size ∧ ∀ j, j < n * m → w.cell? ⟨g, j, none⟩ = xs[j]?) := by
  rcases Nat.eq_zero_or_pos n with h0 | h0
  · refine .inl ⟨h0, ?_⟩
    subst h0
    rcases h.2 with ⟨rfl, _⟩ | ⟨g, cap, cur, rfl, _⟩
    · exact ⟨none, 0, rfl⟩
    · exact ⟨_, _, rfl⟩
  · refine .inr ⟨h0, ?_⟩
    have h' := h
    rcases h.2 with ⟨_, h1⟩ | ⟨g, cap, cur, rfl, _, hg, hc, _⟩
    · omega
    · exact ⟨g, cap, rfl, hc, (Array.getElem?_eq_some_iff.1 hg).1, fun j hj => h'.cellAt j hj⟩

theorem putCells_at : ∀ (L : List Op7) (i : Nat) (o : Op7), L[i]? = some o → (putCells L)[i * 6]? = some (.int .i64 o.a) ∧ (putCells L)[i * 6 + 1]? = some (.int .i64 o.b) ∧ (putCells L)[i * 6 + 2]? = some (.int .i64 o.c) ∧ (putCells L)[i * 6 + 3]? = some (.int .i64 o.d) ∧ (putCells L)[i * 6 + 4]? = some (.int .i64 o.s) ∧ (putCells L)[i * 6 + 5]? = some (.int .i64 o.g)
  | [], i, x, h => by simp at h
  | y :: r, 0, x, h => by simp at h; subst h; simp [putCells]
  | y :: r, i + 1, x, h => by
    have ih := putCells_at r i x (by simpa using h)
    have e : putCells (y :: r) = .int .i64 y.a :: .int .i64 y.b :: .int .i64 y.c :: .int .i64 y.d :: .int .i64 y.s :: .int .i64 y.g :: putCells r := rfl
    rw [e, show (i + 1) * 6 = i * 6 + 1 + 1 + 1 + 1 + 1 + 1 by omega]
    simpa using ih

set_option maxRecDepth 100000 in
set_option maxHeartbeats 1000000 in
theorem implKids_any (l : List Op7) (g cap : Nat) (r m s : Int) (x : Addr) (w : World) (hl : OpsAt w g l) (hn : l.length ≤ 1048576) (hcap : l.length ≤ cap)
    (he : w.cell? ⟨0, 0, none⟩ = some (.iface 127 (.pointer (some x)))) (h0 : 0 < w.heap.size) (hr : wf64 r) (hm : wf64 m) (hs : wf64 s) :
    Calls Tryd.prog 20 #[.slice (some ⟨g, 0, none⟩) l.length cap, .agg #[.int .i64 r, .int .i64 m], .int .i64 s] w fun e w' => ∃ v, e = .returned v ∧ w'.ownsRow w.heap.size 38 2 v (kidIds l r m s).length (idCells (kidIds l r m s)) ∧ Below w.heap.size w w' := by
  have HL := hideIt hl
  have hgw := hl.1
  obtain ⟨ks, hks⟩ := key_spot hr hm hs
  have HKS := hideIt hks
  clear hl hr hm hs hks
  go_enter Tryd.func20, Tryd.ntmps20
  go_wp2_with fail
  have HB0 : Hid (Below w.heap.size w (w.alloc (.cells #[.int .i64 r, .int .i64 m] 38))) := (Below.refl _ _).alloc (Nat.le_refl _) _
  refine (treeOf_any l g cap x _ (HL.out.below HB0.out hgw) hn hcap (errB HB0.out h0 he) (posB HB0.out h0)).mono ?_
  rintro e w1 ⟨(⟨ht, b1, b2, b3, base, rfl, hT⟩ | ⟨ht, rfl⟩), hb1⟩
  all_goals
    have HO := hideIt ht
    have HB1 : Hid (Below w.heap.size w w1) := HB0.out.trans (hb1.mono (by simp))
    have herr1 : w1.cell? ⟨0, 0, none⟩ = some (.iface 127 (.pointer (some x))) := errB HB1.out h0 he
    have hp1 : 0 < w1.heap.size := posB HB1.out h0
    have k0 : w1.cell? ⟨w.heap.size, 0, none⟩ = some (.int .i64 r) := by rw [(bcell hb1).1 _ _ (by simp)]; simp [go_sem]
    have k1 : w1.cell? ⟨w.heap.size, 1, none⟩ = some (.int .i64 m) := by rw [(bcell hb1).1 _ _ (by simp)]; simp [go_sem]
    have hz0 : w.heap.size < w1.heap.size := by have := hb1.size; simp at this; omega
    clear ht hb1
  · have HTT := hideIt hT
    obtain ⟨f, hf⟩ := (hT.below ((Below.refl _ _).alloc (Nat.le_refl _) (.cells #[.map (some b1), .map (some b2), .map (some b3)] 55))).2.1
    have HF := hideIt hf
    obtain ⟨v0, hv0⟩ : ∃ v0, (f (r, m, s)).getD (.slice none 0 0) = v0 := ⟨_, rfl⟩
    have hv0o := hf.at (r, m, s)
    rw [hv0] at hv0o
    have HV0 := hideIt hv0
    have HOW := hideIt hv0o
    clear hT hf hv0 hv0o
    rcases row_cases HOW.out with ⟨hlen, p0, c0, hv⟩ | ⟨hlen, G, cap0, hv, hcap0, hGl, hcell⟩
    all_goals rw [hv] at HV0
    all_goals
      go_wp2_with (first
        | (go_at_call 30; refine (is_nil x _).mono ?_; rintro e w'' ⟨rfl, rfl⟩)
        | (at_lookup; refine wpList_look0 (t := 52) (e := 71) rfl _ _ rfl keyedSpot Tryd.underlying52 (.slice none 0 0) (zeroSlice _) encSpot_inj rfl HF.out.1 (r, m, s) rfl ks HKS.out _ HV0.out ?_))
    · refine wp_loop_rounds 1 ?_
      rw [rounds_succ]
      go_wp2
      go_ret
      refine ⟨_, rfl, ?_, by have := HB1.out; go_grown⟩
      have e : kidIds l r m s = [] := by unfold kidIds; rw [HO.out, if_pos rfl, List.length_eq_zero_iff.1 hlen]; rfl
      rw [e]
      exact World.ownsRow_nil _ _ _ _
    · have HCE := hideIt hcell
      have HKI : Hid (kidIds l r m s = idsOf (kidsL l (r, m, s))) := by unfold kidIds; exact if_pos HO.out
      have hKl : (kidsL l (r, m, s)).length ≤ 1048576 := Nat.le_trans (kids_le l _) hn
      have hGG : G < w1.heap.size + 1 := by simpa using hGl
      clear hcell HOW hGl hv HF HTT
      generalize kidsL l (r, m, s) = K at *
      obtain ⟨i0, hi, hz0', hz1', hz2⟩ := info_parts infoId
      have HI1 := hideIt hi
      have HZ0 := hideIt hz0'
      have HZ1 := hideIt hz1'
      have HZ2 := hideIt hz2
      clear hi hz0' hz1' hz2
      have HBW : Hid (Below w.heap.size w (w1.alloc (.cells #[.map (some b1), .map (some b2), .map (some b3)] 55))) := HB1.out.alloc HB1.out.size _
      go_loopw [9, 27] (fun v i wr => ∃ k : Nat, k ≤ K.length ∧ i = .int .i64 k ∧ wr.ownsRow (w1.heap.size + 1) 38 2 v k (idCells (idsOf (K.take k))) ∧ Below (w1.heap.size + 1) (w1.alloc (.cells #[.map (some b1), .map (some b2), .map (some b3)] 55)) wr)
        (fun _ i _ => K.length - (intOf i).toNat)
      case atStart => exact ⟨0, Nat.zero_le _, rfl, World.ownsRow_nil _ _ _ _, Below.refl _ _⟩
      case round =>
        obtain ⟨k, hk, rfl, hrow, hB⟩ := hrel
        have HRW := hideIt hrow
        have HB := hideIt hB
        have hzr : w1.heap.size + 1 ≤ wr.heap.size := by have := hB.size; simpa using this
        by_cases hlt : k < K.length
        · obtain ⟨i0', i1', i2', i3', i4', i5'⟩ := putCells_at K k K[k] (by simp [hlt])
          have cc : ∀ j, j < K.length * 6 → wr.cell? ⟨G, j, none⟩ = (putCells K)[j]? := fun j hj => (hB.cell (p := ⟨G, j, none⟩) hGG).trans (HCE.out j hj)
          have y0 := (cc (k * 6) (by omega)).trans i0'
          have y1 := (cc (k * 6 + 1) (by omega)).trans i1'
          have y2 := (cc (k * 6 + 2) (by omega)).trans i2'
          have y3 := (cc (k * 6 + 3) (by omega)).trans i3'
          have y4 := (cc (k * 6 + 4) (by omega)).trans i4'
          have y5 := (cc (k * 6 + 5) (by omega)).trans i5'
          have htk : Hid (idCells (idsOf (K.take (k + 1))) = idCells (idsOf (K.take k)) ++ [.int .i64 K[k].a, .int .i64 K[k].b]) := by
            show idCells (idsOf (K.take (k + 1))) = _
            rw [List.take_succ_eq_append_getElem hlt, idCells_more]
          have hGr : G < wr.heap.size := by omega
          generalize K[k] = o at *
          have hlt' : (k : Int) < (K.length : Int) := by omega
          have hk0 : (0 : Int) ≤ (k : Int) := by omega
          have HNW : Hid (∀ j u, ([.int .i64 o.a, .int .i64 o.b] : List Value)[j]? = some u → ((wr.alloc (.cells #[.int .i64 o.a, .int .i64 o.b, .int .i64 o.c, .int .i64 o.d, .int .i64 o.s, .int .i64 o.g] 77)).alloc (.cells #[.int .i64 o.a, .int .i64 o.b] 38)).cell? ((⟨wr.heap.size + 1, 0, none⟩ : Addr).add j) = some u) := by
            intro j u hj
            have h := cells_new (wr.alloc (.cells #[.int .i64 o.a, .int .i64 o.b, .int .i64 o.c, .int .i64 o.d, .int .i64 o.s, .int .i64 o.g] 77)) [.int .i64 o.a, .int .i64 o.b] 38 j u hj
            simp only [World.size_alloc] at h
            exact h
          clear hB hrow cc i0' i1' i2' i3' i4' i5'
          go_wp2_with (first
            | (at_builtin; refine wpList_append_own_at _ rfl _ _ 36 rfl (w1.heap.size + 1) 38 i0 _ 2 16 Tryd.underlying36 HI1.out HZ0.out HZ1.out HZ2.out rfl (by decide) _ _ _ rfl ((HRW.out.alloc _).alloc _) ⟨wr.heap.size + 1, 0, none⟩ 1 1 [.int .i64 o.a, .int .i64 o.b] rfl rfl HNW.out ids_one (by unfold maxLen; omega) (by omega) (by simp; omega) ?_; intro v' w2 hown2 hg2 _ _;
                have HO2 := hideIt hown2; have HB2 := hideIt (below_grown ((HB.out.alloc (by omega) _).alloc (by simp; omega) _) hg2 (by simp; omega) (fun j e => (HRW.out.lt j e).1)); clear hown2 hg2))
          exact ⟨⟨k + 1, by omega, by go_num, by rw [htk.out]; exact HO2.out, HB2.out⟩, by simp [intOf]; omega⟩
        · obtain rfl : k = K.length := by omega
          clear hB hrow
          go_wp2
          go_ret
          refine ⟨_, rfl, ?_, HBW.out.trans (HB.out.mono (by omega))⟩
          rw [HKI.out]
          have h := HRW.out
          rw [List.take_length] at h
          have h2 := ownsRow_base (show w.heap.size ≤ w1.heap.size + 1 by omega) h
          simpa [idsOf] using h2
  · go_wp2_with (first | (go_at_call 30; refine (is_same x _).mono ?_; rintro e w'' ⟨rfl, rfl⟩))
    go_ret
    exact ⟨_, rfl, by unfold kidIds; rw [HO.out]; exact World.ownsRow_nil _ _ _ _, by have := HB1.out; go_grown⟩
end Go.Proofs.YtpkdadccapemcaaDoor
