/- Contracts of markLeafS and heldLeafS. -/
import Derived.Test.YtpkdadccapemcaaDoorLeavesSpec
import Derived.Test.YtpkdadccapemcaaDoorMarks
namespace Go.Proofs.YtpkdadccapemcaaDoor
open Go.RowKit
set_option linter.unusedSimpArgs false
set_option linter.unusedVariables false
attribute [local go_sem ↓] Go.wp_at_zero Go.wp_at_succ

/-- What marks leave of a fourth part. -/
def zM (i : Nat) : Bool := (1 + 4 * (i : Int) + 1 + 1 + 1) % 3 == 0
/-- What marks leave. -/
def marksF (n : Nat) : List Lf := (List.range n).map fun (i : Nat) => ⟨1 + 4 * (i : Int), 1 + 4 * (i : Int) + 1, 1 + 4 * (i : Int) + 1 + 1, zM i⟩
theorem marksF_len (n : Nat) : (marksF n).length = n := by simp [marksF]
theorem marksF_at {n i : Nat} (h : i < n) : (marksF n)[i]? = some ⟨1 + 4 * (i : Int), 1 + 4 * (i : Int) + 1, 1 + 4 * (i : Int) + 1 + 1, zM i⟩ := by simp [marksF, h]

set_option maxHeartbeats 1000000 in
theorem heldLeafS_row (v : Value) (n base : Nat) (w : World) (h : w.ownsRow base 63 4 v n (lfCells (marksF n))) (hn : n ≤ 1048576) :
    Calls Tryd.prog 15 #[v, .int .i64 1] w fun e w' => e = .returned (.int .i64 (1 + 4 * n)) ∧ Below w.heap.size w w' := by
  rcases row_cases h with ⟨rfl, p1, c1, rfl⟩ | ⟨h0, g, cap, rfl, hc, hg, hx⟩
  · go_enter Tryd.func15, Tryd.ntmps15
    go_wp2
    refine wp_loop_rounds 1 ?_
    rw [rounds_succ]
    go_wp2
    go_ret
    exact ⟨rfl, Below.refl _ _⟩
  · have HX := hideIt hx
    clear h hx
    go_enter Tryd.func15, Tryd.ntmps15
    go_wp2
    go_loopw [1, 5] (fun q i wr => ∃ k : Nat, k ≤ n ∧ i = .int .i64 k ∧ q = .int .i64 (1 + 4 * k) ∧ Below w.heap.size w wr)
      (fun _ i _ => n - (intOf i).toNat)
    case atStart => exact ⟨0, Nat.zero_le _, rfl, rfl, by go_grown⟩
    case round =>
      obtain ⟨k, hk, rfl, rfl, hB⟩ := hrel
      have HB : Hid (Below w.heap.size w wr) := hB
      by_cases hlt : k < n
      · obtain ⟨i0, i1, i2, i3⟩ := lfCells_at _ k _ (marksF_at hlt)
        have y0 := ((bcell hB).1 g _ hg).trans ((HX.out (k * 4) (by omega)).trans i0)
        have y1 := ((bcell hB).1 g _ hg).trans ((HX.out (k * 4 + 1) (by omega)).trans i1)
        have y2 := ((bcell hB).1 g _ hg).trans ((HX.out (k * 4 + 2) (by omega)).trans i2)
        have y3 := ((bcell hB).1 g _ hg).trans ((HX.out (k * 4 + 3) (by omega)).trans i3)
        have hzz : Hid (zM k = ((1 + 4 * (k : Int) + 1 + 1 + 1) % 3 == 0)) := rfl
        generalize zM k = zz at *
        have hlt' : (k : Int) < (n : Int) := by omega
        have hk0 : (0 : Int) ≤ (k : Int) := by omega
        clear hB i0 i1 i2 i3
        go_wp2
        · exfalso
          rename_i h
          have hz := hzz.out
          rw [← hz] at h
          simp at h
        · exact ⟨⟨k + 1, by omega, by go_num, by go_num, HB.out⟩, by simp [intOf]; omega⟩
      · obtain rfl : k = n := by omega
        clear hB
        go_wp2
        go_ret
        exact ⟨rfl, HB.out⟩

/-- A block of leaves of which the first k are marked. -/
def MarkF (w : World) (g cap k : Nat) : Prop := ∃ cur : Array Value, w.heap[g]? = some (.cells cur 63 (0, 0)) ∧ cur.size = cap * 4 ∧ ∀ i, i < k → cur[i * 4]? = some (.int .i64 (1 + 4 * (i : Int))) ∧ cur[i * 4 + 1]? = some (.int .i64 (1 + 4 * (i : Int) + 1)) ∧ cur[i * 4 + 2]? = some (.int .i64 (1 + 4 * (i : Int) + 1 + 1)) ∧ cur[i * 4 + 3]? = some (.bool (zM i))
theorem MarkF.step {w : World} {g cap k : Nat} (h : MarkF w g cap k) (hk : k < cap) : MarkF ((((w.setCell ⟨g, k * 4, none⟩ (.int .i64 (1 + 4 * (k : Int)))).setCell ⟨g, k * 4 + 1, none⟩ (.int .i64 (1 + 4 * (k : Int) + 1))).setCell ⟨g, k * 4 + 2, none⟩ (.int .i64 (1 + 4 * (k : Int) + 1 + 1))).setCell ⟨g, k * 4 + 3, none⟩ (.bool ((1 + 4 * (k : Int) + 1 + 1 + 1) % 3 == 0))) g cap (k + 1) := by
  obtain ⟨cur, hb, hs, hc⟩ := h
  have b0 := heap_setCell_same w g (k * 4) cur 63 (.int .i64 (1 + 4 * (k : Int))) hb
  have b1 := heap_setCell_same _ g (k * 4 + 1) _ 63 (.int .i64 (1 + 4 * (k : Int) + 1)) b0
  have b2 := heap_setCell_same _ g (k * 4 + 2) _ 63 (.int .i64 (1 + 4 * (k : Int) + 1 + 1)) b1
  have b3 := heap_setCell_same _ g (k * 4 + 3) _ 63 (.bool ((1 + 4 * (k : Int) + 1 + 1 + 1) % 3 == 0)) b2
  refine ⟨_, b3, by simpa using hs, fun i hi => ?_⟩
  rcases Nat.lt_or_ge i k with h1 | h1
  · obtain ⟨c0, c1, c2, c3⟩ := hc i h1
    refine ⟨?_, ?_, ?_, ?_⟩ <;> (simp only [Array.getElem?_setIfInBounds, Array.size_setIfInBounds]; rw [if_neg (by omega), if_neg (by omega), if_neg (by omega), if_neg (by omega)]; assumption)
  · obtain rfl : i = k := by omega
    refine ⟨?_, ?_, ?_, ?_⟩
    · simp [Array.getElem?_setIfInBounds]; omega
    · simp [Array.getElem?_setIfInBounds]; omega
    · simp [Array.getElem?_setIfInBounds]; omega
    · simp [Array.getElem?_setIfInBounds, zM]; omega
theorem MarkF.frozen {w : World} {g cap k : Nat} (h : MarkF w g cap k) (j : Nat) : w.frozen? ⟨g, j, none⟩ = false := by
  obtain ⟨cur, h1, _⟩ := h
  simp [World.frozen?, h1]
theorem MarkF.cell {w : World} {g cap k : Nat} (h : MarkF w g cap k) (j : Nat) (hj : j < cap * 4) : ∃ u, w.cell? ⟨g, j, none⟩ = some u := by
  obtain ⟨cur, h1, h2, _⟩ := h
  exact ⟨cur[j]'(by omega), by simp [World.cell?, h1]⟩
theorem MarkF.row {w : World} {g cap n base : Nat} (h : MarkF w g cap n) (hn : n ≤ cap) (hm : cap ≤ maxLen) (hb : base ≤ g) : w.ownsRow base 63 4 (.slice (some ⟨g, 0, none⟩) n cap) n (lfCells (marksF n)) := by
  obtain ⟨cur, h1, h2, h3⟩ := h
  refine ⟨by rw [lfCells_len, marksF_len], .inr ⟨g, cap, cur, rfl, hb, h1, hn, hm, h2, ?_⟩⟩
  apply List.ext_getElem?
  intro j
  rcases Nat.lt_or_ge j (n * 4) with hj | hj
  · rw [List.getElem?_take_of_lt hj]
    obtain ⟨c0, c1, c2, c3⟩ := h3 (j / 4) (by omega)
    obtain ⟨d0, d1, d2, d3⟩ := lfCells_at (marksF n) (j / 4) _ (marksF_at (by omega))
    have hj4 : j % 4 = 0 ∨ j % 4 = 1 ∨ j % 4 = 2 ∨ j % 4 = 3 := by omega
    rcases hj4 with hm2 | hm2 | hm2 | hm2
    · rw [show j = j / 4 * 4 by omega, d0]
      simpa using c0
    · rw [show j = j / 4 * 4 + 1 by omega, d1]
      simpa using c1
    · rw [show j = j / 4 * 4 + 2 by omega, d2]
      simpa using c2
    · rw [show j = j / 4 * 4 + 3 by omega, d3]
      simpa using c3
  · rw [List.getElem?_eq_none (by simp; omega), List.getElem?_eq_none (by rw [lfCells_len, marksF_len]; omega)]

set_option maxHeartbeats 2000000 in
theorem markLeafS_row (v : Value) (n base : Nat) (xs : List Value) (w : World) (h : w.ownsRow base 63 4 v n xs) (hn : n ≤ 1048576) :
    Calls Tryd.prog 14 #[v, .int .i64 1] w fun e w' => e = .returned (.int .i64 (1 + 4 * n)) ∧ w'.ownsRow base 63 4 v n (lfCells (marksF n)) ∧ w.grownBy w' v.ownBlock := by
  rcases Nat.eq_zero_or_pos n with rfl | h0
  · have h' := h
    rcases row_cases h with ⟨_, p1, c1, rfl⟩ | ⟨h0, _⟩
    · have HR : Hid (w.ownsRow base 63 4 (.slice p1 0 c1) 0 (lfCells (marksF 0))) := by
        obtain ⟨e1, e2⟩ := h'
        have : xs = [] := List.eq_nil_of_length_eq_zero (by simpa using e1)
        subst this
        exact ⟨rfl, e2.imp id (fun ⟨g, cap, cur, a1, a2, a3, a4, a5, a6, _⟩ => ⟨g, cap, cur, a1, a2, a3, a4, a5, a6, by simp [marksF, lfCells]⟩)⟩
      clear h h'
      go_enter Tryd.func14, Tryd.ntmps14
      go_wp2
      refine wp_loop_rounds 1 ?_
      rw [rounds_succ]
      go_wp2
      go_ret
      exact ⟨rfl, HR.out, ⟨rfl, rfl, rfl, Nat.le_refl _, fun _ _ _ => rfl⟩⟩
    · omega
  · obtain ⟨g, cap, cur, rfl, hb, hg, hc, hmx, hcs, _⟩ : ∃ g cap cur, v = .slice (some ⟨g, 0, none⟩) n cap ∧ base ≤ g ∧ w.heap[g]? = some (.cells cur 63 (0, 0)) ∧ n ≤ cap ∧ cap ≤ maxLen ∧ cur.size = cap * 4 ∧ cur.toList.take (n * 4) = xs := by
      rcases h.2 with ⟨_, h1⟩ | h1
      · omega
      · exact h1
    have HM0 : Hid (MarkF w g cap 0) := ⟨cur, hg, hcs, fun i hi => by omega⟩
    clear h hg hcs
    go_enter Tryd.func14, Tryd.ntmps14
    go_wp2
    go_loopw [1, 5] (fun q i wr => ∃ k : Nat, k ≤ n ∧ i = .int .i64 k ∧ q = .int .i64 (1 + 4 * k) ∧ MarkF wr g cap k ∧ w.grownBy wr (some g))
      (fun _ i _ => n - (intOf i).toNat)
    case atStart => exact ⟨0, Nat.zero_le _, rfl, rfl, HM0.out, ⟨rfl, rfl, rfl, Nat.le_refl _, fun _ _ _ => rfl⟩⟩
    case round =>
      obtain ⟨k, hk, rfl, rfl, hM, hG⟩ := hrel
      have HM := hideIt hM
      have HG := hideIt hG
      by_cases hlt : k < n
      · have hfz : ∀ j, wr.frozen? ⟨g, j, none⟩ = false := fun j => hM.frozen j
        obtain ⟨v0, e0⟩ := hM.cell (k * 4) (by omega)
        obtain ⟨v1, e1⟩ := hM.cell (k * 4 + 1) (by omega)
        obtain ⟨v2, e2⟩ := hM.cell (k * 4 + 2) (by omega)
        obtain ⟨v3, e3⟩ := hM.cell (k * 4 + 3) (by omega)
        have hlt' : (k : Int) < (n : Int) := by omega
        have hk0 : (0 : Int) ≤ (k : Int) := by omega
        clear hM hG
        go_wp2
        exact ⟨⟨k + 1, by omega, by go_num, by go_num, HM.out.step (by omega), (((HG.out.trans (set_cell_grown _ ⟨g, _, none⟩ _)).trans (set_cell_grown _ ⟨g, _, none⟩ _)).trans (set_cell_grown _ ⟨g, _, none⟩ _)).trans (set_cell_grown _ ⟨g, _, none⟩ _)⟩, by simp [intOf]; omega⟩
      · obtain rfl : k = n := by omega
        clear hM hG
        go_wp2
        go_ret
        exact ⟨rfl, HM.out.row hc hmx hb, HG.out⟩
end Go.Proofs.YtpkdadccapemcaaDoor
