/- What a law holds in its hands that asks whether an answer of things is as the specification's and of its own memory. -/
import Derived.Test.YtgagookcpeejdaaDoorPackC
import Derived.Test.YtgagookcpeejdaaDoorPackT
namespace Go.Proofs.YtgagookcpeejdaaDoor
open Go.RowKit
set_option linter.unusedSimpArgs false
set_option linter.unusedVariables false
attribute [local go_sem ↓] Go.wp_at_zero Go.wp_at_succ

/-- What marks leave. -/
def markO (i : Nat) : Op7 := ⟨1 + 7 * (i : Int), 1 + 7 * (i : Int) + 1, 1 + 7 * (i : Int) + 1 + 1, 1 + 7 * (i : Int) + 1 + 1 + 1, 1 + 7 * (i : Int) + 1 + 1 + 1 + 1, 1 + 7 * (i : Int) + 1 + 1 + 1 + 1 + 1, 1 + 7 * (i : Int) + 1 + 1 + 1 + 1 + 1 + 1⟩
def marksO (n : Nat) : List Op7 := (List.range n).map markO
theorem marksO_len (n : Nat) : (marksO n).length = n := by simp [marksO]
theorem marksO_at {n i : Nat} (h : i < n) : (marksO n)[i]? = some (markO i) := by simp [marksO, h]
theorem opRow_cases {w : World} {base : Nat} {v : Value} {n : Nat} {xs : List Value} (h : w.ownsRow base 42 7 v n xs) : (n = 0 ∧ ∃ p c, v = .slice p 0 c) ∨ (0 < n ∧ ∃ g cap, v = .slice (some ⟨g, 0, none⟩) n cap ∧ n ≤ cap ∧ g < w.heap.size ∧ ∀ j, j < n * 7 → w.cell? ⟨g, j, none⟩ = xs[j]?) := by
  rcases Nat.eq_zero_or_pos n with rfl | h0
  · refine .inl ⟨rfl, ?_⟩
    rcases h.2 with ⟨e, _⟩ | ⟨g, cap, cur, e, _⟩
    · exact ⟨_, _, e⟩
    · exact ⟨_, _, e⟩
  · refine .inr ⟨h0, ?_⟩
    have h' := h
    rcases h.2 with ⟨_, e⟩ | ⟨g, cap, cur, e, h1, h2, h3, _⟩
    · omega
    · subst e
      exact ⟨g, cap, rfl, h3, (Array.getElem?_eq_some_iff.1 h2).1, fun j hj => World.ownsRow.cellAt h' j hj⟩

set_option maxHeartbeats 2000000 in
theorem heldOpS_row (v : Value) (n base : Nat) (w : World) (h : w.ownsRow base 42 7 v n (opCells (marksO n))) (hn : n ≤ 1048576) :
    Calls Tryd.prog 20 #[v, .int .i64 1] w fun e w' => e = .returned (.int .i64 (1 + 7 * n)) ∧ Below w.heap.size w w' := by
  rcases opRow_cases h with ⟨rfl, p1, c1, rfl⟩ | ⟨h0, g, cap, rfl, hc, hg, hx⟩
  · go_enter Tryd.func20, Tryd.ntmps20
    go_wp2
    refine wp_loop_rounds 1 ?_
    rw [rounds_succ]
    go_wp2
    go_ret
    exact ⟨rfl, Below.refl _ _⟩
  · have HX := hideIt hx
    clear h hx
    go_enter Tryd.func20, Tryd.ntmps20
    go_wp2
    go_loopw [1, 5] (fun q i wr => ∃ k : Nat, k ≤ n ∧ i = .int .i64 k ∧ q = .int .i64 (1 + 7 * k) ∧ Below w.heap.size w wr)
      (fun _ i _ => n - (intOf i).toNat)
    case atStart => exact ⟨0, Nat.zero_le _, rfl, rfl, by go_grown⟩
    case round =>
      obtain ⟨k, hk, rfl, rfl, hB⟩ := hrel
      have HB : Hid (Below w.heap.size w wr) := hB
      by_cases hlt : k < n
      · obtain ⟨i0, i1, i2, i3, i4, i5, i6⟩ := opCells_at _ k _ (marksO_at hlt)
        have y0 := ((bcell hB).1 g _ hg).trans ((HX.out (k * 7) (by omega)).trans i0)
        have y1 := ((bcell hB).1 g _ hg).trans ((HX.out (k * 7 + 1) (by omega)).trans i1)
        have y2 := ((bcell hB).1 g _ hg).trans ((HX.out (k * 7 + 2) (by omega)).trans i2)
        have y3 := ((bcell hB).1 g _ hg).trans ((HX.out (k * 7 + 3) (by omega)).trans i3)
        have y4 := ((bcell hB).1 g _ hg).trans ((HX.out (k * 7 + 4) (by omega)).trans i4)
        have y5 := ((bcell hB).1 g _ hg).trans ((HX.out (k * 7 + 5) (by omega)).trans i5)
        have y6 := ((bcell hB).1 g _ hg).trans ((HX.out (k * 7 + 6) (by omega)).trans i6)
        simp only [markO] at y0 y1 y2 y3 y4 y5 y6
        have hlt' : (k : Int) < (n : Int) := by omega
        have hk0 : (0 : Int) ≤ (k : Int) := by omega
        clear hB i0 i1 i2 i3 i4 i5 i6
        go_wp2
        exact ⟨⟨k + 1, by omega, by go_num, by go_num, HB.out⟩, by simp [intOf]; omega⟩
      · obtain rfl : k = n := by omega
        clear hB
        go_wp2
        go_ret
        exact ⟨rfl, HB.out⟩

/-- A block of things of which the first k are marked. -/
def MarkO (w : World) (g cap k : Nat) : Prop := ∃ cur : Array Value, w.heap[g]? = some (.cells cur 42 (0, 0)) ∧ cur.size = cap * 7 ∧ ∀ i, i < k → cur[i * 7]? = some (.int .i64 (markO i).a) ∧ cur[i * 7 + 1]? = some (.int .i64 (markO i).b) ∧ cur[i * 7 + 2]? = some (.int .i64 (markO i).k) ∧ cur[i * 7 + 3]? = some (.int .i64 (markO i).c) ∧ cur[i * 7 + 4]? = some (.int .i64 (markO i).d) ∧ cur[i * 7 + 5]? = some (.int .i64 (markO i).s) ∧ cur[i * 7 + 6]? = some (.int .i64 (markO i).g)
theorem MarkO.step {w : World} {g cap k : Nat} (h : MarkO w g cap k) (hk : k < cap) : MarkO (((((((w.setCell ⟨g, k * 7, none⟩ (.int .i64 (markO k).a)).setCell ⟨g, k * 7 + 1, none⟩ (.int .i64 (markO k).b)).setCell ⟨g, k * 7 + 2, none⟩ (.int .i64 (markO k).k)).setCell ⟨g, k * 7 + 3, none⟩ (.int .i64 (markO k).c)).setCell ⟨g, k * 7 + 4, none⟩ (.int .i64 (markO k).d)).setCell ⟨g, k * 7 + 5, none⟩ (.int .i64 (markO k).s)).setCell ⟨g, k * 7 + 6, none⟩ (.int .i64 (markO k).g)) g cap (k + 1) := by
  obtain ⟨cur, hb, hs, hc⟩ := h
  have b0 := heap_setCell_same w g (k * 7) cur 42 (.int .i64 (markO k).a) hb
  have b1 := heap_setCell_same _ g (k * 7 + 1) _ 42 (.int .i64 (markO k).b) b0
  have b2 := heap_setCell_same _ g (k * 7 + 2) _ 42 (.int .i64 (markO k).k) b1
  have b3 := heap_setCell_same _ g (k * 7 + 3) _ 42 (.int .i64 (markO k).c) b2
  have b4 := heap_setCell_same _ g (k * 7 + 4) _ 42 (.int .i64 (markO k).d) b3
  have b5 := heap_setCell_same _ g (k * 7 + 5) _ 42 (.int .i64 (markO k).s) b4
  have b6 := heap_setCell_same _ g (k * 7 + 6) _ 42 (.int .i64 (markO k).g) b5
  refine ⟨_, b6, by simpa using hs, fun i hi => ?_⟩
  rcases Nat.lt_or_ge i k with h1 | h1
  · obtain ⟨c0, c1, c2, c3, c4, c5, c6⟩ := hc i h1
    refine ⟨?_, ?_, ?_, ?_, ?_, ?_, ?_⟩ <;> (simp only [Array.getElem?_setIfInBounds, Array.size_setIfInBounds]; rw [if_neg (by omega), if_neg (by omega), if_neg (by omega), if_neg (by omega), if_neg (by omega), if_neg (by omega), if_neg (by omega)]; assumption)
  · obtain rfl : i = k := by omega
    refine ⟨?_, ?_, ?_, ?_, ?_, ?_, ?_⟩ <;> (simp [Array.getElem?_setIfInBounds]; omega)
theorem MarkO.frozen {w : World} {g cap k : Nat} (h : MarkO w g cap k) (j : Nat) : w.frozen? ⟨g, j, none⟩ = false := by
  obtain ⟨cur, h1, _⟩ := h
  simp [World.frozen?, h1]
theorem MarkO.cell {w : World} {g cap k : Nat} (h : MarkO w g cap k) (j : Nat) (hj : j < cap * 7) : ∃ u, w.cell? ⟨g, j, none⟩ = some u := by
  obtain ⟨cur, h1, h2, _⟩ := h
  exact ⟨cur[j]'(by omega), by simp [World.cell?, h1]⟩
theorem MarkO.row {w : World} {g cap n base : Nat} (h : MarkO w g cap n) (hn : n ≤ cap) (hm : cap ≤ maxLen) (hb : base ≤ g) : w.ownsRow base 42 7 (.slice (some ⟨g, 0, none⟩) n cap) n (opCells (marksO n)) := by
  obtain ⟨cur, h1, h2, h3⟩ := h
  refine ⟨by rw [opCells_len, marksO_len], .inr ⟨g, cap, cur, rfl, hb, h1, hn, hm, h2, ?_⟩⟩
  apply List.ext_getElem?
  intro j
  rcases Nat.lt_or_ge j (n * 7) with hj | hj
  · rw [List.getElem?_take_of_lt hj]
    obtain ⟨c0, c1, c2, c3, c4, c5, c6⟩ := h3 (j / 7) (by omega)
    obtain ⟨d0, d1, d2, d3, d4, d5, d6⟩ := opCells_at (marksO n) (j / 7) _ (marksO_at (by omega))
    have hj7 : j % 7 = 0 ∨ j % 7 = 1 ∨ j % 7 = 2 ∨ j % 7 = 3 ∨ j % 7 = 4 ∨ j % 7 = 5 ∨ j % 7 = 6 := by omega
    rcases hj7 with hm2 | hm2 | hm2 | hm2 | hm2 | hm2 | hm2
    · rw [show j = j / 7 * 7 by omega, d0]; simpa using c0
    · rw [show j = j / 7 * 7 + 1 by omega, d1]; simpa using c1
    · rw [show j = j / 7 * 7 + 2 by omega, d2]; simpa using c2
    · rw [show j = j / 7 * 7 + 3 by omega, d3]; simpa using c3
    · rw [show j = j / 7 * 7 + 4 by omega, d4]; simpa using c4
    · rw [show j = j / 7 * 7 + 5 by omega, d5]; simpa using c5
    · rw [show j = j / 7 * 7 + 6 by omega, d6]; simpa using c6
  · rw [List.getElem?_eq_none (by simp; omega), List.getElem?_eq_none (by rw [opCells_len, marksO_len]; omega)]

set_option maxHeartbeats 2000000 in
theorem markOpS_row (v : Value) (n base : Nat) (xs : List Value) (w : World) (h : w.ownsRow base 42 7 v n xs) (hn : n ≤ 1048576) :
    Calls Tryd.prog 18 #[v, .int .i64 1] w fun e w' => e = .returned (.int .i64 (1 + 7 * n)) ∧ w'.ownsRow base 42 7 v n (opCells (marksO n)) ∧ w.grownBy w' v.ownBlock := by
  rcases Nat.eq_zero_or_pos n with rfl | h0
  · have h' := h
    rcases opRow_cases h with ⟨_, p1, c1, rfl⟩ | ⟨h0, _⟩
    · have HR : Hid (w.ownsRow base 42 7 (.slice p1 0 c1) 0 (opCells (marksO 0))) := by
        obtain ⟨e1, e2⟩ := h'
        have : xs = [] := List.eq_nil_of_length_eq_zero (by simpa using e1)
        subst this
        exact ⟨rfl, e2.imp id (fun ⟨g, cap, cur, a1, a2, a3, a4, a5, a6, _⟩ => ⟨g, cap, cur, a1, a2, a3, a4, a5, a6, by simp [marksO, opCells]⟩)⟩
      clear h h'
      go_enter Tryd.func18, Tryd.ntmps18
      go_wp2
      refine wp_loop_rounds 1 ?_
      rw [rounds_succ]
      go_wp2
      go_ret
      exact ⟨rfl, HR.out, ⟨rfl, rfl, rfl, Nat.le_refl _, fun _ _ _ => rfl⟩⟩
    · omega
  · obtain ⟨g, cap, cur, rfl, hb, hg, hc, hmx, hcs, _⟩ : ∃ g cap cur, v = .slice (some ⟨g, 0, none⟩) n cap ∧ base ≤ g ∧ w.heap[g]? = some (.cells cur 42 (0, 0)) ∧ n ≤ cap ∧ cap ≤ maxLen ∧ cur.size = cap * 7 ∧ cur.toList.take (n * 7) = xs := by
      rcases h.2 with ⟨_, h1⟩ | h1
      · omega
      · exact h1
    have HM0 : Hid (MarkO w g cap 0) := ⟨cur, hg, hcs, fun i hi => by omega⟩
    clear h hg hcs
    go_enter Tryd.func18, Tryd.ntmps18
    go_wp2
    go_loopw [1, 5] (fun q i wr => ∃ k : Nat, k ≤ n ∧ i = .int .i64 k ∧ q = .int .i64 (1 + 7 * k) ∧ MarkO wr g cap k ∧ w.grownBy wr (some g))
      (fun _ i _ => n - (intOf i).toNat)
    case atStart => exact ⟨0, Nat.zero_le _, rfl, rfl, HM0.out, ⟨rfl, rfl, rfl, Nat.le_refl _, fun _ _ _ => rfl⟩⟩
    case round =>
      obtain ⟨k, hk, rfl, rfl, hM, hG⟩ := hrel
      have HM := hideIt hM
      have HG := hideIt hG
      by_cases hlt : k < n
      · have hfz : ∀ j, wr.frozen? ⟨g, j, none⟩ = false := fun j => hM.frozen j
        obtain ⟨v0, e0⟩ := hM.cell (k * 7) (by omega)
        obtain ⟨v1, e1⟩ := hM.cell (k * 7 + 1) (by omega)
        obtain ⟨v2, e2⟩ := hM.cell (k * 7 + 2) (by omega)
        obtain ⟨v3, e3⟩ := hM.cell (k * 7 + 3) (by omega)
        obtain ⟨v4, e4⟩ := hM.cell (k * 7 + 4) (by omega)
        obtain ⟨v5, e5⟩ := hM.cell (k * 7 + 5) (by omega)
        obtain ⟨v6, e6⟩ := hM.cell (k * 7 + 6) (by omega)
        have hlt' : (k : Int) < (n : Int) := by omega
        have hk0 : (0 : Int) ≤ (k : Int) := by omega
        clear hM hG
        go_wp2
        exact ⟨⟨k + 1, by omega, by go_num, by go_num, HM.out.step (by omega), ((((((HG.out.trans (set_cell_grown _ ⟨g, _, none⟩ _)).trans (set_cell_grown _ ⟨g, _, none⟩ _)).trans (set_cell_grown _ ⟨g, _, none⟩ _)).trans (set_cell_grown _ ⟨g, _, none⟩ _)).trans (set_cell_grown _ ⟨g, _, none⟩ _)).trans (set_cell_grown _ ⟨g, _, none⟩ _)).trans (set_cell_grown _ ⟨g, _, none⟩ _)⟩, by simp [intOf]; omega⟩
      · obtain rfl : k = n := by omega
        clear hM hG
        go_wp2
        go_ret
        exact ⟨rfl, HM.out.row hc hmx hb, HG.out⟩
end Go.Proofs.YtgagookcpeejdaaDoor

namespace Go.Proofs.YtgagookcpeejdaaDoor
open Go.RowKit
set_option linter.unusedSimpArgs false
set_option linter.unusedVariables false
attribute [local go_sem ↓] Go.wp_at_zero Go.wp_at_succ

theorem rowBelowO {w w' : World} {b : Nat} {T : TypeId} {m : Nat} {v : Value} {n : Nat} {xs : List Value} (h : w.ownsRow b T m v n xs) (hb : Below w.heap.size w w') : w'.ownsRow b T m v n xs :=
  h.kept (row := none) ⟨hb.os, hb.tape, hb.output, hb.size, fun i hi _ => hb.block i hi⟩ (by cases v.ownBlock <;> simp)
set_option maxHeartbeats 1000000 in
theorem eqOpS_rows (L : List Op7) (v1 v2 : Value) (base1 base2 : Nat) (w : World) (h1 : w.ownsRow base1 42 7 v1 L.length (opCells L)) (h2 : w.ownsRow base2 42 7 v2 L.length (opCells L)) (hn : L.length ≤ 1048576) :
    Calls Tryd.prog 16 #[v1, v2] w fun e w' => e = .returned (.bool true) ∧ Below w.heap.size w w' := by
  rcases opRow_cases h1 with ⟨h0, p1, c1, rfl⟩ | ⟨h0, g1, c1, rfl, hc1, hg1, hx1⟩
  · rcases opRow_cases h2 with ⟨_, p2, c2, rfl⟩ | ⟨h0', _⟩
    · clear h1 h2
      go_enter Tryd.func16, Tryd.ntmps16
      go_wp2
      refine wp_loop_rounds 1 ?_
      rw [rounds_succ]
      go_wp2
      go_ret
      exact ⟨rfl, Below.refl _ _⟩
    · omega
  · rcases opRow_cases h2 with ⟨h0', _⟩ | ⟨_, g2, c2, rfl, hc2, hg2, hx2⟩
    · omega
    · have at1 : OpsAt w g1 L := OwnOps.at (show OwnOps w base1 g1 c1 L from h1)
      have at2 : OpsAt w g2 L := OwnOps.at (show OwnOps w base2 g2 c2 L from h2)
      exact eqOpS_same L g1 g2 c1 c2 w at1 at2 hn hc1 hc2


/-- The specification's answer, the program's, and the blocks X to Z of what was handed in. -/
structure QR (w W : World) (L Lg : List Op7) (vw vg : Value) (X Z : Nat) : Prop where
  rw : W.ownsRow w.heap.size 42 7 vw L.length (opCells L)
  rg : W.ownsRow (Z + 1) 42 7 vg Lg.length (opCells Lg)
  wx : ∀ j, vw.ownBlock = some j → j < X
  xz : w.heap.size ≤ X
  xl : X ≤ Z
  zl : Z < W.heap.size
  bel : Below w.heap.size w W
theorem QR.below {w W W' : World} {L Lg : List Op7} {vw vg : Value} {X Z : Nat} (h : QR w W L Lg vw vg X Z) (hb : Below W.heap.size W W') : QR w W' L Lg vw vg X Z :=
  ⟨rowBelowO h.rw hb, rowBelowO h.rg hb, h.wx, h.xz, h.xl, Nat.lt_of_lt_of_le h.zl hb.size, Bstep h.bel hb⟩
theorem QR.marked {w W W' : World} {L Lg : List Op7} {vw vg : Value} {X Z b : Nat} (h : QR w W L Lg vw vg X Z) (ho : OnlyBlk b W W') (h1 : X ≤ b) (h2 : b ≤ Z) : QR w W' L Lg vw vg X Z := by
  have hx := h.xz
  have hz := h.zl
  have hg : W.grownBy W' (some b) := ⟨ho.os, ho.tape, ho.output, by rw [ho.size]; exact Nat.le_refl _, fun i _ hne => ho.block i (fun e => hne (by rw [e]))⟩
  refine ⟨h.rw.kept hg ?_, h.rg.kept hg ?_, h.wx, hx, h.xl, by rw [ho.size]; exact hz, h.bel.trans (ho.below (by omega))⟩
  · cases hv : vw.ownBlock with
    | none => exact .inl rfl
    | some j => exact .inr fun e => by have := h.wx j hv; have := Option.some.inj e; omega
  · cases hv : vg.ownBlock with
    | none => exact .inl rfl
    | some j => exact .inr fun e => by have := (h.rg.lt j hv).1; have := Option.some.inj e; omega
theorem QR.own {w W W' : World} {L Lg Lg' : List Op7} {vw vg : Value} {X Z : Nat} (h : QR w W L Lg vw vg X Z) (hg : W.grownBy W' vg.ownBlock) (hr : W'.ownsRow (Z + 1) 42 7 vg Lg'.length (opCells Lg')) : QR w W' L Lg' vw vg X Z := by
  have h1 := h.xz
  have h2 := h.xl
  have ge : ∀ j, vg.ownBlock = some j → Z + 1 ≤ j := fun j e => (h.rg.lt j e).1
  refine ⟨h.rw.kept hg ?_, hr, h.wx, h1, h2, Nat.lt_of_lt_of_le h.zl hg.size, below_grown h.bel hg h.bel.size (fun j e => by have := ge j e; omega)⟩
  cases hv : vw.ownBlock with
  | none => exact .inl rfl
  | some j => exact .inr fun e => by have := h.wx j hv; have := ge j e.symm; omega
end Go.Proofs.YtgagookcpeejdaaDoor
