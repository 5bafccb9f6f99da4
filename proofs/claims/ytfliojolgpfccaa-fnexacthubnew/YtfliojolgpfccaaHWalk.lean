/- The walk of the law FnExactHubNew (a seat whose laws list no variable). -/
import Derived.Test.YtfliojolgpfccaaProg
import Derived.Test.YtfliojolgpfccaaChecked
import Derived.WalkKit
import Derived.Below
import Derived.Handy
import Derived.Outline
import Derived.BigQuiet
import Derived.WalkSmall
import Derived.OwnWalk
import Derived.Deep.RegionHeld3
import Derived.Deep.DrawnRows
import Derived.RangeFuncRecord
namespace Go.Proofs.Ytfliojolgpfccaa
open Go.RowKit
set_option linter.unusedSimpArgs false
set_option linter.unusedVariables false
attribute [local go_sem ↓] Go.wp_at_zero Go.wp_at_succ
theorem hideIt {p : Prop} (h : p) : RowKit.Hid p := h
theorem bcell {W w1 : World} (hb : Below W.heap.size W w1) : (∀ b o, b < W.heap.size → w1.cell? ⟨b, o, none⟩ = W.cell? ⟨b, o, none⟩) ∧ (∀ b o, b < W.heap.size → w1.frozen? ⟨b, o, none⟩ = W.frozen? ⟨b, o, none⟩) :=
  ⟨fun b o h => hb.cell (p := ⟨b, o, none⟩) h, fun b o h => hb.frozen (p := ⟨b, o, none⟩) h⟩
theorem Bstep {w W w' : World} (h : Below w.heap.size w W) (hb : Below W.heap.size W w') : Below w.heap.size w w' := h.trans (hb.mono h.size)
theorem blk_below {W W' : World} {b : Nat} {o : Obj} (h : W.heap[b]? = some o) (hb : Below W.heap.size W W') : W'.heap[b]? = some o := (hb.block b (Array.getElem?_eq_some_iff.1 h).1).trans h
theorem blk_cell {W : World} {b : Nat} {cs : Array Value} {T : TypeId} {st : Nat × Nat} (h : W.heap[b]? = some (.cells cs T st)) (j : Nat) : W.cell? ⟨b, j, none⟩ = cs[j]? := by simp [World.cell?, h]
theorem eqNone_any (p q : Option Addr) (c d : Nat) (w : World) :
    Calls Try.prog 10 #[.slice p 0 c, .slice q 0 d] w fun e w' => e = .returned (.bool true) ∧ w' = w := by
  go_enter Try.func10, Try.ntmps10
  go_wp2
  refine wp_loop_rounds 1 ?_
  rw [rounds_succ]
  go_wp2
  go_ret
  exact ⟨rfl, rfl⟩
theorem heldNone_any (p : Option Addr) (c : Nat) (k : Int) (w : World) :
    Calls Try.prog 14 #[.slice p 0 c, .int .i64 k] w fun e w' => e = .returned (.int .i64 k) ∧ w' = w := by
  go_enter Try.func14, Try.ntmps14
  go_wp2
  refine wp_loop_rounds 1 ?_
  rw [rounds_succ]
  go_wp2
  go_ret
  exact ⟨rfl, rfl⟩
theorem markNone_any (p : Option Addr) (c : Nat) (k : Int) (w : World) :
    Calls Try.prog 12 #[.slice p 0 c, .int .i64 k] w fun e w' => e = .returned (.int .i64 k) ∧ w' = w := by
  go_enter Try.func12, Try.ntmps12
  go_wp2
  refine wp_loop_rounds 1 ?_
  rw [rounds_succ]
  go_wp2
  go_ret
  exact ⟨rfl, rfl⟩
theorem eqDoc_any (p q p' q' : Option Addr) (c d c' d' : Nat) (w : World) :
    Calls Try.prog 9 #[.agg #[.slice p 0 c, .slice q 0 d], .agg #[.slice p' 0 c', .slice q' 0 d']] w fun e w' => e = .returned (.bool true) ∧ Below w.heap.size w w' := by
  go_enter Try.func9, Try.ntmps9
  go_wp2_with (first | (go_at_call 10; refine (eqNone_any _ _ _ _ _).mono ?_; rintro e w' ⟨rfl, hw⟩; rw [hw]; clear hw))
  go_ret
  exact ⟨rfl, by go_grown⟩
theorem markDoc_any (p q : Option Addr) (c d : Nat) (k : Int) (w : World) :
    Calls Try.prog 11 #[.agg #[.slice p 0 c, .slice q 0 d], .int .i64 k] w fun e w' => e = .returned (.int .i64 k) ∧ Below w.heap.size w w' := by
  go_enter Try.func11, Try.ntmps11
  go_wp2_with (first | (go_at_call 12; refine (markNone_any _ _ _ _).mono ?_; rintro e w' ⟨rfl, hw⟩; rw [hw]; clear hw))
  go_ret
  exact ⟨rfl, by go_grown⟩
theorem heldDoc_any (p q : Option Addr) (c d : Nat) (w : World) :
    Calls Try.prog 13 #[.agg #[.slice p 0 c, .slice q 0 d], .int .i64 1] w fun e w' => e = .returned (.int .i64 1) ∧ Below w.heap.size w w' := by
  go_enter Try.func13, Try.ntmps13
  go_wp2_with (first | (go_at_call 14; refine (heldNone_any _ _ _ _).mono ?_; rintro e w' ⟨rfl, hw⟩; rw [hw]; clear hw))
  go_ret
  exact ⟨rfl, by go_grown⟩
theorem specHub_any (w : World) : Calls Try.prog 4 #[] w fun e w' => ∃ M N C, e = .returned (.agg #[.bool true, .slice (some ⟨M, 0, none⟩) 0 0, .slice (some ⟨N, 0, none⟩) 0 0, .slice (some ⟨C, 0, none⟩) 0 0]) ∧ Below w.heap.size w w' := by
  go_enter Try.func4, Try.ntmps4
  go_wp2
  refine bodyPost_ret (v := .agg #[.bool true, .slice (some ⟨w.heap.size + 1, 0, none⟩) 0 0, .slice (some ⟨w.heap.size + 2, 0, none⟩) 0 0, .slice (some ⟨w.heap.size + 3, 0, none⟩) 0 0]) (by simp [results, Try.results4, go_sem]) rfl ⟨_, _, _, rfl, ?_⟩
  go_grown
theorem implHub_any (w : World) : Calls Try.prog 5 #[] w fun e w' => e = .returned (.agg #[.bool true, .slice none 0 0, .slice none 0 0, .slice none 0 0]) ∧ Below w.heap.size w w' := by
  go_enter Try.func5, Try.ntmps5
  go_wp2
  exact bodyPost_ret (v := .agg #[.bool true, .slice none 0 0, .slice none 0 0, .slice none 0 0]) (by simp [results, Try.results5, go_sem]) rfl ⟨rfl, (Below.refl _ _).alloc (Nat.le_refl _) _⟩
set_option maxHeartbeats 1000000 in
theorem eqHub_any (p q r p' q' r' : Option Addr) (w : World) :
    Calls Try.prog 6 #[.agg #[.bool true, .slice p 0 0, .slice q 0 0, .slice r 0 0], .agg #[.bool true, .slice p' 0 0, .slice q' 0 0, .slice r' 0 0]] w fun e w' => e = .returned (.bool true) ∧ Below w.heap.size w w' := by
  go_enter Try.func6, Try.ntmps6
  go_wp2_with fail
  have HB0 : Hid (Below w.heap.size w ((w.alloc (.cells #[.bool true, .slice p 0 0, .slice q 0 0, .slice r 0 0] 26)).alloc (.cells #[.bool true, .slice p' 0 0, .slice q' 0 0, .slice r' 0 0] 26))) := ((Below.refl _ _).alloc (Nat.le_refl _) _).alloc (by simp) _
  refine (eqDoc_any _ _ _ _ _ _ _ _ _).mono ?_
  rintro e w1 ⟨rfl, hb1⟩
  have HB1 := hideIt (Bstep HB0.out hb1)
  have hc : ∀ b o, b < w.heap.size + 2 → w1.cell? ⟨b, o, none⟩ = _ := fun b o h => (bcell hb1).1 b o (by simp; omega)
  have x3 := hc w.heap.size 3 (by omega)
  have y3 := hc (w.heap.size + 1) 3 (by omega)
  simp [go_sem] at x3 y3
  clear hb1 hc
  go_wp2_with (first | (go_at_call 10; refine (eqNone_any _ _ _ _ _).mono ?_; rintro e w' ⟨rfl, hw⟩; rw [hw]; clear hw))
  go_ret
  exact ⟨rfl, HB1.out⟩
set_option maxHeartbeats 1000000 in
theorem markHub_any (p q r : Option Addr) (w : World) :
    Calls Try.prog 7 #[.agg #[.bool true, .slice p 0 0, .slice q 0 0, .slice r 0 0], .int .i64 1] w fun e w' => e = .returned (.int .i64 1) ∧ Below w.heap.size w w' := by
  go_enter Try.func7, Try.ntmps7
  go_wp2_with fail
  have HB0 : Hid (Below w.heap.size w (w.alloc (.cells #[.bool true, .slice p 0 0, .slice q 0 0, .slice r 0 0] 26))) := (Below.refl _ _).alloc (Nat.le_refl _) _
  refine (markDoc_any _ _ _ _ _ _).mono ?_
  rintro e w1 ⟨rfl, hb1⟩
  have HB1 := hideIt (Bstep HB0.out hb1)
  have x3 := (bcell hb1).1 w.heap.size 3 (by simp)
  simp [go_sem] at x3
  clear hb1
  go_wp2_with (first | (go_at_call 12; refine (markNone_any _ _ _ _).mono ?_; rintro e w' ⟨rfl, hw⟩; rw [hw]; clear hw))
  go_ret
  exact ⟨rfl, HB1.out⟩
set_option maxHeartbeats 1000000 in
theorem heldHub_any (p q r : Option Addr) (w : World) :
    Calls Try.prog 8 #[.agg #[.bool true, .slice p 0 0, .slice q 0 0, .slice r 0 0], .int .i64 1] w fun e w' => e = .returned (.int .i64 1) ∧ Below w.heap.size w w' := by
  go_enter Try.func8, Try.ntmps8
  go_wp2_with fail
  have HB0 : Hid (Below w.heap.size w (w.alloc (.cells #[.bool true, .slice p 0 0, .slice q 0 0, .slice r 0 0] 26))) := (Below.refl _ _).alloc (Nat.le_refl _) _
  refine (heldDoc_any _ _ _ _ _).mono ?_
  rintro e w1 ⟨rfl, hb1⟩
  have HB1 := hideIt (Bstep HB0.out hb1)
  have x3 := (bcell hb1).1 w.heap.size 3 (by simp)
  simp [go_sem] at x3
  clear hb1
  go_wp2_with (first | (go_at_call 14; refine (heldNone_any _ _ _ _).mono ?_; rintro e w' ⟨rfl, hw⟩; rw [hw]; clear hw))
  go_ret
  exact ⟨rfl, HB1.out⟩

/-- A box with a hub in it. -/
structure HX (b : Nat) (p q r : Option Addr) (w W : World) : Prop where
  box : W.heap[b]? = some (.cells #[.bool true, .slice p 0 0, .slice q 0 0, .slice r 0 0] 26 (0, 0))
  bel : Below w.heap.size w W
theorem HX.below {b : Nat} {p q r : Option Addr} {w W W' : World} (h : HX b p q r w W) (hb : Below W.heap.size W W') : HX b p q r w W' := ⟨blk_below h.box hb, Bstep h.bel hb⟩

set_option maxRecDepth 100000 in
set_option maxHeartbeats 2000000 in
theorem walkHubNew (w : World) :
    Calls Try.prog 3 #[] w fun e w' => e = .returned (.bool true) ∧ Below w.heap.size w w' := by
  go_enter Try.func3, Try.ntmps3
  go_wp2_with fail
  refine (specHub_any w).mono ?_
  rintro e w1 ⟨M, N, C, rfl, hb1⟩
  have HB1 := hideIt hb1
  clear hb1
  go_wp2_with fail
  have HA := hideIt (HX.mk (World.alloc_heap_new w1 _) (HB1.out.alloc HB1.out.size (.cells #[.bool true, .slice (some ⟨M, 0, none⟩) 0 0, .slice (some ⟨N, 0, none⟩) 0 0, .slice (some ⟨C, 0, none⟩) 0 0] 26)))
  clear HB1
  generalize w1.alloc (.cells #[.bool true, .slice (some ⟨M, 0, none⟩) 0 0, .slice (some ⟨N, 0, none⟩) 0 0, .slice (some ⟨C, 0, none⟩) 0 0] 26) = W1 at *
  generalize w1.heap.size = A at *
  refine (implHub_any W1).mono ?_
  rintro e w2 ⟨rfl, hb2⟩
  have HA := hideIt (HA.out.below hb2)
  clear hb2
  have x0 := (blk_cell HA.out.box 0).trans rfl
  have x1 := (blk_cell HA.out.box 1).trans rfl
  have x2 := (blk_cell HA.out.box 2).trans rfl
  have x3 := (blk_cell HA.out.box 3).trans rfl
  have xl := (Array.getElem?_eq_some_iff.1 HA.out.box).1
  go_wp2_with fail
  have HG := hideIt (HX.mk (World.alloc_heap_new w2 _) (HA.out.bel.alloc HA.out.bel.size (.cells #[.bool true, .slice none 0 0, .slice none 0 0, .slice none 0 0] 26)))
  have HA := hideIt (HA.out.below ((Below.refl _ _).alloc (Nat.le_refl _) (.cells #[.bool true, .slice none 0 0, .slice none 0 0, .slice none 0 0] 26)))
  clear x0 x1 x2 x3 xl
  generalize w2.alloc (.cells #[.bool true, .slice none 0 0, .slice none 0 0, .slice none 0 0] 26) = W2 at *
  generalize w2.heap.size = B at *
  refine (eqHub_any _ _ _ _ _ _ _).mono ?_
  rintro e w3 ⟨rfl, hb3⟩
  have HA := hideIt (HA.out.below hb3)
  have HG := hideIt (HG.out.below hb3)
  clear hb3
  have y0 := (blk_cell HG.out.box 0).trans rfl
  have y1 := (blk_cell HG.out.box 1).trans rfl
  have y2 := (blk_cell HG.out.box 2).trans rfl
  have y3 := (blk_cell HG.out.box 3).trans rfl
  have yl := (Array.getElem?_eq_some_iff.1 HG.out.box).1
  go_wp2_with fail
  refine (markHub_any _ _ _ _).mono ?_
  rintro e w4 ⟨rfl, hb4⟩
  have HA := hideIt (HA.out.below hb4)
  have HG := hideIt (HG.out.below hb4)
  clear hb4 y0 y1 y2 y3 yl
  have y0 := (blk_cell HG.out.box 0).trans rfl
  have y1 := (blk_cell HG.out.box 1).trans rfl
  have y2 := (blk_cell HG.out.box 2).trans rfl
  have y3 := (blk_cell HG.out.box 3).trans rfl
  have yl := (Array.getElem?_eq_some_iff.1 HG.out.box).1
  go_wp2_with fail
  refine (heldHub_any _ _ _ _).mono ?_
  rintro e w5 ⟨rfl, hb5⟩
  have HA := hideIt (HA.out.below hb5)
  have HG := hideIt (HG.out.below hb5)
  clear hb5 y0 y1 y2 y3 yl
  go_wp2_with fail
  refine (implHub_any _).mono ?_
  rintro e w6 ⟨rfl, hb6⟩
  have HA := hideIt (HA.out.below hb6)
  have HG := hideIt (HG.out.below hb6)
  clear hb6
  have x0 := (blk_cell HA.out.box 0).trans rfl
  have x1 := (blk_cell HA.out.box 1).trans rfl
  have x2 := (blk_cell HA.out.box 2).trans rfl
  have x3 := (blk_cell HA.out.box 3).trans rfl
  have xl := (Array.getElem?_eq_some_iff.1 HA.out.box).1
  go_wp2_with fail
  have HG := hideIt (HG.out.below ((Below.refl _ _).alloc (Nat.le_refl _) (.cells #[.bool true, .slice none 0 0, .slice none 0 0, .slice none 0 0] 26)))
  clear x0 x1 x2 x3 xl HA
  generalize w6.alloc (.cells #[.bool true, .slice none 0 0, .slice none 0 0, .slice none 0 0] 26) = W6 at *
  refine (eqHub_any _ _ _ _ _ _ _).mono ?_
  rintro e w7 ⟨rfl, hb7⟩
  have HG := hideIt (HG.out.below hb7)
  clear hb7
  have y0 := (blk_cell HG.out.box 0).trans rfl
  have y1 := (blk_cell HG.out.box 1).trans rfl
  have y2 := (blk_cell HG.out.box 2).trans rfl
  have y3 := (blk_cell HG.out.box 3).trans rfl
  have yl := (Array.getElem?_eq_some_iff.1 HG.out.box).1
  go_wp2_with fail
  refine (heldHub_any _ _ _ _).mono ?_
  rintro e w8 ⟨rfl, hb8⟩
  have HG := hideIt (HG.out.below hb8)
  clear hb8 y0 y1 y2 y3 yl
  go_wp2
  go_ret
  exact ⟨rfl, HG.out.bel⟩
end Go.Proofs.Ytfliojolgpfccaa
