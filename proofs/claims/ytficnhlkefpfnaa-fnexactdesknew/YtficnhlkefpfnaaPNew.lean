/- The walk of the law FnExactDeskNew (a seat whose laws list no variable). -/
import Derived.Test.YtficnhlkefpfnaaProg
import Derived.Test.YtficnhlkefpfnaaChecked
import Derived.WalkKit
import Derived.Below
import Derived.Handy
import Derived.Outline
import Derived.BigQuiet
import Derived.WalkSmall
import Derived.OwnWalk
import Derived.Deep.RegionHeld3
import Derived.Deep.DrawnRows
import Derived.RangeFuncRecord
namespace Go.Proofs.Ytficnhlkefpfnaa
open Go.RowKit
set_option linter.unusedSimpArgs false
set_option linter.unusedVariables false
attribute [local go_sem ↓] Go.wp_at_zero Go.wp_at_succ
theorem hideIt {p : Prop} (h : p) : RowKit.Hid p := h
theorem ret_bool {x y : Bool} (h : x = y) : Ending.returned (.bool x) = .returned (.bool y) := by rw [h]
theorem bcell {W w1 : World} (hb : Below W.heap.size W w1) : (∀ b o, b < W.heap.size → w1.cell? ⟨b, o, none⟩ = W.cell? ⟨b, o, none⟩) ∧ (∀ b o, b < W.heap.size → w1.frozen? ⟨b, o, none⟩ = W.frozen? ⟨b, o, none⟩) :=
  ⟨fun b o h => hb.cell (p := ⟨b, o, none⟩) h, fun b o h => hb.frozen (p := ⟨b, o, none⟩) h⟩
theorem Bstep {w W w' : World} (h : Below w.heap.size w W) (hb : Below W.heap.size W w') : Below w.heap.size w w' := h.trans (hb.mono h.size)
theorem infoInt : (Try.prog.info? 3).map (fun i => (i.zero, i.size, i.bytes)) = some (some (.int .i64 0), 1, 8) := by kernel_rfl
theorem info_parts {T : TypeId} {z : Value} {n b : Nat} (h : (Try.prog.info? T).map (fun i => (i.zero, i.size, i.bytes)) = some (some z, n, b)) : ∃ i, Try.prog.info? T = some i ∧ i.zero = some z ∧ i.size = n ∧ i.bytes = b := by
  cases hi : Try.prog.info? T with
  | none => rw [hi] at h; cases h
  | some i => rw [hi] at h; simp at h; exact ⟨i, rfl, h.1, h.2.1, h.2.2⟩

/-- Is it one who writes? -/
def repB (r : Int) : Bool := decide (1 ≤ r ∧ r ≤ 3)
theorem in_any (n : Int) (w : World) :
    Calls Try.prog 9 #[.int .i64 n, .int .i64 1, .int .i64 3] w fun e w' => e = .returned (.bool (repB n)) ∧ w' = w := by
  go_enter Try.func9, Try.ntmps9
  go_wp2
  all_goals
    go_ret
    exact ⟨ret_bool (by (try simp only [repB, Bool.not_eq_true, decide_eq_true_eq, decide_eq_false_iff_not, bne_iff_ne, beq_iff_eq, beq_eq_false_iff_ne, ne_eq] at *); first | (apply decide_eq_decide.2; omega) | (symm; apply decide_eq_true; omega) | (symm; apply decide_eq_false; omega) | (rw [Bool.eq_iff_iff]; simp only [Bool.and_eq_true, Bool.or_eq_true, decide_eq_true_eq, beq_iff_eq, bne_iff_ne, Bool.not_eq_true, ne_eq]; omega)), rfl⟩
theorem rep_any (n : Int) (w : World) :
    Calls Try.prog 10 #[.int .i64 n] w fun e w' => e = .returned (.bool (repB n)) ∧ w' = w := by
  go_enter Try.func10, Try.ntmps10
  go_wp2
  all_goals
    go_ret
    exact ⟨ret_bool (by (try simp only [repB, Bool.not_eq_true, decide_eq_true_eq, decide_eq_false_iff_not, bne_iff_ne, beq_iff_eq, beq_eq_false_iff_ne, ne_eq] at *); first | (apply decide_eq_decide.2; omega) | (symm; apply decide_eq_true; omega) | (symm; apply decide_eq_false; omega) | (rw [Bool.eq_iff_iff]; simp only [Bool.and_eq_true, Bool.or_eq_true, decide_eq_true_eq, beq_iff_eq, bne_iff_ne, Bool.not_eq_true, ne_eq]; omega)), rfl⟩

theorem blk_below {W W' : World} {b : Nat} {o : Obj} (h : W.heap[b]? = some o) (hb : Below W.heap.size W W') : W'.heap[b]? = some o := (hb.block b (Array.getElem?_eq_some_iff.1 h).1).trans h
theorem blk_cell {W : World} {b : Nat} {cs : Array Value} {T : TypeId} {st : Nat × Nat} (h : W.heap[b]? = some (.cells cs T st)) (j : Nat) : W.cell? ⟨b, j, none⟩ = cs[j]? := by simp [World.cell?, h]
theorem set_four {W : World} {b : Nat} {T : TypeId} {u v x y u' v' x' y' : Value} (h : W.heap[b]? = some (.cells #[u, v, x, y] T (0, 0))) : ((((W.setCell ⟨b, 0, none⟩ u').setCell ⟨b, 1, none⟩ v').setCell ⟨b, 2, none⟩ x').setCell ⟨b, 3, none⟩ y').heap[b]? = some (.cells #[u', v', x', y'] T (0, 0)) := by
  simp only [World.setCell, Array.getElem?_modify, if_true, h, Option.map_some]
  rfl
theorem set_other {W : World} {b c i : Nat} {u : Value} {o : Obj} (h : W.heap[b]? = some o) (hne : b ≠ c) : (W.setCell ⟨c, i, none⟩ u).heap[b]? = some o :=
  (Below.heap_setCell W ⟨c, i, none⟩ u b hne).trans h
theorem made3 : (madeCells (Value.int .i64 0).cells (3 * 1)).toList = [.int .i64 0, .int .i64 0, .int .i64 0] := by
  have := toList_madeCells_one (.int .i64 0) 3
  simpa [Value.cells, List.replicate] using this
/-- Three numbers, in a block of their own. -/
def I3 (w : World) (g : Nat) (a b c : Int) : Prop := w.heap[g]? = some (.cells #[.int .i64 a, .int .i64 b, .int .i64 c] 3 (0, 0))
theorem I3.lt {w : World} {g : Nat} {a b c : Int} (h : I3 w g a b c) : g < w.heap.size := (Array.getElem?_eq_some_iff.1 h).1
theorem I3.below {w w' : World} {g : Nat} {a b c : Int} (h : I3 w g a b c) (hb : Below w.heap.size w w') : I3 w' g a b c := blk_below h hb
theorem own_blk {w : World} {base M : Nat} (h : w.ownsRow base 3 1 (.slice (some ⟨M, 0, none⟩) 3 3) 3 [.int .i64 0, .int .i64 0, .int .i64 0]) : I3 w M 0 0 0 ∧ base ≤ M := by
  rcases h.2 with ⟨h, _⟩ | ⟨g, cap, cur, e, hb, hg, _, _, hs, ht⟩
  · cases h
  · cases e
    have h1 : cur.toList = [.int .i64 0, .int .i64 0, .int .i64 0] := by
      rw [← ht, List.take_of_length_le (by simp; omega)]
    have h2 : cur = #[.int .i64 0, .int .i64 0, .int .i64 0] := by rw [← Array.toArray_toList (xs := cur), h1]
    subst h2
    exact ⟨hg, hb⟩

set_option maxRecDepth 100000 in
set_option maxHeartbeats 1000000 in
theorem specDesk_any (r : Int) (w : World) :
    Calls Try.prog 4 #[.int .i64 r] w fun e w' => ((repB r = true ∧ ∃ M N C, e = .returned (.tuple #[.agg #[.int .i64 r, .slice (some ⟨M, 0, none⟩) 0 0, .slice (some ⟨N, 0, none⟩) 0 0, .slice (some ⟨C, 0, none⟩) 3 3], .bool true]) ∧ I3 w' C 0 0 0) ∨
      (repB r = false ∧ e = .returned (.tuple #[.agg #[.int .i64 0, .slice none 0 0, .slice none 0 0, .slice none 0 0], .bool false]))) ∧ Below w.heap.size w w' := by
  obtain ⟨i0, hi, hz0, hz1, hz2⟩ := info_parts infoInt
  have HI := hideIt hi
  have HZ0 := hideIt hz0
  have HZ1 := hideIt hz1
  have HZ2 := hideIt hz2
  clear hi hz0 hz1 hz2
  cases hr : repB r
  all_goals
    have HR := hideIt hr
    clear hr
    have HB0 : Hid (Below w.heap.size w (w.alloc (.cells #[.int .i64 0, .slice none 0 0, .slice none 0 0, .slice none 0 0] 27))) := (Below.refl _ _).alloc (Nat.le_refl _) _
    have hbox : (w.alloc (.cells #[.int .i64 0, .slice none 0 0, .slice none 0 0, .slice none 0 0] 27)).heap[w.heap.size]? = some (.cells #[.int .i64 0, .slice none 0 0, .slice none 0 0, .slice none 0 0] 27 (0, 0)) := World.alloc_heap_new _ _
    have HX := hideIt hbox
    clear hbox
    go_enter Try.func4, Try.ntmps4
    go_wp2_with fail
    refine (in_any _ _).mono ?_
    rintro e w' ⟨rfl, hw⟩
    rw [hw, HR.out]
    clear hw
    generalize w.alloc (.cells #[.int .i64 0, .slice none 0 0, .slice none 0 0, .slice none 0 0] 27) = W0 at *
    have hz0 := (Array.getElem?_eq_some_iff.1 HX.out).1
    have k0 := (blk_cell HX.out 0).trans rfl
    have k1 := (blk_cell HX.out 1).trans rfl
    have k2 := (blk_cell HX.out 2).trans rfl
    have k3 := (blk_cell HX.out 3).trans rfl
    have kf : ∀ j, W0.frozen? ⟨w.heap.size, j, none⟩ = false := fun j => by simp [World.frozen?, HX.out]
  · go_wp2
    have hb9 : ((((W0.setCell ⟨w.heap.size, 0, none⟩ (.int .i64 0)).setCell ⟨w.heap.size, 1, none⟩ (.slice none 0 0)).setCell ⟨w.heap.size, 2, none⟩ (.slice none 0 0)).setCell ⟨w.heap.size, 3, none⟩ (.slice none 0 0)).heap[w.heap.size]? = some (.cells #[.int .i64 0, .slice none 0 0, .slice none 0 0, .slice none 0 0] 27 (0, 0)) := set_four HX.out
    have v0 := (blk_cell hb9 0).trans rfl
    have v1 := (blk_cell hb9 1).trans rfl
    have v2 := (blk_cell hb9 2).trans rfl
    have v3 := (blk_cell hb9 3).trans rfl
    exact bodyPost_ret (v := .tuple #[.agg #[.int .i64 0, .slice none 0 0, .slice none 0 0, .slice none 0 0], .bool false]) (by simp [results, Try.results4, go_sem, v0, v1, v2, v3]) rfl ⟨.inr ⟨by first | trivial | rfl, rfl⟩, (((HB0.out.setCell (p := ⟨w.heap.size, 0, none⟩) (Nat.le_refl _) _).setCell (p := ⟨w.heap.size, 1, none⟩) (Nat.le_refl _) _).setCell (p := ⟨w.heap.size, 2, none⟩) (Nat.le_refl _) _).setCell (p := ⟨w.heap.size, 3, none⟩) (Nat.le_refl _) _⟩
  · clear k0 k1 k2 k3 kf
    obtain ⟨Wm, hWm⟩ : ∃ Wm, (W0.alloc (.cells #[] 44)).alloc (.cells #[] 44) = Wm := ⟨_, rfl⟩
    have hbm : Below W0.heap.size W0 Wm := by rw [← hWm]; exact ((Below.refl _ _).alloc (Nat.le_refl _) _).alloc (by simp) _
    have HWm := hideIt hWm
    have HBm := hideIt hbm
    clear hWm hbm
    go_wp2_with (first
      | (at_make; rw [HWm.out]; refine wpList_make_full _ rfl _ _ 25 rfl Wm.heap.size 3 i0 _ 1 Try.underlying25 HI.out HZ0.out HZ1.out .i64 .i64 _ _ 3 rfl rfl rfl rfl (by rw [HZ2.out]; omega) (by unfold maxLen; omega) (Nat.le_refl _) ?_; intro w1 hown hgrow; rw [made3] at hown; have hb1 : Below Wm.heap.size Wm w1 := (Below.refl _ _).grown hgrow (Nat.le_refl _) (fun k h => by cases h); have HO := hideIt hown; have HX1 := hideIt (blk_below HX.out (Bstep HBm.out hb1)); have HB1 := hideIt (Bstep HB0.out (Bstep HBm.out hb1)); have k0 := (blk_cell HX1.out 0).trans rfl; have k1 := (blk_cell HX1.out 1).trans rfl; have k2 := (blk_cell HX1.out 2).trans rfl; have k3 := (blk_cell HX1.out 3).trans rfl; have kf : ∀ j, w1.frozen? ⟨w.heap.size, j, none⟩ = false := (fun j => by simp [World.frozen?, HX1.out]); have kz : w.heap.size < w1.heap.size := (Array.getElem?_eq_some_iff.1 HX1.out).1; clear hown hgrow hb1))
    obtain ⟨hI, hbM⟩ := own_blk HO.out
    have hne : w.heap.size ≠ Wm.heap.size := by have := HBm.out.size; omega
    have hb9 : ((((w1.setCell ⟨w.heap.size, 0, none⟩ (.int .i64 r)).setCell ⟨w.heap.size, 1, none⟩ (.slice (some ⟨W0.heap.size, 0, none⟩) 0 0)).setCell ⟨w.heap.size, 2, none⟩ (.slice (some ⟨W0.heap.size + 1, 0, none⟩) 0 0)).setCell ⟨w.heap.size, 3, none⟩ (.slice (some ⟨Wm.heap.size, 0, none⟩) 3 3)).heap[w.heap.size]? = some (.cells #[.int .i64 r, .slice (some ⟨W0.heap.size, 0, none⟩) 0 0, .slice (some ⟨W0.heap.size + 1, 0, none⟩) 0 0, .slice (some ⟨Wm.heap.size, 0, none⟩) 3 3] 27 (0, 0)) := set_four HX1.out
    have v0 := (blk_cell hb9 0).trans rfl
    have v1 := (blk_cell hb9 1).trans rfl
    have v2 := (blk_cell hb9 2).trans rfl
    have v3 := (blk_cell hb9 3).trans rfl
    exact bodyPost_ret (v := .tuple #[.agg #[.int .i64 r, .slice (some ⟨W0.heap.size, 0, none⟩) 0 0, .slice (some ⟨W0.heap.size + 1, 0, none⟩) 0 0, .slice (some ⟨Wm.heap.size, 0, none⟩) 3 3], .bool true]) (by simp [results, Try.results4, go_sem, v0, v1, v2, v3]) rfl ⟨.inl ⟨by first | trivial | rfl, _, _, _, rfl, set_other (set_other (set_other (set_other hI hne.symm) hne.symm) hne.symm) hne.symm⟩, (((HB1.out.setCell (p := ⟨w.heap.size, 0, none⟩) (Nat.le_refl _) _).setCell (p := ⟨w.heap.size, 1, none⟩) (Nat.le_refl _) _).setCell (p := ⟨w.heap.size, 2, none⟩) (Nat.le_refl _) _).setCell (p := ⟨w.heap.size, 3, none⟩) (Nat.le_refl _) _⟩

set_option maxRecDepth 100000 in
set_option maxHeartbeats 1000000 in
theorem implDesk_any (r : Int) (w : World) :
    Calls Try.prog 5 #[.int .i64 r] w fun e w' => ((repB r = true ∧ ∃ C, w.heap.size ≤ C ∧ e = .returned (.tuple #[.agg #[.int .i64 r, .slice none 0 0, .slice none 0 0, .slice (some ⟨C, 0, none⟩) 3 3], .bool true]) ∧ I3 w' C 0 0 0) ∨
      (repB r = false ∧ e = .returned (.tuple #[.agg #[.int .i64 0, .slice none 0 0, .slice none 0 0, .slice none 0 0], .bool false]))) ∧ Below w.heap.size w w' := by
  obtain ⟨i0, hi, hz0, hz1, hz2⟩ := info_parts infoInt
  have HI := hideIt hi
  have HZ0 := hideIt hz0
  have HZ1 := hideIt hz1
  have HZ2 := hideIt hz2
  clear hi hz0 hz1 hz2
  cases hr : repB r
  all_goals
    have HR := hideIt hr
    clear hr
    have HB0 : Hid (Below w.heap.size w (w.alloc (.cells #[.int .i64 0, .slice none 0 0, .slice none 0 0, .slice none 0 0] 27))) := (Below.refl _ _).alloc (Nat.le_refl _) _
    have hbox : (w.alloc (.cells #[.int .i64 0, .slice none 0 0, .slice none 0 0, .slice none 0 0] 27)).heap[w.heap.size]? = some (.cells #[.int .i64 0, .slice none 0 0, .slice none 0 0, .slice none 0 0] 27 (0, 0)) := World.alloc_heap_new _ _
    have HX := hideIt hbox
    clear hbox
    go_enter Try.func5, Try.ntmps5
    go_wp2_with fail
    refine (rep_any _ _).mono ?_
    rintro e w' ⟨rfl, hw⟩
    rw [hw, HR.out]
    clear hw
    generalize w.alloc (.cells #[.int .i64 0, .slice none 0 0, .slice none 0 0, .slice none 0 0] 27) = W0 at *
    have hz0 := (Array.getElem?_eq_some_iff.1 HX.out).1
    have k0 := (blk_cell HX.out 0).trans rfl
    have k1 := (blk_cell HX.out 1).trans rfl
    have k2 := (blk_cell HX.out 2).trans rfl
    have k3 := (blk_cell HX.out 3).trans rfl
    have kf : ∀ j, W0.frozen? ⟨w.heap.size, j, none⟩ = false := fun j => by simp [World.frozen?, HX.out]
  · go_wp2
    have hb9 : ((((W0.setCell ⟨w.heap.size, 0, none⟩ (.int .i64 0)).setCell ⟨w.heap.size, 1, none⟩ (.slice none 0 0)).setCell ⟨w.heap.size, 2, none⟩ (.slice none 0 0)).setCell ⟨w.heap.size, 3, none⟩ (.slice none 0 0)).heap[w.heap.size]? = some (.cells #[.int .i64 0, .slice none 0 0, .slice none 0 0, .slice none 0 0] 27 (0, 0)) := set_four HX.out
    have v0 := (blk_cell hb9 0).trans rfl
    have v1 := (blk_cell hb9 1).trans rfl
    have v2 := (blk_cell hb9 2).trans rfl
    have v3 := (blk_cell hb9 3).trans rfl
    exact bodyPost_ret (v := .tuple #[.agg #[.int .i64 0, .slice none 0 0, .slice none 0 0, .slice none 0 0], .bool false]) (by simp [results, Try.results5, go_sem, v0, v1, v2, v3]) rfl ⟨.inr ⟨by first | trivial | rfl, rfl⟩, (((HB0.out.setCell (p := ⟨w.heap.size, 0, none⟩) (Nat.le_refl _) _).setCell (p := ⟨w.heap.size, 1, none⟩) (Nat.le_refl _) _).setCell (p := ⟨w.heap.size, 2, none⟩) (Nat.le_refl _) _).setCell (p := ⟨w.heap.size, 3, none⟩) (Nat.le_refl _) _⟩
  · clear k0 k1 k2 k3 kf
    go_wp2_with (first
      | (at_make; refine wpList_make_full _ rfl _ _ 25 rfl W0.heap.size 3 i0 _ 1 Try.underlying25 HI.out HZ0.out HZ1.out .i64 .i64 _ _ 3 rfl rfl rfl rfl (by rw [HZ2.out]; omega) (by unfold maxLen; omega) (Nat.le_refl _) ?_; intro w1 hown hgrow; rw [made3] at hown; have hb1 : Below W0.heap.size W0 w1 := (Below.refl _ _).grown hgrow (Nat.le_refl _) (fun k h => by cases h); have HO := hideIt hown; have HX1 := hideIt (blk_below HX.out hb1); have HB1 := hideIt (Bstep HB0.out hb1); have k0 := (blk_cell HX1.out 0).trans rfl; have k1 := (blk_cell HX1.out 1).trans rfl; have k2 := (blk_cell HX1.out 2).trans rfl; have k3 := (blk_cell HX1.out 3).trans rfl; have kf : ∀ j, w1.frozen? ⟨w.heap.size, j, none⟩ = false := (fun j => by simp [World.frozen?, HX1.out]); have kz : w.heap.size < w1.heap.size := (Array.getElem?_eq_some_iff.1 HX1.out).1; clear hown hgrow hb1))
    obtain ⟨hI, hbM⟩ := own_blk HO.out
    have hne : w.heap.size ≠ W0.heap.size := by omega
    have hb9 : ((((w1.setCell ⟨w.heap.size, 0, none⟩ (.int .i64 r)).setCell ⟨w.heap.size, 1, none⟩ (.slice none 0 0)).setCell ⟨w.heap.size, 2, none⟩ (.slice none 0 0)).setCell ⟨w.heap.size, 3, none⟩ (.slice (some ⟨W0.heap.size, 0, none⟩) 3 3)).heap[w.heap.size]? = some (.cells #[.int .i64 r, .slice none 0 0, .slice none 0 0, .slice (some ⟨W0.heap.size, 0, none⟩) 3 3] 27 (0, 0)) := set_four HX1.out
    have v0 := (blk_cell hb9 0).trans rfl
    have v1 := (blk_cell hb9 1).trans rfl
    have v2 := (blk_cell hb9 2).trans rfl
    have v3 := (blk_cell hb9 3).trans rfl
    exact bodyPost_ret (v := .tuple #[.agg #[.int .i64 r, .slice none 0 0, .slice none 0 0, .slice (some ⟨W0.heap.size, 0, none⟩) 3 3], .bool true]) (by simp [results, Try.results5, go_sem, v0, v1, v2, v3]) rfl ⟨.inl ⟨by first | trivial | rfl, _, by omega, rfl, set_other (set_other (set_other (set_other hI hne.symm) hne.symm) hne.symm) hne.symm⟩, (((HB1.out.setCell (p := ⟨w.heap.size, 0, none⟩) (Nat.le_refl _) _).setCell (p := ⟨w.heap.size, 1, none⟩) (Nat.le_refl _) _).setCell (p := ⟨w.heap.size, 2, none⟩) (Nat.le_refl _) _).setCell (p := ⟨w.heap.size, 3, none⟩) (Nat.le_refl _) _⟩

/-! Holding against one another, marks, and what holds them: of no things, and of three numbers. -/
theorem eqNone_any (p q : Option Addr) (c d : Nat) (w : World) :
    Calls Try.prog 17 #[.slice p 0 c, .slice q 0 d] w fun e w' => e = .returned (.bool true) ∧ w' = w := by
  go_enter Try.func17, Try.ntmps17
  go_wp2
  refine wp_loop_rounds 1 ?_
  rw [rounds_succ]
  go_wp2
  go_ret
  exact ⟨rfl, rfl⟩
theorem heldNone_any (p : Option Addr) (c : Nat) (k : Int) (w : World) :
    Calls Try.prog 19 #[.slice p 0 c, .int .i64 k] w fun e w' => e = .returned (.int .i64 k) ∧ w' = w := by
  go_enter Try.func19, Try.ntmps19
  go_wp2
  refine wp_loop_rounds 1 ?_
  rw [rounds_succ]
  go_wp2
  go_ret
  exact ⟨rfl, rfl⟩
theorem markNone_any (p : Option Addr) (c : Nat) (k : Int) (w : World) :
    Calls Try.prog 18 #[.slice p 0 c, .int .i64 k] w fun e w' => e = .returned (.int .i64 k) ∧ w' = w := by
  go_enter Try.func18, Try.ntmps18
  go_wp2
  refine wp_loop_rounds 1 ?_
  rw [rounds_succ]
  go_wp2
  go_ret
  exact ⟨rfl, rfl⟩
theorem eqI0_any (w : World) :
    Calls Try.prog 12 #[.slice none 0 0, .slice none 0 0] w fun e w' => e = .returned (.bool true) ∧ w' = w := by
  go_enter Try.func12, Try.ntmps12
  go_wp2
  refine wp_loop_rounds 1 ?_
  rw [rounds_succ]
  go_wp2
  go_ret
  exact ⟨rfl, rfl⟩
theorem heldI0_any (k : Int) (w : World) :
    Calls Try.prog 16 #[.slice none 0 0, .int .i64 k] w fun e w' => e = .returned (.int .i64 k) ∧ w' = w := by
  go_enter Try.func16, Try.ntmps16
  go_wp2
  refine wp_loop_rounds 1 ?_
  rw [rounds_succ]
  go_wp2
  go_ret
  exact ⟨rfl, rfl⟩
theorem markI0_any (k : Int) (w : World) :
    Calls Try.prog 14 #[.slice none 0 0, .int .i64 k] w fun e w' => e = .returned (.int .i64 k) ∧ w' = w := by
  go_enter Try.func14, Try.ntmps14
  go_wp2
  refine wp_loop_rounds 1 ?_
  rw [rounds_succ]
  go_wp2
  go_ret
  exact ⟨rfl, rfl⟩
theorem below_drN {w wr : World} (h : Below w.heap.size w wr) (n : Nat) : Below w.heap.size w (wr.drewN n) := by
  induction n with
  | zero => exact h
  | succ n ih => exact ih.drew
theorem eqI3_any (C D : Nat) (a b c : Int) (w : World) (h1 : I3 w C a b c) (h2 : I3 w D a b c) :
    Calls Try.prog 12 #[.slice (some ⟨C, 0, none⟩) 3 3, .slice (some ⟨D, 0, none⟩) 3 3] w fun e w' => e = .returned (.bool true) ∧ Below w.heap.size w w' := by
  go_enter Try.func12, Try.ntmps12
  go_wp2
  go_loopw [5] (fun i wr => ∃ k : Nat, k ≤ 3 ∧ i = .int .i64 k ∧ Below w.heap.size w wr)
    (fun i _ => 3 - (intOf i).toNat)
  case atStart => exact ⟨0, by omega, rfl, Below.refl _ _⟩
  case round =>
    obtain ⟨k, hk, rfl, hB⟩ := hrel
    have HB := hideIt hB
    have g1 := h1.below hB
    have g2 := h2.below hB
    have x0 := (blk_cell g1 0).trans rfl
    have x1 := (blk_cell g1 1).trans rfl
    have x2 := (blk_cell g1 2).trans rfl
    have y0 := (blk_cell g2 0).trans rfl
    have y1 := (blk_cell g2 1).trans rfl
    have y2 := (blk_cell g2 2).trans rfl
    clear hB g1 g2
    obtain rfl | rfl | rfl | rfl : k = 0 ∨ k = 1 ∨ k = 2 ∨ k = 3 := by omega
    · go_wp2
      go_quiet (fail)
      go_wp2
      exact ⟨⟨1, by omega, rfl, below_drN HB.out _⟩, by simp [intOf]⟩
    · go_wp2
      go_quiet (fail)
      go_wp2
      exact ⟨⟨2, by omega, rfl, below_drN HB.out _⟩, by simp [intOf]⟩
    · go_wp2
      go_quiet (fail)
      go_wp2
      exact ⟨⟨3, by omega, rfl, below_drN HB.out _⟩, by simp [intOf]⟩
    · go_wp2
      go_ret
      exact ⟨rfl, HB.out⟩
theorem heldI3_any (C : Nat) (w : World) (h1 : I3 w C 1 2 3) :
    Calls Try.prog 16 #[.slice (some ⟨C, 0, none⟩) 3 3, .int .i64 1] w fun e w' => e = .returned (.int .i64 4) ∧ w' = w := by
  have x0 := (blk_cell h1 0).trans rfl
  have x1 := (blk_cell h1 1).trans rfl
  have x2 := (blk_cell h1 2).trans rfl
  go_enter Try.func16, Try.ntmps16
  go_wp2
  refine wp_loop_rounds 4 ?_
  rw [rounds_succ]
  go_wp2
  rw [rounds_succ]
  go_wp2
  rw [rounds_succ]
  go_wp2
  rw [rounds_succ]
  go_wp2
  go_ret
  exact ⟨rfl, rfl⟩
theorem markI3_any (C : Nat) (a b c : Int) (w : World) (h1 : I3 w C a b c) :
    Calls Try.prog 14 #[.slice (some ⟨C, 0, none⟩) 3 3, .int .i64 1] w fun e w' => e = .returned (.int .i64 4) ∧ w' = ((w.setCell ⟨C, 0, none⟩ (.int .i64 1)).setCell ⟨C, 1, none⟩ (.int .i64 2)).setCell ⟨C, 2, none⟩ (.int .i64 3) := by
  have x0 := (blk_cell h1 0).trans rfl
  have x1 := (blk_cell h1 1).trans rfl
  have x2 := (blk_cell h1 2).trans rfl
  have kf : ∀ j, w.frozen? ⟨C, j, none⟩ = false := fun j => by simp [World.frozen?, show w.heap[C]? = _ from h1]
  have kl := h1.lt
  go_enter Try.func14, Try.ntmps14
  go_wp2
  refine wp_loop_rounds 4 ?_
  rw [rounds_succ]
  go_wp2
  rw [rounds_succ]
  go_wp2
  rw [rounds_succ]
  go_wp2
  rw [rounds_succ]
  go_wp2
  go_ret
  exact ⟨rfl, rfl⟩
theorem I3.marked {C : Nat} {a b c : Int} {w : World} (h : I3 w C a b c) : I3 (((w.setCell ⟨C, 0, none⟩ (.int .i64 1)).setCell ⟨C, 1, none⟩ (.int .i64 2)).setCell ⟨C, 2, none⟩ (.int .i64 3)) C 1 2 3 := by
  unfold I3 at *
  simp only [World.setCell, Array.getElem?_modify, if_true, h, Option.map_some]
  rfl
theorem I3.past {C D : Nat} {a b c : Int} {w : World} {u v x : Value} (h : I3 w D a b c) (hne : D ≠ C) : I3 (((w.setCell ⟨C, 0, none⟩ u).setCell ⟨C, 1, none⟩ v).setCell ⟨C, 2, none⟩ x) D a b c := set_other (set_other (set_other h hne) hne) hne
end Go.Proofs.Ytficnhlkefpfnaa
