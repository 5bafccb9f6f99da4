/-
  PROVED: a desk begins with nothing, a drawn one too (the given card of FnDeskNew), for every input; the one listed variable, the program's error, reads as its own initialiser lays it.
-/
import Derived.Test.YtedanlmippfojaaDoorP0
import Derived.Test.YtedanlmippfojaaDoorP5
import Derived.Laws.CopyOwn
import Derived.OwnWalk
import Derived.Test.YtedanlmippfojaaDoorP3
import Derived.Test.YtedanlmippfojaaDoorP6
import Derived.Test.YtedanlmippfojaaDoorRows
import Derived.WalkKit
import Derived.ProofKit
import Derived.OpenShut
import Derived.ChangeOld
import Derived.Below
import Derived.Lib.SmallJoins
import Derived.Stop.LaidErr
import Derived.LaidMore
import Derived.Stop.Joined
import Derived.Test.YtedanlmippfojaaDoorP2
import Derived.ChangeSlices
import Derived.Test.YtedanlmippfojaaDoorTie
import Derived.Test.YtedanlmippfojaaDoorCards
import Derived.SevenTiedAt
namespace Go.Proofs.YtedanlmippfojaaDoor
open Go.RowKit
set_option linter.unusedSimpArgs false
set_option linter.unusedVariables false
attribute [local go_sem ↓] Go.wp_at_zero Go.wp_at_succ

theorem repI_any (n : Int) (w : World) :
    Calls Tryd.prog 90 #[.int .i64 n] w fun e w' => e = .returned (.bool (inB n 1 3)) ∧ Below w.heap.size w w' := by
  go_enter Tryd.func90, Tryd.ntmps90
  go_wp2
  all_goals
    go_ret
    exact ⟨ret_bool (by (try simp only [inB, Bool.not_eq_true, decide_eq_true_eq, decide_eq_false_iff_not, bne_iff_ne, beq_iff_eq, beq_eq_false_iff_ne, ne_eq] at *); first | (apply decide_eq_decide.2; omega) | (symm; apply decide_eq_true; omega) | (symm; apply decide_eq_false; omega) | (rw [Bool.eq_iff_iff]; simp only [Bool.and_eq_true, Bool.or_eq_true, decide_eq_true_eq, beq_iff_eq, bne_iff_ne, Bool.not_eq_true, ne_eq]; omega)), Below.refl _ _⟩
/-- Numbers of how much of each was seen. -/
def vecB (s : List Int) : Bool := s.all (fun n => inB n 0 12) && decide (s.length = 3)
theorem vec_no {s : List Int} {k : Nat} (hk : k < s.length) (h : inB s[k] 0 12 = false) : vecB s = false := by
  unfold vecB
  have : s.all (fun n => inB n 0 12) = false := by
    rw [List.all_eq_false]
    exact ⟨s[k], List.getElem_mem hk, by simp [h]⟩
  rw [this]; rfl
theorem vec_all {s : List Int} (h : ∀ j (hj : j < s.length), inB s[j] 0 12 = true) : vecB s = decide (s.length = 3) := by
  unfold vecB
  have : s.all (fun n => inB n 0 12) = true := by
    rw [List.all_eq_true]
    intro x hx
    obtain ⟨j, hj, rfl⟩ := List.getElem_of_mem hx
    exact h j hj
  rw [this]; rfl
set_option maxHeartbeats 1000000 in
theorem implVec_any (s : List Int) (g cap : Nat) (w : World) (hs : IntsAt w g s) (hn : s.length ≤ 1048576) (hcap : s.length ≤ cap) :
    Calls Tryd.prog 94 #[.slice (some ⟨g, 0, none⟩) s.length cap] w fun e w' => e = .returned (.bool (vecB s)) ∧ Below w.heap.size w w' := by
  have HS := hideIt hs
  have hgw := hs.1
  clear hs
  go_enter Tryd.func94, Tryd.ntmps94
  by_cases h3 : s.length = 3
  · have h3' : (s.length : Int) = 3 := by omega
    go_wp2
    go_loopw [10] (fun i wr => ∃ k : Nat, k ≤ s.length ∧ i = .int .i64 k ∧ (∀ j (hj : j < s.length), j < k → inB s[j] 0 12 = true) ∧ Below w.heap.size w wr) (fun i _ => s.length - (intOf i).toNat)
    case atStart => exact ⟨0, Nat.zero_le _, rfl, fun j hj h => by omega, by go_grown⟩
    case round =>
      obtain ⟨k, hk, rfl, hall, hB⟩ := hrel
      have HB := hideIt hB
      have HA := hideIt hall
      clear hB hall
      by_cases hlt : k < s.length
      · have hlt' : (k : Int) < 3 := by omega
        have hlt2 : (k : Int) < (s.length : Int) := by omega
        have hk0 : (0 : Int) ≤ (k : Int) := by omega
        have y0 := (HS.out.below HB.out hgw).2 k s[k] (by simp [hlt])
        have hbad : Hid (inB s[k] 0 12 = false → vecB s = false) := fun h => vec_no hlt h
        have hnext : Hid (inB s[k] 0 12 = true → ∀ j (hj : j < s.length), j < k + 1 → inB s[j] 0 12 = true) := fun h j hj hj1 => by
          rcases Nat.lt_or_ge j k with h1 | h1
          · exact HA.out j hj h1
          · obtain rfl : j = k := by omega
            exact h
        generalize s[k] = n at *
        by_cases h1 : n < 0
        · have HR := hideIt (hbad.out (by simp [inB]; omega))
          go_wp2
          go_ret
          exact ⟨ret_bool HR.out.symm, HB.out⟩
        · by_cases h2 : 12 < n
          · have HR := hideIt (hbad.out (by simp [inB]; omega))
            go_wp2
            go_ret
            exact ⟨ret_bool HR.out.symm, HB.out⟩
          · have HN := hideIt (hnext.out (by simp [inB]; omega))
            go_wp2
            exact ⟨⟨k + 1, by omega, by go_num, HN.out, HB.out⟩, by simp [intOf]; omega⟩
      · obtain rfl : k = s.length := by omega
        have HR := hideIt (vec_all (s := s) fun j hj => HA.out j hj hj)
        go_wp2
        go_ret
        exact ⟨ret_bool (by rw [HR.out, decide_eq_true h3]), HB.out⟩
  · have h3' : ¬ ((s.length : Int) = 3) := by omega
    go_wp2
    go_ret
    exact ⟨ret_bool (by unfold vecB; rw [decide_eq_false h3]; simp), Below.refl _ _⟩
end Go.Proofs.YtedanlmippfojaaDoor

namespace Go.Proofs.YtedanlmippfojaaDoor
open Go.RowKit
set_option linter.unusedSimpArgs false
set_option linter.unusedVariables false
attribute [local go_sem ↓] Go.wp_at_zero Go.wp_at_succ

theorem docNil_any (x : Addr) (w : World) (he : w.cell? ⟨0, 0, none⟩ = some (.iface 203 (.pointer (some x)))) (h0 : 0 < w.heap.size) :
    Calls Tryd.prog 95 #[.agg #[.slice none 0 0, .slice none 0 0]] w fun e w' => e = .returned (.bool true) ∧ Below w.heap.size w w' := by
  have hB0 : Below w.heap.size w (w.alloc (.cells #[.slice none 0 0, .slice none 0 0] 70)) := (Below.refl _ _).alloc (Nat.le_refl _) _
  have hD0 : (w.alloc (.cells #[.slice none 0 0, .slice none 0 0] 70)).heap[w.heap.size]? = some (.cells #[.slice none 0 0, .slice none 0 0] 70 (0, 0)) := World.alloc_heap_new _ _
  have HB0 := hideIt hB0
  have HD0 := hideIt hD0
  clear hB0 hD0
  go_enter Tryd.func95, Tryd.ntmps95
  go_wp2_with fail
  refine (implOps_nil [] rfl x _ (errB HB0.out h0 he) (posB HB0.out h0)).mono ?_
  rintro e w1 ⟨rfl, hb1⟩
  rw [th_same, ops_nil]
  have HB1 := hideIt (Bstep HB0.out hb1)
  have hd1 := blk_below HD0.out hb1
  have d0 := (blk_cell hd1 0).trans rfl
  have d1 := (blk_cell hd1 1).trans rfl
  have dl := (Array.getElem?_eq_some_iff.1 hd1).1
  clear hb1 hd1 HB0 HD0
  go_wp2
  refine wp_loop_rounds 1 ?_
  rw [rounds_succ]
  go_wp2
  go_ret
  exact ⟨rfl, HB1.out.alloc HB1.out.size _⟩
theorem hasNil_any (v : Value) (w : World) (b : Nat) :
    Calls Tryd.prog 96 #[.slice none 0 0, .func (.func 97) #[.pointer (some ⟨b, 0, none⟩)] #[]] w fun e w' => e = .returned (.bool false) ∧ w' = w := by
  have hidx : ∀ W : World, Calls Tryd.prog 128 #[.slice none 0 0, .func (.func 97) #[.pointer (some ⟨b, 0, none⟩)] #[]] W fun e w' => e = .returned (.int .i64 (-1)) ∧ w' = W := fun W => by
    go_enter Tryd.func128, Tryd.ntmps128
    go_wp2
    refine wp_loop_rounds 1 ?_
    rw [rounds_succ]
    go_wp2
    go_ret
    exact ⟨rfl, rfl⟩
  go_enter Tryd.func96, Tryd.ntmps96
  go_wp2_with fail
  refine (hidx _).mono ?_
  rintro e w1 ⟨rfl, hw⟩
  rw [hw]
  go_wp2
  go_ret
  exact ⟨rfl, rfl⟩
theorem nextNil_any (known : Option Addr) (n c : Nat) (w : World) :
    Calls Tryd.prog 126 #[.slice none 0 0, .slice known n c] w fun e w' => e = .returned (.int .i64 (-1)) ∧ w' = w := by
  go_enter Tryd.func126, Tryd.ntmps126
  go_wp2
  refine wp_loop_rounds 1 ?_
  rw [rounds_succ]
  go_wp2
  go_ret
  exact ⟨rfl, rfl⟩
end Go.Proofs.YtedanlmippfojaaDoor

namespace Go.Proofs.YtedanlmippfojaaDoor
open Go.RowKit
set_option linter.unusedSimpArgs false
set_option linter.unusedVariables false
attribute [local go_sem ↓] Go.wp_at_zero Go.wp_at_succ

theorem infoIntN : (Tryd.prog.info? 3).map (fun i => (i.zero, i.size, i.bytes)) = some (some (.int .i64 0), 1, 8) := by kernel_rfl
theorem sizeIntN : (Tryd.prog.info? 3).map (·.size) = some 1 := by kernel_rfl
theorem made3N : (madeCells (Value.int .i64 0).cells (3 * 1)).toList = [.int .i64 0, .int .i64 0, .int .i64 0] := by
  have := toList_madeCells_one (.int .i64 0) 3
  simpa [Value.cells, List.replicate] using this
theorem own3N {w : World} {base M : Nat} (h : w.ownsRow base 3 1 (.slice (some ⟨M, 0, none⟩) 3 3) 3 [.int .i64 0, .int .i64 0, .int .i64 0]) : w.heap[M]? = some (.cells #[.int .i64 0, .int .i64 0, .int .i64 0] 3 (0, 0)) ∧ base ≤ M := by
  rcases h.2 with ⟨h, _⟩ | ⟨g, cap, cur, e, hb, hg, _, _, hs, ht⟩
  · cases h
  · cases e
    have h1 : cur.toList = [.int .i64 0, .int .i64 0, .int .i64 0] := by
      rw [← ht, List.take_of_length_le (by simp; omega)]
    have h2 : cur = #[.int .i64 0, .int .i64 0, .int .i64 0] := by rw [← Array.toArray_toList (xs := cur), h1]
    subst h2
    exact ⟨hg, hb⟩

theorem one3N : ∀ v ∈ [Value.int .i64 0, .int .i64 0, .int .i64 0], v.oneCell' = true := by
  intro v hv
  simp at hv
  subst hv
  rfl
theorem src3N {W : World} {C : Nat} (h : IntsAt W C [0, 0, 0]) : ∀ j v, [Value.int .i64 0, .int .i64 0, .int .i64 0][j]? = some v → W.cell? ((⟨C, 0, none⟩ : Addr).add j) = some v := by
  intro j v hj
  match j with
  | 0 => simp at hj; subst hj; simpa [Addr.add] using h.2 0 0 rfl
  | 1 => simp at hj; subst hj; simpa [Addr.add] using h.2 1 0 rfl
  | 2 => simp at hj; subst hj; simpa [Addr.add] using h.2 2 0 rfl
  | j + 3 => simp at hj

set_option maxRecDepth 100000 in
set_option maxHeartbeats 1000000 in
theorem pastNil_any (C : Nat) (x : Addr) (w : World) (hi : IntsAt w C [0, 0, 0]) (he : w.cell? ⟨0, 0, none⟩ = some (.iface 203 (.pointer (some x)))) (h0 : 0 < w.heap.size) :
    Calls Tryd.prog 93 #[.slice none 0 0, .slice (some ⟨C, 0, none⟩) 3 3, .int .i64 5] w fun e w' => e = .returned (.slice none 0 0) ∧ Below w.heap.size w w' := by
  have HI := hideIt hi
  have hcl := hi.1
  clear hi
  obtain ⟨i0, hi, hz0, hz1, hz2⟩ := info_parts infoIntN
  have HII := hideIt hi
  have HZ0 := hideIt hz0
  have HZ1 := hideIt hz1
  have HZ2 := hideIt hz2
  clear hi hz0 hz1 hz2
  go_enter Tryd.func93, Tryd.ntmps93
  go_wp2_with fail
  refine (implOps_nil [] rfl x _ he h0).mono ?_
  rintro e w1 ⟨rfl, hb1⟩
  rw [th_same, ops_nil]
  have HB1 := hideIt hb1
  have HI1 := hideIt (HI.out.below hb1 hcl)
  clear hb1 HI
  go_wp2_with (first
    | (at_make; refine wpList_make_full _ rfl _ _ 32 rfl w1.heap.size 3 i0 _ 1 Tryd.underlying32 HII.out HZ0.out HZ1.out .i64 .i64 _ _ 3 rfl rfl rfl rfl (by rw [HZ2.out]; omega) (by unfold maxLen; omega) (Nat.le_refl _) ?_; intro w2 hown hgrow; rw [made3N] at hown; have hb2 : Below w1.heap.size w1 w2 := (Below.refl _ _).grown hgrow (Nat.le_refl _) (fun k h => by cases h); have HM := hideIt (own3N hown); have HB2 := hideIt (Bstep HB1.out hb2); have HI2 := hideIt (HI1.out.below hb2 HI1.out.1); clear hown hgrow hb2)
    | (refine wpList_copy_own rfl _ _ 32 32 rfl 3 Tryd.underlying32 sizeIntN w1.heap.size 0 3 3 ⟨C, 0, none⟩ 3 3 rfl rfl _ _ HM.out.1 [.int .i64 0, .int .i64 0, .int .i64 0] rfl (src3N HI2.out) (by simp) one3N ?_))
  have HB3 := hideIt (below_setRow HB2.out (show w.heap.size ≤ w1.heap.size from HB1.out.size) ([Value.int .i64 0, .int .i64 0, .int .i64 0]).toArray)
  refine wp_loop_rounds 1 ?_
  rw [rounds_succ]
  go_wp2_with (first
    | (go_at_call 126; refine (nextNil_any _ _ _ _).mono ?_; rintro e w' ⟨rfl, hw⟩; rw [hw]; clear hw))
  trace_state
  go_ret
  exact ⟨rfl, HB3.out⟩
end Go.Proofs.YtedanlmippfojaaDoor

namespace Go.Proofs.YtedanlmippfojaaDoor
open Go.RowKit
set_option linter.unusedSimpArgs false
set_option linter.unusedVariables false
attribute [local go_sem ↓] Go.wp_at_zero Go.wp_at_succ

/-- A desk at work, in its block. -/
def WorkAt (W : World) (b : Nat) (u v : Value) (r : Int) (z : Value) : Prop := W.heap[b]? = some (.cells #[u, v, .int .i64 r, z] 143 (0, 0))
theorem WorkAt.below {W W' : World} {b : Nat} {u v z : Value} {r : Int} (h : WorkAt W b u v r z) (hb : Below W.heap.size W W') : WorkAt W' b u v r z := blk_below h hb
theorem WorkAt.keep {w W : World} {b : Nat} {u v z : Value} {r : Int} (h : WorkAt w b u v r z) (hb : Below w.heap.size w W) : WorkAt W b u v r z := blk_below h hb
theorem WorkAt.cells {W : World} {b : Nat} {u v z : Value} {r : Int} (h : WorkAt W b u v r z) : W.cell? ⟨b, 0, none⟩ = some u ∧ W.cell? ⟨b, 1, none⟩ = some v ∧ W.cell? ⟨b, 2, none⟩ = some (.int .i64 r) ∧ W.cell? ⟨b, 3, none⟩ = some z := ⟨(blk_cell h 0).trans rfl, (blk_cell h 1).trans rfl, (blk_cell h 2).trans rfl, (blk_cell h 3).trans rfl⟩

theorem workOf_any (r : Int) (p q t : Option Addr) (n c m d k e : Nat) (w : World) :
    Calls Tryd.prog 92 #[.agg #[.int .i64 r, .slice p n c, .slice q m d, .slice t k e]] w fun en w' => ∃ b, en = .returned (.pointer (some ⟨b, 0, none⟩)) ∧ w.heap.size ≤ b ∧ WorkAt w' b (.slice p n c) (.slice q m d) r (.slice t k e) ∧ Below w.heap.size w w' := by
  go_enter Tryd.func92, Tryd.ntmps92
  go_wp2
  go_ret
  refine ⟨_, rfl, Nat.le_succ _, ?_, ((Below.refl _ _).alloc (Nat.le_refl _) _).alloc (by simp) _⟩
  have h := World.alloc_heap_new (w.alloc (.cells #[.int .i64 r, .slice p n c, .slice q m d, .slice t k e] 72)) (.cells #[.slice p n c, .slice q m d, .int .i64 r, .slice t k e] 143)
  rw [World.size_alloc] at h
  exact h
theorem isOwn_any (b : Nat) (o : Op7) (u v z : Value) (r : Int) (w : World) (h : WorkAt w b u v r z) :
    Calls Tryd.prog 97 #[.pointer (some ⟨b, 0, none⟩), .agg #[.int .i64 o.a, .int .i64 o.b, .int .i64 o.k, .int .i64 o.c, .int .i64 o.d, .int .i64 o.s, .int .i64 o.g]] w fun en w' => en = .returned (.bool (o.a == r)) ∧ Below w.heap.size w w' := by
  obtain ⟨h0, h1, h2, h3⟩ := h.cells
  have hl := (Array.getElem?_eq_some_iff.1 h).1
  have HB := hideIt ((Below.refl w.heap.size w).alloc (Nat.le_refl _) (.cells #[.int .i64 o.a, .int .i64 o.b, .int .i64 o.k, .int .i64 o.c, .int .i64 o.d, .int .i64 o.s, .int .i64 o.g] 29))
  go_enter Tryd.func97, Tryd.ntmps97
  go_wp2
  go_quiet (fail)
  go_wp2
  go_ret
  exact ⟨ret_bool (by by_cases h : o.a = r <;> simp [h]), below_drewN HB.out _⟩

end Go.Proofs.YtedanlmippfojaaDoor

namespace Go.Proofs.YtedanlmippfojaaDoor
open Go.RowKit
set_option linter.unusedSimpArgs false
set_option linter.unusedVariables false
attribute [local go_sem ↓] Go.wp_at_zero Go.wp_at_succ

theorem vec000 : vecB [0, 0, 0] = true := by decide
set_option maxRecDepth 100000 in
set_option maxHeartbeats 1000000 in
theorem deskNil_any (r : Int) (hr : inB r 1 3 = true) (C : Nat) (x : Addr) (w : World) (hi : IntsAt w C [0, 0, 0]) (he : w.cell? ⟨0, 0, none⟩ = some (.iface 203 (.pointer (some x)))) (h0 : 0 < w.heap.size) :
    Calls Tryd.prog 51 #[.agg #[.int .i64 r, .slice none 0 0, .slice none 0 0, .slice (some ⟨C, 0, none⟩) 3 3]] w fun e w' => e = .returned (.bool true) ∧ Below w.heap.size w w' := by
  have HI := hideIt hi
  have hcl := hi.1
  have HR := hideIt hr
  clear hi hr
  have hB0 : Below w.heap.size w (w.alloc (.cells #[.int .i64 r, .slice none 0 0, .slice none 0 0, .slice (some ⟨C, 0, none⟩) 3 3] 72)) := (Below.refl _ _).alloc (Nat.le_refl _) _
  have HB0 := hideIt hB0
  clear hB0
  go_enter Tryd.func51, Tryd.ntmps51
  go_wp2_with fail
  refine (workOf_any r _ _ _ _ _ _ _ _ _ _).mono ?_
  rintro e w1 ⟨b, rfl, hb, hW1, hb1⟩
  have HW1 := hideIt hW1
  have HB1 := hideIt (Bstep HB0.out hb1)
  clear hW1 hb1 HB0
  obtain ⟨c0, c1, c2, c3⟩ := HW1.out.cells
  have cl := (Array.getElem?_eq_some_iff.1 HW1.out).1
  go_wp2_with fail
  refine (repI_any r _).mono ?_
  rintro e w2 ⟨rfl, hb2⟩
  rw [HR.out]
  have HW2 := hideIt (HW1.out.below hb2)
  have HB2 := hideIt (Bstep HB1.out hb2)
  clear hb2 HW1 HB1 c0 c1 c2 c3 cl
  obtain ⟨c0, c1, c2, c3⟩ := HW2.out.cells
  have cl := (Array.getElem?_eq_some_iff.1 HW2.out).1
  go_wp2_with fail
  refine (implVec_any [0, 0, 0] C 3 _ (HI.out.below HB2.out hcl) (by simp) (by simp)).mono ?_
  rintro e w3 ⟨rfl, hb3⟩
  rw [vec000]
  have HW3 := hideIt (HW2.out.below hb3)
  have HB3 := hideIt (Bstep HB2.out hb3)
  clear hb3 HW2 HB2 c0 c1 c2 c3 cl
  obtain ⟨c0, c1, c2, c3⟩ := HW3.out.cells
  have cl := (Array.getElem?_eq_some_iff.1 HW3.out).1
  go_wp2_with fail
  refine (docNil_any x _ (errB HB3.out h0 he) (posB HB3.out h0)).mono ?_
  rintro e w4 ⟨rfl, hb4⟩
  have HW4 := hideIt (HW3.out.below hb4)
  have HB4 := hideIt (Bstep HB3.out hb4)
  clear hb4 HW3 HB3 c0 c1 c2 c3 cl
  obtain ⟨c0, c1, c2, c3⟩ := HW4.out.cells
  have cl := (Array.getElem?_eq_some_iff.1 HW4.out).1
  go_wp2_with fail
  refine (hasNil_any (.int .i64 0) _ b).mono ?_
  rintro e w5 ⟨rfl, hw⟩
  rw [hw]
  clear hw
  go_wp2
  go_ret
  exact ⟨rfl, HB4.out⟩
end Go.Proofs.YtedanlmippfojaaDoor

namespace Go.Proofs.YtedanlmippfojaaDoor
open Go.RowKit
set_option linter.unusedSimpArgs false
set_option linter.unusedVariables false
attribute [local go_sem ↓] Go.wp_at_zero Go.wp_at_succ

theorem set_csN {W : World} {b i : Nat} {T : TypeId} {cs : Array Value} {u : Value} (h : W.heap[b]? = some (.cells cs T (0, 0))) : (W.setCell ⟨b, i, none⟩ u).heap[b]? = some (.cells (cs.setIfInBounds i u) T (0, 0)) := by
  simp only [World.setCell, Array.getElem?_modify, if_true, h, Option.map_some]
  rfl
theorem awayN {W : World} {g b i : Nat} {l : List Int} {u : Value} (h : IntsAt W g l) (hne : g ≠ b) : IntsAt (W.setCell ⟨b, i, none⟩ u) g l := by
  refine ⟨by simpa using h.1, fun j o ho => ?_⟩
  exact (World.cell?_setCell_other _ _ _ _ (by intro he; have := congrArg Addr.block he; simp at this; omega)).trans (h.2 j o ho)
theorem seenN_any (x : Addr) (w : World) (he : w.cell? ⟨0, 0, none⟩ = some (.iface 203 (.pointer (some x)))) (h0 : 0 < w.heap.size) :
    Calls Tryd.prog 18 #[.slice none 0 0] w fun e w' => (∃ G, w.heap.size ≤ G ∧ e = .returned (.slice (some ⟨G, 0, none⟩) 3 3) ∧ IntsAt w' G [0, 0, 0]) ∧ Below w.heap.size w w' := by
  refine (implSeen_nil [] rfl x w he h0).mono ?_
  rintro e w' ⟨(⟨_, G, h1, h2, h3, _⟩ | ⟨h, _⟩), hb⟩
  · exact ⟨⟨G, h1, h2, h3⟩, hb⟩
  · rw [ops_nil] at h; cases h

set_option maxRecDepth 100000 in
set_option maxHeartbeats 1000000 in
theorem pullNil_any (r : Int) (hr : inB r 1 3 = true) (C : Nat) (x : Addr) (w : World) (hi : IntsAt w C [0, 0, 0]) (he : w.cell? ⟨0, 0, none⟩ = some (.iface 203 (.pointer (some x)))) (h0 : 0 < w.heap.size) :
    Calls Tryd.prog 50 #[.agg #[.int .i64 r, .slice none 0 0, .slice none 0 0, .slice (some ⟨C, 0, none⟩) 3 3]] w fun e w' => (∃ G, w.heap.size ≤ G ∧ e = .returned (.tuple #[.agg #[.int .i64 1, .int .i64 r, .slice (some ⟨G, 0, none⟩) 3 3, .slice none 0 0], .bool true]) ∧ IntsAt w' G [0, 0, 0]) ∧ Below w.heap.size w w' := by
  have HI := hideIt hi
  have hcl := hi.1
  have HR := hideIt hr
  clear hi hr
  have hB0 : Below w.heap.size w ((w.alloc (.cells #[.int .i64 r, .slice none 0 0, .slice none 0 0, .slice (some ⟨C, 0, none⟩) 3 3] 72)).alloc (.cells #[.int .i64 0, .int .i64 0, .slice none 0 0, .slice none 0 0] 77)) := ((Below.refl _ _).alloc (Nat.le_refl _) _).alloc (by simp) _
  have hR0 : ((w.alloc (.cells #[.int .i64 r, .slice none 0 0, .slice none 0 0, .slice (some ⟨C, 0, none⟩) 3 3] 72)).alloc (.cells #[.int .i64 0, .int .i64 0, .slice none 0 0, .slice none 0 0] 77)).heap[w.heap.size + 1]? = some (.cells #[.int .i64 0, .int .i64 0, .slice none 0 0, .slice none 0 0] 77 (0, 0)) := by
    have h := World.alloc_heap_new (w.alloc (.cells #[.int .i64 r, .slice none 0 0, .slice none 0 0, .slice (some ⟨C, 0, none⟩) 3 3] 72)) (.cells #[.int .i64 0, .int .i64 0, .slice none 0 0, .slice none 0 0] 77)
    rw [World.size_alloc] at h
    exact h
  have hD0 : ((w.alloc (.cells #[.int .i64 r, .slice none 0 0, .slice none 0 0, .slice (some ⟨C, 0, none⟩) 3 3] 72)).alloc (.cells #[.int .i64 0, .int .i64 0, .slice none 0 0, .slice none 0 0] 77)).heap[w.heap.size]? = some (.cells #[.int .i64 r, .slice none 0 0, .slice none 0 0, .slice (some ⟨C, 0, none⟩) 3 3] 72 (0, 0)) := blk_below (World.alloc_heap_new _ _) ((Below.refl _ _).alloc (Nat.le_refl _) _)
  have HB0 := hideIt hB0
  have HR0 := hideIt hR0
  have HD0 := hideIt hD0
  clear hB0 hR0 hD0
  go_enter Tryd.func50, Tryd.ntmps50
  go_wp2_with fail
  refine (deskNil_any r HR.out C x _ (HI.out.below HB0.out hcl) (errB HB0.out h0 he) (posB HB0.out h0)).mono ?_
  rintro e w1 ⟨rfl, hb1⟩
  have HB1 := hideIt (Bstep HB0.out hb1)
  have HR1 := hideIt (blk_below HR0.out hb1)
  have HD1 := hideIt (blk_below HD0.out hb1)
  clear hb1 HB0 HR0 HD0
  have d0 := (blk_cell HD1.out 0).trans rfl
  have d1 := (blk_cell HD1.out 1).trans rfl
  have d2 := (blk_cell HD1.out 2).trans rfl
  have d3 := (blk_cell HD1.out 3).trans rfl
  have dl := (Array.getElem?_eq_some_iff.1 HD1.out).1
  have hz1 : w.heap.size + 1 < w1.heap.size := (Array.getElem?_eq_some_iff.1 HR1.out).1
  go_wp2_with fail
  refine (workOf_any r _ _ _ _ _ _ _ _ _ _).mono ?_
  rintro e w2 ⟨b, rfl, hb, hW2, hb2⟩
  have HW2 := hideIt hW2
  have HB2 := hideIt (Bstep HB1.out hb2)
  have HR2 := hideIt (blk_below HR1.out hb2)
  clear hW2 hb2 HB1 HR1 HD1 d0 d1 d2 d3 dl
  obtain ⟨c0, c1, c2, c3⟩ := HW2.out.cells
  have cl := (Array.getElem?_eq_some_iff.1 HW2.out).1
  have r0 := (blk_cell HR2.out 0).trans rfl
  have r1 := (blk_cell HR2.out 1).trans rfl
  have r2 := (blk_cell HR2.out 2).trans rfl
  have r3 := (blk_cell HR2.out 3).trans rfl
  have rl := (Array.getElem?_eq_some_iff.1 HR2.out).1
  have rf : ∀ j, w2.frozen? ⟨w.heap.size + 1, j, none⟩ = false := fun j => by simp [World.frozen?, HR2.out]
  have hbR : ¬ b = w.heap.size + 1 := by omega
  have hRb : ¬ w.heap.size + 1 = b := by omega
  go_wp2
  have HBd := hideIt HB2.out.drew
  have HWd : Hid (WorkAt (World.drew w2) b _ _ r _) := HW2.out
  have HRd : Hid ((World.drew w2).heap[w.heap.size + 1]? = some (.cells #[.int .i64 0, .int .i64 0, .slice none 0 0, .slice none 0 0] 77 (0, 0))) := HR2.out
  have hrz : w.heap.size + 1 < (World.drew w2).heap.size := rl
  clear HB2 HW2 HR2
  go_region_with (first | (go_at_call 18; refine (seenN_any x _ (errB HBd.out h0 he) (posB HBd.out h0)).mono ?_; rintro e w3 ⟨⟨G, hG, rfl, hI⟩, hb3⟩; have HBd := hideIt (Bstep HBd.out hb3); have HWd := hideIt (HWd.out.below hb3); have HRd := hideIt (blk_below HRd.out hb3); obtain ⟨c0, c1, c2, c3⟩ := HWd.out.cells; have cl := (Array.getElem?_eq_some_iff.1 HWd.out).1; have r0 := (blk_cell HRd.out 0).trans rfl; have r1 := (blk_cell HRd.out 1).trans rfl; have r2 := (blk_cell HRd.out 2).trans rfl; have r3 := (blk_cell HRd.out 3).trans rfl; have rl := (Array.getElem?_eq_some_iff.1 HRd.out).1; have rf : ∀ j, w3.frozen? ⟨w.heap.size + 1, j, none⟩ = false := (fun j => by simp [World.frozen?, HRd.out]); have HIT := hideIt hI; clear hI hb3))
  all_goals
    go_wp2
    have hGR : G ≠ w.heap.size + 1 := by omega
    have hb9 := set_csN (i := 3) (u := .slice none 0 0) (set_csN (i := 2) (u := .slice (some ⟨G, 0, none⟩) 3 3) (set_csN (i := 1) (u := .int .i64 r) (set_csN (i := 0) (u := .int .i64 1) HRd.out)))
    have v0 := (blk_cell hb9 0).trans rfl
    have v1 := (blk_cell hb9 1).trans rfl
    have v2 := (blk_cell hb9 2).trans rfl
    have v3 := (blk_cell hb9 3).trans rfl
    exact bodyPost_ret (v := .tuple #[.agg #[.int .i64 1, .int .i64 r, .slice (some ⟨G, 0, none⟩) 3 3, .slice none 0 0], .bool true]) (by simp [results, Tryd.results50, go_sem, v0, v1, v2, v3]) rfl ⟨⟨G, by omega, rfl, awayN (awayN (awayN (awayN HIT.out hGR) hGR) hGR) hGR⟩, (((HBd.out.setCell (p := ⟨w.heap.size + 1, 0, none⟩) (by show w.heap.size ≤ w.heap.size + 1; omega) _).setCell (p := ⟨w.heap.size + 1, 1, none⟩) (by show w.heap.size ≤ w.heap.size + 1; omega) _).setCell (p := ⟨w.heap.size + 1, 2, none⟩) (by show w.heap.size ≤ w.heap.size + 1; omega) _).setCell (p := ⟨w.heap.size + 1, 3, none⟩) (by show w.heap.size ≤ w.heap.size + 1; omega) _⟩

set_option maxRecDepth 100000 in
set_option maxHeartbeats 1000000 in
theorem pushNil_any (r : Int) (hr : inB r 1 3 = true) (C : Nat) (x : Addr) (w : World) (hi : IntsAt w C [0, 0, 0]) (he : w.cell? ⟨0, 0, none⟩ = some (.iface 203 (.pointer (some x)))) (h0 : 0 < w.heap.size) :
    Calls Tryd.prog 49 #[.agg #[.int .i64 r, .slice none 0 0, .slice none 0 0, .slice (some ⟨C, 0, none⟩) 3 3]] w fun e w' => e = .returned (.tuple #[.agg #[.int .i64 0, .int .i64 0, .slice none 0 0, .slice none 0 0], .bool false]) ∧ Below w.heap.size w w' := by
  have HI := hideIt hi
  have hcl := hi.1
  have HR := hideIt hr
  clear hi hr
  have hB0 : Below w.heap.size w ((w.alloc (.cells #[.int .i64 r, .slice none 0 0, .slice none 0 0, .slice (some ⟨C, 0, none⟩) 3 3] 72)).alloc (.cells #[.int .i64 0, .int .i64 0, .slice none 0 0, .slice none 0 0] 77)) := ((Below.refl _ _).alloc (Nat.le_refl _) _).alloc (by simp) _
  have hR0 : ((w.alloc (.cells #[.int .i64 r, .slice none 0 0, .slice none 0 0, .slice (some ⟨C, 0, none⟩) 3 3] 72)).alloc (.cells #[.int .i64 0, .int .i64 0, .slice none 0 0, .slice none 0 0] 77)).heap[w.heap.size + 1]? = some (.cells #[.int .i64 0, .int .i64 0, .slice none 0 0, .slice none 0 0] 77 (0, 0)) := by
    have h := World.alloc_heap_new (w.alloc (.cells #[.int .i64 r, .slice none 0 0, .slice none 0 0, .slice (some ⟨C, 0, none⟩) 3 3] 72)) (.cells #[.int .i64 0, .int .i64 0, .slice none 0 0, .slice none 0 0] 77)
    rw [World.size_alloc] at h
    exact h
  have hD0 : ((w.alloc (.cells #[.int .i64 r, .slice none 0 0, .slice none 0 0, .slice (some ⟨C, 0, none⟩) 3 3] 72)).alloc (.cells #[.int .i64 0, .int .i64 0, .slice none 0 0, .slice none 0 0] 77)).heap[w.heap.size]? = some (.cells #[.int .i64 r, .slice none 0 0, .slice none 0 0, .slice (some ⟨C, 0, none⟩) 3 3] 72 (0, 0)) := blk_below (World.alloc_heap_new _ _) ((Below.refl _ _).alloc (Nat.le_refl _) _)
  have HB0 := hideIt hB0
  have HR0 := hideIt hR0
  have HD0 := hideIt hD0
  clear hB0 hR0 hD0
  go_enter Tryd.func49, Tryd.ntmps49
  go_wp2_with fail
  refine (deskNil_any r HR.out C x _ (HI.out.below HB0.out hcl) (errB HB0.out h0 he) (posB HB0.out h0)).mono ?_
  rintro e w1 ⟨rfl, hb1⟩
  have HB1 := hideIt (Bstep HB0.out hb1)
  have HR1 := hideIt (blk_below HR0.out hb1)
  have HD1 := hideIt (blk_below HD0.out hb1)
  clear hb1 HB0 HR0 HD0
  have d0 := (blk_cell HD1.out 0).trans rfl
  have d1 := (blk_cell HD1.out 1).trans rfl
  have d2 := (blk_cell HD1.out 2).trans rfl
  have d3 := (blk_cell HD1.out 3).trans rfl
  have dl := (Array.getElem?_eq_some_iff.1 HD1.out).1
  have hz1 : w.heap.size + 1 < w1.heap.size := (Array.getElem?_eq_some_iff.1 HR1.out).1
  go_wp2_with fail
  refine (workOf_any r _ _ _ _ _ _ _ _ _ _).mono ?_
  rintro e w2 ⟨b, rfl, hb, hW2, hb2⟩
  have HW2 := hideIt hW2
  have HB2 := hideIt (Bstep HB1.out hb2)
  have HR2 := hideIt (blk_below HR1.out hb2)
  clear hW2 hb2 HB1 HR1 HD1 d0 d1 d2 d3 dl
  obtain ⟨c0, c1, c2, c3⟩ := HW2.out.cells
  have cl := (Array.getElem?_eq_some_iff.1 HW2.out).1
  have r0 := (blk_cell HR2.out 0).trans rfl
  have r1 := (blk_cell HR2.out 1).trans rfl
  have r2 := (blk_cell HR2.out 2).trans rfl
  have r3 := (blk_cell HR2.out 3).trans rfl
  have rl := (Array.getElem?_eq_some_iff.1 HR2.out).1
  have rf : ∀ j, w2.frozen? ⟨w.heap.size + 1, j, none⟩ = false := fun j => by simp [World.frozen?, HR2.out]
  have hbR : ¬ b = w.heap.size + 1 := by omega
  have hRb : ¬ w.heap.size + 1 = b := by omega
  go_wp2
  have HBd := hideIt HB2.out.drew
  have HWd : Hid (WorkAt (World.drew w2) b _ _ r _) := HW2.out
  have HRd : Hid ((World.drew w2).heap[w.heap.size + 1]? = some (.cells #[.int .i64 0, .int .i64 0, .slice none 0 0, .slice none 0 0] 77 (0, 0))) := HR2.out
  clear HB2 HW2 HR2
  go_region_held3 (fun w' => w'.cell? ⟨b, 0, none⟩ = some (.slice none 0 0) ∧ w'.cell? ⟨b, 3, none⟩ = some (.slice (some ⟨C, 0, none⟩) 3 3))
    (first | exact ⟨c0, c3⟩ | exact ⟨y0, y3⟩)
    (first | (go_at_call 93; refine (pastNil_any C x _ (HI.out.below HBd.out hcl) (errB HBd.out h0 he) (posB HBd.out h0)).mono ?_; rintro e w3 ⟨rfl, hb3⟩; have HBd := hideIt (Bstep HBd.out hb3); have HWd := hideIt (HWd.out.below hb3); have HRd := hideIt (blk_below HRd.out hb3); obtain ⟨y0, y1, y2, y3⟩ := HWd.out.cells; clear hb3; dsimp only))
  rename_i hHH
  clear hHH c0 c1 c2 c3 cl r0 r1 r2 r3 rl rf
  have r0 := (blk_cell HRd.out 0).trans rfl
  have r1 := (blk_cell HRd.out 1).trans rfl
  have r2 := (blk_cell HRd.out 2).trans rfl
  have r3 := (blk_cell HRd.out 3).trans rfl
  have rl := (Array.getElem?_eq_some_iff.1 HRd.out).1
  have rf : ∀ j, World.frozen? w3 ⟨w.heap.size + 1, j, none⟩ = false := fun j => by have h := HRd.out; simp [World.frozen?, h]
  go_wp2
  have hb9 := set_csN (i := 3) (u := .slice none 0 0) (set_csN (i := 2) (u := .slice none 0 0) (set_csN (i := 1) (u := .int .i64 0) (set_csN (i := 0) (u := .int .i64 0) HRd.out)))
  have v0 := (blk_cell hb9 0).trans rfl
  have v1 := (blk_cell hb9 1).trans rfl
  have v2 := (blk_cell hb9 2).trans rfl
  have v3 := (blk_cell hb9 3).trans rfl
  exact bodyPost_ret (v := .tuple #[.agg #[.int .i64 0, .int .i64 0, .slice none 0 0, .slice none 0 0], .bool false]) (by simp [results, Tryd.results49, go_sem, v0, v1, v2, v3]) rfl ⟨rfl, (((HBd.out.setCell (p := ⟨w.heap.size + 1, 0, none⟩) (by show w.heap.size ≤ w.heap.size + 1; omega) _).setCell (p := ⟨w.heap.size + 1, 1, none⟩) (by show w.heap.size ≤ w.heap.size + 1; omega) _).setCell (p := ⟨w.heap.size + 1, 2, none⟩) (by show w.heap.size ≤ w.heap.size + 1; omega) _).setCell (p := ⟨w.heap.size + 1, 3, none⟩) (by show w.heap.size ≤ w.heap.size + 1; omega) _⟩
end Go.Proofs.YtedanlmippfojaaDoor

namespace Go.Proofs.YtedanlmippfojaaDoor
open Go.RowKit
set_option linter.unusedSimpArgs false
set_option linter.unusedVariables false
attribute [local go_sem ↓] Go.wp_at_zero Go.wp_at_succ

theorem i3_ints {w : World} {C : Nat} (h : w.heap[C]? = some (.cells #[.int .i64 0, .int .i64 0, .int .i64 0] 3 (0, 0))) : IntsAt w C [0, 0, 0] := by
  refine ⟨(Array.getElem?_eq_some_iff.1 h).1, fun i x hx => ?_⟩
  match i with
  | 0 => simp at hx; subst hx; exact (blk_cell h 0).trans rfl
  | 1 => simp at hx; subst hx; exact (blk_cell h 1).trans rfl
  | 2 => simp at hx; subst hx; exact (blk_cell h 2).trans rfl
  | i + 3 => simp at hx
set_option maxRecDepth 100000 in
set_option maxHeartbeats 1000000 in
theorem drawNew_any (w : World) (p : Option Addr) (n cap : Nat) (h : ArgBytes w p n) (hcap : n ≤ cap) (hn : n ≤ 1048576) :
    Calls Tryd.prog 45 #[.slice p n cap] w fun e w' => (∃ r : Int, e = .returned (.int .i64 r) ∧ -1 ≤ r ∧ r ≤ 4) ∧ Below w.heap.size w w' := by
  have H := hideIt h
  clear h
  go_enter Tryd.func45, Tryd.ntmps45
  go_wp2_with fail
  refine (open_any _ p n cap H.out hcap hn).mono ?_
  rintro e w1 ⟨n', rfl, hR1, hb1⟩
  have HR1 := hideIt hR1
  have HB1 := hideIt hb1
  clear hR1 hb1
  go_wp2_with fail
  refine (pick_any _ _ p n' cap 0 6 HR1.out (by omega) (by omega) (by omega)).mono ?_
  rintro e w2 ⟨⟨c, hc0, hc1, rfl⟩, _, hO2⟩
  have HB2 := hideIt (HB1.out.trans hO2.below)
  have hw : IntKind.i64.wrap (c - 1) = c - 1 := IntWalk.i64_in _ ⟨by omega, by omega⟩
  clear hO2
  go_wp2
  go_ret
  exact ⟨⟨c - 1, rfl, by omega, by omega⟩, HB2.out⟩
theorem set_fourN {W : World} {b : Nat} {T : TypeId} {u v x y u' v' x' y' : Value} (h : W.heap[b]? = some (.cells #[u, v, x, y] T (0, 0))) : ((((W.setCell ⟨b, 0, none⟩ u').setCell ⟨b, 1, none⟩ v').setCell ⟨b, 2, none⟩ x').setCell ⟨b, 3, none⟩ y').heap[b]? = some (.cells #[u', v', x', y'] T (0, 0)) := by
  simp only [World.setCell, Array.getElem?_modify, if_true, h, Option.map_some]
  rfl
theorem set_otherN {W : World} {b c i : Nat} {u : Value} {o : Obj} (h : W.heap[b]? = some o) (hne : b ≠ c) : (W.setCell ⟨c, i, none⟩ u).heap[b]? = some o :=
  (Below.heap_setCell W ⟨c, i, none⟩ u b hne).trans h
theorem repE_any (n : Int) (w : World) :
    Calls Tryd.prog 90 #[.int .i64 n] w fun e w' => e = .returned (.bool (inB n 1 3)) ∧ w' = w := by
  go_enter Tryd.func90, Tryd.ntmps90
  go_wp2
  all_goals
    go_ret
    exact ⟨ret_bool (by (try simp only [inB, Bool.not_eq_true, decide_eq_true_eq, decide_eq_false_iff_not, bne_iff_ne, beq_iff_eq, beq_eq_false_iff_ne, ne_eq] at *); first | (apply decide_eq_decide.2; omega) | (symm; apply decide_eq_true; omega) | (symm; apply decide_eq_false; omega) | (rw [Bool.eq_iff_iff]; simp only [Bool.and_eq_true, Bool.or_eq_true, decide_eq_true_eq, beq_iff_eq, bne_iff_ne, Bool.not_eq_true, ne_eq]; omega)), rfl⟩
set_option maxRecDepth 100000 in
set_option maxHeartbeats 1000000 in
theorem specNew_any (r : Int) (w : World) :
    Calls Tryd.prog 46 #[.int .i64 r] w fun e w' => ((inB r 1 3 = true ∧ ∃ M N C, e = .returned (.tuple #[.agg #[.int .i64 r, .slice (some ⟨M, 0, none⟩) 0 0, .slice (some ⟨N, 0, none⟩) 0 0, .slice (some ⟨C, 0, none⟩) 3 3], .bool true]) ∧ w'.heap[C]? = some (.cells #[.int .i64 0, .int .i64 0, .int .i64 0] 3 (0, 0))) ∨
      (inB r 1 3 = false ∧ e = .returned (.tuple #[.agg #[.int .i64 0, .slice none 0 0, .slice none 0 0, .slice none 0 0], .bool false]))) ∧ Below w.heap.size w w' := by
  obtain ⟨i0, hi, hz0, hz1, hz2⟩ := info_parts infoIntN
  have HI := hideIt hi
  have HZ0 := hideIt hz0
  have HZ1 := hideIt hz1
  have HZ2 := hideIt hz2
  clear hi hz0 hz1 hz2
  cases hr : inB r 1 3
  all_goals
    have HR := hideIt hr
    clear hr
    have HB0 : Hid (Below w.heap.size w (w.alloc (.cells #[.int .i64 0, .slice none 0 0, .slice none 0 0, .slice none 0 0] 72))) := (Below.refl _ _).alloc (Nat.le_refl _) _
    have hbox : (w.alloc (.cells #[.int .i64 0, .slice none 0 0, .slice none 0 0, .slice none 0 0] 72)).heap[w.heap.size]? = some (.cells #[.int .i64 0, .slice none 0 0, .slice none 0 0, .slice none 0 0] 72 (0, 0)) := World.alloc_heap_new _ _
    have HX := hideIt hbox
    clear hbox
    go_enter Tryd.func46, Tryd.ntmps46
    go_wp2_with fail
    refine (l6In_any _ _ _ _).mono ?_
    rintro e w' ⟨rfl, hw⟩
    rw [hw, HR.out]
    clear hw
    generalize w.alloc (.cells #[.int .i64 0, .slice none 0 0, .slice none 0 0, .slice none 0 0] 72) = W0 at *
    have hz0 := (Array.getElem?_eq_some_iff.1 HX.out).1
    have k0 := (blk_cell HX.out 0).trans rfl
    have k1 := (blk_cell HX.out 1).trans rfl
    have k2 := (blk_cell HX.out 2).trans rfl
    have k3 := (blk_cell HX.out 3).trans rfl
    have kf : ∀ j, W0.frozen? ⟨w.heap.size, j, none⟩ = false := fun j => by simp [World.frozen?, HX.out]
  · go_wp2
    have hb9 : ((((W0.setCell ⟨w.heap.size, 0, none⟩ (.int .i64 0)).setCell ⟨w.heap.size, 1, none⟩ (.slice none 0 0)).setCell ⟨w.heap.size, 2, none⟩ (.slice none 0 0)).setCell ⟨w.heap.size, 3, none⟩ (.slice none 0 0)).heap[w.heap.size]? = some (.cells #[.int .i64 0, .slice none 0 0, .slice none 0 0, .slice none 0 0] 72 (0, 0)) := set_fourN HX.out
    have v0 := (blk_cell hb9 0).trans rfl
    have v1 := (blk_cell hb9 1).trans rfl
    have v2 := (blk_cell hb9 2).trans rfl
    have v3 := (blk_cell hb9 3).trans rfl
    exact bodyPost_ret (v := .tuple #[.agg #[.int .i64 0, .slice none 0 0, .slice none 0 0, .slice none 0 0], .bool false]) (by simp [results, Tryd.results46, go_sem, v0, v1, v2, v3]) rfl ⟨.inr ⟨by first | trivial | rfl, rfl⟩, (((HB0.out.setCell (p := ⟨w.heap.size, 0, none⟩) (Nat.le_refl _) _).setCell (p := ⟨w.heap.size, 1, none⟩) (Nat.le_refl _) _).setCell (p := ⟨w.heap.size, 2, none⟩) (Nat.le_refl _) _).setCell (p := ⟨w.heap.size, 3, none⟩) (Nat.le_refl _) _⟩
  · clear k0 k1 k2 k3 kf
    obtain ⟨Wm, hWm⟩ : ∃ Wm, (W0.alloc (.cells #[] 29)).alloc (.cells #[] 29) = Wm := ⟨_, rfl⟩
    have hbm : Below W0.heap.size W0 Wm := by rw [← hWm]; exact ((Below.refl _ _).alloc (Nat.le_refl _) _).alloc (by simp) _
    have HWm := hideIt hWm
    have HBm := hideIt hbm
    clear hWm hbm
    go_wp2_with (first
      | (at_make; rw [HWm.out]; refine wpList_make_full _ rfl _ _ 32 rfl Wm.heap.size 3 i0 _ 1 Tryd.underlying32 HI.out HZ0.out HZ1.out .i64 .i64 _ _ 3 rfl rfl rfl rfl (by rw [HZ2.out]; omega) (by unfold maxLen; omega) (Nat.le_refl _) ?_; intro w1 hown hgrow; rw [made3N] at hown; have hb1 : Below Wm.heap.size Wm w1 := (Below.refl _ _).grown hgrow (Nat.le_refl _) (fun k h => by cases h); have HO := hideIt hown; have HX1 := hideIt (blk_below HX.out (Bstep HBm.out hb1)); have HB1 := hideIt (Bstep HB0.out (Bstep HBm.out hb1)); have k0 := (blk_cell HX1.out 0).trans rfl; have k1 := (blk_cell HX1.out 1).trans rfl; have k2 := (blk_cell HX1.out 2).trans rfl; have k3 := (blk_cell HX1.out 3).trans rfl; have kf : ∀ j, w1.frozen? ⟨w.heap.size, j, none⟩ = false := (fun j => by simp [World.frozen?, HX1.out]); have kz : w.heap.size < w1.heap.size := (Array.getElem?_eq_some_iff.1 HX1.out).1; clear hown hgrow hb1))
    obtain ⟨hI, hbM⟩ := own3N HO.out
    have hne : w.heap.size ≠ Wm.heap.size := by have := HBm.out.size; omega
    have hb9 : ((((w1.setCell ⟨w.heap.size, 0, none⟩ (.int .i64 r)).setCell ⟨w.heap.size, 1, none⟩ (.slice (some ⟨W0.heap.size, 0, none⟩) 0 0)).setCell ⟨w.heap.size, 2, none⟩ (.slice (some ⟨W0.heap.size + 1, 0, none⟩) 0 0)).setCell ⟨w.heap.size, 3, none⟩ (.slice (some ⟨Wm.heap.size, 0, none⟩) 3 3)).heap[w.heap.size]? = some (.cells #[.int .i64 r, .slice (some ⟨W0.heap.size, 0, none⟩) 0 0, .slice (some ⟨W0.heap.size + 1, 0, none⟩) 0 0, .slice (some ⟨Wm.heap.size, 0, none⟩) 3 3] 72 (0, 0)) := set_fourN HX1.out
    have v0 := (blk_cell hb9 0).trans rfl
    have v1 := (blk_cell hb9 1).trans rfl
    have v2 := (blk_cell hb9 2).trans rfl
    have v3 := (blk_cell hb9 3).trans rfl
    exact bodyPost_ret (v := .tuple #[.agg #[.int .i64 r, .slice (some ⟨W0.heap.size, 0, none⟩) 0 0, .slice (some ⟨W0.heap.size + 1, 0, none⟩) 0 0, .slice (some ⟨Wm.heap.size, 0, none⟩) 3 3], .bool true]) (by simp [results, Tryd.results46, go_sem, v0, v1, v2, v3]) rfl ⟨.inl ⟨by first | trivial | rfl, _, _, _, rfl, set_otherN (set_otherN (set_otherN (set_otherN hI hne.symm) hne.symm) hne.symm) hne.symm⟩, (((HB1.out.setCell (p := ⟨w.heap.size, 0, none⟩) (Nat.le_refl _) _).setCell (p := ⟨w.heap.size, 1, none⟩) (Nat.le_refl _) _).setCell (p := ⟨w.heap.size, 2, none⟩) (Nat.le_refl _) _).setCell (p := ⟨w.heap.size, 3, none⟩) (Nat.le_refl _) _⟩
set_option maxRecDepth 100000 in
set_option maxHeartbeats 1000000 in
theorem implNew_any (r : Int) (w : World) :
    Calls Tryd.prog 47 #[.int .i64 r] w fun e w' => ((inB r 1 3 = true ∧ ∃ C, w.heap.size ≤ C ∧ e = .returned (.tuple #[.agg #[.int .i64 r, .slice none 0 0, .slice none 0 0, .slice (some ⟨C, 0, none⟩) 3 3], .bool true]) ∧ w'.heap[C]? = some (.cells #[.int .i64 0, .int .i64 0, .int .i64 0] 3 (0, 0))) ∨
      (inB r 1 3 = false ∧ e = .returned (.tuple #[.agg #[.int .i64 0, .slice none 0 0, .slice none 0 0, .slice none 0 0], .bool false]))) ∧ Below w.heap.size w w' := by
  obtain ⟨i0, hi, hz0, hz1, hz2⟩ := info_parts infoIntN
  have HI := hideIt hi
  have HZ0 := hideIt hz0
  have HZ1 := hideIt hz1
  have HZ2 := hideIt hz2
  clear hi hz0 hz1 hz2
  cases hr : inB r 1 3
  all_goals
    have HR := hideIt hr
    clear hr
    have HB0 : Hid (Below w.heap.size w (w.alloc (.cells #[.int .i64 0, .slice none 0 0, .slice none 0 0, .slice none 0 0] 72))) := (Below.refl _ _).alloc (Nat.le_refl _) _
    have hbox : (w.alloc (.cells #[.int .i64 0, .slice none 0 0, .slice none 0 0, .slice none 0 0] 72)).heap[w.heap.size]? = some (.cells #[.int .i64 0, .slice none 0 0, .slice none 0 0, .slice none 0 0] 72 (0, 0)) := World.alloc_heap_new _ _
    have HX := hideIt hbox
    clear hbox
    go_enter Tryd.func47, Tryd.ntmps47
    go_wp2_with fail
    refine (repE_any _ _).mono ?_
    rintro e w' ⟨rfl, hw⟩
    rw [hw, HR.out]
    clear hw
    generalize w.alloc (.cells #[.int .i64 0, .slice none 0 0, .slice none 0 0, .slice none 0 0] 72) = W0 at *
    have hz0 := (Array.getElem?_eq_some_iff.1 HX.out).1
    have k0 := (blk_cell HX.out 0).trans rfl
    have k1 := (blk_cell HX.out 1).trans rfl
    have k2 := (blk_cell HX.out 2).trans rfl
    have k3 := (blk_cell HX.out 3).trans rfl
    have kf : ∀ j, W0.frozen? ⟨w.heap.size, j, none⟩ = false := fun j => by simp [World.frozen?, HX.out]
  · go_wp2
    have hb9 : ((((W0.setCell ⟨w.heap.size, 0, none⟩ (.int .i64 0)).setCell ⟨w.heap.size, 1, none⟩ (.slice none 0 0)).setCell ⟨w.heap.size, 2, none⟩ (.slice none 0 0)).setCell ⟨w.heap.size, 3, none⟩ (.slice none 0 0)).heap[w.heap.size]? = some (.cells #[.int .i64 0, .slice none 0 0, .slice none 0 0, .slice none 0 0] 72 (0, 0)) := set_fourN HX.out
    have v0 := (blk_cell hb9 0).trans rfl
    have v1 := (blk_cell hb9 1).trans rfl
    have v2 := (blk_cell hb9 2).trans rfl
    have v3 := (blk_cell hb9 3).trans rfl
    exact bodyPost_ret (v := .tuple #[.agg #[.int .i64 0, .slice none 0 0, .slice none 0 0, .slice none 0 0], .bool false]) (by simp [results, Tryd.results47, go_sem, v0, v1, v2, v3]) rfl ⟨.inr ⟨by first | trivial | rfl, rfl⟩, (((HB0.out.setCell (p := ⟨w.heap.size, 0, none⟩) (Nat.le_refl _) _).setCell (p := ⟨w.heap.size, 1, none⟩) (Nat.le_refl _) _).setCell (p := ⟨w.heap.size, 2, none⟩) (Nat.le_refl _) _).setCell (p := ⟨w.heap.size, 3, none⟩) (Nat.le_refl _) _⟩
  · clear k0 k1 k2 k3 kf
    go_wp2_with (first
      | (at_make; refine wpList_make_full _ rfl _ _ 32 rfl W0.heap.size 3 i0 _ 1 Tryd.underlying32 HI.out HZ0.out HZ1.out .i64 .i64 _ _ 3 rfl rfl rfl rfl (by rw [HZ2.out]; omega) (by unfold maxLen; omega) (Nat.le_refl _) ?_; intro w1 hown hgrow; rw [made3N] at hown; have hb1 : Below W0.heap.size W0 w1 := (Below.refl _ _).grown hgrow (Nat.le_refl _) (fun k h => by cases h); have HO := hideIt hown; have HX1 := hideIt (blk_below HX.out hb1); have HB1 := hideIt (Bstep HB0.out hb1); have k0 := (blk_cell HX1.out 0).trans rfl; have k1 := (blk_cell HX1.out 1).trans rfl; have k2 := (blk_cell HX1.out 2).trans rfl; have k3 := (blk_cell HX1.out 3).trans rfl; have kf : ∀ j, w1.frozen? ⟨w.heap.size, j, none⟩ = false := (fun j => by simp [World.frozen?, HX1.out]); have kz : w.heap.size < w1.heap.size := (Array.getElem?_eq_some_iff.1 HX1.out).1; clear hown hgrow hb1))
    obtain ⟨hI, hbM⟩ := own3N HO.out
    have hne : w.heap.size ≠ W0.heap.size := by omega
    have hb9 : ((((w1.setCell ⟨w.heap.size, 0, none⟩ (.int .i64 r)).setCell ⟨w.heap.size, 1, none⟩ (.slice none 0 0)).setCell ⟨w.heap.size, 2, none⟩ (.slice none 0 0)).setCell ⟨w.heap.size, 3, none⟩ (.slice (some ⟨W0.heap.size, 0, none⟩) 3 3)).heap[w.heap.size]? = some (.cells #[.int .i64 r, .slice none 0 0, .slice none 0 0, .slice (some ⟨W0.heap.size, 0, none⟩) 3 3] 72 (0, 0)) := set_fourN HX1.out
    have v0 := (blk_cell hb9 0).trans rfl
    have v1 := (blk_cell hb9 1).trans rfl
    have v2 := (blk_cell hb9 2).trans rfl
    have v3 := (blk_cell hb9 3).trans rfl
    exact bodyPost_ret (v := .tuple #[.agg #[.int .i64 r, .slice none 0 0, .slice none 0 0, .slice (some ⟨W0.heap.size, 0, none⟩) 3 3], .bool true]) (by simp [results, Tryd.results47, go_sem, v0, v1, v2, v3]) rfl ⟨.inl ⟨by first | trivial | rfl, _, by omega, rfl, set_otherN (set_otherN (set_otherN (set_otherN hI hne.symm) hne.symm) hne.symm) hne.symm⟩, (((HB1.out.setCell (p := ⟨w.heap.size, 0, none⟩) (Nat.le_refl _) _).setCell (p := ⟨w.heap.size, 1, none⟩) (Nat.le_refl _) _).setCell (p := ⟨w.heap.size, 2, none⟩) (Nat.le_refl _) _).setCell (p := ⟨w.heap.size, 3, none⟩) (Nat.le_refl _) _⟩
end Go.Proofs.YtedanlmippfojaaDoor

namespace Go.Proofs.YtedanlmippfojaaDoor
open Go.RowKit
set_option linter.unusedSimpArgs false
set_option linter.unusedVariables false
attribute [local go_sem ↓] Go.wp_at_zero Go.wp_at_succ

theorem ltNone_any (p q : Option Addr) (c d : Nat) (w : World) :
    Calls Tryd.prog 30 #[.slice p 0 c, .slice q 0 d] w fun e w' => e = .returned (.bool true) ∧ w' = w := by
  go_enter Tryd.func30, Tryd.ntmps30
  go_wp2
  refine wp_loop_rounds 1 ?_
  rw [rounds_succ]
  go_wp2
  go_ret
  exact ⟨rfl, rfl⟩
theorem ltI0_any (w : World) :
    Calls Tryd.prog 52 #[.slice none 0 0, .slice none 0 0] w fun e w' => e = .returned (.bool true) ∧ Below w.heap.size w w' := by
  go_enter Tryd.func52, Tryd.ntmps52
  go_wp2
  refine wp_loop_rounds 1 ?_
  rw [rounds_succ]
  go_wp2
  go_ret
  exact ⟨rfl, Below.refl _ _⟩
set_option maxHeartbeats 1000000 in
theorem ltI3_any (C D : Nat) (w : World) (h1 : IntsAt w C [0, 0, 0]) (h2 : IntsAt w D [0, 0, 0]) :
    Calls Tryd.prog 52 #[.slice (some ⟨C, 0, none⟩) 3 3, .slice (some ⟨D, 0, none⟩) 3 3] w fun e w' => e = .returned (.bool true) ∧ Below w.heap.size w w' := by
  have H1 := hideIt h1
  have H2 := hideIt h2
  clear h1 h2
  go_enter Tryd.func52, Tryd.ntmps52
  go_wp2
  go_loopw [5] (fun i wr => ∃ k : Nat, k ≤ 3 ∧ i = .int .i64 k ∧ Below w.heap.size w wr) (fun i _ => 3 - (intOf i).toNat)
  case atStart => exact ⟨0, Nat.zero_le _, rfl, by go_grown⟩
  case round =>
    obtain ⟨k, hk, rfl, hB⟩ := hrel
    have HB := hideIt hB
    by_cases hlt : k < 3
    · have e0 : ([0, 0, 0] : List Int)[k]? = some 0 := by
        have h3 : k = 0 ∨ k = 1 ∨ k = 2 := by omega
        rcases h3 with rfl | rfl | rfl <;> rfl
      have y0 := (H1.out.below hB H1.out.1).2 k 0 e0
      have z0 := (H2.out.below hB H2.out.1).2 k 0 e0
      have hlt' : (k : Int) < 3 := by omega
      have hk0 : (0 : Int) ≤ (k : Int) := by omega
      clear hB e0
      go_wp2
      go_quiet (fail)
      go_wp2
      exact ⟨⟨k + 1, by omega, by go_num, below_drewN HB.out _⟩, by simp [intOf]; omega⟩
    · have hk3 : k = 3 := by omega
      subst hk3
      clear hB
      go_wp2
      go_ret
      exact ⟨rfl, HB.out⟩
theorem ltDocN_any (p q p' q' : Option Addr) (c d c' d' : Nat) (w : World) :
    Calls Tryd.prog 91 #[.agg #[.slice p 0 c, .slice q 0 d], .agg #[.slice p' 0 c', .slice q' 0 d']] w fun e w' => e = .returned (.bool true) ∧ Below w.heap.size w w' := by
  go_enter Tryd.func91, Tryd.ntmps91
  go_wp2_with (first | (go_at_call 30; refine (ltNone_any _ _ _ _ _).mono ?_; rintro e w' ⟨rfl, hw⟩; rw [hw]; clear hw))
  go_ret
  exact ⟨rfl, by go_grown⟩
/-- Two rows of numbers that are both nothing, or both three noughts. -/
def ZeroQ (w : World) (v u : Value) : Prop := (v = .slice none 0 0 ∧ u = .slice none 0 0) ∨ ∃ C D, v = .slice (some ⟨C, 0, none⟩) 3 3 ∧ u = .slice (some ⟨D, 0, none⟩) 3 3 ∧ IntsAt w C [0, 0, 0] ∧ IntsAt w D [0, 0, 0]
theorem ZeroQ.below {w w' : World} {v u : Value} (h : ZeroQ w v u) (hb : Below w.heap.size w w') : ZeroQ w' v u := by
  rcases h with h | ⟨C, D, h1, h2, h3, h4⟩
  · exact .inl h
  · exact .inr ⟨C, D, h1, h2, h3.below hb h3.1, h4.below hb h4.1⟩
theorem ltI_any (v u : Value) (w : World) (h : ZeroQ w v u) :
    Calls Tryd.prog 52 #[v, u] w fun e w' => e = .returned (.bool true) ∧ Below w.heap.size w w' := by
  rcases h with ⟨rfl, rfl⟩ | ⟨C, D, rfl, rfl, h3, h4⟩
  · exact ltI0_any w
  · exact ltI3_any C D w h3 h4
set_option maxHeartbeats 1000000 in
theorem ltDeskN_any (r : Int) (p q p' q' : Option Addr) (c d c' d' : Nat) (v u : Value) (w : World) (h : ZeroQ w v u) :
    Calls Tryd.prog 48 #[.agg #[.int .i64 r, .slice p 0 c, .slice q 0 d, v], .agg #[.int .i64 r, .slice p' 0 c', .slice q' 0 d', u]] w fun e w' => e = .returned (.bool true) ∧ Below w.heap.size w w' := by
  have H := hideIt h
  clear h
  have hv : ∃ P n c, v = .slice P n c := by rcases H.out with ⟨h, _⟩ | ⟨C, _, h, _⟩ <;> exact ⟨_, _, _, h⟩
  have hu : ∃ P n c, u = .slice P n c := by rcases H.out with ⟨_, h⟩ | ⟨_, C, _, h, _⟩ <;> exact ⟨_, _, _, h⟩
  obtain ⟨Pv, nv, cv, rfl⟩ := hv
  obtain ⟨Pu, nu, cu, rfl⟩ := hu
  go_enter Tryd.func48, Tryd.ntmps48
  go_wp2_with fail
  have HB0 : Hid (Below w.heap.size w ((w.alloc (.cells #[.int .i64 r, .slice p 0 c, .slice q 0 d, .slice Pv nv cv] 72)).alloc (.cells #[.int .i64 r, .slice p' 0 c', .slice q' 0 d', .slice Pu nu cu] 72))) := ((Below.refl _ _).alloc (Nat.le_refl _) _).alloc (by simp) _
  refine (ltDocN_any _ _ _ _ _ _ _ _ _).mono ?_
  rintro e w1 ⟨rfl, hb1⟩
  have HB1 := hideIt (Bstep HB0.out hb1)
  have hc : ∀ b o, b < w.heap.size + 2 → w1.cell? ⟨b, o, none⟩ = _ := fun b o h => (bcell hb1).1 b o (by simp; omega)
  have x3 := hc w.heap.size 3 (by omega)
  have y3 := hc (w.heap.size + 1) 3 (by omega)
  simp [go_sem] at x3 y3
  clear hb1 hc
  go_wp2_with (first | (go_at_call 52; refine (ltI_any _ _ _ (H.out.below HB1.out)).mono ?_; rintro e w2 ⟨rfl, hb2⟩; have HB2 := hideIt (Bstep HB1.out hb2); clear hb2))
  go_ret
  exact ⟨rfl, HB2.out⟩
end Go.Proofs.YtedanlmippfojaaDoor

namespace Go.Proofs.YtedanlmippfojaaDoor
open Go.RowKit Go.Shelf
set_option linter.unusedSimpArgs false
set_option linter.unusedVariables false
attribute [local go_sem] Oper.semAt_some

set_option maxRecDepth 100000 in
set_option maxHeartbeats 2000000 in
theorem implTxtN_in (l : List Op7) (hL0 : l = []) (n : Nat) (h3 : 3 ≤ n) (x : Addr) (w : World)
    (he : w.cell? ⟨0, 0, none⟩ = some (.iface 203 (.pointer (some x)))) (h0 : 0 < w.heap.size) :
    CallsIn Fence.wide n Tryd.prog 23 #[.slice none 0 0] w fun e w' => e = .returned (.string (txtB (shown (lfs l (standL l))))) ∧ Below w.heap.size w w' := by
  have HN := hideIt hL0
  have hn : l.length ≤ 1048576 := by rw [hL0]; simp
  have h1 : 1 ≤ n := by omega
  clear hL0
  refine callsIn_of_wp_marks Tryd.func23 rfl trivial ?_ rfl
  simp only [Tryd.ntmps23, List.size_toArray, List.length_cons, List.length_nil, Nat.reduceAdd, Nat.reduceSub, Array.replicate_succ, Array.replicate_zero, List.push_toArray, List.append_toArray, List.nil_append, List.cons_append]
  gi_wp2
  refine ⟨trivial, ?_⟩
  refine (callsIn_wide.2 (treeOf_nil l HN.out x _ he h0)).mono ?_
  rintro e w1 ⟨(⟨ht, b1, b2, b3, base, rfl, hT⟩ | ⟨ht, rfl⟩), hb1⟩
  all_goals
    have HO := hideIt ht
    have HB1 := hideIt hb1
    have herr1 : w1.cell? ⟨0, 0, none⟩ = some (.iface 203 (.pointer (some x))) := errB HB1.out h0 he
    have hp1 : 0 < w1.heap.size := posB HB1.out h0
    clear ht hb1
  · have HTT := hideIt hT
    have HE : Hid (standL l = allO l) := by show standL l = allO l; unfold standL; rw [HO.out]; rfl
    clear hT
    gi_wp2
    refine ⟨trivial, ?_⟩
    refine (callsIn_wide.2 (is_nil x _)).mono ?_
    rintro e w'' ⟨rfl, rfl⟩
    gi_wp2
    refine ⟨trivial, ?_⟩
    refine (callsIn_wide.2 (leaves_any _ _ _ _ ⟨rfl, rfl, rfl⟩ b1 b2 b3 ⟨rfl, rfl, rfl⟩)).mono ?_
    rintro e w2 ⟨rfl, rfl⟩
    gi_wp2
    obtain ⟨Wb, hWb⟩ : ∃ Wb, (((w1.alloc (.cells #[.map (some b1), .map (some b2), .map (some b3)] 107)).alloc (.cells #[.slice none 0 0] 22)).alloc (.cells #[.map (some b1), .map (some b2), .map (some b3)] 107)) = Wb := ⟨_, rfl⟩
    have hsz : Wb.heap.size = w1.heap.size + 1 + 1 + 1 := by rw [← hWb]; simp
    have hBw : Below w1.heap.size w1 Wb := by rw [← hWb]; exact (((Below.refl _ _).alloc (Nat.le_refl _) _).alloc (by simp) _).alloc (by simp; omega) _
    have hbox : Boxed Wb (w1.heap.size + 1) 22 (.slice none 0 0) := by
      rw [← hWb]
      have h := Boxed.new (w1.alloc (.cells #[.map (some b1), .map (some b2), .map (some b3)] 107)) 22 (.slice none 0 0)
      rw [World.size_alloc] at h
      exact h.alloc _
    have hblk : Wb.heap[w1.heap.size + 1 + 1]? = some (.cells #[.map (some b1), .map (some b2), .map (some b3)] 107 (0, 0)) := by
      rw [← hWb]
      have h := World.alloc_heap_new ((w1.alloc (.cells #[.map (some b1), .map (some b2), .map (some b3)] 107)).alloc (.cells #[.slice none 0 0] 22)) (.cells #[.map (some b1), .map (some b2), .map (some b3)] 107)
      rw [World.size_alloc, World.size_alloc] at h
      exact h
    rw [hWb]
    have HSQ := hideIt (leaves_stops l HO.out hn w1 b1 b2 b3 base HTT.out (n - 1) (w1.heap.size + 1 + 1) Wb hBw hblk)
    have hlen : (allO l).length ≤ 1048576 := Nat.le_trans (all_len HO.out) hn
    obtain ⟨i0, hi, hz0, hz1, hz2⟩ := info_parts infoU8
    have HI1 := hideIt hi
    have HZ0 := hideIt hz0
    have HZ1 := hideIt hz1
    have HZ2 := hideIt hz2
    clear hi hz0 hz1 hz2 HTT HN hWb hblk he herr1
    generalize hBt : w1.heap.size + 1 + 1 = Bt at *
    generalize hQ : w1.heap.size + 1 = Q1 at *
    generalize hn1 : w1.heap.size = n1 at *
    refine wpIn_rangeFunc_ownH rfl h1 (gf := 118) (lb := #[.pointer (some ⟨Bt, 0, none⟩)]) rfl trivial (enters_of Tryd.func118 (by kernel_rfl) rfl) HSQ.out
      (fun h k => h.trans k) (kpT_b (by omega)) (Below.refl _ _) (fun _ => rfl)
      (fun pre W => (∃ v, Boxed W Q1 22 v ∧ W.ownsRow n1 5 1 v (shown pre).length ((shown pre).map (.int .u8)) ∧ True) ∧ Below n1 w1 W)
      (fun _ _ _ => False)
      (OwnFrom.and (Own.from (holdsRow_own n1 Q1 22 5 1 (fun pre : List Lf => (shown pre).length) (fun pre => (shown pre).map (.int .u8)) (fun _ _ => True)) _) (ownFrom_below (by omega) (by omega)))
      (fun _ _ _ _ _ hs _ _ => hs)
      ⟨⟨_, hbox, World.ownsRow_nil _ _ _ _, trivial⟩, hBw⟩
      (fun x' a' W => ∃ Bx, Q1 + 1 ≤ Bx ∧ W.heap[Bx]? = some (.cells #[.int .i64 x'.a, .int .i64 x'.b, .int .i64 x'.g, .bool x'.z] 44 (0, 0)) ∧ a' =
        { tmps := #[Value.slice none 0 0, undef, Value.string { data := #[] },
          Value.pointer (some { block := n1, off := 0 }), Value.nilIface,
          Value.pointer (some { block := Q1, off := 0 }), Value.pointer (some { block := Bx, off := 0 }),
          Value.tuple #[Value.agg #[Value.map (some b1), Value.map (some b2), Value.map (some b3)], Value.nilIface],
          Value.slice none 0 0,
          Value.tuple #[Value.agg #[Value.map (some b1), Value.map (some b2), Value.map (some b3)], Value.nilIface],
          Value.agg #[Value.map (some b1), Value.map (some b2), Value.map (some b3)], Value.nilIface, Value.nilIface,
          Value.iface 203 (Value.pointer (some x)), Value.bool false,
          Value.agg #[Value.map (some b1), Value.map (some b2), Value.map (some b3)],
          Value.func (Fn.func 118) #[] #[Value.pointer (some { block := Bt, off := 0 })], lfV x', undef,
          undef, undef, undef, undef, undef, undef, undef, undef, undef, undef], defers := [] })
      ?hAx ?assign ?body ?done ?stop
    case hAx =>
      rintro x' a' _ A B row ⟨Bx, hb, hx, ha⟩ hg hr
      exact ⟨Bx, hb, (hg.block Bx (Array.getElem?_eq_some_iff.1 hx).1 (fun e => by obtain ⟨_, o, ho, hc⟩ := hr Bx e.symm; rw [hx] at ho; cases ho; cases hc)).trans hx, ha⟩
    case assign =>
      rintro lp pre x' W K ⟨⟨v, bv, hrow, _⟩, hBl⟩ hK
      unfold lfV
      gi_wp2
      exact hK _ _ ((KeepsOthers.alloc _ _).from _) (KpT.of_below (by have := hBl.size; omega) ((Below.refl _ _).alloc (Nat.le_refl _) _)) ⟨⟨v, bv.alloc _, hrow.alloc _, trivial⟩, hBl.alloc (by have := hBl.size; omega) _⟩ ⟨W.heap.size, by have := bv.lt; omega, World.alloc_heap_new _ _, rfl⟩
    case body =>
      rintro lp pre x' a' W hl ⟨rr, hr⟩ ⟨⟨v, bv, hrow, _⟩, hBl⟩ ⟨Bx, hbx, hx, rfl⟩ hlt
      have hc := bv.cell
      have x0 := (blk_cell hx 0).trans rfl
      have x1 := (blk_cell hx 1).trans rfl
      have x2 := (blk_cell hx 2).trans rfl
      have x3 := (blk_cell hx 3).trans rfl
      have HRW := hideIt hrow
      have HBL := hideIt hBl
      have HBV := hideIt bv
      have hwl : n1 ≤ W.heap.size := by have := hBl.size; omega
      have hsl : (shown pre).length ≤ 1048576 := Nat.le_trans (shown_len _) (by omega)
      have hgone : Hid (x'.z = true → shown (pre ++ [x']) = shown pre) := shown_gone
      have hthere : Hid (x'.z = false → shown (pre ++ [x']) = shown pre ++ [x'.g % 256]) := shown_there
      have HX := hideIt hx
      clear hrow hBl hr hx
      generalize x'.a = xa at *
      generalize x'.b = xb at *
      generalize hxg : x'.g = xg at *
      generalize hxz : x'.z = xz at *
      cases xz
      · have hth := hideIt (hthere.out rfl)
        clear hgone hthere
        gi_wp2_with (first
          | (gi_at_builtin; refine wpListIn_append_own _ rfl _ _ 22 rfl n1 5 i0 _ 1 1 Tryd.underlying22 HI1.out HZ0.out HZ1.out HZ2.out rfl (by decide) _ _ _ rfl (HRW.out.alloc _) ⟨W.heap.size, 0, none⟩ 1 1 [.int .u8 (xg % 256)] rfl rfl (cells_new W [.int .u8 (xg % 256)] 5) (by intro u hu; simp at hu; subst hu; rfl) (by unfold maxLen; omega) (by omega) (by simp; omega) ?_; intro v' w2 hown' hgrow _; obtain ⟨g', cap', rfl⟩ := ownsRow_succ hown'; obtain ⟨hv1, hv2, hr2, hk2, hb2⟩ := HBV.out.appended (by decide) HRW.out hwl (by omega) hown' hgrow; have hc1 := hv1.cell; have hf1 := hv1.frozen;
              have HKP : Hid (KpT n1 W (w2.setCell ⟨Q1, 0, none⟩ (.slice (some ⟨g', 0, none⟩) ((shown pre).length + 1) cap'))) := (KpT.of_below (by omega) ((Below.refl _ _).alloc (Nat.le_refl _) _)).trans ((kpT_row (by simp; omega) hgrow (fun j e => ⟨(HRW.out.lt j e).1, own_type (HRW.out.alloc _) e (by decide)⟩)).trans (kpT_row (by have := hgrow.size; simp at this; omega) (grownBy_setCell' _ _ _) (fun j e => by cases e; exact ⟨by omega, _, _, _, hv1, by decide⟩)));
              have HV2 := hideIt hv2; have HR2 := hideIt hr2; have HK2 := hideIt hk2; have HB2 := hideIt hb2; clear hv2 hr2 hk2 hb2 hv1 hown' hgrow)
          | gi_in)
        exact ⟨HK2.out.from _, HKP.out, ⟨_, HV2.out, by rw [hth.out, List.length_append, List.map_append]; exact HR2.out, trivial⟩, HBL.out.trans HB2.out⟩
      · have hgo := hideIt (hgone.out rfl)
        clear hgone hthere
        gi_wp2
        exact ⟨(KeepsOthers.refl _).from _, KpT.refl _ _, ⟨_, HBV.out, by rw [hgo.out]; exact HRW.out, trivial⟩, HBL.out⟩
    case done =>
      rintro D ys W hD rfl ⟨⟨v, bv, hrow, _⟩, hBl⟩ hK
      have hc := bv.cell
      have hrow' := hrow
      rw [hsz] at hD
      have hcv : Hid (∀ v', v' = v → (convert 22 9 v').run Tryd.prog W = .ok (.string (txtB (shown (lfs l (allO l))))) W) := by
        show ∀ v', v' = v → _
        rintro _ rfl
        exact conv_row hrow
      rcases hrow.2 with ⟨rfl, hz⟩ | ⟨g', cap', cur', rfl, hrest⟩
      all_goals
        have kc := hcv.out _ rfl
        generalize hTT : txtB (shown (lfs l (allO l))) = TT at *
        gi_wp2
        refine ⟨by simp, .inl ⟨_, _, rfl, run_takeDeferred hK, ?_⟩⟩
        exact ⟨_, results_tmp rfl _ _ _, by rw [HE.out, hTT]; rfl, Bstep HB1.out (hn1.symm ▸ hBl.trans (belowK_b (w := Wb) (by omega) W D _ _ (by omega) hK rfl rfl))⟩
    case stop =>
      rintro D c pre W _ _ h _
      exact h.elim
  · have HE : Hid (standL l = []) := by show standL l = []; unfold standL; rw [HO.out]; rfl
    gi_wp2
    refine ⟨trivial, ?_⟩
    refine (callsIn_wide.2 (is_same x _)).mono ?_
    rintro e w'' ⟨rfl, rfl⟩
    gi_wp2
    rw [HE.out]
    exact ⟨_, results_tmp rfl _ _ _, rfl, HB1.out.alloc HB1.out.size _⟩
theorem implTxt_nil (l : List Op7) (hL0 : l = []) (x : Addr) (w : World)
    (he : w.cell? ⟨0, 0, none⟩ = some (.iface 203 (.pointer (some x)))) (h0 : 0 < w.heap.size) :
    Calls Tryd.prog 23 #[.slice none 0 0] w fun e w' => e = .returned (.string (txtB (shown (lfs l (standL l))))) ∧ Below w.heap.size w w' :=
  callsIn_wide.1 (implTxtN_in l hL0 3 (Nat.le_refl _) x w he h0)
end Go.Proofs.YtedanlmippfojaaDoor

namespace Go.Proofs.YtedanlmippfojaaDoor
open Go.RowKit
set_option linter.unusedSimpArgs false
set_option linter.unusedVariables false
attribute [local go_sem ↓] Go.wp_at_zero Go.wp_at_succ

set_option maxRecDepth 100000 in
set_option maxHeartbeats 4000000 in
theorem walkDeskNew (w : World) (p : Option Addr) (n cap : Nat) (h : ArgBytes w p n) (hcap : n ≤ cap) (hmax : cap ≤ maxLen) (x : Addr)
    (he : w.cell? ⟨0, 0, none⟩ = some (.iface 203 (.pointer (some x)))) (h0 : 0 < w.heap.size) :
    Calls Tryd.prog 13 #[.slice p n cap] w fun e w' => e = .returned (.bool true) ∧ Below w.heap.size w w' := by
  have H := hideIt h
  clear h
  unfold maxLen at *
  by_cases hn : n ≤ 1048576
  · go_enter Tryd.func13, Tryd.ntmps13
    go_wp2_with fail
    refine (drawNew_any _ p n cap H.out hcap hn).mono ?_
    rintro e w0 ⟨⟨r, rfl, hr1, hr2⟩, hb0⟩
    have HB0 := hideIt hb0
    clear hb0
    go_wp2_with fail
    refine (specNew_any r _).mono ?_
    rintro e w1 ⟨(⟨hr, M, N, C, rfl, hI⟩ | ⟨hr, rfl⟩), hb1⟩
    all_goals
      have HR := hideIt hr
      have HB1 := hideIt (Bstep HB0.out hb1)
      clear hr hb1 HB0
    · have HI := hideIt hI
      clear hI
      go_wp2_with fail
      have HBa : Hid (Below w1.heap.size w1 (w1.alloc (.cells #[.int .i64 r, .slice (some ⟨M, 0, none⟩) 0 0, .slice (some ⟨N, 0, none⟩) 0 0, .slice (some ⟨C, 0, none⟩) 3 3] 72))) := (Below.refl _ _).alloc (Nat.le_refl _) _
      refine (implNew_any r _).mono ?_
      rintro e w3 ⟨(⟨_, D, hD, rfl, hJ⟩ | ⟨hf, _⟩), hb3⟩
      rotate_left
      · rw [HR.out] at hf; cases hf
      have HI3 := hideIt (blk_below (blk_below HI.out HBa.out) hb3)
      have HJ3 := hideIt hJ
      have HB3 := hideIt (Bstep (Bstep HB1.out HBa.out) hb3)
      have hA : w3.heap[w1.heap.size]? = some (.cells #[.int .i64 r, .slice (some ⟨M, 0, none⟩) 0 0, .slice (some ⟨N, 0, none⟩) 0 0, .slice (some ⟨C, 0, none⟩) 3 3] 72 (0, 0)) := blk_below (World.alloc_heap_new _ _) hb3
      have HA3 := hideIt hA
      clear hJ hb3 HI HBa HB1 hA
      generalize hAA : w1.heap.size = A at *
      clear hAA
      have hlC := (Array.getElem?_eq_some_iff.1 HA3.out).1
      have x0 := (blk_cell HA3.out 0).trans rfl
      have x1 := (blk_cell HA3.out 1).trans rfl
      have x2 := (blk_cell HA3.out 2).trans rfl
      have x3 := (blk_cell HA3.out 3).trans rfl
      go_wp2_with fail
      clear x0 x1 x2 x3 hlC
      have hba : Below w3.heap.size w3 (w3.alloc (.cells #[.int .i64 r, .slice none 0 0, .slice none 0 0, .slice (some ⟨D, 0, none⟩) 3 3] 72)) := (Below.refl _ _).alloc (Nat.le_refl _) _
      have HBB : Hid ((w3.alloc (.cells #[.int .i64 r, .slice none 0 0, .slice none 0 0, .slice (some ⟨D, 0, none⟩) 3 3] 72)).heap[w3.heap.size]? = some (.cells #[.int .i64 r, .slice none 0 0, .slice none 0 0, .slice (some ⟨D, 0, none⟩) 3 3] 72 (0, 0))) := World.alloc_heap_new _ _
      have HI4 := hideIt (i3_ints (blk_below HI3.out hba))
      have HJ4 := hideIt (i3_ints (blk_below HJ3.out hba))
      have HB4 := hideIt (Bstep HB3.out hba)
      clear hba HA3 HI3 HJ3 HB3
      generalize w3.alloc (.cells #[.int .i64 r, .slice none 0 0, .slice none 0 0, .slice (some ⟨D, 0, none⟩) 3 3] 72) = W4 at *
      generalize w3.heap.size = B at *
      refine (ltDeskN_any r none none _ _ 0 0 _ _ _ _ _ (.inr ⟨D, C, rfl, rfl, HJ4.out, HI4.out⟩)).mono ?_
      rintro e w5 ⟨rfl, hb5⟩
      have HBB5 := hideIt (blk_below HBB.out hb5)
      have HJ5 := hideIt (HJ4.out.below hb5 HJ4.out.1)
      have HB5 := hideIt (Bstep HB4.out hb5)
      clear hb5 HBB HI4 HJ4 HB4
      have hlB := (Array.getElem?_eq_some_iff.1 HBB5.out).1
      have y0 := (blk_cell HBB5.out 0).trans rfl
      have y1 := (blk_cell HBB5.out 1).trans rfl
      have y2 := (blk_cell HBB5.out 2).trans rfl
      have y3 := (blk_cell HBB5.out 3).trans rfl
      go_wp2_with fail
      refine (pushNil_any r HR.out D x _ HJ5.out (errB HB5.out h0 he) (posB HB5.out h0)).mono ?_
      rintro e w6 ⟨rfl, hb6⟩
      have HBB6 := hideIt (blk_below HBB5.out hb6)
      have HJ6 := hideIt (HJ5.out.below hb6 HJ5.out.1)
      have HB6 := hideIt (Bstep HB5.out hb6)
      clear hb6 HBB5 HJ5 HB5 y0 y1 y2 y3 hlB
      have hlB := (Array.getElem?_eq_some_iff.1 HBB6.out).1
      have y0 := (blk_cell HBB6.out 0).trans rfl
      have y1 := (blk_cell HBB6.out 1).trans rfl
      have y2 := (blk_cell HBB6.out 2).trans rfl
      have y3 := (blk_cell HBB6.out 3).trans rfl
      go_wp2_with fail
      have hba : Below w6.heap.size w6 (w6.alloc (.cells #[.int .i64 0, .int .i64 0, .slice none 0 0, .slice none 0 0] 77)) := (Below.refl _ _).alloc (Nat.le_refl _) _
      have HBB6 := hideIt (blk_below HBB6.out hba)
      have HJ6 := hideIt (HJ6.out.below hba HJ6.out.1)
      have HB6 := hideIt (Bstep HB6.out hba)
      clear hba
      generalize w6.alloc (.cells #[.int .i64 0, .int .i64 0, .slice none 0 0, .slice none 0 0] 77) = W6 at *
      refine (pullNil_any r HR.out D x _ HJ6.out (errB HB6.out h0 he) (posB HB6.out h0)).mono ?_
      rintro e w7 ⟨⟨G, hG, rfl, hK⟩, hb7⟩
      have HBB7 := hideIt (blk_below HBB6.out hb7)
      have HJ7 := hideIt (HJ6.out.below hb7 HJ6.out.1)
      have HK7 := hideIt hK
      have HB7 := hideIt (Bstep HB6.out hb7)
      clear hb7 hK HBB6 HJ6 HB6 y0 y1 y2 y3 hlB
      have hlB := (Array.getElem?_eq_some_iff.1 HBB7.out).1
      have y0 := (blk_cell HBB7.out 0).trans rfl
      have y1 := (blk_cell HBB7.out 1).trans rfl
      have y2 := (blk_cell HBB7.out 2).trans rfl
      have y3 := (blk_cell HBB7.out 3).trans rfl
      go_wp2_with fail
      have hba : Below w7.heap.size w7 (w7.alloc (.cells #[.int .i64 1, .int .i64 r, .slice (some ⟨G, 0, none⟩) 3 3, .slice none 0 0] 77)) := (Below.refl _ _).alloc (Nat.le_refl _) _
      have HBB8 := hideIt (blk_below HBB7.out hba)
      have HX8 : Hid ((w7.alloc (.cells #[.int .i64 1, .int .i64 r, .slice (some ⟨G, 0, none⟩) 3 3, .slice none 0 0] 77)).heap[w7.heap.size]? = some (.cells #[.int .i64 1, .int .i64 r, .slice (some ⟨G, 0, none⟩) 3 3, .slice none 0 0] 77 (0, 0))) := World.alloc_heap_new _ _
      have HJ8 := hideIt (HJ7.out.below hba HJ7.out.1)
      have HK8 := hideIt (HK7.out.below hba HK7.out.1)
      have HB8 := hideIt (Bstep HB7.out hba)
      clear hba HBB7 HJ7 HK7 HB7 y0 y1 y2 y3 hlB
      generalize w7.alloc (.cells #[.int .i64 1, .int .i64 r, .slice (some ⟨G, 0, none⟩) 3 3, .slice none 0 0] 77) = W8 at *
      generalize w7.heap.size = E at *
      refine (deskNil_any r HR.out D x _ HJ8.out (errB HB8.out h0 he) (posB HB8.out h0)).mono ?_
      rintro e w9 ⟨rfl, hb9⟩
      have HBB9 := hideIt (blk_below HBB8.out hb9)
      have HX9 := hideIt (blk_below HX8.out hb9)
      have HK9 := hideIt (HK8.out.below hb9 HK8.out.1)
      have HB9 := hideIt (Bstep HB8.out hb9)
      clear hb9 HBB8 HX8 HJ8 HK8 HB8
      have hlB := (Array.getElem?_eq_some_iff.1 HBB9.out).1
      have y0 := (blk_cell HBB9.out 0).trans rfl
      have y1 := (blk_cell HBB9.out 1).trans rfl
      have y2 := (blk_cell HBB9.out 2).trans rfl
      have y3 := (blk_cell HBB9.out 3).trans rfl
      go_wp2_with fail
      refine (implTxt_nil [] rfl x _ (errB HB9.out h0 he) (posB HB9.out h0)).mono ?_
      rintro e w10 ⟨rfl, hb10⟩
      have ht : txtB (shown (lfs [] (standL []))) = ({ data := #[] } : ByteArray) := rfl
      rw [ht]
      clear ht
      have HBB10 := hideIt (blk_below HBB9.out hb10)
      have HX10 := hideIt (blk_below HX9.out hb10)
      have HK10 := hideIt (HK9.out.below hb10 HK9.out.1)
      have HB10 := hideIt (Bstep HB9.out hb10)
      clear hb10 HBB9 HX9 HK9 HB9 y0 y1 y2 y3 hlB
      have hlB := (Array.getElem?_eq_some_iff.1 HBB10.out).1
      have y0 := (blk_cell HBB10.out 0).trans rfl
      have y1 := (blk_cell HBB10.out 1).trans rfl
      have y2 := (blk_cell HBB10.out 2).trans rfl
      have y3 := (blk_cell HBB10.out 3).trans rfl
      have hlE := (Array.getElem?_eq_some_iff.1 HX10.out).1
      have z0 := (blk_cell HX10.out 0).trans rfl
      have z1 := (blk_cell HX10.out 1).trans rfl
      have z2 := (blk_cell HX10.out 2).trans rfl
      have z3 := (blk_cell HX10.out 3).trans rfl
      go_wp2_with fail
      have hba : Below w10.heap.size w10 (w10.alloc (.cells #[.int .i64 0, .int .i64 0, .int .i64 0] 3)) := (Below.refl _ _).alloc (Nat.le_refl _) _
      have hL := i3_ints (World.alloc_heap_new w10 (.cells #[.int .i64 0, .int .i64 0, .int .i64 0] 3))
      have HBB11 := hideIt (blk_below HBB10.out hba)
      have HB11 := hideIt (Bstep HB10.out hba)
      have HK11 := hideIt (HK10.out.below hba HK10.out.1)
      clear hba HBB10 HX10 HK10 HB10 y0 y1 y2 y3 hlB hlE z0 z1 z2 z3
      refine (ltI3_any G w10.heap.size _ HK11.out hL).mono ?_
      rintro e w12 ⟨rfl, hb12⟩
      have HBB12 := hideIt (blk_below HBB11.out hb12)
      have HB12 := hideIt (Bstep HB11.out hb12)
      clear hb12 HBB11 HB11 HK11 hL
      have hlB := (Array.getElem?_eq_some_iff.1 HBB12.out).1
      have y0 := (blk_cell HBB12.out 0).trans rfl
      have y1 := (blk_cell HBB12.out 1).trans rfl
      have y2 := (blk_cell HBB12.out 2).trans rfl
      have y3 := (blk_cell HBB12.out 3).trans rfl
      go_wp2
      go_ret
      exact ⟨rfl, HB12.out⟩
    · go_wp2_with fail
      have HBa : Hid (Below w1.heap.size w1 (w1.alloc (.cells #[.int .i64 0, .slice none 0 0, .slice none 0 0, .slice none 0 0] 72))) := (Below.refl _ _).alloc (Nat.le_refl _) _
      refine (implNew_any r _).mono ?_
      rintro e w3 ⟨(⟨hf, _⟩ | ⟨_, rfl⟩), hb3⟩
      · rw [HR.out] at hf; cases hf
      have HB3 := hideIt (Bstep (Bstep HB1.out HBa.out) hb3)
      have hA : w3.heap[w1.heap.size]? = some (.cells #[.int .i64 0, .slice none 0 0, .slice none 0 0, .slice none 0 0] 72 (0, 0)) := blk_below (World.alloc_heap_new _ _) hb3
      have HA3 := hideIt hA
      clear hb3 HBa HB1 hA
      generalize hAA : w1.heap.size = A at *
      clear hAA
      have hlC := (Array.getElem?_eq_some_iff.1 HA3.out).1
      have x0 := (blk_cell HA3.out 0).trans rfl
      have x1 := (blk_cell HA3.out 1).trans rfl
      have x2 := (blk_cell HA3.out 2).trans rfl
      have x3 := (blk_cell HA3.out 3).trans rfl
      go_wp2_with fail
      clear x0 x1 x2 x3 hlC
      have hba : Below w3.heap.size w3 (w3.alloc (.cells #[.int .i64 0, .slice none 0 0, .slice none 0 0, .slice none 0 0] 72)) := (Below.refl _ _).alloc (Nat.le_refl _) _
      have HBB : Hid ((w3.alloc (.cells #[.int .i64 0, .slice none 0 0, .slice none 0 0, .slice none 0 0] 72)).heap[w3.heap.size]? = some (.cells #[.int .i64 0, .slice none 0 0, .slice none 0 0, .slice none 0 0] 72 (0, 0))) := World.alloc_heap_new _ _
      have HA4 := hideIt (blk_below HA3.out hba)
      have HB4 := hideIt (Bstep HB3.out hba)
      clear hba HA3 HB3
      generalize w3.alloc (.cells #[.int .i64 0, .slice none 0 0, .slice none 0 0, .slice none 0 0] 72) = W4 at *
      generalize w3.heap.size = B at *
      refine (ltDeskN_any 0 none none none none 0 0 0 0 _ _ _ (.inl ⟨rfl, rfl⟩)).mono ?_
      rintro e w5 ⟨rfl, hb5⟩
      have HA5 := hideIt (blk_below HA4.out hb5)
      have HBB5 := hideIt (blk_below HBB.out hb5)
      have HB5 := hideIt (Bstep HB4.out hb5)
      clear hb5 HA4 HBB HB4
      have hlA := (Array.getElem?_eq_some_iff.1 HA5.out).1
      have hlB := (Array.getElem?_eq_some_iff.1 HBB5.out).1
      have x0 := (blk_cell HA5.out 0).trans rfl
      have x1 := (blk_cell HA5.out 1).trans rfl
      have x2 := (blk_cell HA5.out 2).trans rfl
      have x3 := (blk_cell HA5.out 3).trans rfl
      have y0 := (blk_cell HBB5.out 0).trans rfl
      have y1 := (blk_cell HBB5.out 1).trans rfl
      have y2 := (blk_cell HBB5.out 2).trans rfl
      have y3 := (blk_cell HBB5.out 3).trans rfl
      go_wp2_with fail
      refine (ltDeskN_any 0 none none none none 0 0 0 0 _ _ _ (.inl ⟨rfl, rfl⟩)).mono ?_
      rintro e w6 ⟨rfl, hb6⟩
      have HB6 := hideIt (Bstep HB5.out hb6)
      clear hb6 x0 x1 x2 x3 y0 y1 y2 y3
      go_wp2
      go_ret
      exact ⟨rfl, HB6.out⟩
  · go_enter Tryd.func13, Tryd.ntmps13
    have hn' : (1048576 : Int) < (n : Int) := by omega
    go_wp2
    go_ret
    exact ⟨rfl, Below.refl _ _⟩
end Go.Proofs.YtedanlmippfojaaDoor

namespace Go.Proofs.YtedanlmippfojaaDoor
open Go.ChangeShapes Go.WideShapes Go.ChangeAt Go.RowKit Go.Joins

theorem own : ownKnob Tryd.prog.godebug = none := by kernel_rfl
theorem laidOut : laidOutB Tryd.prog = true := by kernel_rfl
theorem cells_int : Tryd.prog.cellsOf 3 = 1 := by kernel_rfl

/-- The name of the one listed variable. -/
abbrev errName : String := Rows.fnTypeAnyoneSpec.vars.headD ""
/-- What the rows list. -/
abbrev laid1 : List (String × DataW Unit) := Rows.fnTypeAnyoneRow.laid
theorem gErr : Tryd.prog.globalNamed errName = some 0 := by kernel_rfl
theorem tErr : (Tryd.prog.globals[0]?).map (·.type) = some 93 := by kernel_rfl
def nmOf : DataW Unit → String
  | .iface n _ => n
  | _ => ""
theorem star : "*" ++ "errors.errorString" = nmOf Rows.laid_loop_example_tatting_impl_errNoThing := by decide
theorem nameErr (u : TypeId) (h : Tryd.prog.typeName? 3 u = some (nmOf Rows.laid_loop_example_tatting_impl_errNoThing)) : u = 203 :=
  typeName_ptr_named (nm := "errors.errorString") (by rw [star]; kernel_rfl) (by kernel_rfl) (by decide) u (by rw [star]; exact h)

theorem door_met (os : Os) (args : Array Value) : laidMetH Tryd.prog laid1 ((World.doorLaid Tryd.prog 28 os).forCall (fun _ _ => 0) ⟨#[], args, []⟩).memory :=
  laidMetH_of_parts3 (fuel := 8) (laidMet_of_run' 8 (by kernel_rfl) (by kernel_rfl)) (by kernel_rfl) (by kernel_rfl)

/-- WHAT THE CONDITION GIVES THE WALKS: the one error's cell. -/
theorem of_laid {W : World} (h : laidMetH Tryd.prog laid1 W) : ∃ x : Addr, W.var? Tryd.prog errName = some #[.iface 203 (.pointer (some x))] ∧ W.cell? ⟨0, 0, none⟩ = some (.iface 203 (.pointer (some x))) ∧ 0 < W.heap.size := by
  rw [MakeChecks.laidMetH_plain _ _ _ (by kernel_rfl)] at h
  obtain ⟨x, s, hv, hc, _, _⟩ := laid_sentinel h gErr tErr Tryd.underlying93 nameErr Tryd.underlying203 Tryd.underlying230 rfl rfl Tryd.underlying9 (by kernel_rfl) (by kernel_rfl)
  have hcell : W.cell? ⟨0, 0, none⟩ = some (.iface 203 (.pointer (some x))) := by simpa using World.var?_cell gErr hv 0
  refine ⟨x, hv, hcell, ?_⟩
  rcases Nat.eq_zero_or_pos W.heap.size with h0 | h0
  · exfalso
    simp [World.cell?, Array.eq_empty_of_size_eq_zero h0] at hcell
  · exact h0

/-- The variable holds what it held, where nothing that was there has turned. -/
theorem var_kept {W W' : World} {x : Value} (hb : Below W.heap.size W W') (h0 : 0 < W.heap.size) (hv : W.var? Tryd.prog errName = some #[x]) : W'.var? Tryd.prog errName = some #[x] := by
  unfold World.var? at hv ⊢
  rw [gErr] at hv ⊢
  simp only [Option.bind_some] at hv ⊢
  rw [hb.block 0 h0]
  exact hv
end Go.Proofs.YtedanlmippfojaaDoor

namespace Go.Proofs.YtedanlmippfojaaDoor
open Go.ChangeShapes Go.WideShapes Go.ChangeAt Go.RowKit Go.Joins

theorem cells_byte : Tryd.prog.cellsOf 5 = 1 := by kernel_rfl

set_option maxRecDepth 100000 in
theorem open_bytes {H : Type} {enc : TypeId × Value → H} {w : World} {r : Reach} {b0 : Nat} {spare : Nat → Bool} {held : Bool} {v : Value} {d : DataW H} {p : List MemPlace}
    (hv : Value.okWide Tryd.prog w r b0 22 v) (h : DataW.Trod enc Tryd.prog w 0 spare held 22 v d p) :
    ∃ (q : Option Addr) (n cap : Nat), v = .slice q n cap ∧ n ≤ cap ∧ cap ≤ maxLen ∧ ArgBytes w q n := by
  obtain ⟨q, len, cap, rfl⟩ := okWide_slice Tryd.underlying22 hv
  obtain ⟨fuel, hf⟩ := h
  rcases open_ints Tryd.underlying22 Tryd.underlying5 cells_byte hf with ⟨hcs, _⟩ | ⟨a, len', cap', zs, hcs, _, hl, hm, hz, _, hcell, hwz⟩
  · simp [Value.cells] at hcs
    obtain ⟨rfl, rfl, rfl⟩ := hcs
    exact ⟨none, 0, 0, rfl, Nat.le_refl _, Nat.zero_le _, .inl rfl⟩
  · simp [Value.cells] at hcs
    obtain ⟨rfl, rfl, rfl⟩ := hcs
    refine ⟨some a, len, cap, rfl, hl, hm, ?_⟩
    have hlz : len ≤ zs.length := by rw [hz]; split <;> omega
    rcases Nat.eq_zero_or_pos len with h0 | h0
    · exact .inl h0
    obtain ⟨b, off, spot⟩ := a
    have hspot : spot = none := by simpa [Addr.add] using World.cell?_spot (hcell 0 (by omega))
    subst hspot
    refine .inr ⟨b, off, rfl, ?_, fun i hi => ?_⟩
    · have := World.block_lt_of_cell? w _ (hcell 0 (by omega))
      simpa [Addr.add_lit] using this
    · have hc := hcell i (by omega)
      rw [Addr.add_lit] at hc
      have hb := range_u8 hwz i
      exact ⟨zs.getD i 0, by simpa [List.getD] using hb.1, by simpa [List.getD] using hb.2, hc⟩

end Go.Proofs.YtedanlmippfojaaDoor

namespace Go.Proofs.YtedanlmippfojaaDoor
open Go.ChangeShapes Go.WideShapes Go.ChangeAt Go.RowKit Go.Joins

set_option maxRecDepth 100000 in
theorem liftedFnDeskNew (os : Os) (started : os.Started) (H : Type) (enc : TypeId × Value → H) :
    ReturnsInHanded {} Tryd.checked os 13 .any (fun w args => (Rows.fnDeskNewSpec.pre enc Tryd.prog Tryd.f13 [] false w args ∧ laidMetH Tryd.prog laid1 w) ∧ sizedMet enc Tryd.prog Tryd.f13 (OpenSpec.ofChange Rows.fnDeskNewSpec) false w args)
      (Rows.fnDeskNewSpec.post enc Tryd.prog Tryd.f13 false true false false) := by
  refine returnsInHanded_of_change_and (C := Tryd.checked) (X := fun w _ => laidMetH Tryd.prog laid1 w) (fun _ _ _ hh h => h.of_heap hh) own started (by kernel_rfl) Tryd.func13
    (ChangeSpec.witness_shaped (enc := enc) (C := Tryd.checked) (os := os) (X := fun w _ => laidMetH Tryd.prog laid1 w) false (World.doorLaid Tryd.prog 28 os) #[.slice none 0 0] 8 rfl (World.shaped_of_RefB (by kernel_rfl) (by kernel_rfl)) (by kernel_rfl) (by kernel_rfl) (by kernel_rfl) (door_met os _)) ?_
  intro W base args ds gs before hval0 hW _ _ hL _
  have hval : ∀ (j : Nat) t v, Tryd.f13.params[j]? = some t → args[j]? = some v → Value.okWide Tryd.prog W .any base t v := hval0
  have hW' := hW
  obtain ⟨p, q, hA0, hV0, rfl, hfz, hnd⟩ := hW
  have hA : DataW.TrodAll enc Tryd.prog W 0 (fun _ => true) true Tryd.f13.params.toList args.toList ds p := hA0
  have hV : DataW.TrodVars enc Tryd.prog W (fun _ => true) [errName] gs q := hV0
  rw [Tryd.params13] at hA hval
  obtain ⟨v0, d0, rfl, rfl, h0⟩ := trodAll_one hA
  have k0 := h0
  have lt0 : ∀ x ∈ p, x.block < W.heap.size := by obtain ⟨m, hm⟩ := k0; exact DataW.trod_lt m _ _ _ hm
  obtain ⟨x, hv, hc, hpos⟩ := of_laid hL
  obtain ⟨rfl, rfl⟩ := hV.unique (vars_read1 enc gErr tErr Tryd.underlying93 hv trivial _)
  obtain ⟨q0, n0, c0, rfl, hc0, hm0, ha0⟩ := open_bytes (hval 0 22 v0 rfl rfl) h0
  clear hA0 hV0 hval0
  refine (walkDeskNew W q0 n0 c0 ha0 hc0 hm0 x hc hpos).mono fun e W' ⟨he, bel⟩ => ?_
  subst he
  exact ⟨_, rfl, _, _, _, [], p, [.cell 0 0], hW', trodAll_mk1 (shut_bool Tryd.underlying4 _), trodAll_mk1 (Below.trod laidOut (by kernel_rfl) (of_decide_eq_true (by kernel_rfl)) k0 bel lt0), vars_read1 enc gErr tErr Tryd.underlying93 (var_kept bel hpos hv) trivial _, bel.frame _, fun h => by cases h⟩

theorem fnDeskNew_row : Rows.FnDeskNewSaid :=
  OpenClaim.holds_of_wide 13 Tryd.f13 rfl rfl rfl rfl rfl rfl rfl ⟨rfl, rfl, rfl, rfl, rfl⟩ rfl rfl rfl rfl rfl (by kernel_rfl) Tryd.func13 (by kernel_rfl)
    (of_decide_eq_true (by kernel_rfl)) (by unfold Func.isWrapper; first | (rw [if_pos (by decide +kernel)]; kernel_rfl) | (rw [if_neg (by decide +kernel)]; exact ⟨rfl, rfl⟩))
    (fun os started H enc _ => liftedFnDeskNew os started H enc)

/-- THE STATEMENT. -/
theorem fnDeskNew_holds : Rows.FnDeskNewCardSaid :=
  Claim7.holds_tied_plain_at .later [] Rows.fnDeskNewCard.laidKinds true Rows.fnDeskNewCard.stood.harness true
    fnDeskNew_row (fun _ h => by cases h) (by kernel_rfl) (fun _ h => by cases h) fnDeskNew_row_tie rfl ⟨rfl, rfl⟩ (by kernel_rfl) rfl
    (fun f fn hf hfn => by
      obtain rfl : f = 13 := Option.some.inj ((show Tryd.prog.funcNamed Rows.fnDeskNewRow.func = some 13 by kernel_rfl).symm.trans hf) |>.symm
      obtain rfl : fn = Tryd.f13 := (Option.some.inj (Tryd.func13.symm.trans hfn)).symm
      exact ⟨by kernel_rfl, fun j t ht => by
        rw [Tryd.params13] at ht
        have hm : t ∈ [22] := by simpa using Array.mem_of_getElem? ht
        have hall : ([22].all fun u => !Tryd.prog.wantsStandIn u) = true := by kernel_rfl
        exact (show Tryd.prog.wantsStandIn t = false by simpa using List.all_eq_true.1 hall t hm)⟩)
    (by kernel_rfl)
#print axioms fnDeskNew_holds
end Go.Proofs.YtedanlmippfojaaDoor
