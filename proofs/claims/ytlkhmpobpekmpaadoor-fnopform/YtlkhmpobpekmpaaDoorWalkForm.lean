/- The walk of the law FnOpForm. -/
import Derived.Test.YtlkhmpobpekmpaaDoorDrawOpA
import Derived.Test.YtlkhmpobpekmpaaDoorOpOk
namespace Go.Proofs.YtlkhmpobpekmpaaDoor
open Go.RowKit
set_option linter.unusedSimpArgs false
set_option linter.unusedVariables false
attribute [local go_sem ↓] Go.wp_at_zero Go.wp_at_succ

theorem OpBlk.below {W W' : World} {g : Nat} {a b k c d s t : Int} (h : OpBlk W g a b k c d s t) (hb : Below W.heap.size W W') : OpBlk W' g a b k c d s t := by
  obtain ⟨hc, hf⟩ := bcell hb
  exact ⟨(hc _ _ h.lt).trans h.x0, (hc _ _ h.lt).trans h.x1, (hc _ _ h.lt).trans h.x2, (hc _ _ h.lt).trans h.x3, (hc _ _ h.lt).trans h.x4, (hc _ _ h.lt).trans h.x5, (hc _ _ h.lt).trans h.x6, fun j => (hf _ _ h.lt).trans (h.fz j), Nat.lt_of_lt_of_le h.lt hb.size⟩

set_option maxRecDepth 100000 in
set_option maxHeartbeats 4000000 in
theorem walkForm (w : World) (p : Option Addr) (n cap : Nat) (h : ArgBytes w p n) (hcap : n ≤ cap) (hmax : cap ≤ maxLen) (x : Addr)
    (he : w.cell? ⟨0, 0, none⟩ = some (.iface 69 (.pointer (some x)))) (h0 : 0 < w.heap.size) :
    Calls Tryd.prog 3 #[.slice p n cap] w fun e w' => e = .returned (.bool true) ∧ Below w.heap.size w w' := by
  have H := hideIt h
  clear h
  by_cases hn : n ≤ 1048576
  · go_enter Tryd.func3, Tryd.ntmps3
    go_wp2_with fail
    refine (drawOp_any _ p n cap H.out hcap hn).mono ?_
    rintro e w1 ⟨⟨a, b, k, c, d, s, t, rfl⟩, hb1⟩
    have HB1 := hideIt hb1
    clear hb1
    go_wp2_with fail
    have HB2 : Hid (Below w.heap.size w (w1.alloc (.cells #[.int .i64 a, .int .i64 b, .int .i64 k, .int .i64 c, .int .i64 d, .int .i64 s, .int .i64 t] 26))) := HB1.out.alloc HB1.out.size _
    have hX : OpBlk (w1.alloc (.cells #[.int .i64 a, .int .i64 b, .int .i64 k, .int .i64 c, .int .i64 d, .int .i64 s, .int .i64 t] 26)) w1.heap.size a b k c d s t :=
      ⟨by simp [go_sem], by simp [go_sem], by simp [go_sem], by simp [go_sem], by simp [go_sem], by simp [go_sem], by simp [go_sem], fun j => by simp [go_sem], by simp⟩
    refine (implOp_any _ _ _ _ _ _ _ x _ (errB HB2.out h0 he) (posB HB2.out h0)).mono ?_
    rintro e w3 ⟨rfl, hb3⟩
    have HX := hideIt (hX.below hb3)
    have HB3 := hideIt (Bstep HB2.out hb3)
    clear hX hb3 HB2 HB1
    have x0 := HX.out.x0; have x1 := HX.out.x1; have x2 := HX.out.x2; have x3 := HX.out.x3; have x4 := HX.out.x4; have x5 := HX.out.x5; have x6 := HX.out.x6
    cases ho : opB a b k c d s t
    · have HO := hideIt ho
      clear ho
      go_wp2_with (first | (go_at_call 6; refine (specOp_any _ _ _ _ _ _ _ _).mono ?_; rintro e w4 ⟨rfl, hb4⟩; rw [HO.out]; have HX := hideIt (HX.out.below hb4); have HB3 := hideIt (Bstep HB3.out hb4); clear hb4; have x0 := HX.out.x0; have x1 := HX.out.x1; have x2 := HX.out.x2; have x3 := HX.out.x3; have x4 := HX.out.x4; have x5 := HX.out.x5; have x6 := HX.out.x6))
      go_ret
      exact ⟨rfl, HB3.out⟩
    · have HO := hideIt ho
      rw [opB_true] at ho
      obtain ⟨⟨g1, g2, g3, g4⟩, hne, hk⟩ := ho
      by_cases hca : c = a
      all_goals
        rcases hk with ⟨rfl, g5, g6, ⟨rfl, rfl, rfl⟩ | ⟨g7, g8, g9, g10, g11⟩⟩ | ⟨rfl, g7, g8, g9, g10, rfl, rfl⟩
      all_goals
        first
        | (exfalso; omega)
        | ((try (have hdb : ¬ d = b := fun e => hne ⟨hca, e⟩)); clear hne
           (try subst hca)
           go_wp2_with (first | (go_at_call 6; refine (specOp_any _ _ _ _ _ _ _ _).mono ?_; rintro e w4 ⟨rfl, hb4⟩; rw [HO.out]; have HX := hideIt (HX.out.below hb4); have HB3 := hideIt (Bstep HB3.out hb4); clear hb4; have x0 := HX.out.x0; have x1 := HX.out.x1; have x2 := HX.out.x2; have x3 := HX.out.x3; have x4 := HX.out.x4; have x5 := HX.out.x5; have x6 := HX.out.x6))
           all_goals first
             | (exfalso; omega)
             | (go_ret; exact ⟨rfl, HB3.out⟩))
  · go_enter Tryd.func3, Tryd.ntmps3
    unfold maxLen at *
    go_wp2
    go_ret
    exact ⟨rfl, Below.refl _ _⟩
end Go.Proofs.YtlkhmpobpekmpaaDoor
