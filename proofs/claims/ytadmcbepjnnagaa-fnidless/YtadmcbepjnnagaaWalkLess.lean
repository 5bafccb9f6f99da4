/- The walk of the law FnIdLess. -/
import Derived.Test.YtadmcbepjnnagaaDrawLess
import Derived.Test.YtadmcbepjnnagaaWalks
namespace Go.Proofs.Ytadmcbepjnnagaa
open Go.RowKit
set_option linter.unusedSimpArgs false
set_option linter.unusedVariables false
attribute [local go_sem ↓] Go.wp_at_zero Go.wp_at_succ

/-- Three ids in their blocks. -/
structure At3 (w W : World) (A C : Nat) (a b c d e f : Int) : Prop where
  a0 : W.cell? ⟨A, 0, none⟩ = some (.int .i64 a)
  a1 : W.cell? ⟨A, 1, none⟩ = some (.int .i64 b)
  b0 : W.cell? ⟨A + 1, 0, none⟩ = some (.int .i64 c)
  b1 : W.cell? ⟨A + 1, 1, none⟩ = some (.int .i64 d)
  c0 : W.cell? ⟨C, 0, none⟩ = some (.int .i64 e)
  c1 : W.cell? ⟨C, 1, none⟩ = some (.int .i64 f)
  sA : A + 1 < W.heap.size
  sC : C < W.heap.size
  bel : Below w.heap.size w W
theorem At3.step {w W w' : World} {A C : Nat} {a b c d e f : Int} (h : At3 w W A C a b c d e f) (hb : Below W.heap.size W w') : At3 w w' A C a b c d e f := by
  have hc := (bcell hb).1
  have hA := h.sA
  exact ⟨(hc _ _ (by omega)).trans h.a0, (hc _ _ (by omega)).trans h.a1, (hc _ _ hA).trans h.b0, (hc _ _ hA).trans h.b1, (hc _ _ h.sC).trans h.c0, (hc _ _ h.sC).trans h.c1, Nat.lt_of_lt_of_le hA hb.size, Nat.lt_of_lt_of_le h.sC hb.size, h.bel.trans (hb.mono h.bel.size)⟩
theorem less_no {a b c d : Int} (h : lessB a b c d = true) : lessB c d a b = false := by
  simp only [lessB, Bool.or_eq_true, Bool.and_eq_true, decide_eq_true_eq, beq_iff_eq, Bool.or_eq_false_iff, Bool.and_eq_false_iff, decide_eq_false_iff_not, beq_eq_false_iff_ne] at *
  omega
theorem less_same {a b c d : Int} (h : lessB a b c d = false) (h' : lessB c d a b = false) : a = c ∧ b = d := by
  simp only [lessB, Bool.or_eq_true, Bool.and_eq_true, decide_eq_true_eq, beq_iff_eq, Bool.or_eq_false_iff, Bool.and_eq_false_iff, decide_eq_false_iff_not, beq_eq_false_iff_ne, ne_eq] at *
  omega
theorem less_on {a b c d e f : Int} (h : lessB a b c d = true) (h' : lessB c d e f = true) : lessB a b e f = true := by
  simp only [lessB, Bool.or_eq_true, Bool.and_eq_true, decide_eq_true_eq, beq_iff_eq] at *
  omega

set_option maxRecDepth 100000 in
set_option maxHeartbeats 1000000 in
theorem walkLess (w : World) (p p' : Option Addr) (n cap n' cap' : Nat) (h : ArgBytes w p n) (hcap : n ≤ cap) (hmax : cap ≤ maxLen) (h' : ArgBytes w p' n') (hcap' : n' ≤ cap') (hmax' : cap' ≤ maxLen) :
    Calls Try.prog 3 #[.slice p n cap, .slice p' n' cap'] w fun e w' => e = .returned (.bool true) ∧ Below w.heap.size w w' := by
  have H := hideIt h
  have H' := hideIt h'
  clear h h'
  by_cases hn : n ≤ 1048576
  · by_cases hn' : n' ≤ 1048576
    · go_enter Try.func3, Try.ntmps3
      go_wp2_with fail
      refine (drawLess_any _ p n cap H.out hcap hn).mono ?_
      rintro e w1 ⟨⟨a, b, c, d, rfl⟩, hb1⟩
      have HB1 := hideIt hb1
      clear hb1
      go_wp2_with fail
      have hs1 := HB1.out.size
      have hb0 : Below w.heap.size w ((w1.alloc (.cells #[.int .i64 a, .int .i64 b] 24)).alloc (.cells #[.int .i64 c, .int .i64 d] 24)) := (HB1.out.alloc hs1 _).alloc (by simp; omega) _
      refine (drawLess_any _ p' n' cap' (H'.out.below hb0) hcap' hn').mono ?_
      rintro e w2 ⟨⟨e1, e2, e3, e4, rfl⟩, hb2⟩
      have hs2 : w1.heap.size + 1 < w2.heap.size := by have := hb2.size; simp at this; omega
      have q0 : w2.cell? ⟨w1.heap.size, 0, none⟩ = some (.int .i64 a) := by rw [hb2.cell (p := ⟨w1.heap.size, _, none⟩) (show w1.heap.size < _ by simp; omega)]; simp [go_sem]
      have q1 : w2.cell? ⟨w1.heap.size, 1, none⟩ = some (.int .i64 b) := by rw [hb2.cell (p := ⟨w1.heap.size, _, none⟩) (show w1.heap.size < _ by simp; omega)]; simp [go_sem]
      have q2 : w2.cell? ⟨w1.heap.size + 1, 0, none⟩ = some (.int .i64 c) := by rw [hb2.cell (p := ⟨w1.heap.size + 1, _, none⟩) (show w1.heap.size + 1 < _ by simp)]; simp [go_sem]
      have q3 : w2.cell? ⟨w1.heap.size + 1, 1, none⟩ = some (.int .i64 d) := by rw [hb2.cell (p := ⟨w1.heap.size + 1, _, none⟩) (show w1.heap.size + 1 < _ by simp)]; simp [go_sem]
      have HB2 := hideIt (hb0.trans (hb2.mono (by simp; omega)))
      clear hb0 hb2
      have hs3 : w1.heap.size < w2.heap.size := by omega
      have HX : Hid (∀ u v u' v', At3 w ((w2.alloc (.cells #[.int .i64 e1, .int .i64 e2] u)).alloc (.cells #[u', v'] v)) w1.heap.size w2.heap.size a b c d e1 e2) := fun u v u' v' =>
        ⟨by simp [go_sem, q0, hs2, hs3], by simp [go_sem, q1, hs2, hs3], by simp [go_sem, q2, hs2, hs3], by simp [go_sem, q3, hs2, hs3], by simp [go_sem], by simp [go_sem], by simp; omega, by simp; omega, (HB2.out.alloc HB2.out.size _).alloc (by have := HB2.out.size; simp; omega) _⟩
      have H3 := hideIt (HX.out 24 24 (.int .i64 e3) (.int .i64 e4))
      have y0 := H3.out.a0
      have y1 := H3.out.a1
      have y2 := H3.out.b0
      have y3 := H3.out.b1
      clear q0 q1 q2 q3 HX
      have KS := specLess_any a b c d
      have K1 := implLess_any a b c d
      have K2 := implLess_any c d a b
      have K3 := implLess_any c d e1 e2
      have K4 := implLess_any a b e1 e2
      cases h1 : lessB a b c d
      · cases h2 : lessB c d a b
        · obtain ⟨rfl, rfl⟩ := less_same h1 h2
          rw [h1] at KS K1
          clear K2 K3 K4 h1 h2
          go_wp2_with (first
            | (go_at_call 6; (first | with_reducible refine (K1 _).mono ?_); rintro e w3 ⟨rfl, hb3⟩; have H3 := hideIt (H3.out.step hb3); clear hb3; have y0 := H3.out.a0; have y1 := H3.out.a1; have y2 := H3.out.b0; have y3 := H3.out.b1; have y4 := H3.out.c0; have y5 := H3.out.c1)
            | (go_at_call 7; refine (KS _).mono ?_; rintro e w3 ⟨rfl, hb3⟩; have H3 := hideIt (H3.out.step hb3); clear hb3; have y0 := H3.out.a0; have y1 := H3.out.a1; have y2 := H3.out.b0; have y3 := H3.out.b1; have y4 := H3.out.c0; have y5 := H3.out.c1))
          go_ret
          exact ⟨rfl, H3.out.bel⟩
        · rw [h1] at KS K1
          rw [h2] at K2
          clear K3 K4 h1 h2
          go_wp2_with (first
            | (go_at_call 6; (first | with_reducible refine (K1 _).mono ?_ | with_reducible refine (K2 _).mono ?_); rintro e w3 ⟨rfl, hb3⟩; have H3 := hideIt (H3.out.step hb3); clear hb3; have y0 := H3.out.a0; have y1 := H3.out.a1; have y2 := H3.out.b0; have y3 := H3.out.b1; have y4 := H3.out.c0; have y5 := H3.out.c1)
            | (go_at_call 7; refine (KS _).mono ?_; rintro e w3 ⟨rfl, hb3⟩; have H3 := hideIt (H3.out.step hb3); clear hb3; have y0 := H3.out.a0; have y1 := H3.out.a1; have y2 := H3.out.b0; have y3 := H3.out.b1; have y4 := H3.out.c0; have y5 := H3.out.c1))
          go_ret
          exact ⟨rfl, H3.out.bel⟩
      · rw [h1] at KS K1
        rw [less_no h1] at K2
        cases h3 : lessB c d e1 e2
        · rw [h3] at K3
          clear K4 h1 h3
          go_wp2_with (first
            | (go_at_call 6; (first | with_reducible refine (K1 _).mono ?_ | with_reducible refine (K2 _).mono ?_ | with_reducible refine (K3 _).mono ?_); rintro e w3 ⟨rfl, hb3⟩; have H3 := hideIt (H3.out.step hb3); clear hb3; have y0 := H3.out.a0; have y1 := H3.out.a1; have y2 := H3.out.b0; have y3 := H3.out.b1; have y4 := H3.out.c0; have y5 := H3.out.c1)
            | (go_at_call 7; refine (KS _).mono ?_; rintro e w3 ⟨rfl, hb3⟩; have H3 := hideIt (H3.out.step hb3); clear hb3; have y0 := H3.out.a0; have y1 := H3.out.a1; have y2 := H3.out.b0; have y3 := H3.out.b1; have y4 := H3.out.c0; have y5 := H3.out.c1))
          go_ret
          exact ⟨rfl, H3.out.bel⟩
        · rw [h3] at K3
          rw [less_on h1 h3] at K4
          clear h1 h3
          go_wp2_with (first
            | (go_at_call 6; (first | with_reducible refine (K1 _).mono ?_ | with_reducible refine (K2 _).mono ?_ | with_reducible refine (K3 _).mono ?_ | with_reducible refine (K4 _).mono ?_); rintro e w3 ⟨rfl, hb3⟩; have H3 := hideIt (H3.out.step hb3); clear hb3; have y0 := H3.out.a0; have y1 := H3.out.a1; have y2 := H3.out.b0; have y3 := H3.out.b1; have y4 := H3.out.c0; have y5 := H3.out.c1)
            | (go_at_call 7; refine (KS _).mono ?_; rintro e w3 ⟨rfl, hb3⟩; have H3 := hideIt (H3.out.step hb3); clear hb3; have y0 := H3.out.a0; have y1 := H3.out.a1; have y2 := H3.out.b0; have y3 := H3.out.b1; have y4 := H3.out.c0; have y5 := H3.out.c1))
          go_ret
          exact ⟨rfl, H3.out.bel⟩
    · go_enter Try.func3, Try.ntmps3
      unfold maxLen at *
      go_wp2
      go_ret
      exact ⟨rfl, Below.refl _ _⟩
  · go_enter Try.func3, Try.ntmps3
    unfold maxLen at *
    go_wp2
    go_ret
    exact ⟨rfl, Below.refl _ _⟩
end Go.Proofs.Ytadmcbepjnnagaa
