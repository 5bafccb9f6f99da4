/- Contracts of the small tests of one thing (idOk, isNothing, putOk, takeOk; l6In, l1Id), of toId and toOp: each answers as its plain test does, and writes nothing that was there. -/
import Derived.Test.YtpkdadccapemcaaDoorIs
import Derived.WalkKit
import Derived.Below
import Derived.Handy
import Derived.Outline
namespace Go.Proofs.YtpkdadccapemcaaDoor
open Go.RowKit
set_option linter.unusedSimpArgs false
set_option linter.unusedVariables false

theorem ret_bool {x y : Bool} (h : x = y) : Ending.returned (.bool x) = .returned (.bool y) := by rw [h]
theorem bcell {W w1 : World} (hb : Below W.heap.size W w1) : (∀ b o, b < W.heap.size → w1.cell? ⟨b, o, none⟩ = W.cell? ⟨b, o, none⟩) ∧ (∀ b o, b < W.heap.size → w1.frozen? ⟨b, o, none⟩ = W.frozen? ⟨b, o, none⟩) :=
  ⟨fun b o h => hb.cell (p := ⟨b, o, none⟩) h, fun b o h => hb.frozen (p := ⟨b, o, none⟩) h⟩

theorem Bstep {w W w' : World} (h : Below w.heap.size w W) (hb : Below W.heap.size W w') : Below w.heap.size w w' := h.trans (hb.mono h.size)

/-- An id is one. -/
def idB (r n : Int) : Bool := decide (1 ≤ r ∧ r ≤ 3 ∧ 1 ≤ n ∧ n ≤ 12)
/-- What is put is in form. -/
def putB (c d s g : Int) : Bool := decide (97 ≤ g ∧ g ≤ 122 ∧ ((c = 0 ∧ d = 0 ∧ s = 1) ∨ (1 ≤ c ∧ c ≤ 3 ∧ 1 ≤ d ∧ d ≤ 12 ∧ (s = 0 ∨ s = 1))))
/-- What takes away is in form. -/
def takeB (c d s g : Int) : Bool := decide (1 ≤ c ∧ c ≤ 3 ∧ 1 ≤ d ∧ d ≤ 12 ∧ s = 0 ∧ g = 0)
/-- A thing is in form. -/
def opB (a b k c d s g : Int) : Bool := decide ((1 ≤ a ∧ a ≤ 3 ∧ 1 ≤ b ∧ b ≤ 12) ∧ ¬ (c = a ∧ d = b) ∧
  ((k = 1 ∧ 97 ≤ g ∧ g ≤ 122 ∧ ((c = 0 ∧ d = 0 ∧ s = 1) ∨ (1 ≤ c ∧ c ≤ 3 ∧ 1 ≤ d ∧ d ≤ 12 ∧ (s = 0 ∨ s = 1)))) ∨ (k = 2 ∧ 1 ≤ c ∧ c ≤ 3 ∧ 1 ≤ d ∧ d ≤ 12 ∧ s = 0 ∧ g = 0)))

theorem toId_any (a b : Int) (w : World) :
    Calls Tryd.prog 19 #[.agg #[.int .i64 a, .int .i64 b]] w fun e w' => e = .returned (.agg #[.int .i64 a, .int .i64 b]) ∧ Below w.heap.size w w' := by
  go_enter Tryd.func19, Tryd.ntmps19
  go_wp2
  exact bodyPost_ret (v := .agg #[.int .i64 a, .int .i64 b]) (by simp [results, Tryd.results19, go_sem]) rfl ⟨rfl, by go_grown⟩

theorem idOk_any (r n : Int) (w : World) :
    Calls Tryd.prog 59 #[.agg #[.int .i64 r, .int .i64 n]] w fun e w' => e = .returned (.bool (idB r n)) ∧ Below w.heap.size w w' := by
  go_enter Tryd.func59, Tryd.ntmps59
  go_wp2
  all_goals
    go_ret
    exact ⟨ret_bool (by unfold idB; first | exact decide_eq_decide.2 (by omega) | exact (decide_eq_true (by omega)).symm | exact (decide_eq_false (by omega)).symm), by go_grown⟩

theorem isNothing_any (r n : Int) (w : World) :
    Calls Tryd.prog 64 #[.agg #[.int .i64 r, .int .i64 n]] w fun e w' => e = .returned (.bool (decide (r = 0 ∧ n = 0))) ∧ Below w.heap.size w w' := by
  go_enter Tryd.func64, Tryd.ntmps64
  go_wp2
  all_goals
    go_ret
    exact ⟨ret_bool (by first | exact (decide_eq_true (by omega)).symm | exact (decide_eq_false (by omega)).symm), by go_grown⟩

theorem idB_true {r n : Int} : idB r n = true ↔ (1 ≤ r ∧ r ≤ 3 ∧ 1 ≤ n ∧ n ≤ 12) := by simp [idB]
theorem idB_false {r n : Int} : idB r n = false ↔ ¬ (1 ≤ r ∧ r ≤ 3 ∧ 1 ≤ n ∧ n ≤ 12) := by simp [idB]
theorem opB_true {a b k c d s g : Int} : opB a b k c d s g = true ↔ ((1 ≤ a ∧ a ≤ 3 ∧ 1 ≤ b ∧ b ≤ 12) ∧ ¬ (c = a ∧ d = b) ∧
  ((k = 1 ∧ 97 ≤ g ∧ g ≤ 122 ∧ ((c = 0 ∧ d = 0 ∧ s = 1) ∨ (1 ≤ c ∧ c ≤ 3 ∧ 1 ≤ d ∧ d ≤ 12 ∧ (s = 0 ∨ s = 1)))) ∨ (k = 2 ∧ 1 ≤ c ∧ c ≤ 3 ∧ 1 ≤ d ∧ d ≤ 12 ∧ s = 0 ∧ g = 0))) := by unfold opB; exact decide_eq_true_iff

/-- n lies from l to h. -/
def inB (n l h : Int) : Bool := decide (l ≤ n ∧ n ≤ h)
/-- The id 0, 0. -/
def noB (r n : Int) : Bool := decide (r = 0 ∧ n = 0)
theorem nothing_any (r n : Int) (w : World) :
    Calls Tryd.prog 64 #[.agg #[.int .i64 r, .int .i64 n]] w fun e w' => e = .returned (.bool (noB r n)) ∧ Below w.heap.size w w' := isNothing_any r n w

theorem putOk_any (a b k c d s g : Int) (w : World) :
    Calls Tryd.prog 60 #[.agg #[.int .i64 a, .int .i64 b, .int .i64 k, .int .i64 c, .int .i64 d, .int .i64 s, .int .i64 g]] w fun e w' => e = .returned (.bool (putB c d s g)) ∧ Below w.heap.size w w' := by
  by_cases hg : 97 ≤ g ∧ g ≤ 122
  · obtain ⟨hg1, hg2⟩ := hg
    go_enter Tryd.func60, Tryd.ntmps60
    go_wp2_with fail
    refine (nothing_any _ _ _).mono ?_
    rintro e w1 ⟨rfl, hb1⟩
    obtain ⟨hc1, hf1⟩ := bcell hb1
    simp at hc1
    have hz1 := hb1.size
    simp at hz1
    have hB1 : Below w.heap.size w w1 := ((Below.refl _ _).alloc (Nat.le_refl _) _).trans (hb1.mono (by simp))
    clear hf1
    go_wp2_with fail
    · go_ret
      exact ⟨ret_bool (by (try simp only [noB, putB, Bool.not_eq_true, decide_eq_true_eq, decide_eq_false_iff_not, bne_iff_ne, beq_iff_eq, beq_eq_false_iff_ne, ne_eq] at *); first | (apply decide_eq_decide.2; omega) | (symm; apply decide_eq_true; omega) | (symm; apply decide_eq_false; omega) | (rw [Bool.eq_iff_iff]; simp only [Bool.and_eq_true, Bool.or_eq_true, decide_eq_true_eq, beq_iff_eq, bne_iff_ne, Bool.not_eq_true, ne_eq]; omega)), hB1⟩
    · refine (idOk_any _ _ _).mono ?_
      rintro e w2 ⟨rfl, hb2⟩
      have hc2 : ∀ o, w2.cell? ⟨w.heap.size, o, none⟩ = w1.cell? ⟨w.heap.size, o, none⟩ := fun o => (bcell hb2).1 _ _ (by omega)
      have hB2 : Below w.heap.size w w2 := hB1.trans (hb2.mono (by omega))
      go_wp2
      all_goals
        go_ret
        exact ⟨ret_bool (by (try simp only [noB, idB, putB, Bool.not_eq_true, decide_eq_true_eq, decide_eq_false_iff_not, bne_iff_ne, beq_iff_eq, beq_eq_false_iff_ne, ne_eq] at *); first | (apply decide_eq_decide.2; omega) | (symm; apply decide_eq_true; omega) | (symm; apply decide_eq_false; omega) | (rw [Bool.eq_iff_iff]; simp only [Bool.and_eq_true, Bool.or_eq_true, decide_eq_true_eq, beq_iff_eq, bne_iff_ne, Bool.not_eq_true, ne_eq]; omega)), hB2⟩
  · have hg' : putB c d s g = false := decide_eq_false (by omega)
    rw [hg']
    clear hg'
    by_cases h2 : g < 97
    · go_enter Tryd.func60, Tryd.ntmps60
      go_wp2
      go_ret
      exact ⟨rfl, by go_grown⟩
    · have h3 : 122 < g := by omega
      go_enter Tryd.func60, Tryd.ntmps60
      go_wp2
      go_ret
      exact ⟨rfl, by go_grown⟩
theorem takeOk_any (a b k c d s g : Int) (w : World) :
    Calls Tryd.prog 61 #[.agg #[.int .i64 a, .int .i64 b, .int .i64 k, .int .i64 c, .int .i64 d, .int .i64 s, .int .i64 g]] w fun e w' => e = .returned (.bool (takeB c d s g)) ∧ Below w.heap.size w w' := by
  go_enter Tryd.func61, Tryd.ntmps61
  go_wp2_with (first | (go_at_call 59; refine (idOk_any _ _ _).mono ?_; rintro e w' ⟨rfl, hb⟩; obtain ⟨hc, hf⟩ := bcell hb; simp at hc))
  all_goals
    go_ret
    exact ⟨ret_bool (by (try simp only [idB, takeB, Bool.not_eq_true, decide_eq_true_eq, decide_eq_false_iff_not, bne_iff_ne, beq_iff_eq, beq_eq_false_iff_ne, ne_eq] at *); first | (apply decide_eq_decide.2; omega) | (symm; apply decide_eq_true; omega) | (symm; apply decide_eq_false; omega) | (rw [Bool.eq_iff_iff]; simp only [Bool.and_eq_true, Bool.or_eq_true, decide_eq_true_eq, beq_iff_eq, bne_iff_ne, Bool.not_eq_true, ne_eq]; omega)), ((Below.refl _ _).alloc (Nat.le_refl _) _).trans (hb.mono (by simp))⟩
theorem l6In_any (n l h : Int) (w : World) :
    Calls Tryd.prog 52 #[.int .i64 n, .int .i64 l, .int .i64 h] w fun e w' => e = .returned (.bool (inB n l h)) ∧ w' = w := by
  go_enter Tryd.func52, Tryd.ntmps52
  go_wp2
  all_goals
    go_ret
    exact ⟨ret_bool (by (try simp only [inB, Bool.not_eq_true, decide_eq_true_eq, decide_eq_false_iff_not, bne_iff_ne, beq_iff_eq, beq_eq_false_iff_ne, ne_eq] at *); first | (apply decide_eq_decide.2; omega) | (symm; apply decide_eq_true; omega) | (symm; apply decide_eq_false; omega) | (rw [Bool.eq_iff_iff]; simp only [Bool.and_eq_true, Bool.or_eq_true, decide_eq_true_eq, beq_iff_eq, bne_iff_ne, Bool.not_eq_true, ne_eq]; omega)), rfl⟩
theorem l1Id_any (r n : Int) (w : World) :
    Calls Tryd.prog 51 #[.agg #[.int .i64 r, .int .i64 n]] w fun e w' => e = .returned (.bool (idB r n)) ∧ Below w.heap.size w w' := by
  go_enter Tryd.func51, Tryd.ntmps51
  go_wp2_with (first | (go_at_call 52; refine (l6In_any _ _ _ _).mono ?_; rintro e w' ⟨rfl, rfl⟩))
  all_goals
    go_ret
    exact ⟨ret_bool (by (try simp only [inB, idB, Bool.not_eq_true, decide_eq_true_eq, decide_eq_false_iff_not, bne_iff_ne, beq_iff_eq, beq_eq_false_iff_ne, ne_eq] at *); first | (apply decide_eq_decide.2; omega) | (symm; apply decide_eq_true; omega) | (symm; apply decide_eq_false; omega) | (rw [Bool.eq_iff_iff]; simp only [Bool.and_eq_true, Bool.or_eq_true, decide_eq_true_eq, beq_iff_eq, bne_iff_ne, Bool.not_eq_true, ne_eq]; omega)), by go_grown⟩
end Go.Proofs.YtpkdadccapemcaaDoor
