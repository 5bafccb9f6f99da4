/- Contracts of toId and of both IdLess, at every two ids: each answers as the plain order does, and writes nothing that was there. -/
import Derived.Test.YtadmcbepjnnagaaProg
import Derived.WalkKit
import Derived.Below
import Derived.Handy
import Derived.Outline
import Derived.Deep.RegionHeld3
import Derived.Deep.DrawnRows
namespace Go.Proofs.Ytadmcbepjnnagaa
open Go.RowKit
attribute [local go_sem ↓] Go.wp_at_zero Go.wp_at_succ

/-- The order of ids, as a test. -/
def lessB (a b c d : Int) : Bool := decide (a < c) || (a == c && decide (b < d))

theorem ret_bool {x y : Bool} (h : x = y) : Ending.returned (.bool x) = .returned (.bool y) := by rw [h]

theorem bcell {W w1 : World} (hb : Below W.heap.size W w1) : (∀ b o, b < W.heap.size → w1.cell? ⟨b, o, none⟩ = W.cell? ⟨b, o, none⟩) ∧ (∀ b o, b < W.heap.size → w1.frozen? ⟨b, o, none⟩ = W.frozen? ⟨b, o, none⟩) :=
  ⟨fun b o h => hb.cell (p := ⟨b, o, none⟩) h, fun b o h => hb.frozen (p := ⟨b, o, none⟩) h⟩

theorem toId_any (a b : Int) (w : World) :
    Calls Try.prog 8 #[.agg #[.int .i64 a, .int .i64 b]] w fun e w' => e = .returned (.agg #[.int .i64 a, .int .i64 b]) ∧ Below w.heap.size w w' := by
  go_enter Try.func8, Try.ntmps8
  go_wp2
  exact bodyPost_ret (v := .agg #[.int .i64 a, .int .i64 b]) (by simp [results, Try.results8, go_sem]) rfl ⟨rfl, by go_grown⟩
theorem implLess_any (a b c d : Int) (w : World) :
    Calls Try.prog 6 #[.agg #[.int .i64 a, .int .i64 b], .agg #[.int .i64 c, .int .i64 d]] w fun e w' => e = .returned (.bool (lessB a b c d)) ∧ Below w.heap.size w w' := by
  by_cases h : a = c
  · subst h
    go_enter Try.func6, Try.ntmps6
    go_wp2
    go_ret
    exact ⟨ret_bool (by simp [lessB]), by go_grown⟩
  · have h' : (a != c) = true := by simpa using h
    go_enter Try.func6, Try.ntmps6
    go_wp2
    go_ret
    exact ⟨ret_bool (by simp [lessB, h]), by go_grown⟩
theorem specLess_any (a b c d : Int) (w : World) :
    Calls Try.prog 7 #[.agg #[.int .i64 a, .int .i64 b], .agg #[.int .i64 c, .int .i64 d]] w fun e w' => e = .returned (.bool (lessB a b c d)) ∧ Below w.heap.size w w' := by
  by_cases h : a < c
  · go_enter Try.func7, Try.ntmps7
    go_wp2
    go_ret
    exact ⟨ret_bool (by simp [lessB, h]), by go_grown⟩
  · by_cases h2 : a = c
    · subst h2
      go_enter Try.func7, Try.ntmps7
      go_wp2
      go_ret
      exact ⟨ret_bool (by simp [lessB]), by go_grown⟩
    · have h3 : (a == c) = false := by simpa using h2
      go_enter Try.func7, Try.ntmps7
      go_wp2
      go_ret
      exact ⟨ret_bool (by simp [lessB, h, h2]), by go_grown⟩

theorem keep4 {w : World} {a b c d : Value} {w1 w2 : World} (hb : Below w1.heap.size w1 w2)
    (h : w1.cell? ⟨w.heap.size, 0, none⟩ = some a ∧ w1.cell? ⟨w.heap.size, 1, none⟩ = some b ∧ w1.cell? ⟨w.heap.size + 1, 0, none⟩ = some c ∧ w1.cell? ⟨w.heap.size + 1, 1, none⟩ = some d ∧ w.heap.size + 2 ≤ w1.heap.size ∧ Below w.heap.size w w1) :
    w2.cell? ⟨w.heap.size, 0, none⟩ = some a ∧ w2.cell? ⟨w.heap.size, 1, none⟩ = some b ∧ w2.cell? ⟨w.heap.size + 1, 0, none⟩ = some c ∧ w2.cell? ⟨w.heap.size + 1, 1, none⟩ = some d ∧ w.heap.size + 2 ≤ w2.heap.size ∧ Below w.heap.size w w2 := by
  obtain ⟨h1, h2, h3, h4, h5, h6⟩ := h
  obtain ⟨hc, _⟩ := bcell hb
  have := hb.size
  exact ⟨by rw [hc _ _ (by omega), h1], by rw [hc _ _ (by omega), h2], by rw [hc _ _ (by omega), h3], by rw [hc _ _ (by omega), h4], by omega, h6.trans (hb.mono (by omega))⟩
theorem keepDrew {w : World} {a b c d : Value} {w1 : World}
    (h : w1.cell? ⟨w.heap.size, 0, none⟩ = some a ∧ w1.cell? ⟨w.heap.size, 1, none⟩ = some b ∧ w1.cell? ⟨w.heap.size + 1, 0, none⟩ = some c ∧ w1.cell? ⟨w.heap.size + 1, 1, none⟩ = some d ∧ w.heap.size + 2 ≤ w1.heap.size ∧ Below w.heap.size w w1) :
    w1.drew.cell? ⟨w.heap.size, 0, none⟩ = some a ∧ w1.drew.cell? ⟨w.heap.size, 1, none⟩ = some b ∧ w1.drew.cell? ⟨w.heap.size + 1, 0, none⟩ = some c ∧ w1.drew.cell? ⟨w.heap.size + 1, 1, none⟩ = some d ∧ w.heap.size + 2 ≤ w1.drew.heap.size ∧ Below w.heap.size w w1.drew :=
  ⟨h.1, h.2.1, h.2.2.1, h.2.2.2.1, h.2.2.2.2.1, h.2.2.2.2.2.drew⟩
theorem keepNew (w : World) (a b c d : Value) (t u : TypeId) :
    let w1 := (w.alloc (.cells #[a, b] t)).alloc (.cells #[c, d] u)
    w1.cell? ⟨w.heap.size, 0, none⟩ = some a ∧ w1.cell? ⟨w.heap.size, 1, none⟩ = some b ∧ w1.cell? ⟨w.heap.size + 1, 0, none⟩ = some c ∧ w1.cell? ⟨w.heap.size + 1, 1, none⟩ = some d ∧ w.heap.size + 2 ≤ w1.heap.size ∧ Below w.heap.size w w1 := by
  intro w1
  refine ⟨?_, ?_, ?_, ?_, ?_, ?_⟩
  · simp [w1, go_sem]
  · simp [w1, go_sem]
  · simp [w1, go_sem]
  · simp [w1, go_sem]
  · simp [w1]
  · exact ((Below.refl _ _).alloc (Nat.le_refl _) _).alloc (by simp) _

theorem walkExact (a b c d : Int) (w : World) :
    Calls Try.prog 4 #[.agg #[.int .i64 a, .int .i64 b], .agg #[.int .i64 c, .int .i64 d]] w fun e w' => e = .returned (.bool true) ∧ Below w.heap.size w w' := by
  go_enter Try.func4, Try.ntmps4
  go_wp2
  go_region_held3 (fun w' => w'.cell? ⟨w.heap.size, 0, none⟩ = some (.int .i64 a) ∧ w'.cell? ⟨w.heap.size, 1, none⟩ = some (.int .i64 b) ∧ w'.cell? ⟨w.heap.size + 1, 0, none⟩ = some (.int .i64 c) ∧ w'.cell? ⟨w.heap.size + 1, 1, none⟩ = some (.int .i64 d) ∧ w.heap.size + 2 ≤ w'.heap.size ∧ Below w.heap.size w w') (first | exact keep4 hb (by assumption) | exact keepDrew (keepNew _ _ _ _ _ _ _))
    (first | (go_at_call 8; refine (toId_any _ _ _).mono ?_; rintro e w' ⟨rfl, hb⟩) | (go_at_call 7; refine (specLess_any _ _ _ _ _).mono ?_; rintro e w' ⟨rfl, hb⟩))
  clear hb
  rename_i hH
  go_wp2
  go_region_held3 (fun w' => w'.cell? ⟨w.heap.size, 0, none⟩ = some (.int .i64 a) ∧ w'.cell? ⟨w.heap.size, 1, none⟩ = some (.int .i64 b) ∧ w'.cell? ⟨w.heap.size + 1, 0, none⟩ = some (.int .i64 c) ∧ w'.cell? ⟨w.heap.size + 1, 1, none⟩ = some (.int .i64 d) ∧ w.heap.size + 2 ≤ w'.heap.size ∧ Below w.heap.size w w') (first | exact keep4 hb (by assumption) | exact keepDrew (by assumption))
    (first | (go_at_call 8; refine (toId_any _ _ _).mono ?_; rintro e w' ⟨rfl, hb⟩) | (go_at_call 6; refine (implLess_any _ _ _ _ _).mono ?_; rintro e w' ⟨rfl, hb⟩))
  rename_i hG
  have hfin := hG.2.2.2.2.2
  clear hG hb
  go_wp2
  go_ret
  exact ⟨rfl, hfin⟩
end Go.Proofs.Ytadmcbepjnnagaa
