/- Marks stand as signs do, in plain mathematics. -/
import Derived.Test.YtjgbickelgkljaaDoorPackP
import Derived.Test.YtjgbickelgkljaaDoorPackK
namespace Go.Proofs.YtjgbickelgkljaaDoor
open Go.RowKit
set_option linter.unusedSimpArgs false
set_option linter.unusedVariables false

/-- An id is a leaf's, then the mark's place is how many stand up to it; or it is nothing's; or there is no such mark. -/
theorem at_mark {l : List Op7} (h : opsB l = true) (a b : Int) :
    (∃ j : Nat, j < (lvs l).length ∧ atI (lvs l) a b = j ∧ ¬ (a = 0 ∧ b = 0) ∧ markP l a b = some (nShown ((lvs l).take (j + 1)))) ∨
    (atI (lvs l) a b = -1 ∧ ((a = 0 ∧ b = 0 ∧ markP l a b = some 0) ∨ (¬ (a = 0 ∧ b = 0) ∧ markP l a b = none))) := by
  by_cases hx : ∃ y ∈ lvs l, y.a = a ∧ y.b = b
  · obtain ⟨y, hy, ha, hb⟩ := hx
    obtain ⟨k, hk, e, e1, e2⟩ := atI_hit hy ha hb
    refine .inl ⟨k, hk, e, ?_, ?_⟩
    · have := lvs_pos h (List.getElem?_eq_getElem hk)
      rw [e1] at this
      omega
    · have := place_leaf h (List.getElem?_eq_getElem hk)
      rw [e1, e2] at this
      exact this
  · have hno : ∀ y ∈ lvs l, ¬ (y.a = a ∧ y.b = b) := fun y hy e => hx ⟨y, hy, e⟩
    refine .inr ⟨atI_miss hno, ?_⟩
    by_cases hz : a = 0 ∧ b = 0
    · refine .inl ⟨hz.1, hz.2, ?_⟩
      unfold markP placeM
      rw [if_pos h, if_pos hz]
    · refine .inr ⟨hz, ?_⟩
      unfold markP placeM
      rw [if_pos h, if_neg hz]
      exact upTo_free hno
theorem at_mark4 {l : List Op7} (h : opsB l = true) (a b : Int) :
    (∃ j : Nat, j < (lvs l).length ∧ atI (lvs l) a b = j ∧ markP l a b = some (nShown ((lvs l).take (j + 1)))) ∨
    (atI (lvs l) a b = -1 ∧ a = 0 ∧ b = 0 ∧ markP l a b = some 0) ∨ (atI (lvs l) a b = -1 ∧ ¬ a = 0 ∧ markP l a b = none) ∨ (atI (lvs l) a b = -1 ∧ a = 0 ∧ ¬ b = 0 ∧ markP l a b = none) := by
  obtain ⟨j, h1, h2, _, h3⟩ | ⟨h1, ⟨h2, h3, h4⟩ | ⟨h2, h3⟩⟩ := at_mark h a b
  · exact .inl ⟨j, h1, h2, h3⟩
  · exact .inr (.inl ⟨h1, h2, h3, h4⟩)
  · by_cases ha : a = 0
    · exact .inr (.inr (.inr ⟨h1, ha, fun hb => h2 ⟨ha, hb⟩, h3⟩))
    · exact .inr (.inr (.inl ⟨h1, ha, h3⟩))
theorem shown_mono (L : List Lf) {i k : Nat} (h : i ≤ k) : nShown (L.take i) ≤ nShown (L.take k) := by
  have e : L.take k = L.take i ++ (L.take k).drop i := by
    have e2 := List.take_append_drop i (L.take k)
    rw [List.take_take, Nat.min_eq_left h] at e2
    exact e2.symm
  rw [e, nShown_app]
  omega
/-- The text from a mark to one that is not ahead of it is as long as it is from place to place. -/
theorem span_size {l : List Op7} {a b c d : Int} {f t : Nat} (h1 : markP l a b = some f) (h2 : markP l c d = some t) (h : f ≤ t) : (spanT l a b c d).size = t - f := by
  rw [span_yes h1 h2 h, ByteArray.size_extract]
  have := markP_le h2
  rw [← nShown_text] at this
  omega
end Go.Proofs.YtjgbickelgkljaaDoor
