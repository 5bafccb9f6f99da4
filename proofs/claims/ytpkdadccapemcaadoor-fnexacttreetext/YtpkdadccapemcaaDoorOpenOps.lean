/- How a slice of things that came in reads. -/
import Derived.Test.YtpkdadccapemcaaDoorOpen
import Derived.Test.YtpkdadccapemcaaDoorToOps
import Derived.Deep.Slices
namespace Go.Proofs.YtpkdadccapemcaaDoor
open Go.ChangeShapes Go.WideShapes Go.ChangeAt Go.RowKit Go.Joins Go.Deep

theorem add_none (b off j : Nat) : (⟨b, off, none⟩ : Addr).add j = ⟨b, off + j, none⟩ := by
  unfold Addr.add
  split
  · rename_i h; simp_all
  · rfl

set_option maxRecDepth 100000 in
theorem open_ops {H : Type} {enc : TypeId × Value → H} {w : World} {r : Reach} {b0 : Nat} {spare : Nat → Bool} {held : Bool} {v : Value} {d : DataW H} {p : List MemPlace}
    (hv : Value.okWide Tryd.prog w r b0 22 v) (h : DataW.Trod enc Tryd.prog w 0 spare held 22 v d p) :
    ∃ (q : Option Addr) (l : List Op7) (cap : Nat), v = .slice q l.length cap ∧ l.length ≤ cap ∧ cap ≤ maxLen ∧ ArgOps w q l := by
  obtain ⟨q, len, cap, rfl⟩ := okWide_slice Tryd.underlying22 hv
  obtain ⟨fuel, hf⟩ := h
  rcases open_slice Tryd.underlying22 hf with ⟨h0, _⟩ | ⟨a, len', cap', m, n, D, Pl, h1, _, hl, hm, hmm, _, hel⟩
  · simp [Value.cells] at h0
    obtain ⟨rfl, rfl, rfl⟩ := h0
    exact ⟨none, [], 0, rfl, Nat.le_refl _, Nat.zero_le _, .inl rfl⟩
  · simp [Value.cells] at h1
    obtain ⟨rfl, rfl, rfl⟩ := h1
    have hlm : len ≤ m := by rw [hmm]; split <;> omega
    by_cases hz : len = 0
    · subst hz
      exact ⟨some a, [], cap, rfl, Nat.zero_le _, hm, .inl rfl⟩
    obtain ⟨b, off, spot⟩ := a
    have hspot : spot = none := by
      obtain ⟨cs', hc, ht⟩ := hel 0 (by omega)
      rw [cells_laws_Op] at hc
      obtain ⟨xa, xb, xk, xc, xd, xs, xg, rfl⟩ := cells_of_op ht
      obtain ⟨_, _, hget⟩ := World.cells?_some hc
      have h0 := hget 0 (by omega)
      simpa [Addr.add] using World.cell?_spot h0
    subst hspot
    have hex : ∀ i, i < len → ∃ o : Op7, w.cell? ⟨b, off + i * 7, none⟩ = some (.int .i64 o.a) ∧ w.cell? ⟨b, off + i * 7 + 1, none⟩ = some (.int .i64 o.b) ∧ w.cell? ⟨b, off + i * 7 + 2, none⟩ = some (.int .i64 o.k) ∧ w.cell? ⟨b, off + i * 7 + 3, none⟩ = some (.int .i64 o.c) ∧ w.cell? ⟨b, off + i * 7 + 4, none⟩ = some (.int .i64 o.d) ∧ w.cell? ⟨b, off + i * 7 + 5, none⟩ = some (.int .i64 o.s) ∧ w.cell? ⟨b, off + i * 7 + 6, none⟩ = some (.int .i64 o.g) := by
      intro i hi
      obtain ⟨cs', hc, ht⟩ := hel i (by omega)
      rw [cells_laws_Op, add_none] at hc
      obtain ⟨xa, xb, xk, xc, xd, xs, xg, rfl⟩ := cells_of_op ht
      obtain ⟨_, _, hget⟩ := World.cells?_some hc
      simp only [add_none] at hget
      exact ⟨⟨xa, xb, xk, xc, xd, xs, xg⟩, hget 0 (by omega), hget 1 (by omega), hget 2 (by omega), hget 3 (by omega), hget 4 (by omega), hget 5 (by omega), hget 6 (by omega)⟩
    obtain ⟨f, hfe⟩ : ∃ f : Nat → Op7, ∀ i, i < len → w.cell? ⟨b, off + i * 7, none⟩ = some (.int .i64 (f i).a) ∧ w.cell? ⟨b, off + i * 7 + 1, none⟩ = some (.int .i64 (f i).b) ∧ w.cell? ⟨b, off + i * 7 + 2, none⟩ = some (.int .i64 (f i).k) ∧ w.cell? ⟨b, off + i * 7 + 3, none⟩ = some (.int .i64 (f i).c) ∧ w.cell? ⟨b, off + i * 7 + 4, none⟩ = some (.int .i64 (f i).d) ∧ w.cell? ⟨b, off + i * 7 + 5, none⟩ = some (.int .i64 (f i).s) ∧ w.cell? ⟨b, off + i * 7 + 6, none⟩ = some (.int .i64 (f i).g) :=
      ⟨fun i => if h : i < len then Classical.choose (hex i h) else ⟨0, 0, 0, 0, 0, 0, 0⟩, fun i hi => by
        simp only [dif_pos hi]
        exact Classical.choose_spec (hex i hi)⟩
    refine ⟨some ⟨b, off, none⟩, (List.range len).map f, cap, by simp, by simpa using hl, hm, .inr ⟨b, off, rfl, ?_, fun i o ho => ?_⟩⟩
    · exact World.block_lt_of_cell? w _ (hfe 0 (by omega)).1
    · have hi : i < len := by
        have := (List.getElem?_eq_some_iff.1 ho).1
        simpa using this
      obtain rfl : o = f i := by simpa [hi] using ho.symm
      exact hfe i hi

set_option maxRecDepth 100000 in
theorem open_id {H : Type} {enc : TypeId × Value → H} {w : World} {r : Reach} {b0 base : Nat} {spare : Nat → Bool} {held : Bool} {v : Value} {d : DataW H} {p : List MemPlace}
    (hv : Value.okWide Tryd.prog w r b0 35 v) (h : DataW.Trod enc Tryd.prog w base spare held 35 v d p) : ∃ a b, v = .agg #[.int .i64 a, .int .i64 b] := by
  obtain ⟨cs, rfl, _⟩ := okWide_struct Tryd.underlying35 hv
  obtain ⟨fuel, hf⟩ := h
  obtain ⟨a, b, e⟩ := cells_of_id hf
  obtain ⟨l⟩ := cs
  simp [Value.cells] at e
  exact ⟨a, b, by rw [e]⟩
end Go.Proofs.YtpkdadccapemcaaDoor
