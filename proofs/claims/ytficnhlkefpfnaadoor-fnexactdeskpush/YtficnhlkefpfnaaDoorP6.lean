/- How a slice of things that came in reads. -/
import Derived.Test.YtficnhlkefpfnaaDoorRows
import Derived.WalkKit
import Derived.ProofKit
import Derived.OpenShut
import Derived.ChangeOld
import Derived.Below
import Derived.Lib.SmallJoins
import Derived.Stop.LaidErr
import Derived.LaidMore
import Derived.Stop.Joined
import Derived.Test.YtficnhlkefpfnaaDoorP0
import Derived.Deep.Slices
namespace Go.Proofs.YtficnhlkefpfnaaDoor
open Go.ChangeShapes Go.WideShapes Go.ChangeAt Go.RowKit Go.Joins

theorem own : ownKnob Tryd.prog.godebug = none := by kernel_rfl
theorem laidOut : laidOutB Tryd.prog = true := by kernel_rfl
theorem cells_laws_Id : Tryd.prog.cellsOf 65 = 2 := by kernel_rfl
theorem cells_laws_Op : Tryd.prog.cellsOf 67 = 7 := by kernel_rfl
theorem cells_int : Tryd.prog.cellsOf 3 = 1 := by kernel_rfl

set_option maxRecDepth 100000 in
theorem cells_of_id {H : Type} {enc : TypeId × Value → H} {w : World} {base : Nat} {spare : Nat → Bool} {held : Bool} {fuel : Nat} {cs : List Value} {x : DataW H × List MemPlace}
    (h : DataW.trod enc Tryd.prog w base spare held fuel 65 cs = some x) : ∃ a b, cs = [.int .i64 a, .int .i64 b] := by
  obtain ⟨y0, y1, n, _, hl, h0, h1⟩ := trod_struct2 Tryd.underlying65 h
  rw [cells_laws_Id] at hl
  match cs, hl with
  | [c0, c1], _ =>
    simp only [cells_int] at h0 h1
    obtain ⟨a, e0, _, _⟩ := DataW.trod_int Tryd.underlying3 h0
    obtain ⟨b, e1, _, _⟩ := DataW.trod_int Tryd.underlying3 h1
    simp at e0 e1
    exact ⟨a, b, by rw [e0, e1]⟩

theorem trod_struct5 {P : Program} {H : Type} {enc : TypeId × Value → H} {w : World} {base : Nat} {spare : Nat → Bool} {held : Bool} {t : TypeId} {f0 f1 f2 f3 f4 : Field} {fuel : Nat} {cs : List Value} {x : DataW H × List MemPlace} (ht : P.underlying t = some (.struct #[f0, f1, f2, f3, f4])) (h : DataW.trod enc P w base spare held fuel t cs = some x) :
    ∃ y0 y1 y2 y3 y4 n, cs.length = P.cellsOf t ∧ DataW.trod enc P w base spare held n f0.type ((cs.drop f0.offset).take (P.cellsOf f0.type)) = some y0 ∧
      DataW.trod enc P w base spare held n f1.type ((cs.drop f1.offset).take (P.cellsOf f1.type)) = some y1 ∧ DataW.trod enc P w base spare held n f2.type ((cs.drop f2.offset).take (P.cellsOf f2.type)) = some y2 ∧
      DataW.trod enc P w base spare held n f3.type ((cs.drop f3.offset).take (P.cellsOf f3.type)) = some y3 ∧ DataW.trod enc P w base spare held n f4.type ((cs.drop f4.offset).take (P.cellsOf f4.type)) = some y4 := by
  obtain ⟨xs, n, _, rfl, hl, hlen, hf⟩ := DataW.trod_struct ht h
  match xs, hlen with
  | [y0, y1, y2, y3, y4], _ => exact ⟨y0, y1, y2, y3, y4, n, hl, by simpa using hf 0 f0 rfl, by simpa using hf 1 f1 rfl, by simpa using hf 2 f2 rfl, by simpa using hf 3 f3 rfl, by simpa using hf 4 f4 rfl⟩

set_option maxRecDepth 100000 in
theorem cells_of_op {H : Type} {enc : TypeId × Value → H} {w : World} {base : Nat} {spare : Nat → Bool} {held : Bool} {fuel : Nat} {cs : List Value} {x : DataW H × List MemPlace}
    (h : DataW.trod enc Tryd.prog w base spare held fuel 67 cs = some x) :
    ∃ a b k c d s g, cs = [.int .i64 a, .int .i64 b, .int .i64 k, .int .i64 c, .int .i64 d, .int .i64 s, .int .i64 g] := by
  obtain ⟨y0, y1, y2, y3, y4, n, hl, g0, g1, g2, g3, g4⟩ := trod_struct5 Tryd.underlying67 h
  rw [cells_laws_Op] at hl
  match cs, hl with
  | [c0, c1, c2, c3, c4, c5, c6], _ =>
    simp only [cells_int, cells_laws_Id] at g0 g1 g2 g3 g4
    obtain ⟨a, b, e0⟩ := cells_of_id (x := y0) g0
    obtain ⟨k, e1, _, _⟩ := DataW.trod_int (x := y1) Tryd.underlying3 g1
    obtain ⟨c, d, e2⟩ := cells_of_id (x := y2) g2
    obtain ⟨s, e3, _, _⟩ := DataW.trod_int (x := y3) Tryd.underlying3 g3
    obtain ⟨g, e4, _, _⟩ := DataW.trod_int (x := y4) Tryd.underlying3 g4
    simp at e0 e1 e2 e3 e4
    exact ⟨a, b, k, c, d, s, g, by rw [e0.1, e0.2, e1, e2.1, e2.2, e3, e4]⟩

set_option maxRecDepth 100000 in
theorem open_op {H : Type} {enc : TypeId × Value → H} {w : World} {r : Reach} {b0 base : Nat} {spare : Nat → Bool} {held : Bool} {v : Value} {d : DataW H} {p : List MemPlace}
    (hv : Value.okWide Tryd.prog w r b0 67 v) (h : DataW.Trod enc Tryd.prog w base spare held 67 v d p) :
    ∃ a b k c d s g, v = .agg #[.int .i64 a, .int .i64 b, .int .i64 k, .int .i64 c, .int .i64 d, .int .i64 s, .int .i64 g] := by
  obtain ⟨cs, rfl, _⟩ := okWide_struct Tryd.underlying67 hv
  obtain ⟨fuel, hf⟩ := h
  obtain ⟨a, b, k, c, d, s, g, e⟩ := cells_of_op hf
  obtain ⟨l⟩ := cs
  simp [Value.cells] at e
  exact ⟨a, b, k, c, d, s, g, by rw [e]⟩

/-- The name of the one listed variable. -/
abbrev errName : String := Rows.fnExactTypeRunSpec.vars.headD ""
/-- What the rows list. -/
abbrev laid1 : List (String × DataW Unit) := Rows.fnExactTypeRunRow.laid
theorem gErr : Tryd.prog.globalNamed errName = some 0 := by kernel_rfl
theorem tErr : (Tryd.prog.globals[0]?).map (·.type) = some 120 := by kernel_rfl
def nmOf : DataW Unit → String
  | .iface n _ => n
  | _ => ""
theorem star : "*" ++ "errors.errorString" = nmOf Rows.laid_loop_example_tatting_impl_errNoThing := by decide
theorem nameErr (u : TypeId) (h : Tryd.prog.typeName? 3 u = some (nmOf Rows.laid_loop_example_tatting_impl_errNoThing)) : u = 200 :=
  typeName_ptr_named (nm := "errors.errorString") (by rw [star]; kernel_rfl) (by kernel_rfl) (by decide) u (by rw [star]; exact h)

theorem door_met (os : Os) (args : Array Value) : laidMetH Tryd.prog laid1 ((World.doorLaid Tryd.prog 28 os).forCall (fun _ _ => 0) ⟨#[], args, []⟩).memory :=
  laidMetH_of_parts3 (fuel := 8) (laidMet_of_run' 8 (by kernel_rfl) (by kernel_rfl)) (by kernel_rfl) (by kernel_rfl)

/-- WHAT THE CONDITION GIVES THE WALKS: the one error's cell. -/
theorem of_laid {W : World} (h : laidMetH Tryd.prog laid1 W) : ∃ x : Addr, W.var? Tryd.prog errName = some #[.iface 200 (.pointer (some x))] ∧ W.cell? ⟨0, 0, none⟩ = some (.iface 200 (.pointer (some x))) ∧ 0 < W.heap.size := by
  rw [MakeChecks.laidMetH_plain _ _ _ (by kernel_rfl)] at h
  obtain ⟨x, s, hv, hc, _, _⟩ := laid_sentinel h gErr tErr Tryd.underlying120 nameErr Tryd.underlying200 Tryd.underlying226 rfl rfl Tryd.underlying9 (by kernel_rfl) (by kernel_rfl)
  have hcell : W.cell? ⟨0, 0, none⟩ = some (.iface 200 (.pointer (some x))) := by simpa using World.var?_cell gErr hv 0
  refine ⟨x, hv, hcell, ?_⟩
  rcases Nat.eq_zero_or_pos W.heap.size with h0 | h0
  · exfalso
    simp [World.cell?, Array.eq_empty_of_size_eq_zero h0] at hcell
  · exact h0

/-- The variable holds what it held, where nothing that was there has turned. -/
theorem var_kept {W W' : World} {x : Value} (hb : Below W.heap.size W W') (h0 : 0 < W.heap.size) (hv : W.var? Tryd.prog errName = some #[x]) : W'.var? Tryd.prog errName = some #[x] := by
  unfold World.var? at hv ⊢
  rw [gErr] at hv ⊢
  simp only [Option.bind_some] at hv ⊢
  rw [hb.block 0 h0]
  exact hv
end Go.Proofs.YtficnhlkefpfnaaDoor

namespace Go.Proofs.YtficnhlkefpfnaaDoor
open Go.ChangeShapes Go.WideShapes Go.ChangeAt Go.RowKit Go.Joins Go.Deep

theorem add_none (b off j : Nat) : (⟨b, off, none⟩ : Addr).add j = ⟨b, off + j, none⟩ := by
  unfold Addr.add
  split
  · rename_i h; simp_all
  · rfl

set_option maxRecDepth 100000 in
theorem open_ops {H : Type} {enc : TypeId × Value → H} {w : World} {r : Reach} {b0 : Nat} {spare : Nat → Bool} {held : Bool} {v : Value} {d : DataW H} {p : List MemPlace}
    (hv : Value.okWide Tryd.prog w r b0 22 v) (h : DataW.Trod enc Tryd.prog w 0 spare held 22 v d p) :
    ∃ (q : Option Addr) (l : List Op7) (cap : Nat), v = .slice q l.length cap ∧ l.length ≤ cap ∧ cap ≤ maxLen ∧ ArgOps w q l := by
  obtain ⟨q, len, cap, rfl⟩ := okWide_slice Tryd.underlying22 hv
  obtain ⟨fuel, hf⟩ := h
  rcases open_slice Tryd.underlying22 hf with ⟨h0, _⟩ | ⟨a, len', cap', m, n, D, Pl, h1, _, hl, hm, hmm, _, hel⟩
  · simp [Value.cells] at h0
    obtain ⟨rfl, rfl, rfl⟩ := h0
    exact ⟨none, [], 0, rfl, Nat.le_refl _, Nat.zero_le _, .inl rfl⟩
  · simp [Value.cells] at h1
    obtain ⟨rfl, rfl, rfl⟩ := h1
    have hlm : len ≤ m := by rw [hmm]; split <;> omega
    by_cases hz : len = 0
    · subst hz
      exact ⟨some a, [], cap, rfl, Nat.zero_le _, hm, .inl rfl⟩
    obtain ⟨b, off, spot⟩ := a
    have hspot : spot = none := by
      obtain ⟨cs', hc, ht⟩ := hel 0 (by omega)
      rw [cells_laws_Op] at hc
      obtain ⟨xa, xb, xk, xc, xd, xs, xg, rfl⟩ := cells_of_op ht
      obtain ⟨_, _, hget⟩ := World.cells?_some hc
      have h0 := hget 0 (by omega)
      simpa [Addr.add] using World.cell?_spot h0
    subst hspot
    have hex : ∀ i, i < len → ∃ o : Op7, w.cell? ⟨b, off + i * 7, none⟩ = some (.int .i64 o.a) ∧ w.cell? ⟨b, off + i * 7 + 1, none⟩ = some (.int .i64 o.b) ∧ w.cell? ⟨b, off + i * 7 + 2, none⟩ = some (.int .i64 o.k) ∧ w.cell? ⟨b, off + i * 7 + 3, none⟩ = some (.int .i64 o.c) ∧ w.cell? ⟨b, off + i * 7 + 4, none⟩ = some (.int .i64 o.d) ∧ w.cell? ⟨b, off + i * 7 + 5, none⟩ = some (.int .i64 o.s) ∧ w.cell? ⟨b, off + i * 7 + 6, none⟩ = some (.int .i64 o.g) := by
      intro i hi
      obtain ⟨cs', hc, ht⟩ := hel i (by omega)
      rw [cells_laws_Op, add_none] at hc
      obtain ⟨xa, xb, xk, xc, xd, xs, xg, rfl⟩ := cells_of_op ht
      obtain ⟨_, _, hget⟩ := World.cells?_some hc
      simp only [add_none] at hget
      exact ⟨⟨xa, xb, xk, xc, xd, xs, xg⟩, hget 0 (by omega), hget 1 (by omega), hget 2 (by omega), hget 3 (by omega), hget 4 (by omega), hget 5 (by omega), hget 6 (by omega)⟩
    obtain ⟨f, hfe⟩ : ∃ f : Nat → Op7, ∀ i, i < len → w.cell? ⟨b, off + i * 7, none⟩ = some (.int .i64 (f i).a) ∧ w.cell? ⟨b, off + i * 7 + 1, none⟩ = some (.int .i64 (f i).b) ∧ w.cell? ⟨b, off + i * 7 + 2, none⟩ = some (.int .i64 (f i).k) ∧ w.cell? ⟨b, off + i * 7 + 3, none⟩ = some (.int .i64 (f i).c) ∧ w.cell? ⟨b, off + i * 7 + 4, none⟩ = some (.int .i64 (f i).d) ∧ w.cell? ⟨b, off + i * 7 + 5, none⟩ = some (.int .i64 (f i).s) ∧ w.cell? ⟨b, off + i * 7 + 6, none⟩ = some (.int .i64 (f i).g) :=
      ⟨fun i => if h : i < len then Classical.choose (hex i h) else ⟨0, 0, 0, 0, 0, 0, 0⟩, fun i hi => by
        simp only [dif_pos hi]
        exact Classical.choose_spec (hex i hi)⟩
    refine ⟨some ⟨b, off, none⟩, (List.range len).map f, cap, by simp, by simpa using hl, hm, .inr ⟨b, off, rfl, ?_, fun i o ho => ?_⟩⟩
    · exact World.block_lt_of_cell? w _ (hfe 0 (by omega)).1
    · have hi : i < len := by
        have := (List.getElem?_eq_some_iff.1 ho).1
        simpa using this
      obtain rfl : o = f i := by simpa [hi] using ho.symm
      exact hfe i hi

set_option maxRecDepth 100000 in
theorem open_id {H : Type} {enc : TypeId × Value → H} {w : World} {r : Reach} {b0 base : Nat} {spare : Nat → Bool} {held : Bool} {v : Value} {d : DataW H} {p : List MemPlace}
    (hv : Value.okWide Tryd.prog w r b0 65 v) (h : DataW.Trod enc Tryd.prog w base spare held 65 v d p) : ∃ a b, v = .agg #[.int .i64 a, .int .i64 b] := by
  obtain ⟨cs, rfl, _⟩ := okWide_struct Tryd.underlying65 hv
  obtain ⟨fuel, hf⟩ := h
  obtain ⟨a, b, e⟩ := cells_of_id hf
  obtain ⟨l⟩ := cs
  simp [Value.cells] at e
  exact ⟨a, b, by rw [e]⟩
end Go.Proofs.YtficnhlkefpfnaaDoor
