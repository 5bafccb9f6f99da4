/- How a desk that came in reads. -/
import Derived.Test.YtficnhlkefpfnaaDoorP4
import Derived.Test.YtficnhlkefpfnaaDoorP5
import Derived.ChangeSlices
namespace Go.Proofs.YtficnhlkefpfnaaDoor
open Go.ChangeShapes Go.WideShapes Go.ChangeAt Go.RowKit Go.Joins


set_option maxRecDepth 100000 in
theorem open_nums {H : Type} {enc : TypeId × Value → H} {w : World} {r : Reach} {b0 : Nat} {spare : Nat → Bool} {held : Bool} {v : Value} {d : DataW H} {p : List MemPlace}
    (hv : Value.okWide Tryd.prog w r b0 33 v) (h : DataW.Trod enc Tryd.prog w 0 spare held 33 v d p) :
    ∃ (q : Option Addr) (l : List Int) (cap : Nat), v = .slice q l.length cap ∧ l.length ≤ cap ∧ cap ≤ maxLen ∧ ArgInts w q l := by
  obtain ⟨q, len, cap, rfl⟩ := okWide_slice Tryd.underlying33 hv
  obtain ⟨fuel, hf⟩ := h
  rcases open_ints Tryd.underlying33 Tryd.underlying3 cells_int hf with ⟨hcs, _⟩ | ⟨a, len', cap', zs, hcs, _, hl, hm, hz, _, hcell, hwz⟩
  · simp [Value.cells] at hcs
    obtain ⟨rfl, rfl, rfl⟩ := hcs
    exact ⟨none, [], 0, rfl, Nat.le_refl _, Nat.zero_le _, .inl rfl⟩
  · simp [Value.cells] at hcs
    obtain ⟨rfl, rfl, rfl⟩ := hcs
    have hlz : len ≤ zs.length := by rw [hz]; split <;> omega
    rcases Nat.eq_zero_or_pos len with h0 | h0
    · subst h0
      exact ⟨some a, [], cap, rfl, hl, hm, .inl rfl⟩
    obtain ⟨b, off, spot⟩ := a
    have hspot : spot = none := by simpa [Addr.add] using World.cell?_spot (hcell 0 (by omega))
    subst hspot
    have hlen : (zs.take len).length = len := by simp; omega
    refine ⟨some ⟨b, off, none⟩, zs.take len, cap, by rw [hlen], by rw [hlen]; exact hl, hm, .inr ⟨b, off, rfl, ?_, fun i x hx => ?_⟩⟩
    · have := World.block_lt_of_cell? w _ (hcell 0 (by omega))
      simpa [Addr.add_lit] using this
    · have hi : i < len := by have := (List.getElem?_eq_some_iff.1 hx).1; omega
      have hc := hcell i (by omega)
      rw [Addr.add_lit] at hc
      have e : zs.getD i 0 = x := by
        rw [List.getElem?_take_of_lt hi] at hx
        simp [List.getD, hx]
      rw [e] at hc
      exact hc
end Go.Proofs.YtficnhlkefpfnaaDoor

namespace Go.Proofs.YtficnhlkefpfnaaDoor
open Go.ChangeShapes Go.WideShapes Go.ChangeAt Go.RowKit Go.Joins Go.Deep

theorem cells_laws_Desk : Tryd.prog.cellsOf 35 = 4 := by kernel_rfl
theorem cells_ints : Tryd.prog.cellsOf 33 = 1 := by kernel_rfl
theorem trod_struct3 {P : Program} {H : Type} {enc : TypeId × Value → H} {w : World} {base : Nat} {spare : Nat → Bool} {held : Bool} {t : TypeId} {f0 f1 f2 : Field} {fuel : Nat} {cs : List Value} {x : DataW H × List MemPlace} (ht : P.underlying t = some (.struct #[f0, f1, f2])) (h : DataW.trod enc P w base spare held fuel t cs = some x) :
    ∃ y0 y1 y2 n, cs.length = P.cellsOf t ∧ DataW.trod enc P w base spare held n f0.type ((cs.drop f0.offset).take (P.cellsOf f0.type)) = some y0 ∧ DataW.trod enc P w base spare held n f1.type ((cs.drop f1.offset).take (P.cellsOf f1.type)) = some y1 ∧ DataW.trod enc P w base spare held n f2.type ((cs.drop f2.offset).take (P.cellsOf f2.type)) = some y2 := by
  obtain ⟨xs, n, _, rfl, hl, hlen, hf⟩ := DataW.trod_struct ht h
  match xs, hlen with
  | [y0, y1, y2], _ => exact ⟨y0, y1, y2, n, hl, by simpa using hf 0 f0 rfl, by simpa using hf 1 f1 rfl, by simpa using hf 2 f2 rfl⟩
theorem open_docc {H : Type} {enc : TypeId × Value → H} {w : World} {spare : Nat → Bool} {held : Bool} {fuel : Nat} {c0 c1 : Value} {y : DataW H × List MemPlace}
    (hf : DataW.trod enc Tryd.prog w 0 spare held fuel 32 [c0, c1] = some y) :
    ∃ (q : Option Addr) (l : List Op7) (cap : Nat) (q2 : Option Addr) (ws : List Op7) (cap2 : Nat), (c0 = .slice q l.length cap ∧ c1 = .slice q2 ws.length cap2) ∧ (l.length ≤ cap ∧ cap ≤ maxLen ∧ ArgOps w q l) ∧ (ws.length ≤ cap2 ∧ cap2 ≤ maxLen ∧ ArgOps w q2 ws) := by
  obtain ⟨y0, y1, n, hl, g0, g1⟩ := trod_struct2 Tryd.underlying32 hf
  simp only [cells_laws_Ops] at g0 g1
  obtain ⟨q, l, cap, e0, h0⟩ := open_cell (y := y0) g0
  obtain ⟨q2, ws, cap2, e1, h1⟩ := open_cell (y := y1) g1
  exact ⟨q, l, cap, q2, ws, cap2, ⟨e0, e1⟩, h0, h1⟩
theorem open_numc {H : Type} {enc : TypeId × Value → H} {w : World} {spare : Nat → Bool} {held : Bool} {fuel : Nat} {c : Value} {y : DataW H × List MemPlace}
    (hf : DataW.trod enc Tryd.prog w 0 spare held fuel 33 [c] = some y) :
    ∃ (q : Option Addr) (l : List Int) (cap : Nat), c = .slice q l.length cap ∧ l.length ≤ cap ∧ cap ≤ maxLen ∧ ArgInts w q l := by
  obtain ⟨d, p⟩ := y
  rcases open_ints Tryd.underlying33 Tryd.underlying3 cells_int hf with ⟨hcs, _⟩ | ⟨a, len, cap, zs, hcs, _, hl, hm, hz, _, hcell, hwz⟩
  · simp at hcs
    exact ⟨none, [], 0, hcs, Nat.le_refl _, Nat.zero_le _, .inl rfl⟩
  · simp at hcs
    subst hcs
    have hlz : len ≤ zs.length := by rw [hz]; split <;> omega
    rcases Nat.eq_zero_or_pos len with h0 | h0
    · subst h0
      exact ⟨some a, [], cap, rfl, hl, hm, .inl rfl⟩
    obtain ⟨b, off, spot⟩ := a
    have hspot : spot = none := by simpa [Addr.add] using World.cell?_spot (hcell 0 (by omega))
    subst hspot
    have hlen : (zs.take len).length = len := by simp; omega
    refine ⟨some ⟨b, off, none⟩, zs.take len, cap, by rw [hlen], by rw [hlen]; exact hl, hm, .inr ⟨b, off, rfl, ?_, fun i x hx => ?_⟩⟩
    · have := World.block_lt_of_cell? w _ (hcell 0 (by omega))
      simpa [Addr.add_lit] using this
    · have hi : i < len := by have := (List.getElem?_eq_some_iff.1 hx).1; omega
      have hc := hcell i (by omega)
      rw [Addr.add_lit] at hc
      have e : zs.getD i 0 = x := by
        rw [List.getElem?_take_of_lt hi] at hx
        simp [List.getD, hx]
      rw [e] at hc
      exact hc
set_option maxRecDepth 100000 in
theorem open_desk {H : Type} {enc : TypeId × Value → H} {w : World} {r : Reach} {b0 : Nat} {spare : Nat → Bool} {held : Bool} {v : Value} {d : DataW H} {p : List MemPlace}
    (hv : Value.okWide Tryd.prog w r b0 35 v) (h : DataW.Trod enc Tryd.prog w 0 spare held 35 v d p) :
    ∃ (rp : Int) (q : Option Addr) (l : List Op7) (cap : Nat) (q2 : Option Addr) (ws : List Op7) (cap2 : Nat) (q3 : Option Addr) (s : List Int) (cap3 : Nat), v = .agg #[.int .i64 rp, .slice q l.length cap, .slice q2 ws.length cap2, .slice q3 s.length cap3] ∧ (l.length ≤ cap ∧ cap ≤ maxLen ∧ ArgOps w q l) ∧ (ws.length ≤ cap2 ∧ cap2 ≤ maxLen ∧ ArgOps w q2 ws) ∧ (s.length ≤ cap3 ∧ cap3 ≤ maxLen ∧ ArgInts w q3 s) := by
  obtain ⟨cs, rfl, _⟩ := okWide_struct Tryd.underlying35 hv
  obtain ⟨fuel, hf⟩ := h
  obtain ⟨y0, y1, y2, n, hl, g0, g1, g2⟩ := trod_struct3 Tryd.underlying35 hf
  obtain ⟨cl⟩ := cs
  simp only [Value.cells] at hl g0 g1 g2
  rw [cells_laws_Desk] at hl
  match cl, hl with
  | [c0, c1, c2, c3], _ =>
    simp only [cells_int, cells_laws_Doc, cells_ints] at g0 g1 g2
    obtain ⟨rp, e0, _, _⟩ := DataW.trod_int (x := y0) Tryd.underlying3 g0
    obtain ⟨q, l, cap, q2, ws, cap2, ⟨e1, e2⟩, h1, h2⟩ := open_docc (y := y1) g1
    obtain ⟨q3, s, cap3, e3, h3⟩ := open_numc (y := y2) g2
    simp at e0
    exact ⟨rp, q, l, cap, q2, ws, cap2, q3, s, cap3, by rw [e0, e1, e2, e3], h1, h2, h3⟩
end Go.Proofs.YtficnhlkefpfnaaDoor
