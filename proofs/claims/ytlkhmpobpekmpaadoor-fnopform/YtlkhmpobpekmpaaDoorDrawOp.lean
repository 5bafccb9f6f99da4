/- The contract of DrawOpOk: some seven numbers. -/
import Derived.Test.YtlkhmpobpekmpaaDoorDrawId
namespace Go.Proofs.YtlkhmpobpekmpaaDoor
open Go.RowKit
set_option linter.unusedSimpArgs false
set_option linter.unusedVariables false
attribute [local go_sem ↓] Go.wp_at_zero Go.wp_at_succ

/-- A thing in a block of its own, that may be written. -/
structure OpBlk (W : World) (g : Nat) (a b k c d s t : Int) : Prop where
  x0 : W.cell? ⟨g, 0, none⟩ = some (.int .i64 a)
  x1 : W.cell? ⟨g, 1, none⟩ = some (.int .i64 b)
  x2 : W.cell? ⟨g, 2, none⟩ = some (.int .i64 k)
  x3 : W.cell? ⟨g, 3, none⟩ = some (.int .i64 c)
  x4 : W.cell? ⟨g, 4, none⟩ = some (.int .i64 d)
  x5 : W.cell? ⟨g, 5, none⟩ = some (.int .i64 s)
  x6 : W.cell? ⟨g, 6, none⟩ = some (.int .i64 t)
  fz : ∀ j, W.frozen? ⟨g, j, none⟩ = false
  lt : g < W.heap.size
theorem OpBlk.only {q : Nat} {W W' : World} {g : Nat} {a b k c d s t : Int} (h : OpBlk W g a b k c d s t) (ho : OnlyQ q W W') (hg : g ≠ q) : OpBlk W' g a b k c d s t :=
  ⟨(ho.cell _ _ h.lt hg).trans h.x0, (ho.cell _ _ h.lt hg).trans h.x1, (ho.cell _ _ h.lt hg).trans h.x2, (ho.cell _ _ h.lt hg).trans h.x3, (ho.cell _ _ h.lt hg).trans h.x4, (ho.cell _ _ h.lt hg).trans h.x5, (ho.cell _ _ h.lt hg).trans h.x6, fun j => (ho.frozen _ _ h.lt hg).trans (h.fz j), Nat.lt_of_lt_of_le h.lt ho.size⟩

theorem OpBlk.alloc {W : World} {g : Nat} {a b k c d s t : Int} (h : OpBlk W g a b k c d s t) (o : Obj) : OpBlk (W.alloc o) g a b k c d s t := by
  have hc : ∀ j, (W.alloc o).cell? ⟨g, j, none⟩ = W.cell? ⟨g, j, none⟩ := fun j => World.cell?_alloc_lt _ _ _ h.lt
  exact ⟨(hc _).trans h.x0, (hc _).trans h.x1, (hc _).trans h.x2, (hc _).trans h.x3, (hc _).trans h.x4, (hc _).trans h.x5, (hc _).trans h.x6, fun j => by rw [World.frozen?_alloc_past _ _ _ h.lt]; exact h.fz j, Nat.lt_of_lt_of_le h.lt (by simp)⟩
theorem OpBlk.other {W : World} {g f j : Nat} {v : Value} {a b k c d s t : Int} (h : OpBlk W g a b k c d s t) (hne : g ≠ f) : OpBlk (W.setCell ⟨f, j, none⟩ v) g a b k c d s t := by
  have hc : ∀ i, (W.setCell ⟨f, j, none⟩ v).cell? ⟨g, i, none⟩ = W.cell? ⟨g, i, none⟩ := fun i => World.cell?_setCell_other _ _ _ _ (by intro he; have := congrArg Addr.block he; simp at this; omega)
  exact ⟨(hc _).trans h.x0, (hc _).trans h.x1, (hc _).trans h.x2, (hc _).trans h.x3, (hc _).trans h.x4, (hc _).trans h.x5, (hc _).trans h.x6, fun i => by rw [World.frozen?_setCell]; exact h.fz i, by simpa using h.lt⟩
theorem OpBlk.set2 {W : World} {g : Nat} {v : Int} {a b k c d s t : Int} (h : OpBlk W g a b k c d s t) : OpBlk (W.setCell ⟨g, 2, none⟩ (.int .i64 v)) g a b v c d s t := by
  obtain ⟨x0, x1, x2, x3, x4, x5, x6, fz, lt⟩ := h
  exact ⟨by simp [go_sem, x0], by simp [go_sem, x1], by simp [go_sem, x2], by simp [go_sem, x3], by simp [go_sem, x4], by simp [go_sem, x5], by simp [go_sem, x6], fun i => by rw [World.frozen?_setCell]; exact fz i, by simpa using lt⟩
theorem OpBlk.set5 {W : World} {g : Nat} {v : Int} {a b k c d s t : Int} (h : OpBlk W g a b k c d s t) : OpBlk (W.setCell ⟨g, 5, none⟩ (.int .i64 v)) g a b k c d v t := by
  obtain ⟨x0, x1, x2, x3, x4, x5, x6, fz, lt⟩ := h
  exact ⟨by simp [go_sem, x0], by simp [go_sem, x1], by simp [go_sem, x2], by simp [go_sem, x3], by simp [go_sem, x4], by simp [go_sem, x5], by simp [go_sem, x6], fun i => by rw [World.frozen?_setCell]; exact fz i, by simpa using lt⟩
theorem OpBlk.set6 {W : World} {g : Nat} {v : Int} {a b k c d s t : Int} (h : OpBlk W g a b k c d s t) : OpBlk (W.setCell ⟨g, 6, none⟩ (.int .i64 v)) g a b k c d s v := by
  obtain ⟨x0, x1, x2, x3, x4, x5, x6, fz, lt⟩ := h
  exact ⟨by simp [go_sem, x0], by simp [go_sem, x1], by simp [go_sem, x2], by simp [go_sem, x3], by simp [go_sem, x4], by simp [go_sem, x5], by simp [go_sem, x6], fun i => by rw [World.frozen?_setCell]; exact fz i, by simpa using lt⟩

/-- Where the drawing of a thing stands: the reader, the answer's block, the thing's block. -/
structure St (w1 W : World) (q R G : Nat) (p : Option Addr) (n cap K : Nat) (a b k c d s t : Int) : Prop where
  rd : RdAt W q p n cap K
  only : OnlyQ q w1 W
  res : OpBlk W R 0 0 0 0 0 0 0
  op : OpBlk W G a b k c d s t
  base : RdAt w1 q p n cap 0
  gG : w1.heap.size ≤ G
  gR : R ≠ q
  rG : R ≠ G
theorem St.pick {w1 W W' : World} {q R G : Nat} {p : Option Addr} {n cap K K' : Nat} {a b k c d s t : Int} (h : St w1 W q R G p n cap K a b k c d s t) (hr : RdAt W' q p n cap K') (ho : OnlyQ q W W') : St w1 W' q R G p n cap K' a b k c d s t :=
  ⟨hr, h.only.trans ho, h.res.only ho h.gR, h.op.only ho (by have := h.base.lt; have := h.gG; omega), h.base, h.gG, h.gR, h.rG⟩
theorem St.alloc {w1 W : World} {q R G : Nat} {p : Option Addr} {n cap K : Nat} {a b k c d s t : Int} (h : St w1 W q R G p n cap K a b k c d s t) (o : Obj) : St w1 (W.alloc o) q R G p n cap K a b k c d s t :=
  ⟨h.rd.alloc o, h.only.alloc h.base.lt o, h.res.alloc o, h.op.alloc o, h.base, h.gG, h.gR, h.rG⟩
theorem St.rdset {w1 W : World} {q R G : Nat} {p : Option Addr} {n cap K : Nat} {a b k c d s t : Int} (h : St w1 W q R G p n cap K a b k c d s t) (j : Nat) (v : Value) : RdAt (W.setCell ⟨G, j, none⟩ v) q p n cap K :=
  h.base.fin h.rd (h.only.set h.base.lt h.gG j v) (fun o => World.cell?_setCell_other _ _ _ _ (by intro he; have h1 := congrArg Addr.block he; have h2 := h.base.lt; have h3 := h.gG; dsimp only at h1; omega)) (fun o => World.frozen?_setCell _ _ _ _)
theorem St.set2 {w1 W : World} {q R G : Nat} {p : Option Addr} {n cap K : Nat} {a b k c d s t v : Int} (h : St w1 W q R G p n cap K a b k c d s t) : St w1 (W.setCell ⟨G, 2, none⟩ (.int .i64 v)) q R G p n cap K a b v c d s t :=
  ⟨h.rdset _ _, h.only.set h.base.lt h.gG _ _, h.res.other h.rG, h.op.set2, h.base, h.gG, h.gR, h.rG⟩
theorem St.set5 {w1 W : World} {q R G : Nat} {p : Option Addr} {n cap K : Nat} {a b k c d s t v : Int} (h : St w1 W q R G p n cap K a b k c d s t) : St w1 (W.setCell ⟨G, 5, none⟩ (.int .i64 v)) q R G p n cap K a b k c d v t :=
  ⟨h.rdset _ _, h.only.set h.base.lt h.gG _ _, h.res.other h.rG, h.op.set5, h.base, h.gG, h.gR, h.rG⟩
theorem St.set6 {w1 W : World} {q R G : Nat} {p : Option Addr} {n cap K : Nat} {a b k c d s t v : Int} (h : St w1 W q R G p n cap K a b k c d s t) : St w1 (W.setCell ⟨G, 6, none⟩ (.int .i64 v)) q R G p n cap K a b k c d s v :=
  ⟨h.rdset _ _, h.only.set h.base.lt h.gG _ _, h.res.other h.rG, h.op.set6, h.base, h.gG, h.gR, h.rG⟩

end Go.Proofs.YtlkhmpobpekmpaaDoor
