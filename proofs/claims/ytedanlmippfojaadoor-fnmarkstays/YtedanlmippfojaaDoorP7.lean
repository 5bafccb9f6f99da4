/-
  PROVED: what is typed elsewhere does not lose a mark that was made: it tells a place one further on or back at most, and the text on the side where nothing was done is as it was (the given card of FnMarkStays), for every input; the one listed variable, the program's error, reads as its own initialiser lays it.
-/
import Derived.Test.YtedanlmippfojaaDoorP3
import Derived.Test.YtedanlmippfojaaDoorP2
import Derived.Test.YtedanlmippfojaaDoorP5
import Derived.Test.YtedanlmippfojaaDoorP4
import Derived.Test.YtedanlmippfojaaDoorP1
import Derived.Test.YtedanlmippfojaaDoorP0
import Derived.Test.YtedanlmippfojaaDoorP6
import Derived.Test.YtedanlmippfojaaDoorRows
import Derived.WalkKit
import Derived.ProofKit
import Derived.OpenShut
import Derived.ChangeOld
import Derived.Below
import Derived.Lib.SmallJoins
import Derived.Stop.LaidErr
import Derived.LaidMore
import Derived.Stop.Joined
import Derived.ChangeSlices
import Derived.Test.YtedanlmippfojaaDoorTie
import Derived.Test.YtedanlmippfojaaDoorCards
import Derived.SevenTiedAt
namespace Go.Proofs.YtedanlmippfojaaDoor
open Go.RowKit
set_option linter.unusedSimpArgs false
set_option linter.unusedVariables false
attribute [local go_sem ↓] Go.wp_at_zero Go.wp_at_succ

/-- An id of a thing, or a small one. -/
def IdIn (L : List Op7) (r m : Int) : Prop := (∃ o ∈ L, o.a = r ∧ o.b = m) ∨ (-2 ≤ r ∧ r ≤ 20 ∧ -2 ≤ m ∧ m ≤ 20)

set_option maxRecDepth 100000 in
set_option maxHeartbeats 1000000 in
theorem l71SomeL_any (w : World) (q : Nat) (p : Option Addr) (n cap k base G c : Nat) (L : List Op7) (hm : L.length ≤ 74) (h : RdAt w q p n cap k) (hk : k ≤ 100000) (hs : OwnOps w base G c L) (hq : q < base) (hqw : q < w.heap.size) :
    Calls Tryd.prog 83 #[.pointer (some ⟨q, 0, none⟩), .slice (some ⟨G, 0, none⟩) L.length c] w fun e w' => (∃ r m : Int, IdIn L r m ∧ e = .returned (.agg #[.int .i64 r, .int .i64 m])) ∧ (∃ k', k' ≤ k + 4 ∧ RdAt w' q p n cap k') ∧ OnlyQ q w w' := by
  have H := hideIt h
  have HS := hideIt hs
  clear h hs
  have hne : ¬ w.heap.size = q := by omega
  have hne' : ¬ q = w.heap.size := by omega
  by_cases h0 : L.length = 0
  · have h0' : (L.length : Int) = 0 := by omega
    go_enter Tryd.func83, Tryd.ntmps83
    go_wp2_with fail
    refine (l71Id_small _ q p n cap k (H.out.alloc _) (by omega)).mono ?_
    rintro e w9 ⟨⟨a, b, hsm, rfl⟩, ⟨k9, hk9, hR9⟩, hO8⟩
    have s0 : w9.cell? ⟨w.heap.size, 0, none⟩ = some (.int .i64 0) := by rw [hO8.cell _ _ (by simp) (by omega)]; simp [go_sem]
    have s1 : w9.cell? ⟨w.heap.size, 1, none⟩ = some (.int .i64 0) := by rw [hO8.cell _ _ (by simp) (by omega)]; simp [go_sem]
    have sf : ∀ j, w9.frozen? ⟨w.heap.size, j, none⟩ = false := fun j => by rw [hO8.frozen _ _ (by simp) (by omega)]; simp [go_sem]
    have HR9 := hideIt hR9
    have HO9 := hideIt (((OnlyQ.refl q w).alloc hqw _).trans hO8)
    clear hR9 hO8
    go_wp2
    have hO9 := (HO9.out.set hqw (g := w.heap.size) (Nat.le_refl _) 0 (.int .i64 a)).set hqw (g := w.heap.size) (Nat.le_refl _) 1 (.int .i64 b)
    exact bodyPost_ret (v := .agg #[.int .i64 a, .int .i64 b]) (by simp [results, Tryd.results83, go_sem, s0, s1]) rfl ⟨⟨_, _, .inr hsm, rfl⟩, ⟨k9, by omega, H.out.fin HR9.out hO9 (fun o => by simp [go_sem, hne, hne']) (fun o => by simp)⟩, hO9⟩
  · go_enter Tryd.func83, Tryd.ntmps83
    go_wp2_with fail
    refine (pick_any _ q p n cap k 6 (H.out.alloc _) (by omega) (by omega) (by omega)).mono ?_
    rintro e w1 ⟨⟨x, hx0, hx1, rfl⟩, hR1, hO1⟩
    have r0 : w1.cell? ⟨w.heap.size, 0, none⟩ = some (.int .i64 0) := by rw [hO1.cell _ _ (by simp) (by omega)]; simp [go_sem]
    have r1 : w1.cell? ⟨w.heap.size, 1, none⟩ = some (.int .i64 0) := by rw [hO1.cell _ _ (by simp) (by omega)]; simp [go_sem]
    have rf : ∀ j, w1.frozen? ⟨w.heap.size, j, none⟩ = false := fun j => by rw [hO1.frozen _ _ (by simp) (by omega)]; simp [go_sem]
    have hs1 : w.heap.size < w1.heap.size := by have := hO1.size; simp at this; omega
    have HS1 := hideIt ((HS.out.below ((Below.refl _ _).alloc (Nat.le_refl _) _)).only hO1 (by have := HS.out.lt.1; omega))
    have HR1 := hideIt hR1
    have HO1 := hideIt (((OnlyQ.refl q w).alloc hqw _).trans hO1)
    clear hR1 hO1
    by_cases hz : x = 0
    · subst hz
      go_wp2_with fail
      refine (l71Id_small _ q p n cap (k + 1) HR1.out (by omega)).mono ?_
      rintro e w9 ⟨⟨a, b, hsm, rfl⟩, ⟨k9, hk9, hR9⟩, hO8⟩
      have s0 : w9.cell? ⟨w.heap.size, 0, none⟩ = some (.int .i64 0) := by rw [hO8.cell _ _ (by omega) (by omega)]; exact r0
      have s1 : w9.cell? ⟨w.heap.size, 1, none⟩ = some (.int .i64 0) := by rw [hO8.cell _ _ (by omega) (by omega)]; exact r1
      have sf : ∀ j, w9.frozen? ⟨w.heap.size, j, none⟩ = false := fun j => by rw [hO8.frozen _ _ (by omega) (by omega)]; exact rf j
      have HR9 := hideIt hR9
      have HO9 := hideIt (HO1.out.trans hO8)
      clear hR9 hO8
      go_wp2
      have hO9 := (HO9.out.set hqw (g := w.heap.size) (Nat.le_refl _) 0 (.int .i64 a)).set hqw (g := w.heap.size) (Nat.le_refl _) 1 (.int .i64 b)
      exact bodyPost_ret (v := .agg #[.int .i64 a, .int .i64 b]) (by simp [results, Tryd.results83, go_sem, s0, s1]) rfl ⟨⟨_, _, .inr hsm, rfl⟩, ⟨k9, by omega, H.out.fin HR9.out hO9 (fun o => by simp [go_sem, hne, hne']) (fun o => by simp)⟩, hO9⟩
    · have hpos : (0 : Int) < x := by omega
      go_wp2_with fail
      refine (pick_any _ q p n cap (k + 1) _ HR1.out (by omega) (by omega) (by omega)).mono ?_
      rintro e w2 ⟨⟨y, hy0, hy1, rfl⟩, hR2, hO2⟩
      obtain ⟨j, rfl⟩ := Int.eq_ofNat_of_zero_le hy0
      have s0 : w2.cell? ⟨w.heap.size, 0, none⟩ = some (.int .i64 0) := by rw [hO2.cell _ _ (by omega) (by omega)]; exact r0
      have s1 : w2.cell? ⟨w.heap.size, 1, none⟩ = some (.int .i64 0) := by rw [hO2.cell _ _ (by omega) (by omega)]; exact r1
      have sf : ∀ j, w2.frozen? ⟨w.heap.size, j, none⟩ = false := fun j => by rw [hO2.frozen _ _ (by omega) (by omega)]; exact rf j
      obtain ⟨y0, y1, _⟩ := (HS1.out.only hO2 (by have := HS1.out.lt.1; omega)).at.2 j (L[j]'(by omega)) (by simp)
      have HID : Hid (IdIn L (L[j]'(by omega)).a (L[j]'(by omega)).b) := .inl ⟨L[j]'(by omega), List.getElem_mem _, rfl, rfl⟩
      generalize (L[j]'(by omega)) = o at *
      have HR9 := hideIt hR2
      have HO9 := hideIt (HO1.out.trans hO2)
      clear hR2 hO2 r0 r1 rf
      generalize o.a = oa at *
      generalize o.b = ob at *
      go_wp2
      have hO9 := (HO9.out.set hqw (g := w.heap.size) (Nat.le_refl _) 0 (.int .i64 oa)).set hqw (g := w.heap.size) (Nat.le_refl _) 1 (.int .i64 ob)
      exact bodyPost_ret (v := .agg #[.int .i64 oa, .int .i64 ob]) (by simp [results, Tryd.results83, go_sem, s0, s1]) rfl ⟨⟨_, _, HID.out, rfl⟩, ⟨k + 1 + 1, by omega, H.out.fin HR9.out hO9 (fun o => by simp [go_sem, hne, hne']) (fun o => by simp)⟩, hO9⟩
/-- An id in its box, that may be written. -/
structure Bx (W : World) (A : Nat) (r m : Int) : Prop where
  x0 : W.cell? ⟨A, 0, none⟩ = some (.int .i64 r)
  x1 : W.cell? ⟨A, 1, none⟩ = some (.int .i64 m)
  fz : ∀ j, W.frozen? ⟨A, j, none⟩ = false
  lt : A < W.heap.size
theorem Bx.below {W W' : World} {A : Nat} {r m : Int} (h : Bx W A r m) (hb : Below W.heap.size W W') : Bx W' A r m :=
  ⟨((bcell hb).1 _ _ h.lt).trans h.x0, ((bcell hb).1 _ _ h.lt).trans h.x1, fun j => ((bcell hb).2 _ _ h.lt).trans (h.fz j), Nat.lt_of_lt_of_le h.lt hb.size⟩
theorem Bx.only {W W' : World} {A q : Nat} {r m : Int} (h : Bx W A r m) (ho : OnlyQ q W W') (hne : A ≠ q) : Bx W' A r m :=
  ⟨(ho.cell _ _ h.lt hne).trans h.x0, (ho.cell _ _ h.lt hne).trans h.x1, fun j => (ho.frozen _ _ h.lt hne).trans (h.fz j), Nat.lt_of_lt_of_le h.lt ho.size⟩
theorem Bx.new (W : World) (r m : Int) (T : TypeId) : Bx (W.alloc (.cells #[.int .i64 r, .int .i64 m] T)) W.heap.size r m :=
  ⟨by simp [go_sem], by simp [go_sem], fun j => by simp [go_sem], by simp⟩
theorem Bx.put {W : World} {A : Nat} {r m : Int} (h : Bx W A r m) (r' m' : Int) : Bx ((W.setCell ⟨A, 0, none⟩ (.int .i64 r')).setCell ⟨A, 1, none⟩ (.int .i64 m')) A r' m' := by
  have x0 := h.x0
  have x1 := h.x1
  exact ⟨by simp [go_sem, x0, x1], by simp [go_sem, x0, x1], fun j => by simp [h.fz], by simpa using h.lt⟩
theorem Bx.other {W : World} {A A' : Nat} {r m : Int} (h : Bx W A r m) (hne : A ≠ A') (u v : Value) : Bx ((W.setCell ⟨A', 0, none⟩ u).setCell ⟨A', 1, none⟩ v) A r m := by
  have hc : ∀ i, ((W.setCell ⟨A', 0, none⟩ u).setCell ⟨A', 1, none⟩ v).cell? ⟨A, i, none⟩ = W.cell? ⟨A, i, none⟩ := fun i => by
    rw [World.cell?_setCell_other _ _ _ _ (by intro he; have := congrArg Addr.block he; simp at this; omega), World.cell?_setCell_other _ _ _ _ (by intro he; have := congrArg Addr.block he; simp at this; omega)]
  exact ⟨(hc _).trans h.x0, (hc _).trans h.x1, fun j => by rw [World.frozen?_setCell, World.frozen?_setCell]; exact h.fz j, by simpa using h.lt⟩
theorem fin4b {w W : World} {r1 : Nat} (hb : Below w.heap.size w W) (h1 : w.heap.size ≤ r1) (u0 u1 v0 v1 : Value) : Below w.heap.size w ((((W.setCell ⟨w.heap.size, 0, none⟩ u0).setCell ⟨w.heap.size, 1, none⟩ u1).setCell ⟨r1, 0, none⟩ v0).setCell ⟨r1, 1, none⟩ v1).drew :=
  ((((hb.setCell (p := ⟨w.heap.size, 0, none⟩) (Nat.le_refl _) u0).setCell (p := ⟨w.heap.size, 1, none⟩) (Nat.le_refl _) u1).setCell (p := ⟨r1, 0, none⟩) h1 v0).setCell (p := ⟨r1, 1, none⟩) h1 v1).drew
theorem fin4o {W : World} {base G c r0 r1 : Nat} {L : List Op7} (h : OwnOps W base G c L) (h0 : G ≠ r0) (h1 : G ≠ r1) (u0 u1 v0 v1 : Value) : OwnOps ((((W.setCell ⟨r0, 0, none⟩ u0).setCell ⟨r0, 1, none⟩ u1).setCell ⟨r1, 0, none⟩ v0).setCell ⟨r1, 1, none⟩ v1).drew base G c L :=
  ((((h.set h0 u0).set h0 u1).set h1 v0).set h1 v1).below ((Below.refl _ _).drew)
/-- Where the drawing of two ids stands. -/
structure DU (w wS wr : World) (q G c : Nat) (L : List Op7) (A B : Nat) (ar am br bm : Int) : Prop where
  only : OnlyQ q wS wr
  own : OwnOps wr wS.heap.size G c L
  a : Bx wr A ar am
  b : Bx wr B br bm
  ia : IdIn L ar am
  ib : IdIn L br bm
theorem DU.below {w wS wr w' : World} {q G c A B : Nat} {L : List Op7} {ar am br bm : Int} (h : DU w wS wr q G c L A B ar am br bm) (hq : q < wS.heap.size) (hb : Below wr.heap.size wr w') : DU w wS w' q G c L A B ar am br bm :=
  ⟨h.only.then hq hb, h.own.below hb, h.a.below hb, h.b.below hb, h.ia, h.ib⟩
theorem DU.next {w wS wr w' : World} {q G c A B : Nat} {L : List Op7} {ar am br bm : Int} (h : DU w wS wr q G c L A B ar am br bm) (hq : q < wS.heap.size) (hA : wS.heap.size ≤ A) (hB : wS.heap.size ≤ B) (ho : OnlyQ q wr w') : DU w wS w' q G c L A B ar am br bm :=
  ⟨h.only.trans ho, h.own.only ho (by have := h.own.lt.1; omega), h.a.only ho (by omega), h.b.only ho (by omega), h.ia, h.ib⟩
theorem DU.setA {w wS wr : World} {q G c A B : Nat} {L : List Op7} {ar am br bm : Int} (h : DU w wS wr q G c L A B ar am br bm) (hq : q < wS.heap.size) (hA : wS.heap.size ≤ A) (hAB : A ≠ B) (hAG : G ≠ A) (r m : Int) (hi : IdIn L r m) : DU w wS ((wr.setCell ⟨A, 0, none⟩ (.int .i64 r)).setCell ⟨A, 1, none⟩ (.int .i64 m)) q G c L A B r m br bm :=
  ⟨(h.only.set hq hA 0 _).set hq hA 1 _, (h.own.set hAG _).set hAG _, h.a.put r m, h.b.other (Ne.symm hAB) _ _, hi, h.ib⟩
theorem DU.setB {w wS wr : World} {q G c A B : Nat} {L : List Op7} {ar am br bm : Int} (h : DU w wS wr q G c L A B ar am br bm) (hq : q < wS.heap.size) (hB : wS.heap.size ≤ B) (hAB : A ≠ B) (hBG : G ≠ B) (r m : Int) (hi : IdIn L r m) : DU w wS ((wr.setCell ⟨B, 0, none⟩ (.int .i64 r)).setCell ⟨B, 1, none⟩ (.int .i64 m)) q G c L A B ar am r m :=
  ⟨(h.only.set hq hB 0 _).set hq hB 1 _, (h.own.set hBG _).set hBG _, h.a.other hAB _ _, h.b.put r m, h.ia, hi⟩

end Go.Proofs.YtedanlmippfojaaDoor

namespace Go.Proofs.YtedanlmippfojaaDoor
open Go.RowKit
set_option linter.unusedSimpArgs false
set_option linter.unusedVariables false
attribute [local go_sem ↓] Go.wp_at_zero Go.wp_at_succ

/-- A thing in a block of its own, that may be written. -/
structure OpBlk (W : World) (g : Nat) (a b k c d s t : Int) : Prop where
  x0 : W.cell? ⟨g, 0, none⟩ = some (.int .i64 a)
  x1 : W.cell? ⟨g, 1, none⟩ = some (.int .i64 b)
  x2 : W.cell? ⟨g, 2, none⟩ = some (.int .i64 k)
  x3 : W.cell? ⟨g, 3, none⟩ = some (.int .i64 c)
  x4 : W.cell? ⟨g, 4, none⟩ = some (.int .i64 d)
  x5 : W.cell? ⟨g, 5, none⟩ = some (.int .i64 s)
  x6 : W.cell? ⟨g, 6, none⟩ = some (.int .i64 t)
  fz : ∀ j, W.frozen? ⟨g, j, none⟩ = false
  lt : g < W.heap.size
theorem OpBlk.only {q : Nat} {W W' : World} {g : Nat} {a b k c d s t : Int} (h : OpBlk W g a b k c d s t) (ho : OnlyQ q W W') (hg : g ≠ q) : OpBlk W' g a b k c d s t :=
  ⟨(ho.cell _ _ h.lt hg).trans h.x0, (ho.cell _ _ h.lt hg).trans h.x1, (ho.cell _ _ h.lt hg).trans h.x2, (ho.cell _ _ h.lt hg).trans h.x3, (ho.cell _ _ h.lt hg).trans h.x4, (ho.cell _ _ h.lt hg).trans h.x5, (ho.cell _ _ h.lt hg).trans h.x6, fun j => (ho.frozen _ _ h.lt hg).trans (h.fz j), Nat.lt_of_lt_of_le h.lt ho.size⟩

theorem OpBlk.alloc {W : World} {g : Nat} {a b k c d s t : Int} (h : OpBlk W g a b k c d s t) (o : Obj) : OpBlk (W.alloc o) g a b k c d s t := by
  have hc : ∀ j, (W.alloc o).cell? ⟨g, j, none⟩ = W.cell? ⟨g, j, none⟩ := fun j => World.cell?_alloc_lt _ _ _ h.lt
  exact ⟨(hc _).trans h.x0, (hc _).trans h.x1, (hc _).trans h.x2, (hc _).trans h.x3, (hc _).trans h.x4, (hc _).trans h.x5, (hc _).trans h.x6, fun j => by rw [World.frozen?_alloc_past _ _ _ h.lt]; exact h.fz j, Nat.lt_of_lt_of_le h.lt (by simp)⟩
theorem OpBlk.other {W : World} {g f j : Nat} {v : Value} {a b k c d s t : Int} (h : OpBlk W g a b k c d s t) (hne : g ≠ f) : OpBlk (W.setCell ⟨f, j, none⟩ v) g a b k c d s t := by
  have hc : ∀ i, (W.setCell ⟨f, j, none⟩ v).cell? ⟨g, i, none⟩ = W.cell? ⟨g, i, none⟩ := fun i => World.cell?_setCell_other _ _ _ _ (by intro he; have := congrArg Addr.block he; simp at this; omega)
  exact ⟨(hc _).trans h.x0, (hc _).trans h.x1, (hc _).trans h.x2, (hc _).trans h.x3, (hc _).trans h.x4, (hc _).trans h.x5, (hc _).trans h.x6, fun i => by rw [World.frozen?_setCell]; exact h.fz i, by simpa using h.lt⟩
theorem OpBlk.set2 {W : World} {g : Nat} {v : Int} {a b k c d s t : Int} (h : OpBlk W g a b k c d s t) : OpBlk (W.setCell ⟨g, 2, none⟩ (.int .i64 v)) g a b v c d s t := by
  obtain ⟨x0, x1, x2, x3, x4, x5, x6, fz, lt⟩ := h
  exact ⟨by simp [go_sem, x0], by simp [go_sem, x1], by simp [go_sem, x2], by simp [go_sem, x3], by simp [go_sem, x4], by simp [go_sem, x5], by simp [go_sem, x6], fun i => by rw [World.frozen?_setCell]; exact fz i, by simpa using lt⟩
theorem OpBlk.set5 {W : World} {g : Nat} {v : Int} {a b k c d s t : Int} (h : OpBlk W g a b k c d s t) : OpBlk (W.setCell ⟨g, 5, none⟩ (.int .i64 v)) g a b k c d v t := by
  obtain ⟨x0, x1, x2, x3, x4, x5, x6, fz, lt⟩ := h
  exact ⟨by simp [go_sem, x0], by simp [go_sem, x1], by simp [go_sem, x2], by simp [go_sem, x3], by simp [go_sem, x4], by simp [go_sem, x5], by simp [go_sem, x6], fun i => by rw [World.frozen?_setCell]; exact fz i, by simpa using lt⟩
theorem OpBlk.set6 {W : World} {g : Nat} {v : Int} {a b k c d s t : Int} (h : OpBlk W g a b k c d s t) : OpBlk (W.setCell ⟨g, 6, none⟩ (.int .i64 v)) g a b k c d s v := by
  obtain ⟨x0, x1, x2, x3, x4, x5, x6, fz, lt⟩ := h
  exact ⟨by simp [go_sem, x0], by simp [go_sem, x1], by simp [go_sem, x2], by simp [go_sem, x3], by simp [go_sem, x4], by simp [go_sem, x5], by simp [go_sem, x6], fun i => by rw [World.frozen?_setCell]; exact fz i, by simpa using lt⟩

/-- Where the drawing of a thing stands: the reader, the answer's block, the thing's block. -/
structure St (w1 W : World) (q R G : Nat) (p : Option Addr) (n cap K : Nat) (a b k c d s t : Int) : Prop where
  rd : RdAt W q p n cap K
  only : OnlyQ q w1 W
  res : OpBlk W R 0 0 0 0 0 0 0
  op : OpBlk W G a b k c d s t
  base : RdAt w1 q p n cap 0
  gG : w1.heap.size ≤ G
  gR : R ≠ q
  rG : R ≠ G
theorem St.pick {w1 W W' : World} {q R G : Nat} {p : Option Addr} {n cap K K' : Nat} {a b k c d s t : Int} (h : St w1 W q R G p n cap K a b k c d s t) (hr : RdAt W' q p n cap K') (ho : OnlyQ q W W') : St w1 W' q R G p n cap K' a b k c d s t :=
  ⟨hr, h.only.trans ho, h.res.only ho h.gR, h.op.only ho (by have := h.base.lt; have := h.gG; omega), h.base, h.gG, h.gR, h.rG⟩
theorem St.alloc {w1 W : World} {q R G : Nat} {p : Option Addr} {n cap K : Nat} {a b k c d s t : Int} (h : St w1 W q R G p n cap K a b k c d s t) (o : Obj) : St w1 (W.alloc o) q R G p n cap K a b k c d s t :=
  ⟨h.rd.alloc o, h.only.alloc h.base.lt o, h.res.alloc o, h.op.alloc o, h.base, h.gG, h.gR, h.rG⟩
theorem St.rdset {w1 W : World} {q R G : Nat} {p : Option Addr} {n cap K : Nat} {a b k c d s t : Int} (h : St w1 W q R G p n cap K a b k c d s t) (j : Nat) (v : Value) : RdAt (W.setCell ⟨G, j, none⟩ v) q p n cap K :=
  h.base.fin h.rd (h.only.set h.base.lt h.gG j v) (fun o => World.cell?_setCell_other _ _ _ _ (by intro he; have h1 := congrArg Addr.block he; have h2 := h.base.lt; have h3 := h.gG; dsimp only at h1; omega)) (fun o => World.frozen?_setCell _ _ _ _)
theorem St.set2 {w1 W : World} {q R G : Nat} {p : Option Addr} {n cap K : Nat} {a b k c d s t v : Int} (h : St w1 W q R G p n cap K a b k c d s t) : St w1 (W.setCell ⟨G, 2, none⟩ (.int .i64 v)) q R G p n cap K a b v c d s t :=
  ⟨h.rdset _ _, h.only.set h.base.lt h.gG _ _, h.res.other h.rG, h.op.set2, h.base, h.gG, h.gR, h.rG⟩
theorem St.set5 {w1 W : World} {q R G : Nat} {p : Option Addr} {n cap K : Nat} {a b k c d s t v : Int} (h : St w1 W q R G p n cap K a b k c d s t) : St w1 (W.setCell ⟨G, 5, none⟩ (.int .i64 v)) q R G p n cap K a b k c d v t :=
  ⟨h.rdset _ _, h.only.set h.base.lt h.gG _ _, h.res.other h.rG, h.op.set5, h.base, h.gG, h.gR, h.rG⟩
theorem St.set6 {w1 W : World} {q R G : Nat} {p : Option Addr} {n cap K : Nat} {a b k c d s t v : Int} (h : St w1 W q R G p n cap K a b k c d s t) : St w1 (W.setCell ⟨G, 6, none⟩ (.int .i64 v)) q R G p n cap K a b k c d s v :=
  ⟨h.rdset _ _, h.only.set h.base.lt h.gG _ _, h.res.other h.rG, h.op.set6, h.base, h.gG, h.gR, h.rG⟩

end Go.Proofs.YtedanlmippfojaaDoor

namespace Go.Proofs.YtedanlmippfojaaDoor
open Go.RowKit
set_option linter.unusedSimpArgs false
set_option linter.unusedVariables false
attribute [local go_sem ↓] Go.wp_at_zero Go.wp_at_succ

set_option maxRecDepth 100000 in
set_option maxHeartbeats 4000000 in
theorem drawOp_any (w : World) (p : Option Addr) (n cap : Nat) (h : ArgBytes w p n) (hcap : n ≤ cap) (hn : n ≤ 1048576) :
    Calls Tryd.prog 82 #[.slice p n cap] w fun e w' => (∃ a b k c d s t : Int, e = .returned (.agg #[.int .i64 a, .int .i64 b, .int .i64 k, .int .i64 c, .int .i64 d, .int .i64 s, .int .i64 t])) ∧ Below w.heap.size w w' := by
  have H := hideIt h
  clear h
  go_enter Tryd.func82, Tryd.ntmps82
  go_wp2_with fail
  have hb0 : Below w.heap.size w (w.alloc (.cells #[.int .i64 0, .int .i64 0, .int .i64 0, .int .i64 0, .int .i64 0, .int .i64 0, .int .i64 0] 29)) := (Below.refl _ _).alloc (Nat.le_refl _) _
  refine (open_any _ p n cap (H.out.below hb0) hcap hn).mono ?_
  rintro e w1 ⟨n', rfl, hR, hb1⟩
  have res1 : OpBlk w1 w.heap.size 0 0 0 0 0 0 0 := by
    have hc : ∀ j, w1.cell? ⟨w.heap.size, j, none⟩ = _ := fun j => hb1.cell (p := ⟨w.heap.size, j, none⟩) (show w.heap.size < _ by simp)
    exact ⟨by rw [hc]; simp [go_sem], by rw [hc]; simp [go_sem], by rw [hc]; simp [go_sem], by rw [hc]; simp [go_sem], by rw [hc]; simp [go_sem], by rw [hc]; simp [go_sem], by rw [hc]; simp [go_sem],
      fun j => by rw [hb1.frozen (p := ⟨w.heap.size, j, none⟩) (show w.heap.size < _ by simp)]; simp [go_sem], by have := hb1.size; simp at this; omega⟩
  have HB1 := hideIt (hb0.trans (hb1.mono (by simp)))
  simp only [World.size_alloc] at hR ⊢
  have HR := hideIt hR
  have HRES1 := hideIt res1
  clear hR hb1 res1
  go_wp2_with fail
  refine (l71Id_any _ _ p n' cap 0 HR.out (by omega)).mono ?_
  rintro e w2 ⟨⟨a, b, rfl⟩, ⟨k2, hk2, hR2⟩, hO2⟩
  have HR2 := hideIt hR2
  have HO2 := hideIt hO2
  clear hR2 hO2
  go_wp2_with fail
  refine (pick_any _ _ p n' cap k2 2 HR2.out (by omega) (by omega) (by omega)).mono ?_
  rintro e w3 ⟨⟨kd, hkd0, hkd1, rfl⟩, hR3, hO3⟩
  have HR3 := hideIt hR3
  have HO3 := hideIt (HO2.out.trans hO3)
  clear hR3 hO3
  go_wp2_with fail
  refine (l71Id_any _ _ p n' cap (k2 + 1) HR3.out (by omega)).mono ?_
  rintro e w4 ⟨⟨c, d, rfl⟩, ⟨k4, hk4, hR4⟩, hO4⟩
  have HR4 := hideIt hR4
  have HO4 := hideIt (HO3.out.trans hO4)
  clear hR4 hO4 HR2 HR3 HO2 HO3
  have hO4 := HO4.out
  have hq4 := HR4.out.lt
  have hst : ∀ kk : Int, St w1 (w4.alloc (.cells #[.int .i64 a, .int .i64 b, .int .i64 kk, .int .i64 c, .int .i64 d, .int .i64 0, .int .i64 0] 29)) (w.heap.size + 1) w.heap.size w4.heap.size p n' cap k4 a b kk c d 0 0 := fun kk =>
    ⟨HR4.out.alloc _, hO4.alloc HR.out.lt _, (HRES1.out.only hO4 (by omega)).alloc _, ⟨by simp [go_sem], by simp [go_sem], by simp [go_sem], by simp [go_sem], by simp [go_sem], by simp [go_sem], by simp [go_sem], fun j => by simp [go_sem], by simp⟩, HR.out, hO4.size, by omega, by have := hO4.size; have := HRES1.out.lt; omega⟩
  have HST := hideIt hst
  clear hst hO4
  obtain rfl | rfl : kd = 0 ∨ kd = 1 := by omega
  · have HS := hideIt (HST.out (1 + 0))
    clear HST
    go_wp2_with fail
    refine (pick_any _ _ p n' cap _ 2 HS.out.rd (by omega) (by omega) (by omega)).mono ?_
    rintro e w7 ⟨⟨s7, h70, h71, rfl⟩, hR7, hO7⟩
    have HS7 := hideIt (HS.out.pick hR7 hO7)
    clear hR7 hO7 HS
    obtain ⟨x0, x1, x2, x3, x4, x5, x6, fz, lt⟩ := HS7.out.op
    have HS8 := hideIt (HS7.out.set5 (v := s7))
    clear HS7
    go_wp2_with fail
    refine (pick_any _ _ p n' cap _ 26 HS8.out.rd (by omega) (by omega) (by omega)).mono ?_
    rintro e w8 ⟨⟨s8, h80, h81, rfl⟩, hR8, hO8⟩
    have HS9 := hideIt (HS8.out.pick hR8 hO8)
    clear hR8 hO8 HS8 x0 x1 x2 x3 x4 x5 x6 fz lt
    obtain ⟨x0, x1, x2, x3, x4, x5, x6, fz, lt⟩ := HS9.out.op
    have HS := hideIt (HS9.out.set6 (v := 97 + s8))
    clear HS9
    go_wp2_with fail
    clear x0 x1 x2 x3 x4 x5 x6 fz lt
    refine (pick_any _ _ p n' cap _ 12 HS.out.rd (by omega) (by omega) (by omega)).mono ?_
    rintro e w5 ⟨⟨s5, h50, h51, rfl⟩, hR5, hO5⟩
    have HS5 := hideIt (HS.out.pick hR5 hO5)
    clear hR5 hO5 HS
    obtain rfl | rfl | rfl | h5 : s5 = 0 ∨ s5 = 1 ∨ s5 = 2 ∨ 3 ≤ s5 := by omega
    · go_wp2_with fail
      refine (pick_any _ _ p n' cap _ 4 HS5.out.rd (by omega) (by omega) (by omega)).mono ?_
      rintro e w6 ⟨⟨s6, h60, h61, rfl⟩, hR6, hO6⟩
      have HS6 := hideIt (HS5.out.pick hR6 hO6)
      clear hR6 hO6 HS5
      have HS7 := hideIt (HS6.out.set2 (v := s6))
      obtain ⟨x0, x1, x2, x3, x4, x5, x6, fz, lt⟩ := HS6.out.op
      obtain ⟨y0, y1, y2, y3, y4, y5, y6, fy, ly⟩ := HS6.out.res
      have hRG := HS6.out.rG
      have hGR := hRG.symm
      go_wp2
      exact bodyPost_ret (v := .agg #[.int .i64 (a), .int .i64 (b), .int .i64 (s6), .int .i64 (c), .int .i64 (d), .int .i64 (s7), .int .i64 (97 + s8)]) (by simp [results, Tryd.results82, go_sem, x0, x1, x2, x3, x4, x5, x6, y0, y1, y2, y3, y4, y5, y6, hRG, hGR]) rfl ⟨⟨_, _, _, _, _, _, _, rfl⟩, by have hbb := HB1.out.trans (HS7.out.only.below.mono (by omega)); go_grown⟩
    · go_wp2_with fail
      have HA5 := hideIt (HS5.out.alloc (.cells #[.int .i64 0, .int .i64 65, .int .i64 123] 3))
      refine (pick_any _ _ p n' cap _ 3 HA5.out.rd (by omega) (by omega) (by omega)).mono ?_
      rintro e w6 ⟨⟨s6, h60, h61, rfl⟩, hR6, hO6⟩
      have HS6 := hideIt (HA5.out.pick hR6 hO6)
      have hl5 := HS5.out.op.lt
      have hq5 := HS5.out.rd.lt
      have sl : ∀ j, w6.cell? ⟨w5.heap.size, j, none⟩ = _ := fun j => hO6.cell w5.heap.size j (by simp) (by omega)
      clear hR6 hO6 HS5 HA5
      have HS7 := fun v => hideIt (HS6.out.set6 (v := v))
      obtain ⟨x0, x1, x2, x3, x4, x5, x6, fz, lt⟩ := HS6.out.op
      obtain ⟨y0, y1, y2, y3, y4, y5, y6, fy, ly⟩ := HS6.out.res
      have hRG := HS6.out.rG
      have hGR := hRG.symm
      obtain rfl | rfl | rfl : s6 = 0 ∨ s6 = 1 ∨ s6 = 2 := by omega
      · go_wp2
        exact bodyPost_ret (v := .agg #[.int .i64 (a), .int .i64 (b), .int .i64 (1), .int .i64 (c), .int .i64 (d), .int .i64 (s7), .int .i64 (0)]) (by simp [results, Tryd.results82, go_sem, x0, x1, x2, x3, x4, x5, x6, y0, y1, y2, y3, y4, y5, y6, hRG, hGR]) rfl ⟨⟨_, _, _, _, _, _, _, rfl⟩, by have hbb := HB1.out.trans ((HS7 0).out.only.below.mono (by omega)); go_grown⟩
      · go_wp2
        exact bodyPost_ret (v := .agg #[.int .i64 (a), .int .i64 (b), .int .i64 (1), .int .i64 (c), .int .i64 (d), .int .i64 (s7), .int .i64 (65)]) (by simp [results, Tryd.results82, go_sem, x0, x1, x2, x3, x4, x5, x6, y0, y1, y2, y3, y4, y5, y6, hRG, hGR]) rfl ⟨⟨_, _, _, _, _, _, _, rfl⟩, by have hbb := HB1.out.trans ((HS7 65).out.only.below.mono (by omega)); go_grown⟩
      · go_wp2
        exact bodyPost_ret (v := .agg #[.int .i64 (a), .int .i64 (b), .int .i64 (1), .int .i64 (c), .int .i64 (d), .int .i64 (s7), .int .i64 (123)]) (by simp [results, Tryd.results82, go_sem, x0, x1, x2, x3, x4, x5, x6, y0, y1, y2, y3, y4, y5, y6, hRG, hGR]) rfl ⟨⟨_, _, _, _, _, _, _, rfl⟩, by have hbb := HB1.out.trans ((HS7 123).out.only.below.mono (by omega)); go_grown⟩
    · go_wp2_with fail
      have HA5 := hideIt (HS5.out.alloc (.cells #[.int .i64 (-1), .int .i64 2] 3))
      refine (pick_any _ _ p n' cap _ 2 HA5.out.rd (by omega) (by omega) (by omega)).mono ?_
      rintro e w6 ⟨⟨s6, h60, h61, rfl⟩, hR6, hO6⟩
      have HS6 := hideIt (HA5.out.pick hR6 hO6)
      have hl5 := HS5.out.op.lt
      have hq5 := HS5.out.rd.lt
      have sl : ∀ j, w6.cell? ⟨w5.heap.size, j, none⟩ = _ := fun j => hO6.cell w5.heap.size j (by simp) (by omega)
      clear hR6 hO6 HS5 HA5
      have HS7 := fun v => hideIt (HS6.out.set5 (v := v))
      obtain ⟨x0, x1, x2, x3, x4, x5, x6, fz, lt⟩ := HS6.out.op
      obtain ⟨y0, y1, y2, y3, y4, y5, y6, fy, ly⟩ := HS6.out.res
      have hRG := HS6.out.rG
      have hGR := hRG.symm
      obtain rfl | rfl : s6 = 0 ∨ s6 = 1 := by omega
      · go_wp2
        exact bodyPost_ret (v := .agg #[.int .i64 (a), .int .i64 (b), .int .i64 (1), .int .i64 (c), .int .i64 (d), .int .i64 (-1), .int .i64 (97 + s8)]) (by simp [results, Tryd.results82, go_sem, x0, x1, x2, x3, x4, x5, x6, y0, y1, y2, y3, y4, y5, y6, hRG, hGR]) rfl ⟨⟨_, _, _, _, _, _, _, rfl⟩, by have hbb := HB1.out.trans ((HS7 (-1)).out.only.below.mono (by omega)); go_grown⟩
      · go_wp2
        exact bodyPost_ret (v := .agg #[.int .i64 (a), .int .i64 (b), .int .i64 (1), .int .i64 (c), .int .i64 (d), .int .i64 (2), .int .i64 (97 + s8)]) (by simp [results, Tryd.results82, go_sem, x0, x1, x2, x3, x4, x5, x6, y0, y1, y2, y3, y4, y5, y6, hRG, hGR]) rfl ⟨⟨_, _, _, _, _, _, _, rfl⟩, by have hbb := HB1.out.trans ((HS7 (2)).out.only.below.mono (by omega)); go_grown⟩
    · obtain ⟨x0, x1, x2, x3, x4, x5, x6, fz, lt⟩ := HS5.out.op
      obtain ⟨y0, y1, y2, y3, y4, y5, y6, fy, ly⟩ := HS5.out.res
      have hRG := HS5.out.rG
      have hGR := hRG.symm
      go_wp2
      exact bodyPost_ret (v := .agg #[.int .i64 (a), .int .i64 (b), .int .i64 (1), .int .i64 (c), .int .i64 (d), .int .i64 (s7), .int .i64 (97 + s8)]) (by simp [results, Tryd.results82, go_sem, x0, x1, x2, x3, x4, x5, x6, y0, y1, y2, y3, y4, y5, y6, hRG, hGR]) rfl ⟨⟨_, _, _, _, _, _, _, rfl⟩, by have hbb := HB1.out.trans (HS5.out.only.below.mono (by omega)); go_grown⟩
  · have HS := hideIt (HST.out (1 + 1))
    clear HST
    go_wp2_with fail
    refine (pick_any _ _ p n' cap _ 12 HS.out.rd (by omega) (by omega) (by omega)).mono ?_
    rintro e w5 ⟨⟨s5, h50, h51, rfl⟩, hR5, hO5⟩
    have HS5 := hideIt (HS.out.pick hR5 hO5)
    clear hR5 hO5 HS
    obtain rfl | rfl | rfl | h5 : s5 = 0 ∨ s5 = 1 ∨ s5 = 2 ∨ 3 ≤ s5 := by omega
    · go_wp2_with fail
      refine (pick_any _ _ p n' cap _ 4 HS5.out.rd (by omega) (by omega) (by omega)).mono ?_
      rintro e w6 ⟨⟨s6, h60, h61, rfl⟩, hR6, hO6⟩
      have HS6 := hideIt (HS5.out.pick hR6 hO6)
      clear hR6 hO6 HS5
      have HS7 := hideIt (HS6.out.set2 (v := s6))
      obtain ⟨x0, x1, x2, x3, x4, x5, x6, fz, lt⟩ := HS6.out.op
      obtain ⟨y0, y1, y2, y3, y4, y5, y6, fy, ly⟩ := HS6.out.res
      have hRG := HS6.out.rG
      have hGR := hRG.symm
      go_wp2
      exact bodyPost_ret (v := .agg #[.int .i64 (a), .int .i64 (b), .int .i64 (s6), .int .i64 (c), .int .i64 (d), .int .i64 (0), .int .i64 (0)]) (by simp [results, Tryd.results82, go_sem, x0, x1, x2, x3, x4, x5, x6, y0, y1, y2, y3, y4, y5, y6, hRG, hGR]) rfl ⟨⟨_, _, _, _, _, _, _, rfl⟩, by have hbb := HB1.out.trans (HS7.out.only.below.mono (by omega)); go_grown⟩
    · go_wp2_with fail
      have HA5 := hideIt (HS5.out.alloc (.cells #[.int .i64 0, .int .i64 65, .int .i64 123] 3))
      refine (pick_any _ _ p n' cap _ 3 HA5.out.rd (by omega) (by omega) (by omega)).mono ?_
      rintro e w6 ⟨⟨s6, h60, h61, rfl⟩, hR6, hO6⟩
      have HS6 := hideIt (HA5.out.pick hR6 hO6)
      have hl5 := HS5.out.op.lt
      have hq5 := HS5.out.rd.lt
      have sl : ∀ j, w6.cell? ⟨w5.heap.size, j, none⟩ = _ := fun j => hO6.cell w5.heap.size j (by simp) (by omega)
      clear hR6 hO6 HS5 HA5
      have HS7 := fun v => hideIt (HS6.out.set6 (v := v))
      obtain ⟨x0, x1, x2, x3, x4, x5, x6, fz, lt⟩ := HS6.out.op
      obtain ⟨y0, y1, y2, y3, y4, y5, y6, fy, ly⟩ := HS6.out.res
      have hRG := HS6.out.rG
      have hGR := hRG.symm
      obtain rfl | rfl | rfl : s6 = 0 ∨ s6 = 1 ∨ s6 = 2 := by omega
      · go_wp2
        exact bodyPost_ret (v := .agg #[.int .i64 (a), .int .i64 (b), .int .i64 (2), .int .i64 (c), .int .i64 (d), .int .i64 (0), .int .i64 (0)]) (by simp [results, Tryd.results82, go_sem, x0, x1, x2, x3, x4, x5, x6, y0, y1, y2, y3, y4, y5, y6, hRG, hGR]) rfl ⟨⟨_, _, _, _, _, _, _, rfl⟩, by have hbb := HB1.out.trans ((HS7 0).out.only.below.mono (by omega)); go_grown⟩
      · go_wp2
        exact bodyPost_ret (v := .agg #[.int .i64 (a), .int .i64 (b), .int .i64 (2), .int .i64 (c), .int .i64 (d), .int .i64 (0), .int .i64 (65)]) (by simp [results, Tryd.results82, go_sem, x0, x1, x2, x3, x4, x5, x6, y0, y1, y2, y3, y4, y5, y6, hRG, hGR]) rfl ⟨⟨_, _, _, _, _, _, _, rfl⟩, by have hbb := HB1.out.trans ((HS7 65).out.only.below.mono (by omega)); go_grown⟩
      · go_wp2
        exact bodyPost_ret (v := .agg #[.int .i64 (a), .int .i64 (b), .int .i64 (2), .int .i64 (c), .int .i64 (d), .int .i64 (0), .int .i64 (123)]) (by simp [results, Tryd.results82, go_sem, x0, x1, x2, x3, x4, x5, x6, y0, y1, y2, y3, y4, y5, y6, hRG, hGR]) rfl ⟨⟨_, _, _, _, _, _, _, rfl⟩, by have hbb := HB1.out.trans ((HS7 123).out.only.below.mono (by omega)); go_grown⟩
    · go_wp2_with fail
      have HA5 := hideIt (HS5.out.alloc (.cells #[.int .i64 (-1), .int .i64 2] 3))
      refine (pick_any _ _ p n' cap _ 2 HA5.out.rd (by omega) (by omega) (by omega)).mono ?_
      rintro e w6 ⟨⟨s6, h60, h61, rfl⟩, hR6, hO6⟩
      have HS6 := hideIt (HA5.out.pick hR6 hO6)
      have hl5 := HS5.out.op.lt
      have hq5 := HS5.out.rd.lt
      have sl : ∀ j, w6.cell? ⟨w5.heap.size, j, none⟩ = _ := fun j => hO6.cell w5.heap.size j (by simp) (by omega)
      clear hR6 hO6 HS5 HA5
      have HS7 := fun v => hideIt (HS6.out.set5 (v := v))
      obtain ⟨x0, x1, x2, x3, x4, x5, x6, fz, lt⟩ := HS6.out.op
      obtain ⟨y0, y1, y2, y3, y4, y5, y6, fy, ly⟩ := HS6.out.res
      have hRG := HS6.out.rG
      have hGR := hRG.symm
      obtain rfl | rfl : s6 = 0 ∨ s6 = 1 := by omega
      · go_wp2
        exact bodyPost_ret (v := .agg #[.int .i64 (a), .int .i64 (b), .int .i64 (2), .int .i64 (c), .int .i64 (d), .int .i64 (-1), .int .i64 (0)]) (by simp [results, Tryd.results82, go_sem, x0, x1, x2, x3, x4, x5, x6, y0, y1, y2, y3, y4, y5, y6, hRG, hGR]) rfl ⟨⟨_, _, _, _, _, _, _, rfl⟩, by have hbb := HB1.out.trans ((HS7 (-1)).out.only.below.mono (by omega)); go_grown⟩
      · go_wp2
        exact bodyPost_ret (v := .agg #[.int .i64 (a), .int .i64 (b), .int .i64 (2), .int .i64 (c), .int .i64 (d), .int .i64 (2), .int .i64 (0)]) (by simp [results, Tryd.results82, go_sem, x0, x1, x2, x3, x4, x5, x6, y0, y1, y2, y3, y4, y5, y6, hRG, hGR]) rfl ⟨⟨_, _, _, _, _, _, _, rfl⟩, by have hbb := HB1.out.trans ((HS7 (2)).out.only.below.mono (by omega)); go_grown⟩
    · obtain ⟨x0, x1, x2, x3, x4, x5, x6, fz, lt⟩ := HS5.out.op
      obtain ⟨y0, y1, y2, y3, y4, y5, y6, fy, ly⟩ := HS5.out.res
      have hRG := HS5.out.rG
      have hGR := hRG.symm
      go_wp2
      exact bodyPost_ret (v := .agg #[.int .i64 (a), .int .i64 (b), .int .i64 (2), .int .i64 (c), .int .i64 (d), .int .i64 (0), .int .i64 (0)]) (by simp [results, Tryd.results82, go_sem, x0, x1, x2, x3, x4, x5, x6, y0, y1, y2, y3, y4, y5, y6, hRG, hGR]) rfl ⟨⟨_, _, _, _, _, _, _, rfl⟩, by have hbb := HB1.out.trans (HS5.out.only.below.mono (by omega)); go_grown⟩
end Go.Proofs.YtedanlmippfojaaDoor

namespace Go.Proofs.YtedanlmippfojaaDoor
open Go.RowKit
set_option linter.unusedSimpArgs false
set_option linter.unusedVariables false
attribute [local go_sem ↓] Go.wp_at_zero Go.wp_at_succ

theorem RB.only {w W W' : World} {q : Nat} (h : RB w W) (ho : OnlyQ q W W') (hq : w.heap.size < q) : RB w W' :=
  ⟨(ho.block _ h.lt (by omega)).trans h.box, h.bel.trans (ho.below.mono (by omega))⟩

/-- Where the drawing stands: things, the reader, the box of what is told. -/
structure DW (w W : World) (q B0 G c : Nat) (L : List Op7) (p : Option Addr) (n cap k : Nat) : Prop where
  own : OwnOps W B0 G c L
  rd : RdAt W q p n cap k
  rb : RB w W
  wq : w.heap.size < q
  qb : q < B0
theorem DW.only {w W W' : World} {q B0 G c : Nat} {L : List Op7} {p : Option Addr} {n cap k k' : Nat} (h : DW w W q B0 G c L p n cap k) (ho : OnlyQ q W W') (hr : RdAt W' q p n cap k') : DW w W' q B0 G c L p n cap k' :=
  ⟨h.own.only ho (by have := h.own.lt.1; have := h.qb; omega), hr, h.rb.only ho h.wq, h.wq, h.qb⟩
theorem DW.below {w W W' : World} {q B0 G c : Nat} {L : List Op7} {p : Option Addr} {n cap k : Nat} (h : DW w W q B0 G c L p n cap k) (hb : Below W.heap.size W W') : DW w W' q B0 G c L p n cap k :=
  ⟨h.own.below hb, h.rd.below hb, h.rb.below hb, h.wq, h.qb⟩

theorem OwnOps.setRow {W : World} {base G c b : Nat} {L : List Op7} (h : OwnOps W base G c L) (hne : G ≠ b) (cs : Array Value) : OwnOps (W.setRow b cs) base G c L := by
  have hb : Below b W (W.setRow b cs) := below_setRow (Below.refl _ _) (Nat.le_refl _) _
  exact World.ownsRow.kept h (row := some b) ⟨hb.os, hb.tape, hb.output, hb.size, fun i _ hi => setRow_other W b i cs (fun e => hi (by rw [e]))⟩ (.inr (by intro e; exact hne (Option.some.inj e)))
theorem DW.fin {w W : World} {q B0 G c : Nat} {L : List Op7} {p : Option Addr} {n cap k : Nat} (h : DW w W q B0 G c L p n cap k) (hB : w.heap.size ≤ B0) (a1 a2 a3 a4 a5 a6 a7 : Int) :
    (W.setRow w.heap.size #[.int .i64 a1, .int .i64 a2, .int .i64 a3, .int .i64 a4, .int .i64 a5, .int .i64 a6, .int .i64 a7]).heap[w.heap.size]? = some (.cells #[.int .i64 a1, .int .i64 a2, .int .i64 a3, .int .i64 a4, .int .i64 a5, .int .i64 a6, .int .i64 a7] 29 (0, 0)) ∧
    OwnOps (W.setRow w.heap.size #[.int .i64 a1, .int .i64 a2, .int .i64 a3, .int .i64 a4, .int .i64 a5, .int .i64 a6, .int .i64 a7]) w.heap.size G c L ∧
    Below w.heap.size w (W.setRow w.heap.size #[.int .i64 a1, .int .i64 a2, .int .i64 a3, .int .i64 a4, .int .i64 a5, .int .i64 a6, .int .i64 a7]) := by
  obtain ⟨h1, h2⟩ := h.rb.stored a1 a2 a3 a4 a5 a6 a7
  exact ⟨h1, ownsRow_base hB (h.own.setRow (by have := h.own.lt.1; have := h.wq; have := h.qb; omega) _), h2⟩

theorem store_int (W : World) (O j : Nat) (u n : Int) (hc : W.cell? ⟨O, j, none⟩ = some (.int .i64 u)) (hf : W.frozen? ⟨O, j, none⟩ = false) : (Instr.storeAt 3 (.pointer (some ⟨O, j, none⟩)) (.int .i64 n)).run Tryd.prog W = .ok () (W.setCell ⟨O, j, none⟩ (.int .i64 n)) := by
  simp [go_sem, hc, hf]
theorem store_ref (W : World) (O : Nat) (u v a b : Int) (hc : W.cell? ⟨O, 3, none⟩ = some (.int .i64 u)) (hd : W.cell? ⟨O, 4, none⟩ = some (.int .i64 v)) (hf : ∀ j, W.frozen? ⟨O, j, none⟩ = false) : (Instr.storeAt 27 (.pointer (some ⟨O, 3, none⟩)) (.agg #[.int .i64 a, .int .i64 b])).run Tryd.prog W = .ok () ((W.setCell ⟨O, 3, none⟩ (.int .i64 a)).setCell ⟨O, 4, none⟩ (.int .i64 b)) := by
  simp [go_sem, hc, hd, hf]
/-- Things, and the box of what is told. -/
structure OE (w W : World) (B0 G c : Nat) (L : List Op7) : Prop where
  own : OwnOps W B0 G c L
  rb : RB w W
  wb : w.heap.size < B0
theorem DW.oe {w W : World} {q B0 G c : Nat} {L : List Op7} {p : Option Addr} {n cap k : Nat} (h : DW w W q B0 G c L p n cap k) : OE w W B0 G c L := ⟨h.own, h.rb, Nat.lt_trans h.wq h.qb⟩
theorem OE.below {w W W' : World} {B0 G c : Nat} {L : List Op7} (h : OE w W B0 G c L) (hb : Below W.heap.size W W') : OE w W' B0 G c L := ⟨h.own.below hb, h.rb.below hb, h.wb⟩
theorem OE.set {w W : World} {B0 G c O : Nat} {L : List Op7} (h : OE w W B0 G c L) (hG : G ≠ O) (hO : w.heap.size < O) (j : Nat) (v : Value) : OE w (W.setCell ⟨O, j, none⟩ v) B0 G c L :=
  ⟨OwnOps.set h.own hG v, ⟨(Below.heap_setCell _ _ _ _ (by show w.heap.size ≠ O; omega)).trans h.rb.box, h.rb.bel.setCell (p := ⟨O, j, none⟩) (Nat.le_of_lt hO) v⟩, h.wb⟩
theorem OE.row {w W : World} {B0 G c O : Nat} {L : List Op7} (h : OE w W B0 G c L) (hG : G ≠ O) (hO : w.heap.size < O) (cs : Array Value) : OE w (W.setRow O cs) B0 G c L :=
  ⟨h.own.setRow hG cs, ⟨(setRow_other W O w.heap.size cs (by omega)).trans h.rb.box, below_setRow h.rb.bel (Nat.le_of_lt hO) _⟩, h.wb⟩
theorem OE.fin {w W : World} {B0 G c : Nat} {L : List Op7} (h : OE w W B0 G c L) (a1 a2 a3 a4 a5 a6 a7 : Int) :
    (W.setRow w.heap.size #[.int .i64 a1, .int .i64 a2, .int .i64 a3, .int .i64 a4, .int .i64 a5, .int .i64 a6, .int .i64 a7]).heap[w.heap.size]? = some (.cells #[.int .i64 a1, .int .i64 a2, .int .i64 a3, .int .i64 a4, .int .i64 a5, .int .i64 a6, .int .i64 a7] 29 (0, 0)) ∧
    OwnOps (W.setRow w.heap.size #[.int .i64 a1, .int .i64 a2, .int .i64 a3, .int .i64 a4, .int .i64 a5, .int .i64 a6, .int .i64 a7]) w.heap.size G c L ∧
    Below w.heap.size w (W.setRow w.heap.size #[.int .i64 a1, .int .i64 a2, .int .i64 a3, .int .i64 a4, .int .i64 a5, .int .i64 a6, .int .i64 a7]) := by
  obtain ⟨h1, h2⟩ := h.rb.stored a1 a2 a3 a4 a5 a6 a7
  exact ⟨h1, ownsRow_base (Nat.le_of_lt h.wb) (h.own.setRow (by have := h.own.lt.1; have := h.wb; omega) _), h2⟩

attribute [-go_sem] Instr.storeAt
attribute [local go_sem ↓] store_op_new build_opTake
set_option maxRecDepth 100000 in
set_option maxHeartbeats 4000000 in
theorem drawWith_any (w : World) (p : Option Addr) (n cap : Nat) (h : ArgBytes w p n) (hcap : n ≤ cap) (hn : n ≤ 1048576) :
    Calls Tryd.prog 31 #[.slice p n cap] w fun e w' => ∃ G c L, ∃ o : Op7, e = .returned (.tuple #[.slice (some ⟨G, 0, none⟩) (L : List Op7).length c, opV o]) ∧ L.length ≤ 74 ∧ OwnOps w' w.heap.size G c L ∧ Below w.heap.size w w' := by
  have H := hideIt h
  clear h
  have HRB := hideIt (RB.start w)
  go_enter Tryd.func31, Tryd.ntmps31
  go_wp2_with fail
  refine (open_any _ p n cap (H.out.below HRB.out.bel) hcap hn).mono ?_
  rintro e wS ⟨n', rfl, hRS, hbS⟩
  have HR := hideIt hRS
  have HRB := hideIt (HRB.out.below hbS)
  have hqS := hRS.lt
  have hwq : w.heap.size < (w.alloc (.cells #[.int .i64 0, .int .i64 0, .int .i64 0, .int .i64 0, .int .i64 0, .int .i64 0, .int .i64 0] 29)).heap.size := by simp
  clear hRS hbS
  generalize hQ : (w.alloc (.cells #[.int .i64 0, .int .i64 0, .int .i64 0, .int .i64 0, .int .i64 0, .int .i64 0, .int .i64 0] 29)).heap.size = q at *
  clear hQ
  go_wp2_with fail
  refine (l71Off_any _ q p n' cap 0 HR.out (by omega)).mono ?_
  rintro e w2 ⟨⟨G, c, m, rfl, hS2⟩, ⟨k2, hk2, hR2⟩, hO2⟩
  have HRB := hideIt (HRB.out.only hO2 hwq)
  obtain ⟨L, hLm, hL74, hOwn⟩ := hS2
  subst hLm
  have HD : Hid (DW w w2 q wS.heap.size G c L p n' cap k2) := ⟨hOwn, hR2, HRB.out, hwq, hqS⟩
  clear hR2 hO2 hOwn HRB HR
  generalize wS.heap.size = B0 at *
  go_wp2_with fail
  refine (l71Rep_any _ q p n' cap k2 HD.out.rd (by omega)).mono ?_
  rintro e w3 ⟨⟨r, hr, rfl⟩, hR3, hO3⟩
  have HD := hideIt (HD.out.only hO3 hR3)
  clear hR3 hO3
  go_wp2_with fail
  refine (specTxt_any L G c _ HD.out.own.at (by omega) HD.out.own.cap).mono ?_
  rintro e w4 ⟨rfl, hb4⟩
  have HD := hideIt (HD.out.below hb4)
  clear hb4
  have hts : (txtB (shown (lfs L (standL L)))).size ≤ 74 := by
    rw [txtB_size]
    exact Nat.le_trans (shown_len _) (by rw [lfs_len]; exact Nat.le_trans (stand_len L) hL74)
  generalize txtB (shown (lfs L (standL L))) = tx at *
  have hw1 : IntKind.i64.wrap ((tx.size : Int) + 1) = (tx.size : Int) + 1 := IntWalk.i64_in _ ⟨by omega, by omega⟩
  go_wp2_with fail
  refine (pick_any _ q p n' cap (k2 + 2) _ HD.out.rd (by omega) (by omega) (by omega)).mono ?_
  rintro e w5 ⟨⟨t, ht0, ht1, rfl⟩, hR5, hO5⟩
  have HD := hideIt (HD.out.only hO5 hR5)
  clear hR5 hO5 hw1
  go_wp2_with fail
  refine (typePut_any L G c r t 107 _ HD.out.own.at (by omega) HD.out.own.cap).mono ?_
  rintro e w6 ⟨(⟨_, rfl⟩ | ⟨_, rfl⟩), hb6⟩
  all_goals
    have HD := hideIt (HD.out.below hb6)
    clear hb6
  · have HD := hideIt (HD.out.below ((Below.refl _ _).alloc (Nat.le_refl _) (.cells #[.int .i64 0, .int .i64 0, .int .i64 0, .int .i64 0, .int .i64 0, .int .i64 0, .int .i64 0] 29)))
    go_wp2_with fail
    refine (drawOp_any _ p n cap (H.out.below HD.out.rb.bel) hcap hn).mono ?_
    rintro e w8 ⟨⟨xa, xb, xk, xc, xd, xs, xg, rfl⟩, hb8⟩
    have HD := hideIt (HD.out.below hb8)
    clear hb8
    go_wp2_with (first | (refine wpList_store_row rfl 29 _ _ rfl w.heap.size _ rfl rfl 29 _ HD.out.rb.box (by kernel_rfl) rfl (all7 _ _ _ _ _ _ _) ?_; have HST := hideIt (HD.out.fin (by have := HD.out.wq; have := HD.out.qb; omega) xa xb xk xc xd xs xg); generalize World.setRow _ _ _ = W9 at *))
    obtain ⟨hb9, hown9, hbel9⟩ := HST.out
    have r0 := (blkCell hb9 0).trans rfl
    have r1 := (blkCell hb9 1).trans rfl
    have r2 := (blkCell hb9 2).trans rfl
    have r3 := (blkCell hb9 3).trans rfl
    have r4 := (blkCell hb9 4).trans rfl
    have r5 := (blkCell hb9 5).trans rfl
    have r6 := (blkCell hb9 6).trans rfl
    exact bodyPost_ret (v := .tuple #[.slice (some ⟨G, 0, none⟩) L.length c, .agg #[.int .i64 xa, .int .i64 xb, .int .i64 xk, .int .i64 xc, .int .i64 xd, .int .i64 xs, .int .i64 xg]]) (by simp [results, Tryd.results31, go_sem, r0, r1, r2, r3, r4, r5, r6]) rfl ⟨G, c, L, ⟨xa, xb, xk, xc, xd, xs, xg⟩, rfl, hL74, hown9, hbel9⟩
  · generalize putO L r t.toNat 107 = o at *
    unfold opV
    go_wp2_with fail
    have hGO : G ≠ w6.heap.size := by have := HD.out.own.lt.2; omega
    have hOq : w6.heap.size ≠ q := by have := HD.out.rd.lt; omega
    have hOw' : w.heap.size < w6.heap.size := HD.out.rb.lt
    have hOw : w6.heap.size ≠ w.heap.size := by omega
    have HD := hideIt (HD.out.below ((Below.refl _ _).alloc (Nat.le_refl _) (.cells #[.int .i64 o.a, .int .i64 o.b, .int .i64 o.k, .int .i64 o.c, .int .i64 o.d, .int .i64 o.s, .int .i64 o.g] 29)))
    have HO : Hid (OpBlk (w6.alloc (.cells #[.int .i64 o.a, .int .i64 o.b, .int .i64 o.k, .int .i64 o.c, .int .i64 o.d, .int .i64 o.s, .int .i64 o.g] 29)) w6.heap.size o.a o.b o.k o.c o.d o.s o.g) := ⟨by simp [go_sem], by simp [go_sem], by simp [go_sem], by simp [go_sem], by simp [go_sem], by simp [go_sem], by simp [go_sem], fun j => by simp [go_sem], by simp⟩
    have HOB : Hid ((w6.alloc (.cells #[.int .i64 o.a, .int .i64 o.b, .int .i64 o.k, .int .i64 o.c, .int .i64 o.d, .int .i64 o.s, .int .i64 o.g] 29)).heap[w6.heap.size]? = some (.cells #[.int .i64 o.a, .int .i64 o.b, .int .i64 o.k, .int .i64 o.c, .int .i64 o.d, .int .i64 o.s, .int .i64 o.g] 29 (0, 0))) := World.alloc_heap_new w6 _
    generalize w6.alloc (.cells #[.int .i64 o.a, .int .i64 o.b, .int .i64 o.k, .int .i64 o.c, .int .i64 o.d, .int .i64 o.s, .int .i64 o.g] 29) = W6 at *
    generalize w6.heap.size = O at *
    refine (pick_any _ q p n' cap _ 5 HD.out.rd (by omega) (by omega) (by omega)).mono ?_
    rintro e w7 ⟨⟨y, hy0, hy1, rfl⟩, hR7, hO7⟩
    have HD := hideIt (HD.out.only hO7 hR7)
    have HOB := hideIt ((hO7.block O HO.out.lt hOq).trans HOB.out)
    have HO := hideIt (HO.out.only hO7 hOq)
    clear hR7 hO7
    by_cases hy : y = 0
    · subst hy
      go_wp2_with fail
      refine (drawOp_any _ p n cap (H.out.below HD.out.rb.bel) hcap hn).mono ?_
      rintro e w8 ⟨⟨xa, xb, xk, xc, xd, xs, xg, rfl⟩, hb8⟩
      have HD := hideIt (HD.out.below hb8)
      clear hb8
      go_wp2_with (first | (refine wpList_store_row rfl 29 _ _ rfl w.heap.size _ rfl rfl 29 _ HD.out.rb.box (by kernel_rfl) rfl (all7 _ _ _ _ _ _ _) ?_; have HST := hideIt (HD.out.fin (by have := HD.out.wq; have := HD.out.qb; omega) xa xb xk xc xd xs xg); generalize World.setRow _ _ _ = W9 at *))
      obtain ⟨hb9, hown9, hbel9⟩ := HST.out
      have r0 := (blkCell hb9 0).trans rfl
      have r1 := (blkCell hb9 1).trans rfl
      have r2 := (blkCell hb9 2).trans rfl
      have r3 := (blkCell hb9 3).trans rfl
      have r4 := (blkCell hb9 4).trans rfl
      have r5 := (blkCell hb9 5).trans rfl
      have r6 := (blkCell hb9 6).trans rfl
      exact bodyPost_ret (v := .tuple #[.slice (some ⟨G, 0, none⟩) L.length c, .agg #[.int .i64 xa, .int .i64 xb, .int .i64 xk, .int .i64 xc, .int .i64 xd, .int .i64 xs, .int .i64 xg]]) (by simp [results, Tryd.results31, go_sem, r0, r1, r2, r3, r4, r5, r6]) rfl ⟨G, c, L, ⟨xa, xb, xk, xc, xd, xs, xg⟩, rfl, hL74, hown9, hbel9⟩
    · go_wp2_with fail
      refine (pick_any _ q p n' cap _ 8 HD.out.rd (by omega) (by omega) (by omega)).mono ?_
      rintro e w8 ⟨⟨s, hs0, hs1, rfl⟩, hR8, hO8⟩
      have HD := hideIt (HD.out.only hO8 hR8)
      have HOB := hideIt ((hO8.block O HO.out.lt hOq).trans HOB.out)
      have HO := hideIt (HO.out.only hO8 hOq)
      clear hR8 hO8
      have hsc : s = 0 ∨ s = 1 ∨ s = 2 ∨ (¬ s = 0 ∧ ¬ s = 1 ∧ ¬ s = 2) := by omega
      rcases hsc with rfl | rfl | rfl | ⟨hs00, hs01, hs02⟩
      · have HE := hideIt HD.out.oe
        obtain ⟨x0, x1, x2, x3, x4, x5, x6, xf, xl⟩ := HO.out
        obtain ⟨nb, hnb⟩ : ∃ nb, IntKind.i64.wrap (o.b + 1) = nb := ⟨_, rfl⟩
        have hst0 := store_int w8 O 1 o.b nb x1 (xf 1)
        have HXF : Hid (∀ j, (w8.setCell ⟨O, 1, none⟩ (.int .i64 nb)).frozen? ⟨O, j, none⟩ = false) := fun j => by rw [World.frozen?_setCell]; exact xf j
        have HE := hideIt (HE.out.set hGO hOw' 1 (.int .i64 nb))
        have X0 : (w8.setCell ⟨O, 1, none⟩ (.int .i64 nb)).cell? ⟨O, 0, none⟩ = some (.int .i64 o.a) := by simp [go_sem, x0, x1]
        have X1 : (w8.setCell ⟨O, 1, none⟩ (.int .i64 nb)).cell? ⟨O, 1, none⟩ = some (.int .i64 nb) := by simp [go_sem, x0, x1]
        have X2 : (w8.setCell ⟨O, 1, none⟩ (.int .i64 nb)).cell? ⟨O, 2, none⟩ = some (.int .i64 o.k) := by simp [go_sem, x2, x1]
        have X3 : (w8.setCell ⟨O, 1, none⟩ (.int .i64 nb)).cell? ⟨O, 3, none⟩ = some (.int .i64 o.c) := by simp [go_sem, x3, x1]
        have X4 : (w8.setCell ⟨O, 1, none⟩ (.int .i64 nb)).cell? ⟨O, 4, none⟩ = some (.int .i64 o.d) := by simp [go_sem, x4, x1]
        have X5 : (w8.setCell ⟨O, 1, none⟩ (.int .i64 nb)).cell? ⟨O, 5, none⟩ = some (.int .i64 o.s) := by simp [go_sem, x5, x1]
        have X6 : (w8.setCell ⟨O, 1, none⟩ (.int .i64 nb)).cell? ⟨O, 6, none⟩ = some (.int .i64 o.g) := by simp [go_sem, x6, x1]
        go_wp2_with fail
        clear x0 x1 x2 x3 x4 x5 x6 xf hst0 hnb
        generalize w8.setCell ⟨O, 1, none⟩ (.int .i64 nb) = w9 at *
        have x0 := X0
        have x1 := X1
        have x2 := X2
        have x3 := X3
        have x4 := X4
        have x5 := X5
        have x6 := X6
        clear X0 X1 X2 X3 X4 X5 X6
        have HE := hideIt (HE.out.below ((Below.refl _ _).drew))
        have hst := store_op _ w.heap.size _ HE.out.rb.box rfl o.a nb o.k o.c o.d o.s o.g
        go_region_held3 (fun w' => w'.cell? ⟨O, 0, none⟩ = some (.int .i64 o.a) ∧ w'.cell? ⟨O, 1, none⟩ = some (.int .i64 nb) ∧ w'.cell? ⟨O, 2, none⟩ = some (.int .i64 o.k) ∧ w'.cell? ⟨O, 3, none⟩ = some (.int .i64 o.c) ∧ w'.cell? ⟨O, 4, none⟩ = some (.int .i64 o.d) ∧ w'.cell? ⟨O, 5, none⟩ = some (.int .i64 o.s) ∧ w'.cell? ⟨O, 6, none⟩ = some (.int .i64 o.g))
          (first | exact ⟨x0, x1, x2, x3, x4, x5, x6⟩ | exact ⟨setRow_cell hOw x0, setRow_cell hOw x1, setRow_cell hOw x2, setRow_cell hOw x3, setRow_cell hOw x4, setRow_cell hOw x5, setRow_cell hOw x6⟩)
          (fail)
        rename_i hHH
        clear hHH
        have HST := hideIt (HE.out.fin (o.a) (nb) (o.k) (o.c) (o.d) (o.s) (o.g))
        clear hst
        generalize World.setRow _ _ _ = W9 at *
        obtain ⟨hb9, hown9, hbel9⟩ := HST.out
        have r0 := (blkCell hb9 0).trans rfl
        have r1 := (blkCell hb9 1).trans rfl
        have r2 := (blkCell hb9 2).trans rfl
        have r3 := (blkCell hb9 3).trans rfl
        have r4 := (blkCell hb9 4).trans rfl
        have r5 := (blkCell hb9 5).trans rfl
        have r6 := (blkCell hb9 6).trans rfl
        go_wp2
        exact bodyPost_ret (v := .tuple #[.slice (some ⟨G, 0, none⟩) L.length c, .agg #[.int .i64 o.a, .int .i64 nb, .int .i64 o.k, .int .i64 o.c, .int .i64 o.d, .int .i64 o.s, .int .i64 o.g]]) (by simp [results, Tryd.results31, go_sem, r0, r1, r2, r3, r4, r5, r6]) rfl ⟨G, c, L, ⟨o.a, nb, o.k, o.c, o.d, o.s, o.g⟩, rfl, hL74, hown9, hbel9⟩
      · go_wp2_with fail
        refine (l71SomeL_any _ q p n' cap _ _ G c L hL74 HD.out.rd (by omega) HD.out.own HD.out.qb HD.out.rd.lt).mono ?_
        rintro e w9 ⟨⟨r', m', _, rfl⟩, ⟨k9, _, hR9⟩, hO9⟩
        have HD := hideIt (HD.out.only hO9 hR9)
        have HO := hideIt (HO.out.only hO9 hOq)
        clear hR9 hO9
        have HE := hideIt HD.out.oe
        obtain ⟨x0, x1, x2, x3, x4, x5, x6, xf, xl⟩ := HO.out
        have hst1 := store_ref w9 O o.c o.d r' m' x3 x4 xf
        have HE := hideIt ((HE.out.set hGO hOw' 3 (.int .i64 r')).set hGO hOw' 4 (.int .i64 m'))
        have X0 : ((w9.setCell ⟨O, 3, none⟩ (.int .i64 r')).setCell ⟨O, 4, none⟩ (.int .i64 m')).cell? ⟨O, 0, none⟩ = some (.int .i64 o.a) := by simp [go_sem, x0, x3, x4]
        have X1 : ((w9.setCell ⟨O, 3, none⟩ (.int .i64 r')).setCell ⟨O, 4, none⟩ (.int .i64 m')).cell? ⟨O, 1, none⟩ = some (.int .i64 o.b) := by simp [go_sem, x1, x3, x4]
        have X2 : ((w9.setCell ⟨O, 3, none⟩ (.int .i64 r')).setCell ⟨O, 4, none⟩ (.int .i64 m')).cell? ⟨O, 2, none⟩ = some (.int .i64 o.k) := by simp [go_sem, x2, x3, x4]
        have X3 : ((w9.setCell ⟨O, 3, none⟩ (.int .i64 r')).setCell ⟨O, 4, none⟩ (.int .i64 m')).cell? ⟨O, 3, none⟩ = some (.int .i64 r') := by simp [go_sem, x3, x3, x4]
        have X4 : ((w9.setCell ⟨O, 3, none⟩ (.int .i64 r')).setCell ⟨O, 4, none⟩ (.int .i64 m')).cell? ⟨O, 4, none⟩ = some (.int .i64 m') := by simp [go_sem, x4, x3, x4]
        have X5 : ((w9.setCell ⟨O, 3, none⟩ (.int .i64 r')).setCell ⟨O, 4, none⟩ (.int .i64 m')).cell? ⟨O, 5, none⟩ = some (.int .i64 o.s) := by simp [go_sem, x5, x3, x4]
        have X6 : ((w9.setCell ⟨O, 3, none⟩ (.int .i64 r')).setCell ⟨O, 4, none⟩ (.int .i64 m')).cell? ⟨O, 6, none⟩ = some (.int .i64 o.g) := by simp [go_sem, x6, x3, x4]
        go_wp2_with fail
        clear x0 x1 x2 x3 x4 x5 x6 xf hst1
        generalize (w9.setCell ⟨O, 3, none⟩ (.int .i64 r')).setCell ⟨O, 4, none⟩ (.int .i64 m') = w10 at *
        have x0 := X0
        have x1 := X1
        have x2 := X2
        have x3 := X3
        have x4 := X4
        have x5 := X5
        have x6 := X6
        clear X0 X1 X2 X3 X4 X5 X6
        have HE := hideIt (HE.out.below ((Below.refl _ _).drew))
        have hst := store_op _ w.heap.size _ HE.out.rb.box rfl o.a o.b o.k r' m' o.s o.g
        go_region_held3 (fun w' => w'.cell? ⟨O, 0, none⟩ = some (.int .i64 o.a) ∧ w'.cell? ⟨O, 1, none⟩ = some (.int .i64 o.b) ∧ w'.cell? ⟨O, 2, none⟩ = some (.int .i64 o.k) ∧ w'.cell? ⟨O, 3, none⟩ = some (.int .i64 r') ∧ w'.cell? ⟨O, 4, none⟩ = some (.int .i64 m') ∧ w'.cell? ⟨O, 5, none⟩ = some (.int .i64 o.s) ∧ w'.cell? ⟨O, 6, none⟩ = some (.int .i64 o.g))
          (first | exact ⟨x0, x1, x2, x3, x4, x5, x6⟩ | exact ⟨setRow_cell hOw x0, setRow_cell hOw x1, setRow_cell hOw x2, setRow_cell hOw x3, setRow_cell hOw x4, setRow_cell hOw x5, setRow_cell hOw x6⟩)
          (fail)
        rename_i hHH
        clear hHH
        have HST := hideIt (HE.out.fin (o.a) (o.b) (o.k) (r') (m') (o.s) (o.g))
        clear hst
        generalize World.setRow _ _ _ = W9 at *
        obtain ⟨hb9, hown9, hbel9⟩ := HST.out
        have r0 := (blkCell hb9 0).trans rfl
        have r1 := (blkCell hb9 1).trans rfl
        have r2 := (blkCell hb9 2).trans rfl
        have r3 := (blkCell hb9 3).trans rfl
        have r4 := (blkCell hb9 4).trans rfl
        have r5 := (blkCell hb9 5).trans rfl
        have r6 := (blkCell hb9 6).trans rfl
        go_wp2
        exact bodyPost_ret (v := .tuple #[.slice (some ⟨G, 0, none⟩) L.length c, .agg #[.int .i64 o.a, .int .i64 o.b, .int .i64 o.k, .int .i64 r', .int .i64 m', .int .i64 o.s, .int .i64 o.g]]) (by simp [results, Tryd.results31, go_sem, r0, r1, r2, r3, r4, r5, r6]) rfl ⟨G, c, L, ⟨o.a, o.b, o.k, r', m', o.s, o.g⟩, rfl, hL74, hown9, hbel9⟩
      · obtain ⟨x0, x1, x2, x3, x4, x5, x6, xf, xl⟩ := HO.out
        go_wp2_with fail
        have HD := hideIt (HD.out.below ((Below.refl _ _).drew))
        have HOB : Hid (w8.drew.heap[O]? = _) := HOB.out
        have HOL : Hid (O < w8.drew.heap.size) := xl
        go_region_with (first | (go_at_call 83; refine (l71SomeL_any _ q p n' cap _ _ G c L hL74 HD.out.rd (by omega) HD.out.own HD.out.qb HD.out.rd.lt).mono ?_; rintro e w9 ⟨⟨r', m', _, rfl⟩, ⟨k9, _, hR9⟩, hO9⟩; have HOB := hideIt ((hO9.block O HOL.out hOq).trans HOB.out); have y0 : w9.cell? ⟨O, 0, none⟩ = some (.int .i64 o.a) := (blkCell HOB.out 0).trans rfl; have y1 : w9.cell? ⟨O, 1, none⟩ = some (.int .i64 o.b) := (blkCell HOB.out 1).trans rfl; have HD := hideIt (HD.out.only hO9 hR9); have hst2 := store_op w9 O _ HOB.out rfl o.a o.b 2 r' m' 0 0; clear hR9 hO9))
        all_goals
          have HE := hideIt (HD.out.oe.row hGO hOw' #[.int .i64 o.a, .int .i64 o.b, .int .i64 2, .int .i64 r', .int .i64 m', .int .i64 0, .int .i64 0])
          have hob : (w9.setRow O #[.int .i64 o.a, .int .i64 o.b, .int .i64 2, .int .i64 r', .int .i64 m', .int .i64 0, .int .i64 0]).heap[O]? = some (.cells #[.int .i64 o.a, .int .i64 o.b, .int .i64 2, .int .i64 r', .int .i64 m', .int .i64 0, .int .i64 0] 29 (0, 0)) := setRow_heap _ _ _ _ _ _ HOB.out
          clear hst2 y0 y1 x0 x1 x2 x3 x4 x5 x6 xf xl
          generalize w9.setRow O #[.int .i64 o.a, .int .i64 o.b, .int .i64 2, .int .i64 r', .int .i64 m', .int .i64 0, .int .i64 0] = w10 at *
          have x0 : w10.cell? ⟨O, 0, none⟩ = some (.int .i64 o.a) := (blkCell hob 0).trans rfl
          have x1 : w10.cell? ⟨O, 1, none⟩ = some (.int .i64 o.b) := (blkCell hob 1).trans rfl
          have x2 : w10.cell? ⟨O, 2, none⟩ = some (.int .i64 2) := (blkCell hob 2).trans rfl
          have x3 : w10.cell? ⟨O, 3, none⟩ = some (.int .i64 r') := (blkCell hob 3).trans rfl
          have x4 : w10.cell? ⟨O, 4, none⟩ = some (.int .i64 m') := (blkCell hob 4).trans rfl
          have x5 : w10.cell? ⟨O, 5, none⟩ = some (.int .i64 0) := (blkCell hob 5).trans rfl
          have x6 : w10.cell? ⟨O, 6, none⟩ = some (.int .i64 0) := (blkCell hob 6).trans rfl
          clear hob
          go_wp2_with fail
          have HE := hideIt (HE.out.below ((Below.refl _ _).drew))
          have hst := store_op _ w.heap.size _ HE.out.rb.box rfl o.a o.b 2 r' m' 0 0
          go_region_held3 (fun w' => w'.cell? ⟨O, 0, none⟩ = some (.int .i64 o.a) ∧ w'.cell? ⟨O, 1, none⟩ = some (.int .i64 o.b) ∧ w'.cell? ⟨O, 2, none⟩ = some (.int .i64 2) ∧ w'.cell? ⟨O, 3, none⟩ = some (.int .i64 r') ∧ w'.cell? ⟨O, 4, none⟩ = some (.int .i64 m') ∧ w'.cell? ⟨O, 5, none⟩ = some (.int .i64 0) ∧ w'.cell? ⟨O, 6, none⟩ = some (.int .i64 0))
            (first | exact ⟨x0, x1, x2, x3, x4, x5, x6⟩ | exact ⟨setRow_cell hOw x0, setRow_cell hOw x1, setRow_cell hOw x2, setRow_cell hOw x3, setRow_cell hOw x4, setRow_cell hOw x5, setRow_cell hOw x6⟩)
            (fail)
          rename_i hHH
          clear hHH
          have HST := hideIt (HE.out.fin (o.a) (o.b) (2) (r') (m') (0) (0))
          clear hst
          generalize World.setRow _ _ _ = W9 at *
          obtain ⟨hb9, hown9, hbel9⟩ := HST.out
          have r0 := (blkCell hb9 0).trans rfl
          have r1 := (blkCell hb9 1).trans rfl
          have r2 := (blkCell hb9 2).trans rfl
          have r3 := (blkCell hb9 3).trans rfl
          have r4 := (blkCell hb9 4).trans rfl
          have r5 := (blkCell hb9 5).trans rfl
          have r6 := (blkCell hb9 6).trans rfl
          go_wp2
          exact bodyPost_ret (v := .tuple #[.slice (some ⟨G, 0, none⟩) L.length c, .agg #[.int .i64 o.a, .int .i64 o.b, .int .i64 2, .int .i64 r', .int .i64 m', .int .i64 0, .int .i64 0]]) (by simp [results, Tryd.results31, go_sem, r0, r1, r2, r3, r4, r5, r6]) rfl ⟨G, c, L, ⟨o.a, o.b, 2, r', m', 0, 0⟩, rfl, hL74, hown9, hbel9⟩
      · have HE := hideIt HD.out.oe
        obtain ⟨x0, x1, x2, x3, x4, x5, x6, xf, xl⟩ := HO.out
        go_wp2_with fail
        have HE := hideIt (HE.out.below ((Below.refl _ _).drew))
        have hst := store_op _ w.heap.size _ HE.out.rb.box rfl o.a o.b o.k o.c o.d o.s o.g
        go_region_held3 (fun w' => w'.cell? ⟨O, 0, none⟩ = some (.int .i64 o.a) ∧ w'.cell? ⟨O, 1, none⟩ = some (.int .i64 o.b) ∧ w'.cell? ⟨O, 2, none⟩ = some (.int .i64 o.k) ∧ w'.cell? ⟨O, 3, none⟩ = some (.int .i64 o.c) ∧ w'.cell? ⟨O, 4, none⟩ = some (.int .i64 o.d) ∧ w'.cell? ⟨O, 5, none⟩ = some (.int .i64 o.s) ∧ w'.cell? ⟨O, 6, none⟩ = some (.int .i64 o.g))
          (first | exact ⟨x0, x1, x2, x3, x4, x5, x6⟩ | exact ⟨setRow_cell hOw x0, setRow_cell hOw x1, setRow_cell hOw x2, setRow_cell hOw x3, setRow_cell hOw x4, setRow_cell hOw x5, setRow_cell hOw x6⟩)
          (fail)
        rename_i hHH
        clear hHH
        have HST := hideIt (HE.out.fin (o.a) (o.b) (o.k) (o.c) (o.d) (o.s) (o.g))
        clear hst
        generalize World.setRow _ _ _ = W9 at *
        obtain ⟨hb9, hown9, hbel9⟩ := HST.out
        have r0 := (blkCell hb9 0).trans rfl
        have r1 := (blkCell hb9 1).trans rfl
        have r2 := (blkCell hb9 2).trans rfl
        have r3 := (blkCell hb9 3).trans rfl
        have r4 := (blkCell hb9 4).trans rfl
        have r5 := (blkCell hb9 5).trans rfl
        have r6 := (blkCell hb9 6).trans rfl
        go_wp2
        exact bodyPost_ret (v := .tuple #[.slice (some ⟨G, 0, none⟩) L.length c, .agg #[.int .i64 o.a, .int .i64 o.b, .int .i64 o.k, .int .i64 o.c, .int .i64 o.d, .int .i64 o.s, .int .i64 o.g]]) (by simp [results, Tryd.results31, go_sem, r0, r1, r2, r3, r4, r5, r6]) rfl ⟨G, c, L, ⟨o.a, o.b, o.k, o.c, o.d, o.s, o.g⟩, rfl, hL74, hown9, hbel9⟩
end Go.Proofs.YtedanlmippfojaaDoor

namespace Go.Proofs.YtedanlmippfojaaDoor
open Go.RowKit
set_option linter.unusedSimpArgs false
set_option linter.unusedVariables false
attribute [local go_sem ↓] Go.wp_at_zero Go.wp_at_succ

/-- Whether there is such a place. -/
def atB (l : List Op7) (t : Int) : Bool := opsB l && inB t 0 (shownI (lvs l)).length
/-- The sign ahead of it. -/
def atQ (l : List Op7) (t : Int) : Int × Int := if atB l t = true then ((leftOf l t.toNat).1, (leftOf l t.toNat).2.1) else (0, 0)
def atV (l : List Op7) (t : Int) : Value := .tuple #[.agg #[.int .i64 (atQ l t).1, .int .i64 (atQ l t).2], .bool (atB l t)]
theorem atV_no {l : List Op7} {t : Int} (h : atB l t = false) : atV l t = .tuple #[.agg #[.int .i64 0, .int .i64 0], .bool false] := by unfold atV atQ; rw [h]; rfl
theorem atV_yes {l : List Op7} {t : Int} {a b : Int} {k : Nat} (h : atB l t = true) (hl : leftOf l t.toNat = (a, b, k)) : atV l t = .tuple #[.agg #[.int .i64 a, .int .i64 b], .bool true] := by unfold atV atQ; rw [h, if_pos rfl, hl]

end Go.Proofs.YtedanlmippfojaaDoor

namespace Go.Proofs.YtedanlmippfojaaDoor
open Go.RowKit Go.Shelf
set_option linter.unusedSimpArgs false
set_option linter.unusedVariables false
attribute [local go_sem ↓] Go.wp_at_zero Go.wp_at_succ

set_option maxRecDepth 100000 in
set_option maxHeartbeats 2000000 in
theorem implAt_any (l : List Op7) (g cap : Nat) (t : Int) (hwf : wf64 t) (x : Addr) (w : World) (hl : OpsAt w g l) (hn : l.length ≤ 1048576) (hcap : l.length ≤ cap)
    (he : w.cell? ⟨0, 0, none⟩ = some (.iface 203 (.pointer (some x)))) (h0 : 0 < w.heap.size) :
    Calls Tryd.prog 33 #[.slice (some ⟨g, 0, none⟩) l.length cap, .int .i64 t] w fun e w' => e = .returned (atV l t) ∧ Below w.heap.size w w' := by
  have HL := hideIt hl
  have hgw := hl.1
  clear hl
  have HIB := hideIt (IB.start w)
  go_enter Tryd.func33, Tryd.ntmps33
  go_wp2_with fail
  generalize w.alloc (.cells #[.int .i64 0, .int .i64 0] 27) = W0 at *
  refine (treeOf_any l g cap x _ (HL.out.below HIB.out.bel hgw) hn hcap (errB HIB.out.bel h0 he) (posB HIB.out.bel h0)).mono ?_
  rintro e w1 ⟨(⟨ht, b1, b2, b3, base, rfl, hT⟩ | ⟨ht, rfl⟩), hb1⟩
  all_goals
    have HO := hideIt ht
    have HI1 := hideIt (HIB.out.below hb1)
    have herr1 : w1.cell? ⟨0, 0, none⟩ = some (.iface 203 (.pointer (some x))) := errB HI1.out.bel h0 he
    have hp1 : 0 < w1.heap.size := posB HI1.out.bel h0
    have hmw : w.heap.size < w1.heap.size := HI1.out.lt
    have hbx := HI1.out.box
    have i0 := (blk_cell hbx 0).trans rfl
    have i1 := (blk_cell hbx 1).trans rfl
    have fi : ∀ j, w1.frozen? ⟨w.heap.size, j, none⟩ = false := fun j => HI1.out.frozen j
    clear ht hb1 HIB hbx
  · have HTT := hideIt hT
    clear hT
    go_wp2_with (first | (go_at_call 68; refine (is_nil x _).mono ?_; rintro e w'' ⟨rfl, rfl⟩))
    have HB2 : Hid (Below w1.heap.size w1 (w1.alloc (.cells #[.map (some b1), .map (some b2), .map (some b3)] 107))) := (Below.refl _ _).alloc (Nat.le_refl _) _
    refine (signAhead_any l HO.out hn w1 b1 b2 b3 base HTT.out t hwf x _ HB2.out (errB HB2.out hp1 herr1) (posB HB2.out hp1)).mono ?_
    rintro e w3 ⟨(⟨hk, rfl⟩ | ⟨hk, rfl⟩), hb3⟩
    all_goals
      have HI3 := hideIt (HI1.out.below (Bstep HB2.out hb3))
      have HK := hideIt hk
      have herr3 : w3.cell? ⟨0, 0, none⟩ = some (.iface 203 (.pointer (some x))) := errB HI3.out.bel h0 he
      have hw3 : w.heap.size < w3.heap.size := HI3.out.lt
      have hbx := HI3.out.box
      have j0 := (blk_cell hbx 0).trans rfl
      have j1 := (blk_cell hbx 1).trans rfl
      have fj : ∀ j, w3.frozen? ⟨w.heap.size, j, none⟩ = false := fun j => HI3.out.frozen j
      clear hk hb3 hbx i0 i1 fi
    · obtain ⟨la, lb, lk, hlf⟩ : ∃ la lb lk, leftOf l t.toNat = (la, lb, lk) := ⟨_, _, _, rfl⟩
      have HN := hideIt (atV_yes (l := l) (t := t) (by unfold atB; rw [HO.out, HK.out]; rfl) hlf)
      rw [hlf]
      clear hlf
      dsimp only
      go_wp2_with fail
      obtain ⟨Wm, hWm⟩ : ∃ Wm, w3.alloc (.cells #[.int .i64 la, .int .i64 lb] 27) = Wm := ⟨_, rfl⟩
      have hbm : Below w3.heap.size w3 Wm := by rw [← hWm]; exact (Below.refl _ _).alloc (Nat.le_refl _) _
      have hmk : Wm.heap[w3.heap.size]? = some (.cells #[.int .i64 la, .int .i64 lb] 27 (0, 0)) := by rw [← hWm]; exact World.alloc_heap_new _ _
      have HIM := hideIt (HI3.out.below hbm)
      have k0 := (blk_cell HIM.out.box 0).trans rfl
      have k1 := (blk_cell HIM.out.box 1).trans rfl
      have fk : ∀ j, Wm.frozen? ⟨w.heap.size, j, none⟩ = false := fun j => HIM.out.frozen j
      have m0 := (blk_cell hmk 0).trans rfl
      have m1 := (blk_cell hmk 1).trans rfl
      have herrm : Wm.cell? ⟨0, 0, none⟩ = some (.iface 203 (.pointer (some x))) := errB HIM.out.bel h0 he
      rw [hWm]
      clear hWm hbm hmk j0 j1 fj herr3
      generalize w3.heap.size = M at *
      have n1 : ¬ M = w.heap.size := by omega
      have n2 : ¬ w.heap.size = M := by omega
      have n3 : ¬ 0 = w.heap.size := by omega
      have n4 : ¬ w.heap.size = 0 := by omega
      go_region_held3 (fun w' => w'.cell? ⟨M, 0, none⟩ = some (.int .i64 la) ∧ w'.cell? ⟨M, 1, none⟩ = some (.int .i64 lb) ∧ w'.cell? ⟨0, 0, none⟩ = some (.iface 203 (.pointer (some x))))
        (first | exact ⟨m0, m1, herrm⟩ | (simp [go_sem, m0, m1, herrm, n1, n2, n3, n4]))
        (first | (go_at_call 68; refine (is_nil x _).mono ?_; rintro e w'' ⟨rfl, rfl⟩))
      go_wp2
      exact bodyPost_ret (v := .tuple #[.agg #[.int .i64 la, .int .i64 lb], .bool true]) (by simp [results, Tryd.results33, go_sem, k0, k1]) rfl ⟨by rw [HN.out], ((HIM.out.bel.setCell (p := ⟨w.heap.size, 0, none⟩) (Nat.le_refl _) _).setCell (p := ⟨w.heap.size, 1, none⟩) (Nat.le_refl _) _).drew⟩
    · have HN := hideIt (atV_no (l := l) (t := t) (by unfold atB; rw [HO.out, HK.out]; rfl))
      go_wp2_with fail
      obtain ⟨Wm, hWm⟩ : ∃ Wm, w3.alloc (.cells #[.int .i64 0, .int .i64 0] 27) = Wm := ⟨_, rfl⟩
      have hbm : Below w3.heap.size w3 Wm := by rw [← hWm]; exact (Below.refl _ _).alloc (Nat.le_refl _) _
      have hmk : Wm.heap[w3.heap.size]? = some (.cells #[.int .i64 0, .int .i64 0] 27 (0, 0)) := by rw [← hWm]; exact World.alloc_heap_new _ _
      have HIM := hideIt (HI3.out.below hbm)
      have k0 := (blk_cell HIM.out.box 0).trans rfl
      have k1 := (blk_cell HIM.out.box 1).trans rfl
      have fk : ∀ j, Wm.frozen? ⟨w.heap.size, j, none⟩ = false := fun j => HIM.out.frozen j
      have m0 := (blk_cell hmk 0).trans rfl
      have m1 := (blk_cell hmk 1).trans rfl
      have herrm : Wm.cell? ⟨0, 0, none⟩ = some (.iface 203 (.pointer (some x))) := errB HIM.out.bel h0 he
      rw [hWm]
      clear hWm hbm hmk j0 j1 fj herr3
      generalize w3.heap.size = M at *
      have n1 : ¬ M = w.heap.size := by omega
      have n2 : ¬ w.heap.size = M := by omega
      have n3 : ¬ 0 = w.heap.size := by omega
      have n4 : ¬ w.heap.size = 0 := by omega
      go_region_held3 (fun w' => w'.cell? ⟨M, 0, none⟩ = some (.int .i64 0) ∧ w'.cell? ⟨M, 1, none⟩ = some (.int .i64 0) ∧ w'.cell? ⟨0, 0, none⟩ = some (.iface 203 (.pointer (some x))))
        (first | exact ⟨m0, m1, herrm⟩ | (simp [go_sem, m0, m1, herrm, n1, n2, n3, n4]))
        (first | (go_at_call 68; refine (is_same x _).mono ?_; rintro e w'' ⟨rfl, rfl⟩))
      go_wp2
      exact bodyPost_ret (v := .tuple #[.agg #[.int .i64 0, .int .i64 0], .bool false]) (by simp [results, Tryd.results33, go_sem, k0, k1]) rfl ⟨by rw [HN.out], ((HIM.out.bel.setCell (p := ⟨w.heap.size, 0, none⟩) (Nat.le_refl _) _).setCell (p := ⟨w.heap.size, 1, none⟩) (Nat.le_refl _) _).drew⟩
  · have HN := hideIt (atV_no (l := l) (t := t) (by unfold atB; rw [HO.out]; rfl))
    go_wp2_with (first | (go_at_call 68; refine (is_same x _).mono ?_; rintro e w'' ⟨rfl, rfl⟩))
    have hbz := blk_below (set_two (u' := .int .i64 0) (v' := .int .i64 0) HI1.out.box) ((Below.refl _ _).alloc (Nat.le_refl _) (.cells #[.map none, .map none, .map none] 107))
    have v0 := (blk_cell hbz 0).trans rfl
    have v1 := (blk_cell hbz 1).trans rfl
    exact bodyPost_ret (v := .tuple #[.agg #[.int .i64 0, .int .i64 0], .bool false]) (by simp [results, Tryd.results33, go_sem, v0, v1]) rfl ⟨by rw [HN.out], ((HI1.out.bel.setCell (p := ⟨w.heap.size, 0, none⟩) (Nat.le_refl _) _).setCell (p := ⟨w.heap.size, 1, none⟩) (Nat.le_refl _) _).alloc (by simp [World.setCell]; omega) _⟩
end Go.Proofs.YtedanlmippfojaaDoor

namespace Go.Proofs.YtedanlmippfojaaDoor
open Go.RowKit
set_option linter.unusedSimpArgs false
set_option linter.unusedVariables false
attribute [local go_sem ↓] Go.wp_at_zero Go.wp_at_succ

/-- What MarkPlace answers, as a value. -/
def plV (p : Option Nat) : Value := .tuple #[.int .i64 (pN p), .bool (pB p)]
theorem take_next {L : List Lf} {k : Nat} (h : k < L.length) : L.take (k + 1) = L.take k ++ [L[k]] := List.take_succ_eq_append_getElem h
theorem upTo_here {L : List Lf} {k : Nat} {a b : Int} (h : k < L.length) (hf : freeOf (L.take k) a b) (ha : L[k].a = a) (hb : L[k].b = b) : upTo a b L 0 = some (nShown (L.take (k + 1))) := by
  have e : L = L.take k ++ L[k] :: L.drop (k + 1) := by rw [← List.drop_eq_getElem_cons h, List.take_append_drop]
  have h1 := upTo_at (t := L.drop (k + 1)) (n := 0) hf ha hb
  rw [← e] at h1
  rw [h1, take_next h, Nat.zero_add]

end Go.Proofs.YtedanlmippfojaaDoor

namespace Go.Proofs.YtedanlmippfojaaDoor
open Go.RowKit Go.Shelf
set_option linter.unusedSimpArgs false
set_option linter.unusedVariables false
attribute [local go_sem ↓] Go.wp_at_zero Go.wp_at_succ

set_option maxRecDepth 100000 in
set_option maxHeartbeats 2000000 in
theorem implPlace_any (l : List Op7) (g cap : Nat) (a b : Int) (x : Addr) (w : World) (hl : OpsAt w g l) (hn : l.length ≤ 1048576) (hcap : l.length ≤ cap)
    (he : w.cell? ⟨0, 0, none⟩ = some (.iface 203 (.pointer (some x)))) (h0 : 0 < w.heap.size) :
    Calls Tryd.prog 34 #[.slice (some ⟨g, 0, none⟩) l.length cap, .agg #[.int .i64 a, .int .i64 b]] w fun e w' => e = .returned (plV (markP l a b)) ∧ Below w.heap.size w w' := by
  have HL := hideIt hl
  have hgw := hl.1
  clear hl
  have HB0 : Hid (Below w.heap.size w (w.alloc (.cells #[.int .i64 a, .int .i64 b] 27))) := (Below.refl _ _).alloc (Nat.le_refl _) _
  have HM0 : Hid ((w.alloc (.cells #[.int .i64 a, .int .i64 b] 27)).heap[w.heap.size]? = some (.cells #[.int .i64 a, .int .i64 b] 27 (0, 0))) := World.alloc_heap_new _ _
  go_enter Tryd.func34, Tryd.ntmps34
  go_wp2_with fail
  generalize w.alloc (.cells #[.int .i64 a, .int .i64 b] 27) = W0 at *
  refine (treeOf_any l g cap x _ (HL.out.below HB0.out hgw) hn hcap (errB HB0.out h0 he) (posB HB0.out h0)).mono ?_
  rintro e w1 ⟨(⟨ht, b1, b2, b3, base, rfl, hT⟩ | ⟨ht, rfl⟩), hb1⟩
  all_goals
    have HO := hideIt ht
    have HB1 := hideIt (Bstep HB0.out hb1)
    have hm1 := blk_below HM0.out hb1
    have herr1 : w1.cell? ⟨0, 0, none⟩ = some (.iface 203 (.pointer (some x))) := errB HB1.out h0 he
    have hp1 : 0 < w1.heap.size := posB HB1.out h0
    have m0 := (blk_cell hm1 0).trans rfl
    have m1 := (blk_cell hm1 1).trans rfl
    have hmw : w.heap.size < w1.heap.size := (Array.getElem?_eq_some_iff.1 hm1).1
    clear ht hb1 hm1
  · have HTT := hideIt hT
    have HE : Hid (markP l a b = placeM l a b) := by show markP l a b = _; unfold markP; rw [HO.out]; rfl
    clear hT
    go_wp2_with (first | (go_at_call 68; refine (is_nil x _).mono ?_; rintro e w'' ⟨rfl, rfl⟩))
    have HB2 : Hid (Below w1.heap.size w1 (w1.alloc (.cells #[.map (some b1), .map (some b2), .map (some b3)] 107))) := (Below.refl _ _).alloc (Nat.le_refl _) _
    refine (callsIn_wide.1 (countUp_in l HO.out hn w1 b1 b2 b3 base HTT.out 3 (Nat.le_refl _) a b x _ HB2.out (errB HB2.out hp1 herr1) (posB HB2.out hp1))).mono ?_
    rintro e w3 ⟨(⟨k, hk, rfl⟩ | ⟨hk, rfl⟩), hb3⟩
    all_goals
      have HB3 := hideIt (Bstep (Bstep HB1.out HB2.out) hb3)
      have HK := hideIt (HE.out.trans hk)
      have herr3 : w3.cell? ⟨0, 0, none⟩ = some (.iface 203 (.pointer (some x))) := errB HB3.out h0 he
      clear hk hb3 m0 m1
    · go_wp2_with (first | (go_at_call 68; refine (is_nil x _).mono ?_; rintro e w'' ⟨rfl, rfl⟩))
      exact bodyPost_ret (v := .tuple #[.int .i64 (k : Nat), .bool true]) (by simp [results, Tryd.results34, go_sem]) rfl ⟨by rw [HK.out]; rfl, HB3.out⟩
    · go_wp2_with (first | (go_at_call 68; refine (is_same x _).mono ?_; rintro e w'' ⟨rfl, rfl⟩))
      exact bodyPost_ret (v := .tuple #[.int .i64 0, .bool false]) (by simp [results, Tryd.results34, go_sem]) rfl ⟨by rw [HK.out]; rfl, HB3.out⟩
  · have HE : Hid (markP l a b = none) := by show markP l a b = _; unfold markP; rw [HO.out]; rfl
    go_wp2_with (first | (go_at_call 68; refine (is_same x _).mono ?_; rintro e w'' ⟨rfl, rfl⟩))
    exact bodyPost_ret (v := .tuple #[.int .i64 0, .bool false]) (by simp [results, Tryd.results34, go_sem]) rfl ⟨by rw [HE.out]; rfl, HB1.out.alloc HB1.out.size _⟩
end Go.Proofs.YtedanlmippfojaaDoor

namespace Go.Proofs.YtedanlmippfojaaDoor
open Go.RowKit
set_option linter.unusedSimpArgs false
set_option linter.unusedVariables false
/-- A box with a thing in it, in memory that has grown. -/
structure OX (b : Nat) (o : Op7) (w W : World) : Prop where
  box : W.heap[b]? = some (.cells #[.int .i64 o.a, .int .i64 o.b, .int .i64 o.k, .int .i64 o.c, .int .i64 o.d, .int .i64 o.s, .int .i64 o.g] 29 (0, 0))
  bel : Below w.heap.size w W
theorem OX.below {b : Nat} {o : Op7} {w W W' : World} (h : OX b o w W) (hb : Below W.heap.size W W') : OX b o w W' := ⟨blk_below h.box hb, Bstep h.bel hb⟩
end Go.Proofs.YtedanlmippfojaaDoor

namespace Go.Proofs.YtedanlmippfojaaDoor
open Go.RowKit
set_option linter.unusedSimpArgs false
set_option linter.unusedVariables false

/-- Of two lists of which one has one more: where that one stands. -/
theorem sub_one {α : Type} : ∀ {A B : List α}, A.Sublist B → B.length = A.length + 1 → ∃ C x D, A = C ++ D ∧ B = C ++ x :: D := by
  intro A B h
  induction h with
  | slnil => intro hl; simp at hl
  | @cons A B b h ih =>
    intro hl
    have : A.length = B.length := by simp at hl; omega
    have := h.eq_of_length this
    subst this
    exact ⟨[], b, A, rfl, rfl⟩
  | @cons_cons A B b h ih =>
    intro hl
    obtain ⟨C, x, D, h1, h2⟩ := ih (by simp at hl; omega)
    exact ⟨b :: C, x, D, by rw [h1]; rfl, by rw [h2]; rfl⟩
/-- A new sign stands somewhere among those that stood. -/
theorem put_split {l : List Op7} (h : opsB l = true) {o : Op7} (hc : CanL l o) (hk : o.k = 1) : ∃ A B, allO l = A ++ B ∧ allO (withL l o) = A ++ o :: B := by
  have hM := (can_iff h hc.new).2 hc
  have hsub := all_sub (withL_sub h hc.new)
  have hlen : (allO (withL l o)).length = (allO l).length + 1 := by
    rw [(all_perm hM).length_eq, (all_perm h).length_eq]
    obtain ⟨A, B, h1, h2⟩ := withL_split (ops_sorted h) hc.new
    rw [h2, h1]
    simp [hk]
    omega
  obtain ⟨C, x, D, h1, h2⟩ := sub_one hsub hlen
  have hx : x ∈ allO (withL l o) := by rw [h2]; simp
  obtain ⟨hxm, hxk⟩ := side_put _ hx
  have hxo : x = o := by
    rcases (withL_mem (ops_sorted h) hc.new x).1 hxm with h3 | h3
    · exact h3
    · exfalso
      have h4 := all_mem h h3 hxk
      have hnd := nodup_all hM
      rw [h2] at hnd
      rw [h1] at h4
      obtain ⟨_, hn2, hn3⟩ := List.nodup_append.1 hnd
      rcases List.mem_append.1 h4 with h5 | h5
      · exact hn3 x h5 x (by simp) rfl
      · exact (List.nodup_cons.1 hn2).1 h5
  subst hxo
  exact ⟨C, D, h1, h2⟩
/-- The place of a leaf that is known by what stands ahead. -/
theorem place_at {M : List Op7} (h : opsB M = true) {P Q : List Lf} {x : Lf} (e : lvs M = P ++ x :: Q) : markP M x.a x.b = some (nShown (P ++ [x])) := by
  have h1 : (lvs M)[P.length]? = some x := by rw [e]; simp
  rw [place_leaf h h1, e]
  congr 2
  rw [show P ++ x :: Q = (P ++ [x]) ++ Q by simp, show P.length + 1 = (P ++ [x]).length by simp, List.take_left]
/-- Leaves of things that are of other ids bear no other word. -/
theorem lfs_take {l : List Op7} (h : opsB l = true) {o : Op7} (hc : CanL l o) (C : List Op7) (hC : ∀ q ∈ C, ¬ (q.a = o.c ∧ q.b = o.d)) : lfs (withL l o) C = lfs l C := by
  unfold lfs
  refine List.map_congr_left fun x hx => ?_
  have := hC x hx
  have hn : (o.c == x.a && o.d == x.b) = false := by
    cases hb : (o.c == x.a && o.d == x.b)
    · rfl
    · simp at hb
      exact absurd ⟨by omega, by omega⟩ this
  rw [gone_with h hc]
  simp only
  rw [hn]
  simp
theorem lfs_again {l : List Op7} (h : opsB l = true) {o : Op7} (hc : CanL l o) (hg : goneB l (o.c, o.d) = true) (C : List Op7) : lfs (withL l o) C = lfs l C := by
  unfold lfs
  refine List.map_congr_left fun x hx => ?_
  rw [gone_with h hc]
  simp only
  cases hb : (o.c == x.a && o.d == x.b)
  · simp
  · simp at hb
    rw [← hb.1, ← hb.2, hg]
    simp
/-- What is the same up to a place. -/
theorem same_ahead {U V W : List Int} {t : Nat} (ht : t = U.length) : (txtB (U ++ V)).extract 0 t = (txtB (U ++ W)).extract 0 t := by
  subst ht
  rw [txt_take, txt_take]
theorem same_behind {U U' V : List Int} {t n : Nat} (ht : t = U.length) (hn : n = U'.length) : (txtB (U' ++ V)).extract n (txtB (U' ++ V)).size = (txtB (U ++ V)).extract t (txtB (U ++ V)).size := by
  subst ht; subst hn
  rw [txtB_size, txtB_size, txt_drop, txt_drop]
theorem up_to_shown {U V W : List Lf} {t : Nat} (ht : t ≤ nShown U) : (txtB (shown U ++ shown V)).extract 0 t = (txtB (shown U ++ shown W)).extract 0 t := by
  have h1 : t = ((shown U).take t).length := by rw [List.length_take, shown_n]; omega
  have h2 : ∀ Z : List Int, shown U ++ Z = (shown U).take t ++ ((shown U).drop t ++ Z) := fun Z => by rw [← List.append_assoc, List.take_append_drop]
  rw [h2 (shown V), h2 (shown W)]
  exact same_ahead h1

/-- What a mark that was made at t tells behind one thing more. -/
def StayP (l M : List Op7) (t n : Nat) : Prop :=
  (n = t ∧ (txtB (shown (lvs M))).extract 0 n = (txtB (shown (lvs l))).extract 0 t) ∨
  (n = t + 1 ∧ (txtB (shown (lvs M))).extract n (txtB (shown (lvs M))).size = (txtB (shown (lvs l))).extract t (txtB (shown (lvs l))).size) ∨
  n + 1 = t

theorem stay_none {l M : List Op7} : StayP l M 0 0 := by
  refine .inl ⟨rfl, ?_⟩
  rw [show shown (lvs M) = [] ++ shown (lvs M) from rfl, show shown (lvs l) = [] ++ shown (lvs l) from rfl]
  exact same_ahead rfl

theorem stay_put {l : List Op7} (h : opsB l = true) {o : Op7} (hc : CanL l o) (hk : o.k = 1) {P Q : List Lf} {x : Lf} (e : lvs l = P ++ x :: Q) (hz : x.z = false) : ∃ n, markP (withL l o) x.a x.b = some n ∧ StayP l (withL l o) (nShown P + 1) n := by
  have hM := (can_iff h hc.new).2 hc
  obtain ⟨A, B, hA, hB⟩ := put_split h hc hk
  have hl : lvs l = lfs l A ++ lfs l B := by unfold lvs; rw [hA, lfs_two]
  have hm : lvs (withL l o) = lfs l A ++ ⟨o.a, o.b, o.g, false⟩ :: lfs l B := by
    unfold lvs
    rw [hB, lfs_put h hc hk, lfs_two, lfs_cons, gone_new h hc]
  generalize lfs l A = A' at *
  generalize lfs l B = B' at *
  obtain ⟨ol, hole, hol⟩ : ∃ ol : Lf, ol = ⟨o.a, o.b, o.g, false⟩ ∧ ol.z = false := ⟨_, rfl, rfl⟩
  rw [← hole] at hm
  clear hole
  have key : ∀ a', P = A' ++ a' → B' = a' ++ x :: Q → ∃ n, markP (withL l o) x.a x.b = some n ∧ StayP l (withL l o) (nShown P + 1) n := by
    intro a' hP hB'
    have hm2 : lvs (withL l o) = (A' ++ ol :: a') ++ x :: Q := by rw [hm, hB']; simp
    refine ⟨_, place_at hM hm2, .inr (.inl ⟨?_, ?_⟩)⟩
    · rw [hP]; simp [nShown, hol, hz]; omega
    · rw [hm2, e, show (A' ++ ol :: a') ++ x :: Q = (A' ++ ol :: a' ++ [x]) ++ Q by simp, show P ++ x :: Q = (P ++ [x]) ++ Q by simp, shown_app, shown_app (P ++ [x]) Q]
      refine same_behind ?_ ?_
      · rw [shown_n, nShown_there hz]
      · rw [shown_n]
  rcases List.append_eq_append_iff.1 (hl.symm.trans e) with ⟨a', hP, hB'⟩ | ⟨c', hA', hQ⟩
  · exact key a' hP hB'
  · cases c' with
    | nil => exact key [] (by simp at hA'; simp [hA']) (by simpa using hQ.symm)
    | cons y c' =>
      simp at hQ
      obtain ⟨hy, hQ⟩ := hQ
      subst hy
      have hm2 : lvs (withL l o) = P ++ x :: (c' ++ ol :: B') := by rw [hm, hA']; simp
      refine ⟨_, place_at hM hm2, .inl ⟨nShown_there hz, ?_⟩⟩
      rw [nShown_there hz, hm2, e, show P ++ x :: (c' ++ ol :: B') = (P ++ [x]) ++ (c' ++ ol :: B') by simp, show P ++ x :: Q = (P ++ [x]) ++ Q by simp, shown_app, shown_app (P ++ [x]) Q]
      exact up_to_shown (by rw [nShown_there hz]; omega)

theorem stay_take {l : List Op7} (h : opsB l = true) {o : Op7} (hc : CanL l o) (hk : o.k = 2) {P Q : List Lf} {x : Lf} (e : lvs l = P ++ x :: Q) (hz : x.z = false) : ∃ n, markP (withL l o) x.a x.b = some n ∧ StayP l (withL l o) (nShown P + 1) n := by
  have hM := (can_iff h hc.new).2 hc
  have hall := all_take h hc hk
  cases hg : goneB l (o.c, o.d)
  · obtain ⟨d, hd⟩ := hc.ref
    have hform := hc.form
    unfold okO at hform
    rw [opB_true] at hform
    obtain ⟨p, hp, hpk, hpc⟩ : ∃ p, p ∈ l ∧ p.k = 1 ∧ (p.a = o.c ∧ p.b = o.d) := by
      generalize hy : (o.c, o.d) = y at hd
      cases hd with
      | zero => simp at hy; omega
      | @step d q hm hq hu => simp at hy; exact ⟨q, hm, hq, hy.1.symm, hy.2.symm⟩
    obtain ⟨A, B, he⟩ := List.append_of_mem (all_mem h hp hpk)
    obtain ⟨ha1, ha2⟩ := all_once h he
    have hA := lfs_take h hc A (by rw [← hpc.1, ← hpc.2]; exact ha1)
    have hB := lfs_take h hc B (by rw [← hpc.1, ← hpc.2]; exact ha2)
    have hgp : goneB l (p.a, p.b) = false := by rw [hpc.1, hpc.2]; exact hg
    have hl : lvs l = lfs l A ++ ⟨p.a, p.b, p.g, false⟩ :: lfs l B := by unfold lvs; rw [he, lfs_two, lfs_cons, hgp]
    have hm : lvs (withL l o) = lfs l A ++ ⟨p.a, p.b, p.g, true⟩ :: lfs l B := by
      unfold lvs
      rw [hall, he, lfs_two, lfs_cons, hA, hB, gone_with h hc]
      simp [hk, hpc.1, hpc.2]
    generalize lfs l A = A' at *
    generalize lfs l B = B' at *
    have key : ∀ a', P = A' ++ a' → ⟨p.a, p.b, p.g, false⟩ :: B' = a' ++ x :: Q → ∃ n, markP (withL l o) x.a x.b = some n ∧ StayP l (withL l o) (nShown P + 1) n := by
      intro a' hP hB'
      cases a' with
      | nil =>
        simp at hB'
        obtain ⟨hx, hQ⟩ := hB'
        subst hx
        have hm2 : lvs (withL l o) = A' ++ ⟨p.a, p.b, p.g, true⟩ :: B' := hm
        refine ⟨_, place_at (x := ⟨p.a, p.b, p.g, true⟩) hM hm2, .inr (.inr ?_)⟩
        rw [hP]; simp [nShown]
      | cons y a' =>
        simp at hB'
        obtain ⟨hy, hB'⟩ := hB'
        subst hy
        have hm2 : lvs (withL l o) = (A' ++ ⟨p.a, p.b, p.g, true⟩ :: a') ++ x :: Q := by rw [hm, hB']; simp
        refine ⟨_, place_at hM hm2, .inr (.inr ?_)⟩
        rw [hP]; simp [nShown, hz]
        try omega
    rcases List.append_eq_append_iff.1 (hl.symm.trans e) with ⟨a', hP, hB'⟩ | ⟨c', hA', hQ⟩
    · exact key a' hP hB'
    · cases c' with
      | nil => exact key [] (by simp at hA'; simp [hA']) (by simpa using hQ.symm)
      | cons y c' =>
        simp at hQ
        obtain ⟨hy, hQ⟩ := hQ
        subst hy
        have hm2 : lvs (withL l o) = P ++ x :: (c' ++ ⟨p.a, p.b, p.g, true⟩ :: B') := by rw [hm, hA']; simp
        refine ⟨_, place_at hM hm2, .inl ⟨nShown_there hz, ?_⟩⟩
        rw [nShown_there hz, hm2, e, show P ++ x :: (c' ++ ⟨p.a, p.b, p.g, true⟩ :: B') = (P ++ [x]) ++ (c' ++ ⟨p.a, p.b, p.g, true⟩ :: B') by simp, show P ++ x :: Q = (P ++ [x]) ++ Q by simp, shown_app, shown_app (P ++ [x]) Q]
        exact up_to_shown (by rw [nShown_there hz]; omega)
  · have hm : lvs (withL l o) = lvs l := by unfold lvs; rw [hall, lfs_again h hc hg]
    have hm2 := hm.trans e
    refine ⟨_, place_at hM hm2, .inl ⟨nShown_there hz, ?_⟩⟩
    rw [nShown_there hz, hm]

/-- A mark that was made at a place is found, one place on or back at most, and the text on the side where nothing was done is as it was. -/
theorem mark_stays {l : List Op7} {o : Op7} (hok : okW l o = true) {t : Nat} (ht : t ≤ (shownI (lvs l)).length) :
    ∃ n, markP (withL l o) (leftOf l t).1 (leftOf l t).2.1 = some n ∧ n ≤ (txtB (shown (lvs (withL l o)))).size ∧ StayP l (withL l o) t n := by
  have hpp : opsB l = true ∧ findI l o.a o.b < 0 ∧ opsB (withL l o) = true := by
    unfold okW at hok
    simp only [Bool.and_eq_true, decide_eq_true_eq] at hok
    exact ⟨hok.1, hok.2.1, hok.2.2⟩
  obtain ⟨h, hf, hM⟩ := hpp
  have hc := (can_iff h (find_new hf)).1 hM
  have hle : ∀ {a b : Int} {n : Nat}, markP (withL l o) a b = some n → n ≤ (txtB (shown (lvs (withL l o)))).size := by
    intro a b n hn
    have := markP_le hn
    rw [stand_ok hM] at this
    rw [txtB_size, shown_n]
    exact this
  have hkk : o.k = 1 ∨ o.k = 2 := by
    have hform := hc.form
    unfold okO at hform
    rw [opB_true] at hform
    omega
  cases t with
  | zero =>
    have h0 : markP (withL l o) (leftOf l 0).1 (leftOf l 0).2.1 = some 0 := by unfold markP placeM; rw [if_pos hM, leftOf_zero]; rfl
    exact ⟨0, h0, hle h0, stay_none⟩
  | succ k =>
    obtain ⟨j, x, h1, h2, h3⟩ := shown_leaf (l := l) (k := k) (by omega)
    have hz : x.z = false := shownI_mem (List.mem_of_getElem? h1) h2
    have hk := shownI_ahead h1 h2
    rw [leftOf_succ h1 h2]
    have e := (split_at h2).symm
    rcases hkk with h4 | h4
    · obtain ⟨n, g1, g2⟩ := stay_put h hc h4 e hz
      rw [hk] at g2
      exact ⟨n, g1, hle g1, g2⟩
    · obtain ⟨n, g1, g2⟩ := stay_take h hc h4 e hz
      rw [hk] at g2
      exact ⟨n, g1, hle g1, g2⟩
end Go.Proofs.YtedanlmippfojaaDoor

namespace Go.Proofs.YtedanlmippfojaaDoor
open Go.RowKit
set_option linter.unusedSimpArgs false
set_option linter.unusedVariables false
attribute [local go_sem ↓] Go.wp_at_zero Go.wp_at_succ

set_option maxRecDepth 100000 in
set_option maxHeartbeats 2000000 in
theorem walkMarkStays (w : World) (p p' : Option Addr) (n cap n' cap' : Nat) (h : ArgBytes w p n) (hcap : n ≤ cap) (hmax : cap ≤ maxLen) (h' : ArgBytes w p' n') (hcap' : n' ≤ cap') (hmax' : cap' ≤ maxLen) (x : Addr)
    (he : w.cell? ⟨0, 0, none⟩ = some (.iface 203 (.pointer (some x)))) (h0 : 0 < w.heap.size) :
    Calls Tryd.prog 9 #[.slice p n cap, .slice p' n' cap'] w fun e w' => e = .returned (.bool true) ∧ Below w.heap.size w w' := by
  have H := hideIt h
  clear h h'
  unfold maxLen at *
  by_cases hn : n ≤ 1048576
  · by_cases hn' : n' ≤ 1048576
    · go_enter Tryd.func9, Tryd.ntmps9
      go_wp2_with fail
      refine (drawWith_any _ p n cap H.out hcap hn).mono ?_
      rintro e w1 ⟨G, c, L, o, rfl, hL, hS, hb1⟩
      unfold opV
      have HS := hideIt hS
      have HB := hideIt hb1
      clear hS hb1
      go_wp2_with fail
      have HX2 : Hid (OX w1.heap.size o w (w1.alloc (.cells #[.int .i64 o.a, .int .i64 o.b, .int .i64 o.k, .int .i64 o.c, .int .i64 o.d, .int .i64 o.s, .int .i64 o.g] 29))) := ⟨World.alloc_heap_new _ _, HB.out.alloc HB.out.size _⟩
      have HS2 := hideIt (HS.out.below ((Below.refl _ _).alloc (Nat.le_refl _) (.cells #[.int .i64 o.a, .int .i64 o.b, .int .i64 o.k, .int .i64 o.c, .int .i64 o.d, .int .i64 o.s, .int .i64 o.g] 29)))
      clear HS HB
      generalize w1.alloc (.cells #[.int .i64 o.a, .int .i64 o.b, .int .i64 o.k, .int .i64 o.c, .int .i64 o.d, .int .i64 o.s, .int .i64 o.g] 29) = W1 at *
      generalize w1.heap.size = O at *
      have hLw : (ansW L o).length ≤ 1000 := by
        cases hz : okW L o
        · rw [ansW_no hz]; simp
        · rw [ansW_yes hz]; have := withL_lenW L o; omega
      refine (specWith_any L G c o _ HS2.out.at (by omega) HS2.out.cap).mono ?_
      rintro e w2 ⟨vw, rfl, hrw, hb2⟩
      have HRW := hideIt (ownsRow_base HX2.out.bel.size hrw)
      have HS3 := hideIt (HS2.out.below hb2)
      have HX3 := hideIt (HX2.out.below hb2)
      clear hrw hb2 HS2 HX2
      have x0 := (blk_cell HX3.out.box 0).trans rfl
      have x1 := (blk_cell HX3.out.box 1).trans rfl
      have x2 := (blk_cell HX3.out.box 2).trans rfl
      have x3 := (blk_cell HX3.out.box 3).trans rfl
      have x4 := (blk_cell HX3.out.box 4).trans rfl
      have x5 := (blk_cell HX3.out.box 5).trans rfl
      have x6 := (blk_cell HX3.out.box 6).trans rfl
      have xl := (Array.getElem?_eq_some_iff.1 HX3.out.box).1
      go_wp2_with fail
      refine (implWith_any L G c o x _ HS3.out.at (by omega) HS3.out.cap (errB HX3.out.bel h0 he) (posB HX3.out.bel h0)).mono ?_
      rintro e w3 ⟨vg, rfl, hrg, hb3⟩
      have HRG := hideIt (ownsRow_base HX3.out.bel.size hrg)
      have HRW := hideIt (rowKeep HRW.out hb3)
      have HS4 := hideIt (HS3.out.below hb3)
      have HB4 := hideIt (HX3.out.below hb3).bel
      clear hrg hb3 x0 x1 x2 x3 x4 x5 x6 xl HS3 HX3
      cases hz : okW L o
      · have HZ := hideIt hz
        clear hz
        go_wp2_with (first
          | (go_at_call 30; refine (ltOps_rows (ansW L o) _ _ _ _ _ HRG.out HRW.out (by omega)).mono ?_; rintro e w4 ⟨rfl, hb4⟩; have HRG := hideIt (rowKeep HRG.out hb4); have HRW := hideIt (rowKeep HRW.out hb4); have HB4 := hideIt (Bstep HB4.out hb4); clear hb4))
        go_ret
        exact ⟨rfl, HB4.out⟩
      · have HZ := hideIt hz
        have hE : ansW L o = withL L o := ansW_yes hz
        have hwl1 : 0 < (withL L o).length := by unfold withL; simp only [List.length_append, List.length_cons, List.length_nil]; omega
        have hpp : opsB L = true ∧ opsB (withL L o) = true := by
          have h := hz
          unfold okW at h
          simp only [Bool.and_eq_true, decide_eq_true_eq] at h
          exact ⟨h.1, h.2.2⟩
        have HSL : Hid (standL L = allO L) := stand_ok hpp.1
        have HSM : Hid (standL (withL L o) = allO (withL L o)) := stand_ok hpp.2
        have HOP := hideIt hpp
        clear hz hpp
        have HST : Hid (∀ t, t ≤ (shownI (lvs L)).length → ∃ n, markP (withL L o) (leftOf L t).1 (leftOf L t).2.1 = some n ∧ n ≤ (txtB (shown (lvs (withL L o)))).size ∧ StayP L (withL L o) t n) := fun t ht => mark_stays HZ.out ht
        rw [hE] at HRW HRG hLw
        clear hE
        generalize withL L o = M at *
        obtain ⟨qg, cg, rfl, hqg⟩ := oprow HRG.out
        obtain ⟨Gx, rfl, hcx, _, _, _⟩ := hqg hwl1
        clear hqg
        have HOX : Hid (OwnOps w3 w.heap.size Gx cg M) := HRG.out
        go_wp2_with (first
          | (go_at_call 30; refine (ltOps_rows M _ _ _ _ _ HRG.out HRW.out (by omega)).mono ?_; rintro e w4 ⟨rfl, hb4⟩; have HOX := hideIt (HOX.out.below hb4); have HS4 := hideIt (HS4.out.below hb4); have HB4 := hideIt (Bstep HB4.out hb4); clear hb4))
        clear HRG HRW
        refine (implTxt_any L G c x _ HS4.out.at (by omega) HS4.out.cap (errB HB4.out h0 he) (posB HB4.out h0)).mono ?_
        rintro e w5 ⟨rfl, hb5⟩
        have HS5 := hideIt (HS4.out.below hb5)
        have HOX5 := hideIt (HOX.out.below hb5)
        have HB5 := hideIt (Bstep HB4.out hb5)
        clear hb5 HS4 HOX HB4
        rw [HSL.out]
        have hts : (txtB (shown (lvs L))).size = (shownI (lvs L)).length := by rw [txtB_size, shown_n, shownI_len]
        have htl : (txtB (shown (lvs L))).size ≤ 74 := by
          rw [hts, shownI_len]
          have h1 := nShown_le (lvs L)
          have h2 : (lvs L).length = (standL L).length := by rw [HSL.out]; unfold lvs; exact lfs_len _ _
          have h3 := stand_len L
          omega
        have HTS := hideIt hts
        clear hts
        generalize hTT : txtB (shown (lvs L)) = T at *
        have hlen : (shown (lfs L (allO L))) = shown (lvs L) := rfl
        rw [hlen, hTT]
        clear hlen
        obtain ⟨t, ht⟩ : ∃ t : Nat, n' % (T.size + 1) = t := ⟨_, rfl⟩
        have ht1 : t ≤ T.size := by have := Nat.mod_lt n' (show 0 < T.size + 1 by omega); omega
        have hw1 : IntKind.i64.wrap ((T.size : Int) + 1) = ((T.size + 1 : Nat) : Int) := by rw [IntWalk.i64_in ((T.size : Int) + 1) ⟨by omega, by omega⟩]; omega
        have hmod : (n' : Int) % ((T.size : Int) + 1) = (t : Int) := by rw [← ht]; first | (simp; done) | exact (Int.natCast_emod n' (T.size + 1)).symm
        have hne : ¬ ((T.size + 1 : Nat) : Int) = 0 := by omega
        have hwt : wf64 (t : Int) := wf_small ⟨by omega, by omega⟩
        have htS : t ≤ (shownI (lvs L)).length := by rw [← HTS.out]; exact ht1
        go_wp2_with fail
        rw [hmod]
        refine (implAt_any L G c (t : Int) hwt x _ HS5.out.at (by omega) HS5.out.cap (errB HB5.out h0 he) (posB HB5.out h0)).mono ?_
        rintro e w6 ⟨rfl, hb6⟩
        have hat : atB L (t : Int) = true := by unfold atB inB; rw [HOP.out.1]; simp; omega
        obtain ⟨la, lb, lk, hlf⟩ : ∃ la lb lk, leftOf L t = (la, lb, lk) := ⟨_, _, _, rfl⟩
        rw [atV_yes hat (by simpa using hlf)]
        obtain ⟨m, hm1, hm2, hm3⟩ := HST.out t htS
        rw [hlf] at hm1
        have HMP : Hid (markP M la lb = some m) := hm1
        have HOX6 := hideIt (HOX5.out.below hb6)
        have HB6 := hideIt (Bstep HB5.out hb6)
        clear hb6 HS5 HOX5 HB5 hat hlf hm1 HST hmod ht
        go_wp2_with fail
        have hba : Below w6.heap.size w6 (w6.alloc (.cells #[.int .i64 la, .int .i64 lb] 27)) := (Below.refl _ _).alloc (Nat.le_refl _) _
        have HOX7 := hideIt (HOX6.out.below hba)
        have HB7 := hideIt (Bstep HB6.out hba)
        clear hba HOX6 HB6
        refine (implPlace_any M Gx cg la lb x _ HOX7.out.at (by omega) HOX7.out.cap (errB HB7.out h0 he) (posB HB7.out h0)).mono ?_
        rintro e w8 ⟨rfl, hb8⟩
        rw [HMP.out]
        unfold plV
        simp only [pN, pB]
        have HOX8 := hideIt (HOX7.out.below hb8)
        have HB8 := hideIt (Bstep HB7.out hb8)
        clear hb8 HOX7 HB7
        go_wp2_with fail
        refine (implTxt_any M Gx cg x _ HOX8.out.at (by omega) HOX8.out.cap (errB HB8.out h0 he) (posB HB8.out h0)).mono ?_
        rintro e w9 ⟨rfl, hb9⟩
        rw [HSM.out]
        have HB9 := hideIt (Bstep HB8.out hb9)
        clear hb9 HOX8 HB8
        rw [show lfs M (allO M) = lvs M from rfl]
        unfold StayP at hm3
        rw [hTT] at hm3
        generalize hUU : txtB (shown (lvs M)) = U at *
        have hus : U.size ≤ 1048576 := by
          rw [← hUU, txtB_size, shown_n]
          have h1 := nShown_le (lvs M)
          have h2 : (lvs M).length = (standL M).length := by rw [HSM.out]; unfold lvs; exact lfs_len _ _
          have h3 := stand_len M
          omega
        clear hUU hTT hw1 hne hwt htS
        have hwa : IntKind.i64.wrap ((t : Int) - 1) = (t : Int) - 1 := IntWalk.i64_in _ ⟨by omega, by omega⟩
        have hwb : IntKind.i64.wrap ((t : Int) + 1) = (t : Int) + 1 := IntWalk.i64_in _ ⟨by omega, by omega⟩
        have hm0 : (0 : Int) ≤ (m : Int) := by omega
        have ht0 : (0 : Int) ≤ (t : Int) := by omega
        have hmU : (m : Int) ≤ (U.size : Int) := by omega
        have htT : (t : Int) ≤ (T.size : Int) := by omega
        have hmU' : ¬ ((U.size : Int) < (m : Int)) := by omega
        rcases hm3 with ⟨hmt, he3⟩ | ⟨hmt, he3⟩ | hmt
        · subst hmt
          have q1 : ¬ ((m : Int) < (m : Int) - 1) := by omega
          have q2 : ¬ ((m : Int) + 1 < (m : Int)) := by omega
          have q3 : ¬ ((m : Int) = (m : Int) + 1) := by omega
          by_cases hgt : (T.size : Int) < (U.size : Int)
          · go_wp2
            go_quiet (fail)
            go_wp2
            go_ret
            exact ⟨ret_bool (by simp [he3]), below_drewN HB9.out _⟩
          · go_wp2
            go_quiet (fail)
            go_wp2
            go_ret
            exact ⟨ret_bool (by simp [he3]), below_drewN HB9.out _⟩
        · subst hmt
          have q1 : ¬ (((t + 1 : Nat) : Int) < (t : Int) - 1) := by omega
          have q2 : ¬ ((t : Int) + 1 < ((t + 1 : Nat) : Int)) := by omega
          have q3 : ((t + 1 : Nat) : Int) = (t : Int) + 1 := by omega
          have q4 : ¬ (((t + 1 : Nat) : Int) = (t : Int)) := by omega
          go_wp2
          go_quiet (fail)
          go_wp2
          go_ret
          exact ⟨ret_bool (by simp [he3]), below_drewN HB9.out _⟩
        · subst hmt
          have q1 : ¬ ((m : Int) < ((m + 1 : Nat) : Int) - 1) := by omega
          have q2 : ¬ (((m + 1 : Nat) : Int) + 1 < (m : Int)) := by omega
          have q3 : ¬ ((m : Int) = ((m + 1 : Nat) : Int) + 1) := by omega
          have q4 : ¬ ((m : Int) = ((m + 1 : Nat) : Int)) := by omega
          go_wp2
          go_quiet (fail)
          go_wp2
          go_ret
          exact ⟨rfl, below_drewN HB9.out _⟩
    · go_enter Tryd.func9, Tryd.ntmps9
      have hn2 : (1048576 : Int) < (n' : Int) := by omega
      have hn3 : (n : Int) ≤ 1048576 := by omega
      go_wp2
      go_ret
      exact ⟨rfl, Below.refl _ _⟩
  · go_enter Tryd.func9, Tryd.ntmps9
    have hn' : (1048576 : Int) < (n : Int) := by omega
    go_wp2
    go_ret
    exact ⟨rfl, Below.refl _ _⟩
end Go.Proofs.YtedanlmippfojaaDoor

namespace Go.Proofs.YtedanlmippfojaaDoor
open Go.ChangeShapes Go.WideShapes Go.ChangeAt Go.RowKit Go.Joins

theorem own : ownKnob Tryd.prog.godebug = none := by kernel_rfl
theorem laidOut : laidOutB Tryd.prog = true := by kernel_rfl
theorem cells_int : Tryd.prog.cellsOf 3 = 1 := by kernel_rfl

/-- The name of the one listed variable. -/
abbrev errName : String := Rows.fnTypeAnyoneSpec.vars.headD ""
/-- What the rows list. -/
abbrev laid1 : List (String × DataW Unit) := Rows.fnTypeAnyoneRow.laid
theorem gErr : Tryd.prog.globalNamed errName = some 0 := by kernel_rfl
theorem tErr : (Tryd.prog.globals[0]?).map (·.type) = some 93 := by kernel_rfl
def nmOf : DataW Unit → String
  | .iface n _ => n
  | _ => ""
theorem star : "*" ++ "errors.errorString" = nmOf Rows.laid_loop_example_tatting_impl_errNoThing := by decide
theorem nameErr (u : TypeId) (h : Tryd.prog.typeName? 3 u = some (nmOf Rows.laid_loop_example_tatting_impl_errNoThing)) : u = 203 :=
  typeName_ptr_named (nm := "errors.errorString") (by rw [star]; kernel_rfl) (by kernel_rfl) (by decide) u (by rw [star]; exact h)

theorem door_met (os : Os) (args : Array Value) : laidMetH Tryd.prog laid1 ((World.doorLaid Tryd.prog 28 os).forCall (fun _ _ => 0) ⟨#[], args, []⟩).memory :=
  laidMetH_of_parts3 (fuel := 8) (laidMet_of_run' 8 (by kernel_rfl) (by kernel_rfl)) (by kernel_rfl) (by kernel_rfl)

/-- WHAT THE CONDITION GIVES THE WALKS: the one error's cell. -/
theorem of_laid {W : World} (h : laidMetH Tryd.prog laid1 W) : ∃ x : Addr, W.var? Tryd.prog errName = some #[.iface 203 (.pointer (some x))] ∧ W.cell? ⟨0, 0, none⟩ = some (.iface 203 (.pointer (some x))) ∧ 0 < W.heap.size := by
  rw [MakeChecks.laidMetH_plain _ _ _ (by kernel_rfl)] at h
  obtain ⟨x, s, hv, hc, _, _⟩ := laid_sentinel h gErr tErr Tryd.underlying93 nameErr Tryd.underlying203 Tryd.underlying230 rfl rfl Tryd.underlying9 (by kernel_rfl) (by kernel_rfl)
  have hcell : W.cell? ⟨0, 0, none⟩ = some (.iface 203 (.pointer (some x))) := by simpa using World.var?_cell gErr hv 0
  refine ⟨x, hv, hcell, ?_⟩
  rcases Nat.eq_zero_or_pos W.heap.size with h0 | h0
  · exfalso
    simp [World.cell?, Array.eq_empty_of_size_eq_zero h0] at hcell
  · exact h0

/-- The variable holds what it held, where nothing that was there has turned. -/
theorem var_kept {W W' : World} {x : Value} (hb : Below W.heap.size W W') (h0 : 0 < W.heap.size) (hv : W.var? Tryd.prog errName = some #[x]) : W'.var? Tryd.prog errName = some #[x] := by
  unfold World.var? at hv ⊢
  rw [gErr] at hv ⊢
  simp only [Option.bind_some] at hv ⊢
  rw [hb.block 0 h0]
  exact hv
end Go.Proofs.YtedanlmippfojaaDoor

namespace Go.Proofs.YtedanlmippfojaaDoor
open Go.ChangeShapes Go.WideShapes Go.ChangeAt Go.RowKit Go.Joins

theorem cells_byte : Tryd.prog.cellsOf 5 = 1 := by kernel_rfl

set_option maxRecDepth 100000 in
theorem open_bytes {H : Type} {enc : TypeId × Value → H} {w : World} {r : Reach} {b0 : Nat} {spare : Nat → Bool} {held : Bool} {v : Value} {d : DataW H} {p : List MemPlace}
    (hv : Value.okWide Tryd.prog w r b0 22 v) (h : DataW.Trod enc Tryd.prog w 0 spare held 22 v d p) :
    ∃ (q : Option Addr) (n cap : Nat), v = .slice q n cap ∧ n ≤ cap ∧ cap ≤ maxLen ∧ ArgBytes w q n := by
  obtain ⟨q, len, cap, rfl⟩ := okWide_slice Tryd.underlying22 hv
  obtain ⟨fuel, hf⟩ := h
  rcases open_ints Tryd.underlying22 Tryd.underlying5 cells_byte hf with ⟨hcs, _⟩ | ⟨a, len', cap', zs, hcs, _, hl, hm, hz, _, hcell, hwz⟩
  · simp [Value.cells] at hcs
    obtain ⟨rfl, rfl, rfl⟩ := hcs
    exact ⟨none, 0, 0, rfl, Nat.le_refl _, Nat.zero_le _, .inl rfl⟩
  · simp [Value.cells] at hcs
    obtain ⟨rfl, rfl, rfl⟩ := hcs
    refine ⟨some a, len, cap, rfl, hl, hm, ?_⟩
    have hlz : len ≤ zs.length := by rw [hz]; split <;> omega
    rcases Nat.eq_zero_or_pos len with h0 | h0
    · exact .inl h0
    obtain ⟨b, off, spot⟩ := a
    have hspot : spot = none := by simpa [Addr.add] using World.cell?_spot (hcell 0 (by omega))
    subst hspot
    refine .inr ⟨b, off, rfl, ?_, fun i hi => ?_⟩
    · have := World.block_lt_of_cell? w _ (hcell 0 (by omega))
      simpa [Addr.add_lit] using this
    · have hc := hcell i (by omega)
      rw [Addr.add_lit] at hc
      have hb := range_u8 hwz i
      exact ⟨zs.getD i 0, by simpa [List.getD] using hb.1, by simpa [List.getD] using hb.2, hc⟩

end Go.Proofs.YtedanlmippfojaaDoor

namespace Go.Proofs.YtedanlmippfojaaDoor
open Go.ChangeShapes Go.WideShapes Go.ChangeAt Go.RowKit Go.Joins

set_option maxRecDepth 100000 in
theorem liftedFnMarkStays (os : Os) (started : os.Started) (H : Type) (enc : TypeId × Value → H) :
    ReturnsInHanded {} Tryd.checked os 9 .any (fun w args => (Rows.fnMarkStaysSpec.pre enc Tryd.prog Tryd.f9 [] false w args ∧ laidMetH Tryd.prog laid1 w) ∧ sizedMet enc Tryd.prog Tryd.f9 (OpenSpec.ofChange Rows.fnMarkStaysSpec) false w args)
      (Rows.fnMarkStaysSpec.post enc Tryd.prog Tryd.f9 false true false false) := by
  refine returnsInHanded_of_change_and (C := Tryd.checked) (X := fun w _ => laidMetH Tryd.prog laid1 w) (fun _ _ _ hh h => h.of_heap hh) own started (by kernel_rfl) Tryd.func9
    (ChangeSpec.witness_shaped (enc := enc) (C := Tryd.checked) (os := os) (X := fun w _ => laidMetH Tryd.prog laid1 w) false (World.doorLaid Tryd.prog 28 os) #[.slice none 0 0, .slice none 0 0] 8 rfl (World.shaped_of_RefB (by kernel_rfl) (by kernel_rfl)) (by kernel_rfl) (by kernel_rfl) (by kernel_rfl) (door_met os _)) ?_
  intro W base args ds gs before hval0 hW _ _ hL _
  have hval : ∀ (j : Nat) t v, Tryd.f9.params[j]? = some t → args[j]? = some v → Value.okWide Tryd.prog W .any base t v := hval0
  have hW' := hW
  obtain ⟨p, q, hA0, hV0, rfl, hfz, hnd⟩ := hW
  have hA : DataW.TrodAll enc Tryd.prog W 0 (fun _ => true) true Tryd.f9.params.toList args.toList ds p := hA0
  have hV : DataW.TrodVars enc Tryd.prog W (fun _ => true) [errName] gs q := hV0
  rw [Tryd.params9] at hA hval
  obtain ⟨v0, v1, d0, d1, p0, p1, rfl, rfl, rfl, h0, h1⟩ := trodAll_two hA
  have k0 := h0
  have k1 := h1
  have lt0 : ∀ x ∈ p0, x.block < W.heap.size := by obtain ⟨m, hm⟩ := k0; exact DataW.trod_lt m _ _ _ hm
  have lt1 : ∀ x ∈ p1, x.block < W.heap.size := by obtain ⟨m, hm⟩ := k1; exact DataW.trod_lt m _ _ _ hm
  obtain ⟨x, hv, hc, hpos⟩ := of_laid hL
  obtain ⟨rfl, rfl⟩ := hV.unique (vars_read1 enc gErr tErr Tryd.underlying93 hv trivial _)
  obtain ⟨q0, n0, c0, rfl, hc0, hm0, ha0⟩ := open_bytes (hval 0 22 v0 rfl rfl) h0
  obtain ⟨q1, n1, c1, rfl, hc1, hm1, ha1⟩ := open_bytes (hval 1 22 v1 rfl rfl) h1
  clear hA0 hV0 hval0
  refine (walkMarkStays W q0 q1 n0 c0 n1 c1 ha0 hc0 hm0 ha1 hc1 hm1 x hc hpos).mono fun e W' ⟨he, bel⟩ => ?_
  subst he
  exact ⟨_, rfl, _, _, _, [], _, [.cell 0 0], hW', trodAll_mk1 (shut_bool Tryd.underlying4 _), (trodAll_cons_mk (Below.trod laidOut (by kernel_rfl) (of_decide_eq_true (by kernel_rfl)) k0 bel lt0) (trodAll_cons_mk (Below.trod laidOut (by kernel_rfl) (of_decide_eq_true (by kernel_rfl)) k1 bel lt1) trodAll_mk0)), vars_read1 enc gErr tErr Tryd.underlying93 (var_kept bel hpos hv) trivial _, bel.frame _, fun h => by cases h⟩

theorem fnMarkStays_row : Rows.FnMarkStaysSaid :=
  OpenClaim.holds_of_wide 9 Tryd.f9 rfl rfl rfl rfl rfl rfl rfl ⟨rfl, rfl, rfl, rfl, rfl⟩ rfl rfl rfl rfl rfl (by kernel_rfl) Tryd.func9 (by kernel_rfl)
    (of_decide_eq_true (by kernel_rfl)) (by unfold Func.isWrapper; first | (rw [if_pos (by decide +kernel)]; kernel_rfl) | (rw [if_neg (by decide +kernel)]; exact ⟨rfl, rfl⟩))
    (fun os started H enc _ => liftedFnMarkStays os started H enc)

/-- THE STATEMENT. -/
theorem fnMarkStays_holds : Rows.FnMarkStaysCardSaid :=
  Claim7.holds_tied_plain_at .later [] Rows.fnMarkStaysCard.laidKinds true Rows.fnMarkStaysCard.stood.harness true
    fnMarkStays_row (fun _ h => by cases h) (by kernel_rfl) (fun _ h => by cases h) fnMarkStays_row_tie rfl ⟨rfl, rfl⟩ (by kernel_rfl) rfl
    (fun f fn hf hfn => by
      obtain rfl : f = 9 := Option.some.inj ((show Tryd.prog.funcNamed Rows.fnMarkStaysRow.func = some 9 by kernel_rfl).symm.trans hf) |>.symm
      obtain rfl : fn = Tryd.f9 := (Option.some.inj (Tryd.func9.symm.trans hfn)).symm
      exact ⟨by kernel_rfl, fun j t ht => by
        rw [Tryd.params9] at ht
        have hm : t ∈ [22, 22] := by simpa using Array.mem_of_getElem? ht
        have hall : ([22, 22].all fun u => !Tryd.prog.wantsStandIn u) = true := by kernel_rfl
        exact (show Tryd.prog.wantsStandIn t = false by simpa using List.all_eq_true.1 hall t hm)⟩)
    (by kernel_rfl)
#print axioms fnMarkStays_holds
end Go.Proofs.YtedanlmippfojaaDoor
