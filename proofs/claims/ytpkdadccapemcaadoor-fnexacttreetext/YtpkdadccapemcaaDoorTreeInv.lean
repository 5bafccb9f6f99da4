/- How far the tree is built: what treeOf's loop keeps. -/
import Derived.Test.YtpkdadccapemcaaDoorTreeKeys
import Derived.Test.YtpkdadccapemcaaDoorThings
namespace Go.Proofs.YtpkdadccapemcaaDoor
open Go.RowKit
open Go.Maps (Keyed)
set_option linter.unusedSimpArgs false
set_option linter.unusedVariables false

theorem Tryd.asTake (a b c d : Int) (w : World) : (Instr.typeAssert (.iface 89 (.agg #[.int .i64 a, .int .i64 b, .int .i64 c, .int .i64 d])) 87 89 true).run Tryd.prog w = .ok (.tuple #[.agg #[.int .i64 a, .int .i64 b, .int .i64 c, .int .i64 d], .bool true]) w := by kernel_rfl

/-- How far the tree is built. -/
structure TI (w w1 wr : World) (F : Int × Int → Option Value) (L : List Op7) (T : Int × Int → Option Value) : Prop where
  bel : Below w.heap.size w wr
  old : Below w1.heap.size w1 wr
  t0 : wr.cell? ⟨w1.heap.size + 1 + 1 + 1, 0, none⟩ = some (.map (some w1.heap.size))
  t1 : wr.cell? ⟨w1.heap.size + 1 + 1 + 1, 1, none⟩ = some (.map (some (w1.heap.size + 1)))
  t2 : wr.cell? ⟨w1.heap.size + 1 + 1 + 1, 2, none⟩ = some (.map (some (w1.heap.size + 1 + 1)))
  sg : MapFn Tryd.prog 38 wr w1.heap.size encId F
  kd : ∃ f, KidsFn wr (w1.heap.size + 1) (w1.heap.size + 4) L f
  tk : MapFn Tryd.prog 38 wr (w1.heap.size + 1 + 1) encId T
  sz : w1.heap.size + 4 ≤ wr.heap.size
def TInv (w w1 wr : World) (k : Nat) (l : List Op7) : Prop := TI w w1 wr (signF (l.take k)) (l.take k) (takeF (l.take k))
theorem some_ne {i j : Nat} (h : i ≠ j) : some i ≠ some j := fun e => h (Option.some.inj e)
theorem grown_cell {w w' : World} {row : Option Nat} (hg : w.grownBy w' row) {b : Nat} (hb : b < w.heap.size) (hne : some b ≠ row) (o : Nat) : w'.cell? ⟨b, o, none⟩ = w.cell? ⟨b, o, none⟩ := by
  simp [World.cell?, hg.block b hb hne]
theorem below_grown {B : Nat} {w w1 w' : World} {row : Option Nat} (h : Below B w w1) (hg : w1.grownBy w' row) (hB : B ≤ w1.heap.size) (hr : ∀ j, row = some j → B ≤ j) : Below B w w' :=
  ⟨hg.os.trans h.os, hg.tape.trans h.tape, hg.output.trans h.output, Nat.le_trans h.size hg.size, fun i hi => (hg.block i (by omega) (fun e => by have := hr i e.symm; omega)).trans (h.block i hi)⟩

theorem TI.grown {w w1 wr w' : World} {F T : Int × Int → Option Value} {L : List Op7} (h : TI w w1 wr F L T) (hB : w.heap.size ≤ w1.heap.size) (hg : wr.grownBy w' none) : TI w w1 w' F L T := by
  have hs := h.sz
  obtain ⟨f, hf⟩ := h.kd
  exact ⟨below_grown h.bel hg (by omega) (fun j e => by cases e), below_grown h.old hg (by omega) (fun j e => by cases e),
    (grown_cell hg (by omega) (by simp) _).trans h.t0, (grown_cell hg (by omega) (by simp) _).trans h.t1, (grown_cell hg (by omega) (by simp) _).trans h.t2,
    h.sg.kept hg (by simp), ⟨f, hf.kept hg (fun j e => by cases e)⟩, h.tk.kept hg (by simp), Nat.le_trans h.sz hg.size⟩
theorem tinv_put1 {w w1 wr : World} {k : Nat} {l : List Op7} (h : TInv w w1 wr k l) (hB : w.heap.size ≤ w1.heap.size) (o1 o2 : Obj) : TInv w w1 ((wr.alloc o1).alloc o2) k l :=
  TI.grown h hB ((World.grownBy_alloc _ _ none).trans (World.grownBy_alloc _ _ none))
theorem TI.sign {w w1 wr w' : World} {F F' T : Int × Int → Option Value} {L : List Op7} (h : TI w w1 wr F L T) (hB : w.heap.size ≤ w1.heap.size) (hg : wr.grownBy w' (some w1.heap.size)) (hM : MapFn Tryd.prog 38 w' w1.heap.size encId F') : TI w w1 w' F' L T := by
  have hs := h.sz
  obtain ⟨f, hf⟩ := h.kd
  exact ⟨below_grown h.bel hg (by omega) (fun j e => by cases e; omega), below_grown h.old hg (by omega) (fun j e => by cases e; omega),
    (grown_cell hg (by omega) (some_ne (by omega)) _).trans h.t0, (grown_cell hg (by omega) (some_ne (by omega)) _).trans h.t1, (grown_cell hg (by omega) (some_ne (by omega)) _).trans h.t2,
    hM, ⟨f, hf.kept hg (fun j e => by cases e; omega)⟩, h.tk.kept hg (some_ne (by omega)), Nat.le_trans h.sz hg.size⟩
theorem TI.take {w w1 wr w' : World} {F T T' : Int × Int → Option Value} {L : List Op7} (h : TI w w1 wr F L T) (hB : w.heap.size ≤ w1.heap.size) (hg : wr.grownBy w' (some (w1.heap.size + 1 + 1))) (hM : MapFn Tryd.prog 38 w' (w1.heap.size + 1 + 1) encId T') : TI w w1 w' F L T' := by
  have hs := h.sz
  obtain ⟨f, hf⟩ := h.kd
  exact ⟨below_grown h.bel hg (by omega) (fun j e => by cases e; omega), below_grown h.old hg (by omega) (fun j e => by cases e; omega),
    (grown_cell hg (by omega) (some_ne (by omega)) _).trans h.t0, (grown_cell hg (by omega) (some_ne (by omega)) _).trans h.t1, (grown_cell hg (by omega) (some_ne (by omega)) _).trans h.t2,
    h.sg.kept hg (some_ne (by omega)), ⟨f, hf.kept hg (fun j e => by cases e; omega)⟩, hM, Nat.le_trans h.sz hg.size⟩
theorem TI.kids {w w1 w2 w3 w4 : World} {F T : Int × Int → Option Value} {L : List Op7} (h : TI w w1 w2 F L T) (hB : w.heap.size ≤ w1.heap.size) {f : Int × Int × Int → Option Value} (hf : KidsFn w2 (w1.heap.size + 1) (w1.heap.size + 4) L f) {o : Op7} (hk : o.k = 1) {v' : Value}
    (hg : w2.grownBy w3 ((f (o.c, o.d, o.s)).getD (.slice none 0 0)).ownBlock)
    (hown : w3.ownsRow (w1.heap.size + 4) 77 6 v' ((kidsL L (o.c, o.d, o.s)).length + 1) (putCells (kidsL L (o.c, o.d, o.s)) ++ [.int .i64 o.a, .int .i64 o.b, .int .i64 o.c, .int .i64 o.d, .int .i64 o.s, .int .i64 o.g]))
    (hloc : v'.ownBlock = ((f (o.c, o.d, o.s)).getD (.slice none 0 0)).ownBlock ∨ ∃ j, v'.ownBlock = some j ∧ w2.heap.size ≤ j)
    (hM : MapFn Tryd.prog 73 w4 (w1.heap.size + 1) encSpot (upd f (o.c, o.d, o.s) v')) (hg4 : w3.grownBy w4 (some (w1.heap.size + 1))) : TI w w1 w4 F (L ++ [o]) T := by
  have hs := h.sz
  have hs3 := hg.size
  have row : ∀ j, ((f (o.c, o.d, o.s)).getD (.slice none 0 0)).ownBlock = some j → w1.heap.size + 4 ≤ j := fun j e => ((hf.at _).lt j e).1
  have ne : ∀ j, j < w1.heap.size + 4 → some j ≠ ((f (o.c, o.d, o.s)).getD (.slice none 0 0)).ownBlock := fun j hj e => by have := row j e.symm; omega
  have b1 := below_grown h.bel hg (by omega) (fun j e => by have := row j e; omega)
  have b2 := below_grown h.old hg (by omega) (fun j e => by have := row j e; omega)
  have tc : ∀ j, w4.cell? ⟨w1.heap.size + 1 + 1 + 1, j, none⟩ = w2.cell? ⟨w1.heap.size + 1 + 1 + 1, j, none⟩ := fun j =>
    (grown_cell hg4 (by omega) (some_ne (by omega)) j).trans (grown_cell hg (by omega) (ne _ (by omega)) j)
  exact ⟨below_grown b1 hg4 (by omega) (fun j e => by cases e; omega), below_grown b2 hg4 (by omega) (fun j e => by cases e; omega), (tc _).trans h.t0, (tc _).trans h.t1, (tc _).trans h.t2,
    (h.sg.kept hg (ne _ (by omega))).kept hg4 (some_ne (by omega)), ⟨_, hf.back (by omega) hk hg hown hloc hM hg4⟩, (h.tk.kept hg (ne _ (by omega))).kept hg4 (some_ne (by omega)), Nat.le_trans hs (Nat.le_trans hs3 hg4.size)⟩
theorem TI.entry {w w1 wr w' : World} {F T : Int × Int → Option Value} {L : List Op7} (h : TI w w1 wr F L T) (hB : w.heap.size ≤ w1.heap.size) {f : Int × Int × Int → Option Value} (hf : KidsFn wr (w1.heap.size + 1) (w1.heap.size + 4) L f) (x : Int × Int × Int) (hg : wr.grownBy w' (some (w1.heap.size + 1)))
    (hM : MapFn Tryd.prog 73 w' (w1.heap.size + 1) encSpot (upd f x ((f x).getD (.slice none 0 0)))) : TI w w1 w' F L T := by
  have hs := h.sz
  exact ⟨below_grown h.bel hg (by omega) (fun j e => by cases e; omega), below_grown h.old hg (by omega) (fun j e => by cases e; omega),
    (grown_cell hg (by omega) (some_ne (by omega)) _).trans h.t0, (grown_cell hg (by omega) (some_ne (by omega)) _).trans h.t1, (grown_cell hg (by omega) (some_ne (by omega)) _).trans h.t2,
    h.sg.kept hg (some_ne (by omega)), ⟨_, hf.entry x hg hM⟩, h.tk.kept hg (some_ne (by omega)), Nat.le_trans h.sz hg.size⟩
theorem upd_same {α : Type} [DecidableEq α] (f : α → Option Value) (a : α) (v : Value) : upd f a v a = some v := by simp [upd]
theorem ints_one : ∀ {a b c d s g : Int}, ∀ u ∈ [Value.int .i64 a, .int .i64 b, .int .i64 c, .int .i64 d, .int .i64 s, .int .i64 g], u.oneCell' = true := by
  intro a b c d s g u hu
  simp at hu
  rcases hu with rfl | rfl | rfl | rfl | rfl | rfl <;> rfl
/-- The round of a sign that was put, behind its last store. -/
theorem TI.put_end {w w1 w3 w4 w5 : World} {k : Nat} {l : List Op7} {o : Op7} {v0 v' : Value} {f : Int × Int × Int → Option Value} (hB : w.heap.size ≤ w1.heap.size)
    (h3 : TI w w1 w3 (upd (signF (l.take k)) (o.a, o.b) (putV o)) (l.take k) (takeF (l.take k))) (hk3 : KidsFn w3 (w1.heap.size + 1) (w1.heap.size + 4) (l.take k) (upd f (o.c, o.d, o.s) v0)) (hk : o.k = 1) (htk : l.take (k + 1) = l.take k ++ [o])
    (hown : w4.ownsRow (w1.heap.size + 4) 77 6 v' ((kidsL (l.take k) (o.c, o.d, o.s)).length + 1) (putCells (kidsL (l.take k) (o.c, o.d, o.s)) ++ [.int .i64 o.a, .int .i64 o.b, .int .i64 o.c, .int .i64 o.d, .int .i64 o.s, .int .i64 o.g]))
    (hg : w3.grownBy w4 v0.ownBlock) (hloc : v'.ownBlock = v0.ownBlock ∨ v'.ownBlock = some w3.heap.size)
    (hM : MapFn Tryd.prog 73 w5 (w1.heap.size + 1) encSpot (upd (upd f (o.c, o.d, o.s) v0) (o.c, o.d, o.s) v')) (hg5 : w4.grownBy w5 (some (w1.heap.size + 1))) : TInv w w1 w5 (k + 1) l := by
  unfold TInv
  rw [htk, signF_put hk, takeF_put hk]
  refine TI.kids h3 hB hk3 hk (by rw [upd_same]; exact hg) hown ?_ hM hg5
  rw [upd_same]
  exact hloc.imp id (fun e => ⟨_, e, Nat.le_refl _⟩)
/-- The round of a taking: what its operations come to, in either order. -/
theorem take_runs {w w1 W : World} {k : Nat} {l : List Op7} {o : Op7} (hB : w.heap.size ≤ w1.heap.size) (h : TI w w1 W (signF (l.take k)) (l.take k) (takeF (l.take k))) (hk : o.k ≠ 1) (htk : l.take (k + 1) = l.take k ++ [o]) {kl : Lit} (hkl : keyOf Tryd.prog 38 (encId (o.c, o.d)) = some kl) {n : Nat} (hn : takesN (l.take k) (o.c, o.d) = n) :
    ∃ w2 w3 s, (Instr.lookup 53 (.map (some (w1.heap.size + 1 + 1))) (.agg #[.int .i64 o.c, .int .i64 o.d]) false).run Tryd.prog W = .ok (.int .i64 n) W ∧
      (Instr.mapEntry 53 (.map (some (w1.heap.size + 1 + 1))) (.agg #[.int .i64 o.c, .int .i64 o.d])).run Tryd.prog W = .ok (.tuple #[.int .i64 n, .int .i64 (s : Nat)]) w2 ∧
      (Instr.lookup 53 (.map (some (w1.heap.size + 1 + 1))) (.agg #[.int .i64 o.c, .int .i64 o.d]) false).run Tryd.prog w2 = .ok (.int .i64 n) w2 ∧
      (Instr.entryStore 53 (.map (some (w1.heap.size + 1 + 1))) (.int .i64 (s : Nat)) (.int .i64 ((n : Int) + 1))).run Tryd.prog w2 = .ok () w3 ∧
      W.grownBy w2 (some (w1.heap.size + 1 + 1)) ∧ w2.grownBy w3 (some (w1.heap.size + 1 + 1)) ∧ TInv w w1 w3 (k + 1) l := by
  have hg0 : (takeF (l.take k) (o.c, o.d)).getD (.int .i64 0) = .int .i64 (n : Nat) := by rw [takeF_get, hn]
  have hl0 := h.tk.look false keyedId Tryd.underlying53 (zeroInt W) encId_inj (o.c, o.d) hkl
  obtain ⟨w2, s, he, hst, hg2⟩ := h.tk.entry keyedId Tryd.underlying53 (zeroInt W) encId_inj (o.c, o.d) hkl
  rw [hg0] at hl0 he hst
  have hl2 := hst.fn.look false keyedId Tryd.underlying53 (zeroInt w2) encId_inj (o.c, o.d) hkl
  rw [upd_same] at hl2
  obtain ⟨w3, hw, hM3, hg3⟩ := hst.write (t := 53) encId_inj hkl (.int .i64 ((n : Int) + 1))
  refine ⟨w2, w3, s, hl0, he, hl2, hw, hg2, hg3, ?_⟩
  unfold TInv
  rw [htk, signF_take hk, takeF_take hk, hn]
  have h2 := h.take hB hg2 hst.fn
  have h3 := h2.take hB hg3 hM3
  have hupd : upd (upd (takeF (l.take k)) (o.c, o.d) (.int .i64 (n : Nat))) (o.c, o.d) (.int .i64 ((n : Int) + 1)) = upd (takeF (l.take k)) (o.c, o.d) (.int .i64 ((n : Int) + 1)) := by
    funext x; simp only [upd]; split <;> simp
  rw [hupd] at h3
  obtain ⟨f, hf⟩ := h3.kd
  exact ⟨h3.bel, h3.old, h3.t0, h3.t1, h3.t2, h3.sg, ⟨f, hf.1, hf.2.1, fun x => by rw [kids_same (by simp [isKid, hk])]; exact hf.2.2.1 x, hf.2.2.2⟩, h3.tk, h3.sz⟩
theorem TI.drew {w w1 W : World} {F T : Int × Int → Option Value} {L : List Op7} (h : TI w w1 W F L T) : TI w w1 W.drew F L T := by
  obtain ⟨f, hf⟩ := h.kd
  exact ⟨h.bel.drew, h.old.drew, h.t0, h.t1, h.t2, h.sg, ⟨f, hf⟩, h.tk, h.sz⟩
theorem set_cell_grown (w : World) (p : Addr) (v : Value) : w.grownBy (w.setCell p v) (some p.block) :=
  ⟨rfl, rfl, rfl, by simp, fun i hi hne => heap_setCell_other w p i v (fun e => hne (by rw [e]))⟩
theorem cells_new (w : World) (xs : List Value) (t : TypeId) : ∀ j u, xs[j]? = some u → (w.alloc (.cells xs.toArray t)).cell? ((⟨w.heap.size, 0, none⟩ : Addr).add j) = some u := by
  intro j u hj
  rw [Addr.add_lit]
  simp [hj]
theorem kids_le (l : List Op7) (x : Int × Int × Int) : (kidsL l x).length ≤ l.length := List.length_filter_le _ _
theorem okO_num {o : Op7} (h : okO o = true) : (1 ≤ o.a ∧ o.a ≤ 3) ∧ (1 ≤ o.b ∧ o.b ≤ 12) ∧ (0 ≤ o.c ∧ o.c ≤ 3) ∧ (0 ≤ o.d ∧ o.d ≤ 12) ∧ (0 ≤ o.s ∧ o.s ≤ 1) := by
  unfold okO at h; rw [opB_true] at h; omega
theorem opsParts {l : List Op7} (h : opsB l = true) : l.all okO = true ∧ ordB l = true := by
  unfold opsB at h
  simp only [Bool.and_eq_true] at h
  exact ⟨h.1, h.2.1⟩
theorem tinv_start {w w1 : World} {l : List Op7} {T : TypeId} (hB : Below w.heap.size w w1) :
    TInv w w1 ((((w1.alloc (.map #[] 0)).alloc (.map #[] 0)).alloc (.map #[] 0)).alloc (.cells #[.map (some w1.heap.size), .map (some (w1.heap.size + 1)), .map (some (w1.heap.size + 1 + 1))] T)) 0 l := by
  have g1 := World.grownBy_alloc w1 (.map #[] 0) none
  have g2 := World.grownBy_alloc (w1.alloc (.map #[] 0)) (.map #[] 0) none
  have g3 := World.grownBy_alloc ((w1.alloc (.map #[] 0)).alloc (.map #[] 0)) (.map #[] 0) none
  have g4 := World.grownBy_alloc (((w1.alloc (.map #[] 0)).alloc (.map #[] 0)).alloc (.map #[] 0)) (.cells #[.map (some w1.heap.size), .map (some (w1.heap.size + 1)), .map (some (w1.heap.size + 1 + 1))] T) none
  have s1 : (w1.alloc (.map #[] 0)).heap.size = w1.heap.size + 1 := by simp
  have s2 : ((w1.alloc (.map #[] 0)).alloc (.map #[] 0)).heap.size = w1.heap.size + 1 + 1 := by simp
  have g234 := (g2.trans g3).trans g4
  refine ⟨hB.trans ?_, ?_, by simp [go_sem], by simp [go_sem], by simp [go_sem], ?_, ?_, ?_, by simp⟩
  · exact below_grown (Below.refl _ _) (g1.trans g234) (hB.size) (fun j e => by cases e)
  · exact below_grown (Below.refl _ _) (g1.trans g234) (Nat.le_refl _) (fun j e => by cases e)
  · exact (mapFn_made w1 _ _ _).kept g234 (by simp)
  · have h := (mapFn_made (w1.alloc (.map #[] 0)) Tryd.prog 73 encSpot).kept (g3.trans g4) (by simp)
    rw [s1] at h
    exact ⟨_, h, by omega, fun x => .inl ⟨rfl, by simp [kidsL]⟩, fun _ _ _ _ _ h => by cases h⟩
  · have h := (mapFn_made ((w1.alloc (.map #[] 0)).alloc (.map #[] 0)) Tryd.prog 38 encId).kept g4 (by simp)
    rw [s2] at h
    exact h

end Go.Proofs.YtpkdadccapemcaaDoor
