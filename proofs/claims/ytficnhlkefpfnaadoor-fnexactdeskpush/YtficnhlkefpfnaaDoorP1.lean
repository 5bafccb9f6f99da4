/- Contracts of the specification's l2Leaves and TreeLeaves, and of eqLeafS, markLeafS, heldLeafS. -/
import Derived.Maps.OwnOps
import Derived.Maps.AppendAt
import Derived.WalkKit
import Derived.Test.YtficnhlkefpfnaaDoorP0
import Derived.DeepKeys4
import Derived.WalkArith
import Derived.BigQuiet
import Derived.WalkSmall
import Derived.Deep.RegionHeld3
import Derived.Deep.DrawnRows
import Derived.OwnWalk
import Derived.Maps.OwnIn
namespace Go.Proofs.YtficnhlkefpfnaaDoor
open Go.RowKit
open Go.Maps (Keyed)
set_option linter.unusedSimpArgs false

/-- f, but v at a. -/
def upd {α : Type} [DecidableEq α] (f : α → Option Value) (a : α) (v : Value) : α → Option Value := fun x => if x = a then some v else f x

/-- These entries are f. -/
structure GoodMap {α : Type} (P : Program) (k : TypeId) (es : Array MapEntry) (clock : Nat) (enc : α → Value) (f : α → Option Value) : Prop where
  keys : ∀ e ∈ es.toList, ∃ l, keyOf P k e.key = some l
  vals : ∀ e ∈ es.toList, ∃ a, e.key = enc a ∧ f a = some e.val
  all : ∀ a v, f a = some v → ∃ e ∈ es.toList, e.key = enc a
  once : ∀ (i j : Nat) (e e' : MapEntry), es.toList[i]? = some e → es.toList[j]? = some e' → e.key = e'.key → i = j
  born : ∀ e ∈ es.toList, e.born < clock
  stamp : ∀ (i j : Nat) (e e' : MapEntry), es.toList[i]? = some e → es.toList[j]? = some e' → e.born = e'.born → i = j

/-- Block b is a map that holds f. -/
def MapFn {α : Type} (P : Program) (k : TypeId) (w : World) (b : Nat) (enc : α → Value) (f : α → Option Value) : Prop :=
  ∃ es clock, w.heap[b]? = some (.map es clock) ∧ GoodMap P k es clock enc f
/-- .. and s is the stamp of the entry at a. -/
def MapSt {α : Type} (P : Program) (k : TypeId) (w : World) (b : Nat) (enc : α → Value) (f : α → Option Value) (a : α) (s : Nat) : Prop :=
  ∃ es clock, w.heap[b]? = some (.map es clock) ∧ GoodMap P k es clock enc f ∧ ∃ (i : Nat) (e : MapEntry), es.toList[i]? = some e ∧ e.key = enc a ∧ e.born = s

section
variable {α : Type} [DecidableEq α] {P : Program} {k t e : TypeId} {w : World} {b : Nat} {enc : α → Value} {f : α → Option Value} {es : Array MapEntry} {clock : Nat}

omit [DecidableEq α] in
theorem MapFn.lt (h : MapFn P k w b enc f) : b < w.heap.size := by
  obtain ⟨es, clock, hb, _⟩ := h
  exact (Array.getElem?_eq_some_iff.1 hb).1
omit [DecidableEq α] in
theorem MapFn.kept {w' : World} {row : Option Nat} (h : MapFn P k w b enc f) (hg : w.grownBy w' row) (hne : some b ≠ row) : MapFn P k w' b enc f := by
  have hlt := h.lt
  obtain ⟨es, clock, hb, F⟩ := h
  exact ⟨es, clock, (hg.block b hlt hne).trans hb, F⟩
omit [DecidableEq α] in
theorem MapFn.below {w' : World} {B : Nat} (h : MapFn P k w b enc f) (hb : Below B w w') (hB : b < B) : MapFn P k w' b enc f := by
  obtain ⟨es, clock, hh, F⟩ := h
  exact ⟨es, clock, (hb.block b hB).trans hh, F⟩
omit [DecidableEq α] in
theorem MapSt.fn {a : α} {s : Nat} (h : MapSt P k w b enc f a s) : MapFn P k w b enc f := by
  obtain ⟨es, clock, hb, F, _⟩ := h
  exact ⟨es, clock, hb, F⟩
omit [DecidableEq α] in
theorem MapSt.kept {w' : World} {row : Option Nat} {a : α} {s : Nat} (h : MapSt P k w b enc f a s) (hg : w.grownBy w' row) (hne : some b ≠ row) : MapSt P k w' b enc f a s := by
  have hlt := h.fn.lt
  obtain ⟨es, clock, hb, F⟩ := h
  exact ⟨es, clock, (hg.block b hlt hne).trans hb, F⟩
omit [DecidableEq α] in
theorem mapFn_made (w : World) (P : Program) (k : TypeId) (enc : α → Value) : MapFn P k (w.alloc (.map #[] 0)) w.heap.size enc (fun _ => none) :=
  ⟨#[], 0, (MapKept.heap_alloc w _).1, by simp, by simp, by simp, by simp, by simp, by simp⟩

theorem GoodMap.push (h : GoodMap P k es clock enc f) {a : α} {kl : Lit} (hkey : keyOf P k (enc a) = some kl) (hno : ∀ e ∈ es.toList, e.key ≠ enc a) (v : Value) : GoodMap P k (es.push ⟨enc a, v, clock⟩) (clock + 1) enc (upd f a v) := by
  have mem : ∀ x, x ∈ (es.push ⟨enc a, v, clock⟩).toList → x ∈ es.toList ∨ x = ⟨enc a, v, clock⟩ := fun x hx => by simpa using hx
  have split : ∀ (i : Nat) (x : MapEntry), (es.push ⟨enc a, v, clock⟩).toList[i]? = some x → (i < es.size ∧ es.toList[i]? = some x) ∨ (i = es.size ∧ x = ⟨enc a, v, clock⟩) := by
    have hlen : es.toList.length = es.size := by simp
    intro i x hx
    rw [Array.toList_push] at hx
    rcases Nat.lt_or_ge i es.size with hi | hi
    · rw [List.getElem?_append_left (by omega)] at hx
      exact .inl ⟨hi, hx⟩
    · rw [List.getElem?_append_right (by omega)] at hx
      rcases Nat.eq_or_lt_of_le hi with hi | hi
      · subst hi
        simp at hx
        exact .inr ⟨rfl, hx.symm⟩
      · rw [List.getElem?_eq_none (by simp; omega)] at hx
        cases hx
  refine ⟨fun x hx => ?_, fun x hx => ?_, fun a' v' hf => ?_, fun i j x y hx hy hxy => ?_, fun x hx => ?_, fun i j x y hx hy hxy => ?_⟩
  · rcases mem x hx with hx | rfl
    · exact h.keys x hx
    · exact ⟨_, hkey⟩
  · rcases mem x hx with hx | rfl
    · obtain ⟨a', ha', hf⟩ := h.vals x hx
      have : a' ≠ a := fun e1 => hno x hx (by rw [ha', e1])
      exact ⟨a', ha', by simp [upd, this, hf]⟩
    · exact ⟨a, rfl, by simp [upd]⟩
  · simp only [Array.toList_push, List.mem_append, List.mem_singleton]
    by_cases e1 : a' = a
    · exact ⟨_, .inr rfl, by rw [e1]⟩
    · simp only [upd, e1, if_false] at hf
      obtain ⟨x, hx, hxk⟩ := h.all a' v' hf
      exact ⟨x, .inl hx, hxk⟩
  · rcases split i x hx with ⟨hi, hx'⟩ | ⟨rfl, rfl⟩ <;> rcases split j y hy with ⟨hj, hy'⟩ | ⟨rfl, rfl⟩
    · exact h.once i j x y hx' hy' hxy
    · exact absurd hxy (hno x (List.mem_of_getElem? hx'))
    · exact absurd hxy.symm (hno y (List.mem_of_getElem? hy'))
    · rfl
  · rcases mem x hx with hx | rfl
    · exact Nat.lt_succ_of_lt (h.born x hx)
    · exact Nat.lt_succ_self _
  · rcases split i x hx with ⟨hi, hx'⟩ | ⟨rfl, rfl⟩ <;> rcases split j y hy with ⟨hj, hy'⟩ | ⟨rfl, rfl⟩
    · exact h.stamp i j x y hx' hy' hxy
    · have := h.born x (List.mem_of_getElem? hx')
      dsimp only at hxy
      omega
    · have := h.born y (List.mem_of_getElem? hy')
      dsimp only at hxy
      omega
    · rfl

theorem GoodMap.set (h : GoodMap P k es clock enc f) (hinj : ∀ a a', enc a = enc a' → a = a') {a : α} {kl : Lit} (hkey : keyOf P k (enc a) = some kl) {j : Nat} {e0 : MapEntry} (r2 : es.toList[j]? = some e0) (r3 : e0.key = enc a) (v : Value) {es' : Array MapEntry}
    (hlist : es'.toList = es.toList.set j ⟨enc a, v, e0.born⟩) : GoodMap P k es' clock enc (upd f a v) := by
  have hjl : j < es.toList.length := (List.getElem?_eq_some_iff.1 r2).1
  have who : ∀ (i : Nat) (x : MapEntry), es'.toList[i]? = some x → (i = j ∧ x = ⟨enc a, v, e0.born⟩) ∨ (i ≠ j ∧ es.toList[i]? = some x) := by
    intro i x hx
    rw [hlist] at hx
    by_cases hij : j = i
    · subst hij
      rw [List.getElem?_set_self hjl] at hx
      exact .inl ⟨rfl, (Option.some.inj hx).symm⟩
    · rw [List.getElem?_set_ne hij] at hx
      exact .inr ⟨fun e1 => hij e1.symm, hx⟩
  have mem : ∀ x ∈ es'.toList, x = ⟨enc a, v, e0.born⟩ ∨ (x ∈ es.toList ∧ x.key ≠ enc a) := by
    intro x hx
    obtain ⟨i, hi⟩ := List.mem_iff_getElem?.1 hx
    rcases who i x hi with ⟨_, h'⟩ | ⟨h', h''⟩
    · exact .inl h'
    · exact .inr ⟨List.mem_of_getElem? h'', fun e1 => h' (h.once i j x e0 h'' r2 (by rw [e1, r3]))⟩
  refine ⟨fun x hx => ?_, fun x hx => ?_, fun a' v' hf => ?_, fun i1 i2 x y hx hy hxy => ?_, fun x hx => ?_, fun i1 i2 x y hx hy hxy => ?_⟩
  · rcases mem x hx with rfl | ⟨hx', _⟩
    · exact ⟨_, hkey⟩
    · exact h.keys x hx'
  · rcases mem x hx with rfl | ⟨hx', hne⟩
    · exact ⟨a, rfl, by simp [upd]⟩
    · obtain ⟨a', ha', hf⟩ := h.vals x hx'
      have : a' ≠ a := fun e1 => hne (by rw [ha', e1])
      exact ⟨a', ha', by simp [upd, this, hf]⟩
  · rw [hlist]
    by_cases e1 : a' = a
    · exact ⟨⟨enc a, v, e0.born⟩, List.mem_iff_getElem?.2 ⟨j, List.getElem?_set_self hjl⟩, by rw [e1]⟩
    · simp only [upd, e1, if_false] at hf
      obtain ⟨x, hx, hxk⟩ := h.all a' v' hf
      obtain ⟨i, hi⟩ := List.mem_iff_getElem?.1 hx
      have hij : j ≠ i := fun e2 => by
        subst e2
        rw [r2] at hi
        obtain rfl := Option.some.inj hi
        exact e1 (hinj _ _ (hxk.symm.trans r3))
      exact ⟨x, List.mem_iff_getElem?.2 ⟨i, by rw [List.getElem?_set_ne hij]; exact hi⟩, hxk⟩
  · rcases who i1 x hx with ⟨rfl, rfl⟩ | ⟨hi, hx'⟩ <;> rcases who i2 y hy with ⟨rfl, rfl⟩ | ⟨hj', hy'⟩
    · rfl
    · exact absurd (h.once _ _ _ _ r2 hy' (by rw [r3]; exact hxy)) (Ne.symm hj')
    · exact absurd (h.once _ _ _ _ hx' r2 (by rw [r3]; exact hxy)) hi
    · exact h.once _ _ _ _ hx' hy' hxy
  · rcases mem x hx with rfl | ⟨hx', _⟩
    · exact h.born e0 (List.mem_of_getElem? r2)
    · exact h.born x hx'
  · rcases who i1 x hx with ⟨rfl, rfl⟩ | ⟨hi, hx'⟩ <;> rcases who i2 y hy with ⟨rfl, rfl⟩ | ⟨hj', hy'⟩
    · rfl
    · exact absurd (h.stamp _ _ _ _ r2 hy' hxy) (Ne.symm hj')
    · exact absurd (h.stamp _ _ _ _ hx' r2 hxy) hi
    · exact h.stamp _ _ _ _ hx' hy' hxy

omit [DecidableEq α] in
/-- 'm[a]' and 'v, ok := m[a]'. -/
theorem MapFn.look (c : Bool) (h : MapFn P k w b enc f) (K : Keyed P k) (ht : P.underlying t = some (.map k e)) {z : Value} (hz : (zeroValue e).run P w = .ok z w)
    (hinj : ∀ a a', enc a = enc a' → a = a') (a : α) {kl : Lit} (hkey : keyOf P k (enc a) = some kl) :
    (Instr.lookup t (.map (some b)) (enc a) c).run P w = .ok (if c then .tuple #[(f a).getD z, .bool (f a).isSome] else (f a).getD z) w := by
  obtain ⟨es, clock, hb, G⟩ := h
  rcases K.find w hkey es.toList G.keys with ⟨r1, r2⟩ | ⟨j, e0, r1, r2, r3⟩
  · have hf : f a = none := by
      cases hf : f a
      · rfl
      · obtain ⟨e', he', hke⟩ := G.all a _ hf
        exact absurd hke (r2 e' he')
    simp [Instr.lookup, run_underlying ht, MapKept.run_getObj_map hb, K.check w _ hkey, r1, hz, Result.andThen, hf]
  · obtain ⟨a', ha', hf⟩ := G.vals e0 (List.mem_of_getElem? r2)
    obtain rfl : a' = a := hinj _ _ (ha'.symm.trans r3)
    simp [Instr.lookup, run_underlying ht, MapKept.run_getObj_map hb, K.check w _ hkey, r1, Result.andThen, hf]

open Go.ChangeMaps in
theorem set_grown (hb : w.heap[b]? = some (.map es clock)) (o : Obj) : w.grownBy (setBlock w b o) (some b) :=
  ⟨rfl, rfl, rfl, by simp [setBlock], fun i _ hi => heap_setBlock_other hb _ (fun e => hi (by rw [e]))⟩

open Go.ChangeMaps in
/-- 'm[a] = v'. -/
theorem MapFn.store (h : MapFn P k w b enc f) (K : Keyed P k) (ht : P.underlying t = some (.map k e)) (hinj : ∀ a a', enc a = enc a' → a = a') (a : α) (v : Value) {kl : Lit} (hkey : keyOf P k (enc a) = some kl) :
    ∃ w', (Instr.mapUpdate t (.map (some b)) (enc a) v).run P w = .ok () w' ∧ MapFn P k w' b enc (upd f a v) ∧ w.grownBy w' (some b) := by
  obtain ⟨es, clock, hb, G⟩ := h
  rcases K.find w hkey es.toList G.keys with ⟨r1, r2⟩ | ⟨j, e0, r1, r2, r3⟩
  · refine ⟨setBlock w b (.map (es.push ⟨enc a, v, clock⟩) (clock + 1)), ?_, ⟨_, _, heap_setBlock_same hb _, G.push hkey r2 v⟩, set_grown hb _⟩
    simp [Instr.mapUpdate, run_underlying ht, MapKept.run_getObj_map hb, K.check w false hkey, r1, MapKept.run_setObj_map _ hb, Result.andThen, setBlock]
  · have hj : es[j]? = some e0 := by simpa using r2
    refine ⟨setBlock w b (.map (es.modify j (fun e' => { e' with key := enc a, val := v })) clock), ?_, ⟨_, clock, heap_setBlock_same hb _, G.set hinj hkey r2 r3 v ?_⟩, set_grown hb _⟩
    · simp [Instr.mapUpdate, run_underlying ht, MapKept.run_getObj_map hb, K.check w false hkey, r1, hj, r3, K.stays w hkey, MapKept.run_setObj_map _ hb, Result.andThen, setBlock]
    · rw [Array.toList_modify, modify_eq_set _ _ _ _ r2]

open Go.ChangeMaps in
/-- The entry at a, made where there is none. -/
theorem MapFn.entry (h : MapFn P k w b enc f) (K : Keyed P k) (ht : P.underlying t = some (.map k e)) {z : Value} (hz : (zeroValue e).run P w = .ok z w) (hinj : ∀ a a', enc a = enc a' → a = a') (a : α) {kl : Lit} (hkey : keyOf P k (enc a) = some kl) :
    ∃ w' s, (Instr.mapEntry t (.map (some b)) (enc a)).run P w = .ok (.tuple #[(f a).getD z, goInt (s : Nat)]) w' ∧ MapSt P k w' b enc (upd f a ((f a).getD z)) a s ∧ w.grownBy w' (some b) := by
  obtain ⟨es, clock, hb, G⟩ := h
  rcases K.find w hkey es.toList G.keys with ⟨r1, r2⟩ | ⟨j, e0, r1, r2, r3⟩
  · have hf : f a = none := by
      cases hf : f a
      · rfl
      · obtain ⟨e', he', hke⟩ := G.all a _ hf
        exact absurd hke (r2 e' he')
    refine ⟨setBlock w b (.map (es.push ⟨enc a, z, clock⟩) (clock + 1)), clock, ?_, ⟨_, _, heap_setBlock_same hb _, by rw [hf]; exact G.push hkey r2 z, es.size, ⟨enc a, z, clock⟩, by simp, rfl, rfl⟩, set_grown hb _⟩
    simp [Instr.mapEntry, run_underlying ht, MapKept.run_getObj_map hb, K.check w false hkey, r1, hz, MapKept.run_setObj_map _ hb, Result.andThen, setBlock, hf]
  · have hj : es[j]? = some e0 := by simpa using r2
    obtain ⟨a', ha', hf⟩ := G.vals e0 (List.mem_of_getElem? r2)
    obtain rfl : a' = a := hinj _ _ (ha'.symm.trans r3)
    have hlist : (es.modify j (fun e' => { e' with key := enc a' })).toList = es.toList.set j ⟨enc a', e0.val, e0.born⟩ := by rw [Array.toList_modify, modify_eq_set _ _ _ _ r2]
    have hjl : j < es.toList.length := (List.getElem?_eq_some_iff.1 r2).1
    refine ⟨setBlock w b (.map (es.modify j (fun e' => { e' with key := enc a' })) clock), e0.born, ?_, ⟨_, clock, heap_setBlock_same hb _, by rw [hf]; exact G.set hinj hkey r2 r3 e0.val hlist, j, ⟨enc a', e0.val, e0.born⟩, by rw [hlist]; exact List.getElem?_set_self hjl, rfl, rfl⟩, set_grown hb _⟩
    simp [Instr.mapEntry, run_underlying ht, MapKept.run_getObj_map hb, K.check w false hkey, r1, hj, r3, K.stays w hkey, MapKept.run_setObj_map _ hb, Result.andThen, setBlock, hf]

open Go.ChangeMaps in
/-- The store through an entry. -/
theorem MapSt.write {a : α} {s : Nat} (h : MapSt P k w b enc f a s) (hinj : ∀ a a', enc a = enc a' → a = a') {kl : Lit} (hkey : keyOf P k (enc a) = some kl) (v : Value) :
    ∃ w', (Instr.entryStore t (.map (some b)) (goInt (s : Nat)) v).run P w = .ok () w' ∧ MapFn P k w' b enc (upd f a v) ∧ w.grownBy w' (some b) := by
  obtain ⟨es, clock, hb, G, i, e0, r2, r3, r4⟩ := h
  have hi : es[i]? = some e0 := by simpa using r2
  obtain ⟨hil, hie⟩ := Array.getElem?_eq_some_iff.1 hi
  have hfind : es.findIdx? (fun e => (e.born : Int) == (s : Int)) = some i := by
    rw [Array.findIdx?_eq_some_iff_getElem]
    refine ⟨hil, by rw [hie, r4]; simp, fun j hj => ?_⟩
    cases hc : ((es[j].born : Int) == (s : Int))
    · simp [hc]
    · have h0 : (es[j].born : Int) = (s : Int) := by simpa using hc
      have h1 : es[j].born = s := by omega
      have h2 := G.stamp j i es[j] e0 (by simp) r2 (by rw [h1, r4])
      omega
  refine ⟨setBlock w b (.map (es.modify i (fun e' => { e' with val := v })) clock), ?_, ⟨_, clock, heap_setBlock_same hb _, G.set hinj hkey r2 r3 v ?_⟩, set_grown hb _⟩
  · simp [Instr.entryStore, MapKept.run_getObj_map hb, goInt, asInt, asIntOf, hfind, MapKept.run_setObj_map _ hb, Result.andThen, setBlock]
  · rw [Array.toList_modify, modify_eq_set _ _ _ _ r2, r3]

omit [DecidableEq α] in
/-- The look-up, at the operation. -/
theorem wpList_look_fn (c : Bool) {ops : Array Oper} {rest : List Oper} {o : Oper} {A : Act} {Q : Exit → Act → World → Prop}
    (hg : o.guard = none) (m x : Operand) (hop : o.op = Op.lookup t m x c) (K : Keyed P k) (ht : P.underlying t = some (.map k e)) (z : Value) (hz : (zeroValue e).run P w = .ok z w)
    (hinj : ∀ a a', enc a = enc a' → a = a') (hm : A.eval m = .map (some b)) (hown : MapFn P k w b enc f) (a : α) (hx : A.eval x = enc a) (kl : Lit) (hkey : keyOf P k (enc a) = some kl)
    (hK : wpList P ops Q rest (A.put o.dst (if c then .tuple #[(f a).getD z, .bool (f a).isSome] else (f a).getD z)) w) :
    wpList P ops Q (o :: rest) A w := by
  refine wpList_plain hg fun K' hK' => ?_
  have hrun := hown.look c K ht hz hinj a hkey
  unfold Oper.wp
  simp only [execOp, hop, hm, hx, hrun, Result.andThen, Sem.run_bind, Sem.run_pure]
  exact hK' _ _ hK

omit [DecidableEq α] in
/-- The look-up without 'ok', at the operation. -/
theorem wpList_look0 {ops : Array Oper} {rest : List Oper} {o : Oper} {A : Act} {Q : Exit → Act → World → Prop}
    (hg : o.guard = none) (m x : Operand) (hop : o.op = Op.lookup t m x false) (K : Keyed P k) (ht : P.underlying t = some (.map k e)) (z : Value) (hz : (zeroValue e).run P w = .ok z w)
    (hinj : ∀ a a', enc a = enc a' → a = a') (hm : A.eval m = .map (some b)) (hown : MapFn P k w b enc f) (a : α) (hx : A.eval x = enc a) (kl : Lit) (hkey : keyOf P k (enc a) = some kl) (v : Value) (hv : (f a).getD z = v)
    (hK : wpList P ops Q rest (A.put o.dst v) w) :
    wpList P ops Q (o :: rest) A w := by
  subst hv
  exact wpList_look_fn false hg m x hop K ht z hz hinj hm hown a hx kl hkey hK
omit [DecidableEq α] in
/-- The look-up with 'ok', at the operation. -/
theorem wpList_look1 {ops : Array Oper} {rest : List Oper} {o : Oper} {A : Act} {Q : Exit → Act → World → Prop}
    (hg : o.guard = none) (m x : Operand) (hop : o.op = Op.lookup t m x true) (K : Keyed P k) (ht : P.underlying t = some (.map k e)) (z : Value) (hz : (zeroValue e).run P w = .ok z w)
    (hinj : ∀ a a', enc a = enc a' → a = a') (hm : A.eval m = .map (some b)) (hown : MapFn P k w b enc f) (a : α) (hx : A.eval x = enc a) (kl : Lit) (hkey : keyOf P k (enc a) = some kl) (v : Value) (hv : (f a).getD z = v) (q : Bool) (hq : (f a).isSome = q)
    (hK : wpList P ops Q rest (A.put o.dst (.tuple #[v, .bool q])) w) :
    wpList P ops Q (o :: rest) A w := by
  subst hv hq
  exact wpList_look_fn true hg m x hop K ht z hz hinj hm hown a hx kl hkey hK

/-- The store, at the operation. -/
theorem wpList_store_fn {ops : Array Oper} {rest : List Oper} {o : Oper} {A : Act} {Q : Exit → Act → World → Prop}
    (hg : o.guard = none) (m x v : Operand) (hop : o.op = Op.mapUpdate t m x v) (K : Keyed P k) (ht : P.underlying t = some (.map k e))
    (hinj : ∀ a a', enc a = enc a' → a = a') (hm : A.eval m = .map (some b)) (hown : MapFn P k w b enc f) (a : α) (hx : A.eval x = enc a) (kl : Lit) (hkey : keyOf P k (enc a) = some kl) (val : Value) (hv : A.eval v = val)
    (hK : ∀ w', MapFn P k w' b enc (upd f a val) → w.grownBy w' (some b) → wpList P ops Q rest (A.put o.dst undef) w') :
    wpList P ops Q (o :: rest) A w := by
  refine wpList_plain hg fun K' hK' => ?_
  obtain ⟨w', hrun, r1, r2⟩ := hown.store K ht hinj a val hkey
  unfold Oper.wp
  simp [execOp, hop, hm, hx, hv, hrun, Result.andThen]
  exact hK' _ _ (hK w' r1 r2)
/-- The entry, at the operation. -/
theorem wpList_entry_fn {ops : Array Oper} {rest : List Oper} {o : Oper} {A : Act} {Q : Exit → Act → World → Prop}
    (hg : o.guard = none) (m x : Operand) (hop : o.op = Op.mapEntry t m x) (K : Keyed P k) (ht : P.underlying t = some (.map k e)) (z : Value) (hz : (zeroValue e).run P w = .ok z w)
    (hinj : ∀ a a', enc a = enc a' → a = a') (hm : A.eval m = .map (some b)) (hown : MapFn P k w b enc f) (a : α) (hx : A.eval x = enc a) (kl : Lit) (hkey : keyOf P k (enc a) = some kl) (v : Value) (hv : (f a).getD z = v)
    (hK : ∀ w' (s : Nat), MapSt P k w' b enc (upd f a v) a s → w.grownBy w' (some b) → wpList P ops Q rest (A.put o.dst (.tuple #[v, goInt (s : Nat)])) w') :
    wpList P ops Q (o :: rest) A w := by
  subst hv
  refine wpList_plain hg fun K' hK' => ?_
  obtain ⟨w', s, hrun, r1, r2⟩ := hown.entry K ht hz hinj a hkey
  unfold Oper.wp
  simp only [execOp, hop, hm, hx, hrun, Result.andThen, Sem.run_bind, Sem.run_pure]
  exact hK' _ _ (hK w' s r1 r2)
/-- The store through an entry, at the operation. -/
theorem wpList_write_fn {ops : Array Oper} {rest : List Oper} {o : Oper} {A : Act} {Q : Exit → Act → World → Prop} {a : α} {s : Nat}
    (hg : o.guard = none) (m x v : Operand) (hop : o.op = Op.entryStore t m x v)
    (hinj : ∀ a a', enc a = enc a' → a = a') (hm : A.eval m = .map (some b)) (hown : MapSt P k w b enc f a s) (hx : A.eval x = goInt (s : Nat)) (kl : Lit) (hkey : keyOf P k (enc a) = some kl) (val : Value) (hv : A.eval v = val)
    (hK : ∀ w', MapFn P k w' b enc (upd f a val) → w.grownBy w' (some b) → wpList P ops Q rest (A.put o.dst undef) w') :
    wpList P ops Q (o :: rest) A w := by
  refine wpList_plain hg fun K' hK' => ?_
  obtain ⟨w', hrun, r1, r2⟩ := hown.write (t := t) hinj hkey val
  unfold Oper.wp
  simp [execOp, hop, hm, hx, hv, hrun, Result.andThen]
  exact hK' _ _ (hK w' r1 r2)
end
end Go.Proofs.YtficnhlkefpfnaaDoor

namespace Go.Proofs.YtficnhlkefpfnaaDoor
open Go.RowKit
set_option linter.unusedSimpArgs false
set_option linter.unusedVariables false

def encId (x : Int × Int) : Value := .agg #[.int .i64 x.1, .int .i64 x.2]
def encSpot (x : Int × Int × Int) : Value := .agg #[.int .i64 x.1, .int .i64 x.2.1, .int .i64 x.2.2]
theorem encId_inj : ∀ a a', encId a = encId a' → a = a' := by
  rintro ⟨a, b⟩ ⟨c, d⟩ h
  simp [encId] at h
  simp [h]
theorem encSpot_inj : ∀ a a', encSpot a = encSpot a' → a = a' := by
  rintro ⟨a, b, c⟩ ⟨d, e, f⟩ h
  simp [encSpot] at h
  simp [h]

/-- A sign that was put, as the program keeps it. -/
def putV (o : Op7) : Value := .agg #[.int .i64 o.a, .int .i64 o.b, .int .i64 o.c, .int .i64 o.d, .int .i64 o.s, .int .i64 o.g]
/-- The sign of an id. -/
def putAt (l : List Op7) (x : Int × Int) : Option Op7 := match l.find? (hasId x.1 x.2) with | some o => if o.k = 1 then some o else none | none => none
def signF (l : List Op7) : Int × Int → Option Value := l.foldl (fun f o => if o.k = 1 then upd f (o.a, o.b) (putV o) else f) (fun _ => none)
theorem signF_put {l : List Op7} {o : Op7} (h : o.k = 1) : signF (l ++ [o]) = upd (signF l) (o.a, o.b) (putV o) := by simp [signF, h]
theorem signF_take {l : List Op7} {o : Op7} (h : o.k ≠ 1) : signF (l ++ [o]) = signF l := by simp [signF, h]

/-- Each stands once. -/
def OnceIds (l : List Op7) : Prop := ∀ (i j : Nat) (o p : Op7), l[i]? = some o → l[j]? = some p → o.a = p.a → o.b = p.b → i = j
theorem once_of {l : List Op7} (hok : l.all okO = true) (hord : ordB l = true) : OnceIds l := by
  intro i j o p ho hp ha hb
  obtain ⟨hi, rfl⟩ := List.getElem?_eq_some_iff.1 ho
  obtain ⟨hj, rfl⟩ := List.getElem?_eq_some_iff.1 hp
  have h1 := place_of hok hord hi
  have h2 := place_of hok hord hj
  rw [ha, hb, h2] at h1
  omega
theorem OnceIds.init {l : List Op7} {o : Op7} (h : OnceIds (l ++ [o])) : OnceIds l ∧ ∀ p ∈ l, ¬ (p.a = o.a ∧ p.b = o.b) := by
  have hl : ∀ (i : Nat) (p : Op7), l[i]? = some p → i < l.length ∧ (l ++ [o])[i]? = some p := fun i p hp => by
    have hi := (List.getElem?_eq_some_iff.1 hp).1
    exact ⟨hi, by rw [List.getElem?_append_left hi]; exact hp⟩
  refine ⟨fun i j p q hp hq ha hb => h i j p q (hl i p hp).2 (hl j q hq).2 ha hb, fun p hp hx => ?_⟩
  obtain ⟨i, hi⟩ := List.mem_iff_getElem?.1 hp
  have := h i l.length p o (hl i p hi).2 (by simp) hx.1 hx.2
  have := (hl i p hi).1
  omega
theorem signF_is : ∀ (l : List Op7), OnceIds l → ∀ x, signF l x = (putAt l x).map putV := by
  intro l
  induction hn : l.length generalizing l with
  | zero =>
    intro _ x
    obtain rfl := List.length_eq_zero_iff.1 hn
    simp [signF, putAt]
  | succ n ih =>
    intro h x
    have hne : l ≠ [] := by intro e; subst e; simp at hn
    obtain ⟨l', o, rfl⟩ : ∃ l' o, l = l' ++ [o] := ⟨l.dropLast, l.getLast hne, (List.dropLast_concat_getLast hne).symm⟩
    obtain ⟨h1, h2⟩ := h.init
    have ih' := ih l' (by simpa using hn) h1
    by_cases hx : hasId x.1 x.2 o = true
    · have hx' : o.a = x.1 ∧ o.b = x.2 := by simpa [hasId] using hx
      have hnone : l'.find? (hasId x.1 x.2) = none := by
        rw [List.find?_eq_none]
        intro p hp hc
        have hc' : p.a = x.1 ∧ p.b = x.2 := by simpa [hasId] using hc
        exact h2 p hp ⟨by omega, by omega⟩
      have hfind : (l' ++ [o]).find? (hasId x.1 x.2) = some o := by rw [List.find?_append, hnone]; simp [hx]
      have hold : signF l' x = none := by rw [ih']; simp [putAt, hnone]
      have hxe : x = (o.a, o.b) := by rw [hx'.1, hx'.2]
      by_cases hk : o.k = 1
      · rw [signF_put hk]; unfold putAt; rw [hfind]; simp [upd, hk, hxe]
      · rw [signF_take hk, hold]; unfold putAt; rw [hfind]; simp [hk]
    · have hne' : x ≠ (o.a, o.b) := fun e => hx (by rw [e]; simp [hasId])
      have hfind : (l' ++ [o]).find? (hasId x.1 x.2) = l'.find? (hasId x.1 x.2) := by
        rw [List.find?_append]; simp [hx]
      have hold : (putAt (l' ++ [o]) x) = putAt l' x := by unfold putAt; rw [hfind]
      rw [hold, ← ih' x]
      by_cases hk : o.k = 1
      · rw [signF_put hk]; simp [upd, hne']
      · rw [signF_take hk]

/-- How often a sign was taken away. -/
def takesN (l : List Op7) (x : Int × Int) : Nat := l.countP (fun o => !(o.k == 1) && (o.c == x.1 && o.d == x.2))
def takeF (l : List Op7) (x : Int × Int) : Option Value := if takesN l x = 0 then none else some (.int .i64 (takesN l x : Nat))
theorem takeF_put {l : List Op7} {o : Op7} (h : o.k = 1) : takeF (l ++ [o]) = takeF l := by
  funext x; simp [takeF, takesN, List.countP_append, h]
theorem takeF_take {l : List Op7} {o : Op7} (h : o.k ≠ 1) : takeF (l ++ [o]) = upd (takeF l) (o.c, o.d) (.int .i64 ((takesN l (o.c, o.d) : Int) + 1)) := by
  funext x
  by_cases hx : x = (o.c, o.d)
  · subst hx
    have : takesN (l ++ [o]) (o.c, o.d) = takesN l (o.c, o.d) + 1 := by simp [takesN, List.countP_append, h]
    simp [takeF, upd, this]
  · have hxx : ¬ (o.c = x.1 ∧ o.d = x.2) := fun e => hx (by rw [e.1, e.2])
    have : takesN (l ++ [o]) x = takesN l x := by
      have hf : (!(o.k == 1) && (o.c == x.1 && o.d == x.2)) = false := by
        cases hc : (o.c == x.1 && o.d == x.2)
        · simp
        · exact absurd (by simpa using hc) hxx
      simp [takesN, List.countP_append, hf]
    simp [takeF, upd, hx, this]
theorem takeF_get (l : List Op7) (x : Int × Int) : (takeF l x).getD (.int .i64 0) = .int .i64 (takesN l x : Nat) := by
  unfold takeF; split
  · rename_i h; simp [h]
  · simp
theorem takesN_le (l : List Op7) (x : Int × Int) : takesN l x ≤ l.length := List.countP_le_length

def isKid (x : Int × Int × Int) (o : Op7) : Bool := o.k == 1 && (o.c == x.1 && (o.d == x.2.1 && o.s == x.2.2))
/-- Which signs were put beside one, on a side. -/
def kidsL (l : List Op7) (x : Int × Int × Int) : List Op7 := l.filter (isKid x)
/-- The cells of signs, one behind the other. -/
def putCells (L : List Op7) : List Value := L.flatMap fun o => [.int .i64 o.a, .int .i64 o.b, .int .i64 o.c, .int .i64 o.d, .int .i64 o.s, .int .i64 o.g]
theorem putCells_len : ∀ L : List Op7, (putCells L).length = L.length * 6
  | [] => rfl
  | o :: r => by have := putCells_len r; simp [putCells] at this ⊢; omega
theorem kids_same {l : List Op7} {o : Op7} {x : Int × Int × Int} (h : isKid x o = false) : kidsL (l ++ [o]) x = kidsL l x := by simp [kidsL, List.filter_append, h]
theorem kids_more {l : List Op7} {o : Op7} {x : Int × Int × Int} (h : isKid x o = true) : kidsL (l ++ [o]) x = kidsL l x ++ [o] := by simp [kidsL, List.filter_append, h]

/-- Block b holds kids by their places, each list in a row of its own. -/
def KidsFn (w : World) (b base : Nat) (l : List Op7) (f : Int × Int × Int → Option Value) : Prop :=
  MapFn Tryd.prog 156 w b encSpot f ∧ b < base ∧
  (∀ x, (f x = none ∧ kidsL l x = []) ∨ ∃ v, f x = some v ∧ w.ownsRow base 168 6 v (kidsL l x).length (putCells (kidsL l x))) ∧
  ∀ x y v v', x ≠ y → f x = some v → f y = some v' → v.ownBlock = none ∨ v.ownBlock ≠ v'.ownBlock
theorem KidsFn.at {w : World} {b base : Nat} {l : List Op7} {f : Int × Int × Int → Option Value} (h : KidsFn w b base l f) (x : Int × Int × Int) :
    w.ownsRow base 168 6 ((f x).getD (.slice none 0 0)) (kidsL l x).length (putCells (kidsL l x)) := by
  rcases h.2.2.1 x with ⟨h1, h2⟩ | ⟨v, h1, h2⟩
  · rw [h1, h2]; exact World.ownsRow_nil _ _ _ _
  · rw [h1]; exact h2
theorem KidsFn.kept {w w' : World} {b base : Nat} {row : Option Nat} {l : List Op7} {f : Int × Int × Int → Option Value} (h : KidsFn w b base l f) (hg : w.grownBy w' row) (hr : ∀ j, row = some j → j < base ∧ j ≠ b) : KidsFn w' b base l f := by
  refine ⟨h.1.kept hg (fun e => (hr b e.symm).2 rfl), h.2.1, fun x => ?_, h.2.2.2⟩
  rcases h.2.2.1 x with h1 | ⟨v, h1, h2⟩
  · exact .inl h1
  · refine .inr ⟨v, h1, h2.kept hg ?_⟩
    cases hv : v.ownBlock with
    | none => exact .inl rfl
    | some j =>
      refine .inr fun e => ?_
      have h3 := (h2.lt j hv).1
      have h4 := (hr j e.symm).1
      omega
/-- An entry, made where there is none. -/
theorem KidsFn.entry {w w' : World} {b base : Nat} {l : List Op7} {f : Int × Int × Int → Option Value} (h : KidsFn w b base l f) (x : Int × Int × Int) (hg : w.grownBy w' (some b)) (hM : MapFn Tryd.prog 156 w' b encSpot (upd f x ((f x).getD (.slice none 0 0)))) : KidsFn w' b base l (upd f x ((f x).getD (.slice none 0 0))) := by
  have keep : ∀ {v : Value} {n : Nat} {xs : List Value}, w.ownsRow base 168 6 v n xs → w'.ownsRow base 168 6 v n xs := fun {v n xs} hv => by
    refine hv.kept hg ?_
    cases hb : v.ownBlock with
    | none => exact .inl rfl
    | some j =>
      refine .inr fun e => ?_
      have h1 := (hv.lt j hb).1
      have h2 := Option.some.inj e
      have h3 := h.2.1
      omega
  refine ⟨hM, h.2.1, fun y => ?_, fun y z v v' hyz hy hz => ?_⟩
  · by_cases hy : y = x
    · subst hy
      exact .inr ⟨_, by simp [upd], keep (h.at y)⟩
    · rcases h.2.2.1 y with ⟨h1, h2⟩ | ⟨v, h1, h2⟩
      · exact .inl ⟨by simp [upd, hy, h1], h2⟩
      · exact .inr ⟨v, by simp [upd, hy, h1], keep h2⟩
  · by_cases hy1 : y = x
    · have hz1 : z ≠ x := fun e => hyz (hy1.trans e.symm)
      simp only [upd, hy1, if_true, Option.some.injEq] at hy
      simp only [upd, hz1, if_false] at hz
      cases hf : f x with
      | none => rw [hf] at hy; left; rw [← hy]; rfl
      | some u => rw [hf] at hy; exact h.2.2.2 x z v v' (Ne.symm hz1) (by rw [hf]; simpa using hy) hz
    · simp only [upd, hy1, if_false] at hy
      by_cases hz1 : z = x
      · simp only [upd, hz1, if_true, Option.some.injEq] at hz
        cases hf : f x with
        | none =>
          rw [hf] at hz
          rw [← hz]
          cases hv : v.ownBlock with
          | none => exact .inl rfl
          | some j => exact .inr (by simp [Value.ownBlock])
        | some u => rw [hf] at hz; exact h.2.2.2 y x v v' hy1 hy (by rw [hf]; simpa using hz)
      · simp only [upd, hz1, if_false] at hz
        exact h.2.2.2 y z v v' hyz hy hz
theorem KidsFn.mapKept {w w' : World} {b base : Nat} {l : List Op7} {f : Int × Int × Int → Option Value} (h : KidsFn w b base l f) {x : Int × Int × Int} (hg : w.grownBy w' ((f x).getD (.slice none 0 0)).ownBlock) : MapFn Tryd.prog 156 w' b encSpot f :=
  h.1.kept hg (fun e => by
    have h1 := ((h.at x).lt b e.symm).1
    have h2 := h.2.1
    omega)
/-- With one more. -/
theorem KidsFn.back {w w' w'' : World} {b base : Nat} {l : List Op7} {f : Int × Int × Int → Option Value} (h : KidsFn w b base l f) (hbs : base ≤ w.heap.size) {o : Op7} (hk : o.k = 1) {v' : Value}
    (hg : w.grownBy w' ((f (o.c, o.d, o.s)).getD (.slice none 0 0)).ownBlock)
    (hown : w'.ownsRow base 168 6 v' ((kidsL l (o.c, o.d, o.s)).length + 1) (putCells (kidsL l (o.c, o.d, o.s)) ++ [.int .i64 o.a, .int .i64 o.b, .int .i64 o.c, .int .i64 o.d, .int .i64 o.s, .int .i64 o.g]))
    (hloc : v'.ownBlock = ((f (o.c, o.d, o.s)).getD (.slice none 0 0)).ownBlock ∨ ∃ j, v'.ownBlock = some j ∧ w.heap.size ≤ j)
    (hM : MapFn Tryd.prog 156 w'' b encSpot (upd f (o.c, o.d, o.s) v')) (hg2 : w'.grownBy w'' (some b)) : KidsFn w'' b base (l ++ [o]) (upd f (o.c, o.d, o.s) v') := by
  have hx0 : isKid (o.c, o.d, o.s) o = true := by simp [isKid, hk]
  have hoth : ∀ y, y ≠ (o.c, o.d, o.s) → isKid y o = false := fun y hy => by
    cases hc : isKid y o
    · rfl
    · simp [isKid] at hc
      exact absurd (by rw [hc.2.1, hc.2.2.1, hc.2.2.2]) hy
  have keep2 : ∀ {v : Value} {n : Nat} {xs : List Value}, w'.ownsRow base 168 6 v n xs → w''.ownsRow base 168 6 v n xs := fun {v n xs} hv => by
    refine hv.kept hg2 ?_
    cases hb : v.ownBlock with
    | none => exact .inl rfl
    | some j =>
      refine .inr fun e => ?_
      have h1 := (hv.lt j hb).1
      have h2 := Option.some.inj e
      have h3 := h.2.1
      omega
  refine ⟨hM, h.2.1, fun y => ?_, fun x y v v1 hxy hx hy => ?_⟩
  · by_cases hy : y = (o.c, o.d, o.s)
    · subst hy
      refine .inr ⟨v', by simp [upd], ?_⟩
      rw [kids_more hx0]
      have e1 : putCells (kidsL l (o.c, o.d, o.s) ++ [o]) = putCells (kidsL l (o.c, o.d, o.s)) ++ [.int .i64 o.a, .int .i64 o.b, .int .i64 o.c, .int .i64 o.d, .int .i64 o.s, .int .i64 o.g] := by simp [putCells]
      rw [e1, List.length_append]
      exact keep2 hown
    · rw [kids_same (hoth y hy)]
      rcases h.2.2.1 y with ⟨h1, h2⟩ | ⟨v, h1, h2⟩
      · exact .inl ⟨by simp [upd, hy, h1], h2⟩
      · refine .inr ⟨v, by simp [upd, hy, h1], keep2 (h2.kept hg ?_)⟩
        cases hf : f (o.c, o.d, o.s) with
        | none =>
          cases hv : v.ownBlock with
          | none => exact .inl rfl
          | some j => exact .inr (by simp [Value.ownBlock])
        | some v0 => exact h.2.2.2 y _ v v0 hy h1 hf
  · have old : ∀ y v, y ≠ (o.c, o.d, o.s) → f y = some v → v'.ownBlock = none ∨ (v.ownBlock = none ∨ v.ownBlock ≠ v'.ownBlock) := fun y v hy hv => by
      rcases hloc with hl | ⟨j, hl, hj⟩
      · cases hf : f (o.c, o.d, o.s) with
        | none => left; rw [hl, hf]; rfl
        | some v0 => right; rw [hl, hf]; exact h.2.2.2 y _ v v0 hy hv hf
      · right
        cases hb : v.ownBlock with
        | none => exact .inl rfl
        | some i =>
          right; rw [hl]; intro e
          rcases h.2.2.1 y with ⟨h1, _⟩ | ⟨u, h1, h2⟩
          · rw [h1] at hv; cases hv
          · rw [h1] at hv; obtain rfl := Option.some.inj hv
            have h3 := (h2.lt i hb).2
            have h4 := Option.some.inj e
            omega
    by_cases h1 : x = (o.c, o.d, o.s)
    · have h2 : y ≠ (o.c, o.d, o.s) := fun e => hxy (h1.trans e.symm)
      simp only [upd, h1, if_true, Option.some.injEq] at hx
      simp only [upd, h2, if_false] at hy
      subst hx
      rcases old y v1 h2 hy with e | e | e
      · exact .inl e
      · exact .inr (fun e' => by
          have e2 := e'.trans e
          have := (keep2 hown)
          rcases hown.2 with ⟨_, h0⟩ | ⟨g, cap, cur, hv, _⟩
          · omega
          · rw [hv] at e2; simp [Value.ownBlock] at e2)
      · exact .inr (Ne.symm e)
    · simp only [upd, h1, if_false] at hx
      by_cases h2 : y = (o.c, o.d, o.s)
      · simp only [upd, h2, if_true, Option.some.injEq] at hy
        subst hy
        rcases old x v h1 hx with e | e | e
        · cases hb : v.ownBlock with
          | none => exact .inl rfl
          | some j => exact .inr (by rw [e]; simp)
        · exact .inl e
        · exact .inr e
      · simp only [upd, h2, if_false] at hy
        exact h.2.2.2 x y v v1 hxy hx hy

/-- The tree of what was done lies in three maps. -/
def TreeAt (w : World) (b1 b2 b3 base : Nat) (l : List Op7) : Prop :=
  MapFn Tryd.prog 69 w b1 encId (signF l) ∧ (∃ f, KidsFn w b2 base l f) ∧ MapFn Tryd.prog 69 w b3 encId (takeF l)
theorem TreeAt.below {w w' : World} {b1 b2 b3 base : Nat} {l : List Op7} (h : TreeAt w b1 b2 b3 base l) (hb : Below w.heap.size w w') : TreeAt w' b1 b2 b3 base l := by
  obtain ⟨h1, ⟨f, h2⟩, h3⟩ := h
  have hg : w.grownBy w' none := ⟨hb.os, hb.tape, hb.output, hb.size, fun i hi _ => hb.block i hi⟩
  exact ⟨h1.below hb h1.lt, ⟨f, h2.kept hg (fun j e => by cases e)⟩, h3.below hb h3.lt⟩
end Go.Proofs.YtficnhlkefpfnaaDoor

namespace Go.Proofs.YtficnhlkefpfnaaDoor
open Go.RowKit
open Go.Maps (Keyed)
set_option linter.unusedSimpArgs false

theorem laidOutT : laidOutB Tryd.prog = true := by kernel_rfl
theorem rowId : (69 : TypeId) < Tryd.prog.types.size := of_decide_eq_true (by kernel_rfl)
theorem wideId : (match Tryd.prog.underlying 69 with | some (.array _ _) | some (.struct _) => true | _ => false) = true := by kernel_rfl
set_option maxRecDepth 100000 in
theorem keyedId : Keyed Tryd.prog 69 := Keyed.of_law (deep_law_laid laidOutT (m := 3) (by omega) rowId (by kernel_rfl) wideId)
theorem rowSpot : (156 : TypeId) < Tryd.prog.types.size := of_decide_eq_true (by kernel_rfl)
theorem wideSpot : (match Tryd.prog.underlying 156 with | some (.array _ _) | some (.struct _) => true | _ => false) = true := by kernel_rfl
set_option maxRecDepth 100000 in
theorem keyedSpot : Keyed Tryd.prog 156 := Keyed.of_law (deep_law_laid laidOutT (m := 4) (by omega) rowSpot (by kernel_rfl) wideSpot)

theorem typeSize : Tryd.prog.types.size = 238 := by kernel_rfl
theorem cellsId' : Tryd.prog.cellsOf 69 = 2 := by kernel_rfl
theorem cellsSpot' : Tryd.prog.cellsOf 156 = 3 := by kernel_rfl
theorem cellsInt' : Tryd.prog.cellsOf 3 = 1 := by kernel_rfl
theorem keyTId : Tryd.prog.keyType 69 = true := by kernel_rfl
theorem keyTSpot : Tryd.prog.keyType 156 = true := by kernel_rfl
/-- A number that an int holds. -/
def wf64 (n : Int) : Prop := (Lit.int .i64 n).wf = true
theorem wf_small {n : Int} (h : -9223372036854775808 ≤ n ∧ n ≤ 9223372036854775807) : wf64 n := WalkArith.wf_i64 h
theorem litsInt (d : Nat) {n : Int} (h : wf64 n) : Tryd.prog.keyLits (d + 1) 3 [.int .i64 n] = some [.int .i64 n] := by
  unfold wf64 at h
  simp [Program.keyLits, Tryd.underlying3, h]
theorem litsId (d : Nat) {r m : Int} (h1 : wf64 r) (h2 : wf64 m) : Tryd.prog.keyLits (d + 2) 69 [.int .i64 r, .int .i64 m] = some [.int .i64 r, .int .i64 m] := by
  unfold wf64 at h1 h2
  simp [Program.keyLits, Tryd.underlying69, Tryd.underlying3, cellsId', cellsInt', h1, h2]
theorem key_id {r m : Int} (h1 : wf64 r) (h2 : wf64 m) : ∃ kl, keyOf Tryd.prog 69 (encId (r, m)) = some kl := by
  unfold keyOf
  rw [Tryd.underlying69]
  simp [keyTId, encId, Value.formed, Tryd.underlying69, cellsId', Value.cells, typeSize, litsId _ h1 h2]
theorem litsSpot (d : Nat) {r m s : Int} (h1 : wf64 r) (h2 : wf64 m) (h3 : wf64 s) : Tryd.prog.keyLits (d + 3) 156 [.int .i64 r, .int .i64 m, .int .i64 s] = some [.int .i64 r, .int .i64 m, .int .i64 s] := by
  rw [Program.keyLits.eq_def]
  simp only [Tryd.underlying156]
  simp [cellsSpot', cellsId', cellsInt', litsId d h1 h2, litsInt (d + 1) h3]
theorem key_spot {r m s : Int} (h1 : wf64 r) (h2 : wf64 m) (h3 : wf64 s) : ∃ kl, keyOf Tryd.prog 156 (encSpot (r, m, s)) = some kl := by
  unfold keyOf
  rw [Tryd.underlying156]
  simp [keyTSpot, encSpot, Value.formed, Tryd.underlying156, cellsSpot', Value.cells, typeSize, litsSpot _ h1 h2 h3]
theorem zeroSlice (w : World) : (zeroValue 189).run Tryd.prog w = .ok (.slice none 0 0) w := by kernel_rfl
theorem zeroPut (w : World) : (zeroValue 168).run Tryd.prog w = .ok (.agg #[.int .i64 0, .int .i64 0, .int .i64 0, .int .i64 0, .int .i64 0, .int .i64 0]) w := by kernel_rfl
theorem zeroInt (w : World) : (zeroValue 3).run Tryd.prog w = .ok (.int .i64 0) w := by kernel_rfl
theorem infoPut : (Tryd.prog.info? 168).map (fun i => (i.zero, i.size, i.bytes)) = some (some (.agg #[.int .i64 0, .int .i64 0, .int .i64 0, .int .i64 0, .int .i64 0, .int .i64 0]), 6, 48) := by kernel_rfl

end Go.Proofs.YtficnhlkefpfnaaDoor

namespace Go.Proofs.YtficnhlkefpfnaaDoor
open Go.RowKit
open Go.Maps (Keyed)
set_option linter.unusedSimpArgs false
set_option linter.unusedVariables false

theorem Tryd.asTake (a b c d : Int) (w : World) : (Instr.typeAssert (.iface 170 (.agg #[.int .i64 a, .int .i64 b, .int .i64 c, .int .i64 d])) 137 170 true).run Tryd.prog w = .ok (.tuple #[.agg #[.int .i64 a, .int .i64 b, .int .i64 c, .int .i64 d], .bool true]) w := by kernel_rfl

/-- How far the tree is built. -/
structure TI (w w1 wr : World) (F : Int × Int → Option Value) (L : List Op7) (T : Int × Int → Option Value) : Prop where
  bel : Below w.heap.size w wr
  old : Below w1.heap.size w1 wr
  t0 : wr.cell? ⟨w1.heap.size + 1 + 1 + 1, 0, none⟩ = some (.map (some w1.heap.size))
  t1 : wr.cell? ⟨w1.heap.size + 1 + 1 + 1, 1, none⟩ = some (.map (some (w1.heap.size + 1)))
  t2 : wr.cell? ⟨w1.heap.size + 1 + 1 + 1, 2, none⟩ = some (.map (some (w1.heap.size + 1 + 1)))
  sg : MapFn Tryd.prog 69 wr w1.heap.size encId F
  kd : ∃ f, KidsFn wr (w1.heap.size + 1) (w1.heap.size + 4) L f
  tk : MapFn Tryd.prog 69 wr (w1.heap.size + 1 + 1) encId T
  sz : w1.heap.size + 4 ≤ wr.heap.size
def TInv (w w1 wr : World) (k : Nat) (l : List Op7) : Prop := TI w w1 wr (signF (l.take k)) (l.take k) (takeF (l.take k))
theorem some_ne {i j : Nat} (h : i ≠ j) : some i ≠ some j := fun e => h (Option.some.inj e)
theorem grown_cell {w w' : World} {row : Option Nat} (hg : w.grownBy w' row) {b : Nat} (hb : b < w.heap.size) (hne : some b ≠ row) (o : Nat) : w'.cell? ⟨b, o, none⟩ = w.cell? ⟨b, o, none⟩ := by
  simp [World.cell?, hg.block b hb hne]
theorem below_grown {B : Nat} {w w1 w' : World} {row : Option Nat} (h : Below B w w1) (hg : w1.grownBy w' row) (hB : B ≤ w1.heap.size) (hr : ∀ j, row = some j → B ≤ j) : Below B w w' :=
  ⟨hg.os.trans h.os, hg.tape.trans h.tape, hg.output.trans h.output, Nat.le_trans h.size hg.size, fun i hi => (hg.block i (by omega) (fun e => by have := hr i e.symm; omega)).trans (h.block i hi)⟩

theorem TI.grown {w w1 wr w' : World} {F T : Int × Int → Option Value} {L : List Op7} (h : TI w w1 wr F L T) (hB : w.heap.size ≤ w1.heap.size) (hg : wr.grownBy w' none) : TI w w1 w' F L T := by
  have hs := h.sz
  obtain ⟨f, hf⟩ := h.kd
  exact ⟨below_grown h.bel hg (by omega) (fun j e => by cases e), below_grown h.old hg (by omega) (fun j e => by cases e),
    (grown_cell hg (by omega) (by simp) _).trans h.t0, (grown_cell hg (by omega) (by simp) _).trans h.t1, (grown_cell hg (by omega) (by simp) _).trans h.t2,
    h.sg.kept hg (by simp), ⟨f, hf.kept hg (fun j e => by cases e)⟩, h.tk.kept hg (by simp), Nat.le_trans h.sz hg.size⟩
theorem tinv_put1 {w w1 wr : World} {k : Nat} {l : List Op7} (h : TInv w w1 wr k l) (hB : w.heap.size ≤ w1.heap.size) (o1 o2 : Obj) : TInv w w1 ((wr.alloc o1).alloc o2) k l :=
  TI.grown h hB ((World.grownBy_alloc _ _ none).trans (World.grownBy_alloc _ _ none))
theorem TI.sign {w w1 wr w' : World} {F F' T : Int × Int → Option Value} {L : List Op7} (h : TI w w1 wr F L T) (hB : w.heap.size ≤ w1.heap.size) (hg : wr.grownBy w' (some w1.heap.size)) (hM : MapFn Tryd.prog 69 w' w1.heap.size encId F') : TI w w1 w' F' L T := by
  have hs := h.sz
  obtain ⟨f, hf⟩ := h.kd
  exact ⟨below_grown h.bel hg (by omega) (fun j e => by cases e; omega), below_grown h.old hg (by omega) (fun j e => by cases e; omega),
    (grown_cell hg (by omega) (some_ne (by omega)) _).trans h.t0, (grown_cell hg (by omega) (some_ne (by omega)) _).trans h.t1, (grown_cell hg (by omega) (some_ne (by omega)) _).trans h.t2,
    hM, ⟨f, hf.kept hg (fun j e => by cases e; omega)⟩, h.tk.kept hg (some_ne (by omega)), Nat.le_trans h.sz hg.size⟩
theorem TI.take {w w1 wr w' : World} {F T T' : Int × Int → Option Value} {L : List Op7} (h : TI w w1 wr F L T) (hB : w.heap.size ≤ w1.heap.size) (hg : wr.grownBy w' (some (w1.heap.size + 1 + 1))) (hM : MapFn Tryd.prog 69 w' (w1.heap.size + 1 + 1) encId T') : TI w w1 w' F L T' := by
  have hs := h.sz
  obtain ⟨f, hf⟩ := h.kd
  exact ⟨below_grown h.bel hg (by omega) (fun j e => by cases e; omega), below_grown h.old hg (by omega) (fun j e => by cases e; omega),
    (grown_cell hg (by omega) (some_ne (by omega)) _).trans h.t0, (grown_cell hg (by omega) (some_ne (by omega)) _).trans h.t1, (grown_cell hg (by omega) (some_ne (by omega)) _).trans h.t2,
    h.sg.kept hg (some_ne (by omega)), ⟨f, hf.kept hg (fun j e => by cases e; omega)⟩, hM, Nat.le_trans h.sz hg.size⟩
theorem TI.kids {w w1 w2 w3 w4 : World} {F T : Int × Int → Option Value} {L : List Op7} (h : TI w w1 w2 F L T) (hB : w.heap.size ≤ w1.heap.size) {f : Int × Int × Int → Option Value} (hf : KidsFn w2 (w1.heap.size + 1) (w1.heap.size + 4) L f) {o : Op7} (hk : o.k = 1) {v' : Value}
    (hg : w2.grownBy w3 ((f (o.c, o.d, o.s)).getD (.slice none 0 0)).ownBlock)
    (hown : w3.ownsRow (w1.heap.size + 4) 168 6 v' ((kidsL L (o.c, o.d, o.s)).length + 1) (putCells (kidsL L (o.c, o.d, o.s)) ++ [.int .i64 o.a, .int .i64 o.b, .int .i64 o.c, .int .i64 o.d, .int .i64 o.s, .int .i64 o.g]))
    (hloc : v'.ownBlock = ((f (o.c, o.d, o.s)).getD (.slice none 0 0)).ownBlock ∨ ∃ j, v'.ownBlock = some j ∧ w2.heap.size ≤ j)
    (hM : MapFn Tryd.prog 156 w4 (w1.heap.size + 1) encSpot (upd f (o.c, o.d, o.s) v')) (hg4 : w3.grownBy w4 (some (w1.heap.size + 1))) : TI w w1 w4 F (L ++ [o]) T := by
  have hs := h.sz
  have hs3 := hg.size
  have row : ∀ j, ((f (o.c, o.d, o.s)).getD (.slice none 0 0)).ownBlock = some j → w1.heap.size + 4 ≤ j := fun j e => ((hf.at _).lt j e).1
  have ne : ∀ j, j < w1.heap.size + 4 → some j ≠ ((f (o.c, o.d, o.s)).getD (.slice none 0 0)).ownBlock := fun j hj e => by have := row j e.symm; omega
  have b1 := below_grown h.bel hg (by omega) (fun j e => by have := row j e; omega)
  have b2 := below_grown h.old hg (by omega) (fun j e => by have := row j e; omega)
  have tc : ∀ j, w4.cell? ⟨w1.heap.size + 1 + 1 + 1, j, none⟩ = w2.cell? ⟨w1.heap.size + 1 + 1 + 1, j, none⟩ := fun j =>
    (grown_cell hg4 (by omega) (some_ne (by omega)) j).trans (grown_cell hg (by omega) (ne _ (by omega)) j)
  exact ⟨below_grown b1 hg4 (by omega) (fun j e => by cases e; omega), below_grown b2 hg4 (by omega) (fun j e => by cases e; omega), (tc _).trans h.t0, (tc _).trans h.t1, (tc _).trans h.t2,
    (h.sg.kept hg (ne _ (by omega))).kept hg4 (some_ne (by omega)), ⟨_, hf.back (by omega) hk hg hown hloc hM hg4⟩, (h.tk.kept hg (ne _ (by omega))).kept hg4 (some_ne (by omega)), Nat.le_trans hs (Nat.le_trans hs3 hg4.size)⟩
theorem TI.entry {w w1 wr w' : World} {F T : Int × Int → Option Value} {L : List Op7} (h : TI w w1 wr F L T) (hB : w.heap.size ≤ w1.heap.size) {f : Int × Int × Int → Option Value} (hf : KidsFn wr (w1.heap.size + 1) (w1.heap.size + 4) L f) (x : Int × Int × Int) (hg : wr.grownBy w' (some (w1.heap.size + 1)))
    (hM : MapFn Tryd.prog 156 w' (w1.heap.size + 1) encSpot (upd f x ((f x).getD (.slice none 0 0)))) : TI w w1 w' F L T := by
  have hs := h.sz
  exact ⟨below_grown h.bel hg (by omega) (fun j e => by cases e; omega), below_grown h.old hg (by omega) (fun j e => by cases e; omega),
    (grown_cell hg (by omega) (some_ne (by omega)) _).trans h.t0, (grown_cell hg (by omega) (some_ne (by omega)) _).trans h.t1, (grown_cell hg (by omega) (some_ne (by omega)) _).trans h.t2,
    h.sg.kept hg (some_ne (by omega)), ⟨_, hf.entry x hg hM⟩, h.tk.kept hg (some_ne (by omega)), Nat.le_trans h.sz hg.size⟩
theorem upd_same {α : Type} [DecidableEq α] (f : α → Option Value) (a : α) (v : Value) : upd f a v a = some v := by simp [upd]
theorem ints_one : ∀ {a b c d s g : Int}, ∀ u ∈ [Value.int .i64 a, .int .i64 b, .int .i64 c, .int .i64 d, .int .i64 s, .int .i64 g], u.oneCell' = true := by
  intro a b c d s g u hu
  simp at hu
  rcases hu with rfl | rfl | rfl | rfl | rfl | rfl <;> rfl
/-- The round of a sign that was put, behind its last store. -/
theorem TI.put_end {w w1 w3 w4 w5 : World} {k : Nat} {l : List Op7} {o : Op7} {v0 v' : Value} {f : Int × Int × Int → Option Value} (hB : w.heap.size ≤ w1.heap.size)
    (h3 : TI w w1 w3 (upd (signF (l.take k)) (o.a, o.b) (putV o)) (l.take k) (takeF (l.take k))) (hk3 : KidsFn w3 (w1.heap.size + 1) (w1.heap.size + 4) (l.take k) (upd f (o.c, o.d, o.s) v0)) (hk : o.k = 1) (htk : l.take (k + 1) = l.take k ++ [o])
    (hown : w4.ownsRow (w1.heap.size + 4) 168 6 v' ((kidsL (l.take k) (o.c, o.d, o.s)).length + 1) (putCells (kidsL (l.take k) (o.c, o.d, o.s)) ++ [.int .i64 o.a, .int .i64 o.b, .int .i64 o.c, .int .i64 o.d, .int .i64 o.s, .int .i64 o.g]))
    (hg : w3.grownBy w4 v0.ownBlock) (hloc : v'.ownBlock = v0.ownBlock ∨ v'.ownBlock = some w3.heap.size)
    (hM : MapFn Tryd.prog 156 w5 (w1.heap.size + 1) encSpot (upd (upd f (o.c, o.d, o.s) v0) (o.c, o.d, o.s) v')) (hg5 : w4.grownBy w5 (some (w1.heap.size + 1))) : TInv w w1 w5 (k + 1) l := by
  unfold TInv
  rw [htk, signF_put hk, takeF_put hk]
  refine TI.kids h3 hB hk3 hk (by rw [upd_same]; exact hg) hown ?_ hM hg5
  rw [upd_same]
  exact hloc.imp id (fun e => ⟨_, e, Nat.le_refl _⟩)
/-- The round of a taking: what its operations come to, in either order. -/
theorem take_runs {w w1 W : World} {k : Nat} {l : List Op7} {o : Op7} (hB : w.heap.size ≤ w1.heap.size) (h : TI w w1 W (signF (l.take k)) (l.take k) (takeF (l.take k))) (hk : o.k ≠ 1) (htk : l.take (k + 1) = l.take k ++ [o]) {kl : Lit} (hkl : keyOf Tryd.prog 69 (encId (o.c, o.d)) = some kl) {n : Nat} (hn : takesN (l.take k) (o.c, o.d) = n) :
    ∃ w2 w3 s, (Instr.lookup 150 (.map (some (w1.heap.size + 1 + 1))) (.agg #[.int .i64 o.c, .int .i64 o.d]) false).run Tryd.prog W = .ok (.int .i64 n) W ∧
      (Instr.mapEntry 150 (.map (some (w1.heap.size + 1 + 1))) (.agg #[.int .i64 o.c, .int .i64 o.d])).run Tryd.prog W = .ok (.tuple #[.int .i64 n, .int .i64 (s : Nat)]) w2 ∧
      (Instr.lookup 150 (.map (some (w1.heap.size + 1 + 1))) (.agg #[.int .i64 o.c, .int .i64 o.d]) false).run Tryd.prog w2 = .ok (.int .i64 n) w2 ∧
      (Instr.entryStore 150 (.map (some (w1.heap.size + 1 + 1))) (.int .i64 (s : Nat)) (.int .i64 ((n : Int) + 1))).run Tryd.prog w2 = .ok () w3 ∧
      W.grownBy w2 (some (w1.heap.size + 1 + 1)) ∧ w2.grownBy w3 (some (w1.heap.size + 1 + 1)) ∧ TInv w w1 w3 (k + 1) l := by
  have hg0 : (takeF (l.take k) (o.c, o.d)).getD (.int .i64 0) = .int .i64 (n : Nat) := by rw [takeF_get, hn]
  have hl0 := h.tk.look false keyedId Tryd.underlying150 (zeroInt W) encId_inj (o.c, o.d) hkl
  obtain ⟨w2, s, he, hst, hg2⟩ := h.tk.entry keyedId Tryd.underlying150 (zeroInt W) encId_inj (o.c, o.d) hkl
  rw [hg0] at hl0 he hst
  have hl2 := hst.fn.look false keyedId Tryd.underlying150 (zeroInt w2) encId_inj (o.c, o.d) hkl
  rw [upd_same] at hl2
  obtain ⟨w3, hw, hM3, hg3⟩ := hst.write (t := 150) encId_inj hkl (.int .i64 ((n : Int) + 1))
  refine ⟨w2, w3, s, hl0, he, hl2, hw, hg2, hg3, ?_⟩
  unfold TInv
  rw [htk, signF_take hk, takeF_take hk, hn]
  have h2 := h.take hB hg2 hst.fn
  have h3 := h2.take hB hg3 hM3
  have hupd : upd (upd (takeF (l.take k)) (o.c, o.d) (.int .i64 (n : Nat))) (o.c, o.d) (.int .i64 ((n : Int) + 1)) = upd (takeF (l.take k)) (o.c, o.d) (.int .i64 ((n : Int) + 1)) := by
    funext x; simp only [upd]; split <;> simp
  rw [hupd] at h3
  obtain ⟨f, hf⟩ := h3.kd
  exact ⟨h3.bel, h3.old, h3.t0, h3.t1, h3.t2, h3.sg, ⟨f, hf.1, hf.2.1, fun x => by rw [kids_same (by simp [isKid, hk])]; exact hf.2.2.1 x, hf.2.2.2⟩, h3.tk, h3.sz⟩
theorem TI.drew {w w1 W : World} {F T : Int × Int → Option Value} {L : List Op7} (h : TI w w1 W F L T) : TI w w1 W.drew F L T := by
  obtain ⟨f, hf⟩ := h.kd
  exact ⟨h.bel.drew, h.old.drew, h.t0, h.t1, h.t2, h.sg, ⟨f, hf⟩, h.tk, h.sz⟩
theorem set_cell_grown (w : World) (p : Addr) (v : Value) : w.grownBy (w.setCell p v) (some p.block) :=
  ⟨rfl, rfl, rfl, by simp, fun i hi hne => heap_setCell_other w p i v (fun e => hne (by rw [e]))⟩
theorem cells_new (w : World) (xs : List Value) (t : TypeId) : ∀ j u, xs[j]? = some u → (w.alloc (.cells xs.toArray t)).cell? ((⟨w.heap.size, 0, none⟩ : Addr).add j) = some u := by
  intro j u hj
  rw [Addr.add_lit]
  simp [hj]
theorem kids_le (l : List Op7) (x : Int × Int × Int) : (kidsL l x).length ≤ l.length := List.length_filter_le _ _
theorem okO_num {o : Op7} (h : okO o = true) : (1 ≤ o.a ∧ o.a ≤ 3) ∧ (1 ≤ o.b ∧ o.b ≤ 12) ∧ (0 ≤ o.c ∧ o.c ≤ 3) ∧ (0 ≤ o.d ∧ o.d ≤ 12) ∧ (0 ≤ o.s ∧ o.s ≤ 1) := by
  unfold okO at h; rw [opB_true] at h; omega
theorem opsParts {l : List Op7} (h : opsB l = true) : l.all okO = true ∧ ordB l = true := by
  unfold opsB at h
  simp only [Bool.and_eq_true] at h
  exact ⟨h.1, h.2.1⟩
theorem tinv_start {w w1 : World} {l : List Op7} {T : TypeId} (hB : Below w.heap.size w w1) :
    TInv w w1 ((((w1.alloc (.map #[] 0)).alloc (.map #[] 0)).alloc (.map #[] 0)).alloc (.cells #[.map (some w1.heap.size), .map (some (w1.heap.size + 1)), .map (some (w1.heap.size + 1 + 1))] T)) 0 l := by
  have g1 := World.grownBy_alloc w1 (.map #[] 0) none
  have g2 := World.grownBy_alloc (w1.alloc (.map #[] 0)) (.map #[] 0) none
  have g3 := World.grownBy_alloc ((w1.alloc (.map #[] 0)).alloc (.map #[] 0)) (.map #[] 0) none
  have g4 := World.grownBy_alloc (((w1.alloc (.map #[] 0)).alloc (.map #[] 0)).alloc (.map #[] 0)) (.cells #[.map (some w1.heap.size), .map (some (w1.heap.size + 1)), .map (some (w1.heap.size + 1 + 1))] T) none
  have s1 : (w1.alloc (.map #[] 0)).heap.size = w1.heap.size + 1 := by simp
  have s2 : ((w1.alloc (.map #[] 0)).alloc (.map #[] 0)).heap.size = w1.heap.size + 1 + 1 := by simp
  have g234 := (g2.trans g3).trans g4
  refine ⟨hB.trans ?_, ?_, by simp [go_sem], by simp [go_sem], by simp [go_sem], ?_, ?_, ?_, by simp⟩
  · exact below_grown (Below.refl _ _) (g1.trans g234) (hB.size) (fun j e => by cases e)
  · exact below_grown (Below.refl _ _) (g1.trans g234) (Nat.le_refl _) (fun j e => by cases e)
  · exact (mapFn_made w1 _ _ _).kept g234 (by simp)
  · have h := (mapFn_made (w1.alloc (.map #[] 0)) Tryd.prog 156 encSpot).kept (g3.trans g4) (by simp)
    rw [s1] at h
    exact ⟨_, h, by omega, fun x => .inl ⟨rfl, by simp [kidsL]⟩, fun _ _ _ _ _ h => by cases h⟩
  · have h := (mapFn_made ((w1.alloc (.map #[] 0)).alloc (.map #[] 0)) Tryd.prog 69 encId).kept g4 (by simp)
    rw [s2] at h
    exact h

end Go.Proofs.YtficnhlkefpfnaaDoor

namespace Go.Proofs.YtficnhlkefpfnaaDoor
open Go.RowKit
open Go.Maps (Keyed)
set_option linter.unusedSimpArgs false
set_option linter.unusedVariables false
attribute [local go_sem ↓] Go.wp_at_zero Go.wp_at_succ

set_option maxRecDepth 100000 in
set_option maxHeartbeats 4000000 in
theorem treeOf_low (l : List Op7) (g cap : Nat) (x : Addr) (w : World) (hl : OpsAt w g l) (hn : l.length ≤ 1048576) (hcap : l.length ≤ cap)
    (he : w.cell? ⟨0, 0, none⟩ = some (.iface 200 (.pointer (some x)))) (h0 : 0 < w.heap.size) :
    Calls Tryd.prog 140 #[.slice (some ⟨g, 0, none⟩) l.length cap] w fun e w' =>
      ((opsB l = true ∧ ∃ b1 b2 b3 base, e = .returned (.tuple #[.agg #[.map (some b1), .map (some b2), .map (some b3)], .nilIface]) ∧ TreeAt w' b1 b2 b3 base l ∧ w.heap.size < b1 ∧ w.heap.size < b2 ∧ w.heap.size < b3 ∧ w.heap.size < base) ∨
       (opsB l = false ∧ e = .returned (.tuple #[.agg #[.map none, .map none, .map none], .iface 200 (.pointer (some x))]))) ∧ Below w.heap.size w w' := by
  have HL := hideIt hl
  clear hl
  have hmm := @run_makeMap Tryd.prog
  go_enter Tryd.func140, Tryd.ntmps140
  go_wp2_with fail
  have HB0 : Hid (Below w.heap.size w (w.alloc (.cells #[.map none, .map none, .map none] 152))) := (Below.refl _ _).alloc (Nat.le_refl _) _
  refine (things_any l g cap x _ (HL.out.below HB0.out HL.out.1) hn hcap (errB HB0.out h0 he) (posB HB0.out h0)).mono ?_
  rintro e w1 ⟨(⟨ht, M, hMM, rfl, hT⟩ | ⟨ht, rfl⟩), hb1⟩
  all_goals
    rw [th_same] at ht
    have HT := hideIt ht
    have HB1 := hideIt (Bstep HB0.out hb1)
    have r0 : w1.cell? ⟨w.heap.size, 0, none⟩ = some (.map none) := by rw [(bcell hb1).1 _ _ (by simp)]; simp [go_sem]
    have r1 : w1.cell? ⟨w.heap.size, 1, none⟩ = some (.map none) := by rw [(bcell hb1).1 _ _ (by simp)]; simp [go_sem]
    have r2 : w1.cell? ⟨w.heap.size, 2, none⟩ = some (.map none) := by rw [(bcell hb1).1 _ _ (by simp)]; simp [go_sem]
    have rf : ∀ j, w1.frozen? ⟨w.heap.size, j, none⟩ = false := fun j => by rw [(bcell hb1).2 _ _ (by simp)]; simp [go_sem]
    have hz1 : w.heap.size < w1.heap.size := by have := hb1.size; simp at this; omega
    clear ht hb1
  · have HTT := hideIt hT
    have hM1 := hT.1
    clear hT
    obtain ⟨hok, hord⟩ := opsParts HT.out
    have HOK := hideIt hok
    have HI0 : Hid (TInv w w1 ((((w1.alloc (.map #[] 0)).alloc (.map #[] 0)).alloc (.map #[] 0)).alloc (.cells #[.map (some w1.heap.size), .map (some (w1.heap.size + 1)), .map (some (w1.heap.size + 1 + 1))] 152)) 0 l) := tinv_start HB1.out
    clear hok hord
    go_wp2_with fail
    generalize hTB : w1.heap.size + 1 + 1 + 1 = tb
    go_loopw [27] (fun i wr => ∃ k : Nat, k ≤ l.length ∧ i = .int .i64 k ∧ TInv w w1 wr k l)
      (fun i _ => l.length - (intOf i).toNat)
    case atStart => exact ⟨0, Nat.zero_le _, rfl, HI0.out⟩
    case round =>
      obtain ⟨k, hk, rfl, hI⟩ := hrel
      have HI := hideIt hI
      have t0 := hI.t0
      have t1 := hI.t1
      have t2 := hI.t2
      rw [hTB] at t0 t1 t2
      have hzr := hI.sz
      have HTr := hideIt (HTT.out.below hI.old hM1)
      have hT3 : tb < wr.heap.size := by omega
      have hMr : M < wr.heap.size := by omega
      have hwr : w.heap.size < wr.heap.size := by omega
      have q0 := ((bcell hI.old).1 w.heap.size 0 hz1).trans r0
      have q1 := ((bcell hI.old).1 w.heap.size 1 hz1).trans r1
      have q2 := ((bcell hI.old).1 w.heap.size 2 hz1).trans r2
      have qf : ∀ j, wr.frozen? ⟨w.heap.size, j, none⟩ = false := fun j => ((bcell hI.old).2 w.heap.size j hz1).trans (rf j)
      clear hI HI0
      by_cases hlt : k < l.length
      · have hc := HTr.out.2 k l[k] (by simp [hlt])
        have hoo := all_iff.1 HOK.out k hlt
        have htk : Hid (l.take (k + 1) = l.take k ++ [l[k]]) := List.take_succ_eq_append_getElem hlt
        generalize l[k] = o at *
        have hlt' : (k : Int) < (l.length : Int) := by omega
        have hk0 : (0 : Int) ≤ (k : Int) := by omega
        have as1 := Tryd.asPut
        have as2 := Tryd.asNoPut
        have as3 := Tryd.asTake
        have hnum := okO_num hoo
        rcases thV_cases hoo with ⟨e1, e2⟩ | ⟨e1, e2⟩
        · rw [e1] at hc
          have hS := tinv_put1 HI.out (Nat.le_of_lt hz1) (.cells #[.int .i64 o.a, .int .i64 o.b, .int .i64 o.c, .int .i64 o.d, .int .i64 o.s, .int .i64 o.g] 168) (.cells #[.int .i64 o.c, .int .i64 o.d, .int .i64 o.s] 156)
          have HS := hideIt hS
          obtain ⟨kl, hkl⟩ := key_id (r := o.a) (m := o.b) (wf_small (by omega)) (wf_small (by omega))
          obtain ⟨ks, hks⟩ := key_spot (r := o.c) (m := o.d) (s := o.s) (wf_small (by omega)) (wf_small (by omega)) (wf_small (by omega))
          have HKL := hideIt hkl
          have HKS := hideIt hks
          obtain ⟨i0, hi, hz0, hz1', hz2⟩ := info_parts infoPut
          have HI1 := hideIt hi
          have HZ0 := hideIt hz0
          have HZ1 := hideIt hz1'
          have HZ2 := hideIt hz2
          have hkl1 := kids_le (l.take k) (o.c, o.d, o.s)
          have hkl2 : (l.take k).length ≤ k := List.length_take_le _ _
          clear hS hkl hks hi hz0 hz1' hz2
          go_wp2_with (first
            | (at_mapUpdate; refine wpList_store_fn (t := 148) (e := 168) rfl _ _ _ rfl keyedId Tryd.underlying148 encId_inj rfl HS.out.sg (o.a, o.b) rfl kl HKL.out _ rfl ?_; intro w2 hM2 hg2; have H2 := hideIt (TI.sign HS.out (Nat.le_of_lt hz1) hg2 hM2);
                have c2 : ∀ j, w2.cell? ⟨wr.heap.size, j, none⟩ = _ := (fun j => grown_cell hg2 (by simp; omega) (by simp; omega) j);
                have d2 : ∀ j, w2.cell? ⟨wr.heap.size + 1, j, none⟩ = _ := (fun j => grown_cell hg2 (by simp) (by simp; omega) j);
                have s2 : wr.heap.size + 1 < w2.heap.size := (by have := hg2.size; simp at this; omega); have s2' : wr.heap.size < w2.heap.size := (by omega);
                have u0 := H2.out.t0; have u1 := H2.out.t1; have u2 := H2.out.t2; rw [hTB] at u0 u1 u2; have hT4 : tb < w2.heap.size := (by omega); clear hM2 hg2)
            | (have H2a := hideIt (TI.grown H2.out (Nat.le_of_lt hz1) (World.grownBy_alloc w2 (.cells #[.int .i64 o.a, .int .i64 o.b, .int .i64 o.c, .int .i64 o.d, .int .i64 o.s, .int .i64 o.g] 168) none)); obtain ⟨f, hf⟩ := H2a.out.kd; obtain ⟨v0, hv0⟩ : ∃ v0, (f (o.c, o.d, o.s)).getD (.slice none 0 0) = v0 := ⟨_, rfl⟩;
                refine wpList_entry_fn (t := 149) (e := 189) rfl _ _ rfl keyedSpot Tryd.underlying149 (.slice none 0 0) (zeroSlice _) encSpot_inj rfl hf.1 (o.c, o.d, o.s) rfl ks HKS.out v0 hv0 ?_; intro w3 sx hM3 hg3;
                have HM3 := hideIt hM3; have H3 := hideIt (TI.entry H2a.out (Nat.le_of_lt hz1) hf (o.c, o.d, o.s) hg3 (by rw [hv0]; exact hM3.fn));
                have HK3 : Hid (KidsFn w3 (w1.heap.size + 1) (w1.heap.size + 4) (l.take k) (upd f (o.c, o.d, o.s) v0)) := (by have h := hf.entry (o.c, o.d, o.s) hg3 (by rw [hv0]; exact hM3.fn); rw [hv0] at h; exact h);
                have HOW : Hid (w3.ownsRow (w1.heap.size + 4) 168 6 v0 (kidsL (l.take k) (o.c, o.d, o.s)).length (putCells (kidsL (l.take k) (o.c, o.d, o.s)))) := (by have h := HK3.out.at (o.c, o.d, o.s); rw [upd_same] at h; exact h);
                have HNW : Hid (∀ j u, ([.int .i64 o.a, .int .i64 o.b, .int .i64 o.c, .int .i64 o.d, .int .i64 o.s, .int .i64 o.g] : List Value)[j]? = some u → w3.cell? ((⟨w2.heap.size, 0, none⟩ : Addr).add j) = some u) := (fun j u hj => by have h := cells_new w2 [.int .i64 o.a, .int .i64 o.b, .int .i64 o.c, .int .i64 o.d, .int .i64 o.s, .int .i64 o.g] 168 j u hj; rw [Addr.add_lit] at h ⊢; rw [grown_cell hg3 (by simp) (some_ne (by omega))]; exact h);
                have s3 : w1.heap.size + 4 ≤ w3.heap.size := H3.out.sz; clear hM3 hg3 hf H2a)
            | (at_builtin; refine wpList_append_own_at _ rfl _ _ 189 rfl (w1.heap.size + 4) 168 i0 _ 6 48 Tryd.underlying189 HI1.out HZ0.out HZ1.out HZ2.out rfl (by decide) v0 _ _ rfl HOW.out ⟨w2.heap.size, 0, none⟩ 1 1 [.int .i64 o.a, .int .i64 o.b, .int .i64 o.c, .int .i64 o.d, .int .i64 o.s, .int .i64 o.g] rfl rfl HNW.out ints_one (by unfold maxLen; omega) (by omega) s3 ?_; intro v' w4 hown4 hg4 _ hloc;
                have HO4 := hideIt hown4; have HG4 := hideIt hg4; have HLC := hideIt hloc; clear hown4 hg4 hloc)
            | (refine wpList_write_fn (t := 149) rfl _ _ _ rfl encSpot_inj rfl (HM3.out.kept HG4.out (fun e => by have h1 := (HOW.out.lt _ e.symm).1; omega)) rfl ks HKS.out _ rfl ?_; intro w5 hM5 hg5; have HEND := hideIt (TI.put_end (Nat.le_of_lt hz1) H3.out HK3.out e2 htk.out HO4.out HG4.out HLC.out hM5 hg5); clear hM5 hg5))
          exact ⟨⟨k + 1, by omega, by go_num, HEND.out⟩, by simp [intOf]; omega⟩
        · rw [e1] at hc
          have hne1 : o.k ≠ 1 := by omega
          obtain ⟨kl, hkl⟩ := key_id (r := o.c) (m := o.d) (wf_small (by omega)) (wf_small (by omega))
          obtain ⟨nn, hnn⟩ : ∃ nn, takesN (l.take k) (o.c, o.d) = nn := ⟨_, rfl⟩
          have hnl : nn ≤ 1048576 := by
            have h1 := takesN_le (l.take k) (o.c, o.d)
            have h2 : (l.take k).length ≤ k := List.length_take_le _ _
            omega
          have HW := hideIt (TI.drew (TI.grown HI.out (Nat.le_of_lt hz1) (World.grownBy_alloc wr (.cells #[.int .i64 o.a, .int .i64 o.b, .int .i64 o.c, .int .i64 o.d] 170) none)))
          obtain ⟨w2, w3, sx, L0, E0, L2, S2, hg2, hg3, hEND⟩ := take_runs (Nat.le_of_lt hz1) HW.out hne1 htk.out hkl hnn
          have HEND := hideIt hEND
          have n0 : (0 : Int) ≤ (nn : Int) := by omega
          have n1 : (nn : Int) ≤ 1048576 := by omega
          have hwn : IntKind.i64.wrap ((nn : Int) + 1) = (nn : Int) + 1 := IntWalk.i64_in _ ⟨by omega, by omega⟩
          have z2 := hg2.size
          simp at z2
          have k1 : (wr.alloc (.cells #[.int .i64 o.a, .int .i64 o.b, .int .i64 o.c, .int .i64 o.d] 170)).drew.cell? ⟨tb, 2, none⟩ = some (.map (some (w1.heap.size + 1 + 1))) ∧ (wr.alloc (.cells #[.int .i64 o.a, .int .i64 o.b, .int .i64 o.c, .int .i64 o.d] 170)).drew.cell? ⟨wr.heap.size, 2, none⟩ = some (.int .i64 o.c) ∧ (wr.alloc (.cells #[.int .i64 o.a, .int .i64 o.b, .int .i64 o.c, .int .i64 o.d] 170)).drew.cell? ⟨wr.heap.size, 3, none⟩ = some (.int .i64 o.d) := by
            refine ⟨?_, by simp [go_sem], by simp [go_sem]⟩
            have := HW.out.t2
            rw [hTB] at this
            exact this
          have k2 : w2.cell? ⟨tb, 2, none⟩ = some (.map (some (w1.heap.size + 1 + 1))) ∧ w2.cell? ⟨wr.heap.size, 2, none⟩ = some (.int .i64 o.c) ∧ w2.cell? ⟨wr.heap.size, 3, none⟩ = some (.int .i64 o.d) :=
            ⟨(grown_cell hg2 (by simp; omega) (some_ne (by omega)) _).trans k1.1, (grown_cell hg2 (by simp) (some_ne (by omega)) _).trans k1.2.1, (grown_cell hg2 (by simp) (some_ne (by omega)) _).trans k1.2.2⟩
          have k3 : w3.cell? ⟨tb, 2, none⟩ = some (.map (some (w1.heap.size + 1 + 1))) ∧ w3.cell? ⟨wr.heap.size, 2, none⟩ = some (.int .i64 o.c) ∧ w3.cell? ⟨wr.heap.size, 3, none⟩ = some (.int .i64 o.d) :=
            ⟨(grown_cell hg3 (by omega) (some_ne (by omega)) _).trans k2.1, (grown_cell hg3 (by omega) (some_ne (by omega)) _).trans k2.2.1, (grown_cell hg3 (by omega) (some_ne (by omega)) _).trans k2.2.2⟩
          have K1 := hideIt k1
          have K2 := hideIt k2
          have K3 := hideIt k3
          clear k1 k2 k3 hg2 hg3 hEND hkl hnn
          go_wp2_with fail
          go_region_held3 (fun w' => w'.cell? ⟨tb, 2, none⟩ = some (.map (some (w1.heap.size + 1 + 1))) ∧ w'.cell? ⟨wr.heap.size, 2, none⟩ = some (.int .i64 o.c) ∧ w'.cell? ⟨wr.heap.size, 3, none⟩ = some (.int .i64 o.d))
            (first | exact K1.out | exact K2.out | exact K3.out)
            (fail)
          all_goals
            go_wp2
            exact ⟨⟨k + 1, by omega, by go_num, HEND.out⟩, by simp [intOf]; omega⟩
      · obtain rfl : k = l.length := by omega
        have HEND := hideIt HI.out
        go_wp2
        refine bodyPost_ret (v := .tuple #[.agg #[.map (some w1.heap.size), .map (some (w1.heap.size + 1)), .map (some (w1.heap.size + 1 + 1))], .nilIface]) (by simp [results, Tryd.results140, go_sem, q0, q1, q2, t0, t1, t2]) rfl ⟨.inl ⟨HT.out, _, _, _, w1.heap.size + 4, rfl, ?_, by omega, by omega, by omega, by omega⟩, ?_⟩
        · have h := HEND.out
          unfold TInv at h
          rw [List.take_length] at h
          obtain ⟨f, hf⟩ := h.kd
          have hg := ((set_cell_grown wr ⟨w.heap.size, 0, none⟩ (.map (some w1.heap.size))).trans (set_cell_grown _ ⟨w.heap.size, 1, none⟩ (.map (some (w1.heap.size + 1))))).trans (set_cell_grown _ ⟨w.heap.size, 2, none⟩ (.map (some (w1.heap.size + 1 + 1))))
          exact ⟨h.sg.kept hg (some_ne (by show w1.heap.size ≠ w.heap.size; omega)), ⟨f, hf.kept hg (fun j e => by have e' := Option.some.inj e; dsimp only at e'; omega)⟩, h.tk.kept hg (some_ne (by show w1.heap.size + 1 + 1 ≠ w.heap.size; omega))⟩
        · exact ((HEND.out.bel.setCell (Nat.le_refl _) _).setCell (Nat.le_refl _) _).setCell (Nat.le_refl _) _
  · go_wp2
    refine bodyPost_ret (v := .tuple #[.agg #[.map none, .map none, .map none], .iface 200 (.pointer (some x))]) (by simp [results, Tryd.results140, go_sem, r0, r1, r2]) rfl ⟨.inr ⟨HT.out, rfl⟩, ?_⟩
    exact ((HB1.out.setCell (Nat.le_refl _) _).setCell (Nat.le_refl _) _).setCell (Nat.le_refl _) _
theorem treeOf_any (l : List Op7) (g cap : Nat) (x : Addr) (w : World) (hl : OpsAt w g l) (hn : l.length ≤ 1048576) (hcap : l.length ≤ cap)
    (he : w.cell? ⟨0, 0, none⟩ = some (.iface 200 (.pointer (some x)))) (h0 : 0 < w.heap.size) :
    Calls Tryd.prog 140 #[.slice (some ⟨g, 0, none⟩) l.length cap] w fun e w' =>
      ((opsB l = true ∧ ∃ b1 b2 b3 base, e = .returned (.tuple #[.agg #[.map (some b1), .map (some b2), .map (some b3)], .nilIface]) ∧ TreeAt w' b1 b2 b3 base l) ∨
       (opsB l = false ∧ e = .returned (.tuple #[.agg #[.map none, .map none, .map none], .iface 200 (.pointer (some x))]))) ∧ Below w.heap.size w w' :=
  (treeOf_low l g cap x w hl hn hcap he h0).mono fun e w' ⟨h, hb⟩ => ⟨h.elim (fun ⟨h1, b1, b2, b3, base, h2, h3, _⟩ => .inl ⟨h1, b1, b2, b3, base, h2, h3⟩) .inr, hb⟩
theorem TreeAt.low {w w' : World} {b1 b2 b3 base j : Nat} {l : List Op7} (h : TreeAt w b1 b2 b3 base l) (hg : w.grownBy w' (some j)) (h1 : j < b1) (h2 : j < b2) (h3 : j < b3) (h4 : j < base) : TreeAt w' b1 b2 b3 base l := by
  obtain ⟨a1, ⟨f, a2⟩, a3⟩ := h
  exact ⟨a1.kept hg (some_ne (by omega)), ⟨f, a2.kept hg (fun k e => by have e' := Option.some.inj e; omega)⟩, a3.kept hg (some_ne (by omega))⟩
end Go.Proofs.YtficnhlkefpfnaaDoor

namespace Go.Proofs.YtficnhlkefpfnaaDoor
open Go.RowKit
set_option linter.unusedSimpArgs false
set_option linter.unusedVariables false

/-- All signs on a side of one, n levels deep. -/
def sideO (l : List Op7) : Nat → Int × Int × Int → List Op7
  | 0, _ => []
  | n + 1, x => (kidsL l x).flatMap fun o => sideO l n (o.a, o.b, 0) ++ o :: sideO l n (o.a, o.b, 1)
/-- An id to which one comes from nothing in d steps. -/
inductive Up (l : List Op7) : Nat → Int × Int → Prop
  | zero : Up l 0 (0, 0)
  | step {d : Nat} {o : Op7} (hm : o ∈ l) (hk : o.k = 1) (h : Up l d (o.c, o.d)) : Up l (d + 1) (o.a, o.b)
theorem mem_kids {l : List Op7} {x : Int × Int × Int} {o : Op7} (h : o ∈ kidsL l x) : o ∈ l ∧ o.k = 1 ∧ x = (o.c, o.d, o.s) := by
  unfold kidsL at h
  obtain ⟨h1, h2⟩ := List.mem_filter.1 h
  simp [isKid] at h2
  exact ⟨h1, h2.1, by rw [h2.2.1, h2.2.2.1, h2.2.2.2]⟩
theorem up_kid {l : List Op7} {x : Int × Int × Int} {o : Op7} {d : Nat} (h : o ∈ kidsL l x) (hu : Up l d (x.1, x.2.1)) : Up l (d + 1) (o.a, o.b) := by
  obtain ⟨h1, h2, rfl⟩ := mem_kids h
  exact Up.step h1 h2 hu
theorem once_eq {l : List Op7} (h1 : OnceIds l) {o p : Op7} (ho : o ∈ l) (hp : p ∈ l) (ha : o.a = p.a) (hb : o.b = p.b) : o = p := by
  obtain ⟨i, hi⟩ := List.mem_iff_getElem?.1 ho
  obtain ⟨j, hj⟩ := List.mem_iff_getElem?.1 hp
  obtain rfl := h1 i j o p hi hj ha hb
  exact Option.some.inj (hi.symm.trans hj)
theorem up_inv {l : List Op7} {d : Nat} {x : Int × Int} (h : Up l d x) : (d = 0 ∧ x = (0, 0)) ∨ ∃ e o, d = e + 1 ∧ o ∈ l ∧ o.k = 1 ∧ Up l e (o.c, o.d) ∧ x = (o.a, o.b) := by
  cases h with
  | zero => exact .inl ⟨rfl, rfl⟩
  | step hm hk h => exact .inr ⟨_, _, rfl, hm, hk, h, rfl⟩
theorem op_pos {l : List Op7} (hok : l.all okO = true) {o : Op7} (h : o ∈ l) : 1 ≤ o.a := (okO_id (List.all_eq_true.1 hok o h)).1
theorem up_once {l : List Op7} (hok : l.all okO = true) (h1 : OnceIds l) : ∀ {d d' : Nat} {x : Int × Int}, Up l d x → Up l d' x → d = d' := by
  intro d
  induction d with
  | zero =>
    intro d' x h h'
    rcases up_inv h with ⟨_, rfl⟩ | ⟨e, o, he, _⟩
    · rcases up_inv h' with ⟨rfl, _⟩ | ⟨e', o', _, hm, _, _, hx⟩
      · rfl
      · have := op_pos hok hm
        have := congrArg Prod.fst hx
        simp at this
        omega
    · omega
  | succ d ih =>
    intro d' x h h'
    rcases up_inv h with ⟨h0, _⟩ | ⟨e, o, he, hm, hk, hu, rfl⟩
    · omega
    · obtain rfl : e = d := by omega
      rcases up_inv h' with ⟨_, hx⟩ | ⟨e', o', rfl, hm', _, hu', hx⟩
      · have := op_pos hok hm
        have := congrArg Prod.fst hx
        simp at this
        omega
      · obtain rfl := once_eq h1 hm hm' (congrArg Prod.fst hx) (congrArg Prod.snd hx)
        rw [ih hu hu']
theorem find_self {l : List Op7} (h1 : OnceIds l) {o : Op7} (hm : o ∈ l) : l.find? (hasId o.a o.b) = some o := by
  cases hf : l.find? (hasId o.a o.b) with
  | none =>
    have := List.find?_eq_none.1 hf o hm
    simp [hasId] at this
  | some p =>
    have h2 := List.find?_some hf
    have h3 : p.a = o.a ∧ p.b = o.b := by simpa [hasId] using h2
    rw [once_eq h1 (List.mem_of_find?_eq_some hf) hm h3.1 h3.2]
theorem nextO_find' (l : List Op7) (o : Op7) : nextO l o = l.find? (hasId o.c o.d) := by
  unfold nextO
  have : ∀ (l : List Op7) (p : Op7 → Bool), (match l.findIdx? p with | some i => l[i]? | none => none) = l.find? p := by
    intro l p
    induction l with
    | nil => rfl
    | cons a r ih =>
      rw [List.findIdx?_cons, List.find?_cons]
      cases h : p a
      · simp only [Bool.false_eq_true, if_false]
        rw [← ih]
        cases r.findIdx? p <;> simp
      · simp
  exact this _ _
theorem up_deep {l : List Op7} (hok : l.all okO = true) (h1 : OnceIds l) : ∀ (d n : Nat) (o : Op7), o ∈ l → Up l d (o.c, o.d) → deepF l n o = true → d + 1 ≤ n := by
  intro d
  induction d with
  | zero =>
    intro n o _ _ hd
    rcases n with _ | n
    · simp [deepF] at hd
    · omega
  | succ d ih =>
    intro n o _ hu hd
    rcases n with _ | n
    · simp [deepF] at hd
    · rcases up_inv hu with ⟨h0, _⟩ | ⟨e, p, he, hm, hk, hu', hx⟩
      · omega
      · obtain rfl : e = d := by omega
        have ha : o.c = p.a := congrArg Prod.fst hx
        have hb : o.d = p.b := congrArg Prod.snd hx
        have hp := op_pos hok hm
        have hno : noB o.c o.d = false := by unfold noB; exact decide_eq_false (by omega)
        unfold deepF at hd
        rw [hno, nextO_find', ha, hb, find_self h1 hm] at hd
        have := ih n p hm hu' (by simpa using hd)
        omega
theorem up_le {l : List Op7} (h : opsB l = true) {d : Nat} {x : Int × Int} (hu : Up l d x) : d ≤ l.length + 1 := by
  obtain ⟨hok, hord⟩ := opsParts h
  have hdeep : l.all (deepF l (l.length + 1)) = true := by
    unfold opsB at h
    simp only [Bool.and_eq_true] at h
    exact h.2.2.2
  rcases up_inv hu with ⟨rfl, _⟩ | ⟨e, o, rfl, hm, hk, hu', _⟩
  · omega
  · exact up_deep hok (once_of hok hord) e _ o hm hu' (List.all_eq_true.1 hdeep o hm)

/-- p stands beside x, or beside what does, j signs between. -/
def Desc (l : List Op7) : Nat → Int × Int × Int → Op7 → Prop
  | 0, x, p => p ∈ kidsL l x
  | j + 1, x, p => ∃ o s, o ∈ kidsL l x ∧ Desc l j (o.a, o.b, s) p
theorem desc_side {l : List Op7} (h1 : OnceIds l) : ∀ (j : Nat) {x x' : Int × Int × Int} {p : Op7}, Desc l j x p → Desc l j x' p → x = x' := by
  intro j
  induction j with
  | zero =>
    intro x x' p h h'
    rw [(mem_kids h).2.2, (mem_kids h').2.2]
  | succ j ih =>
    rintro x x' p ⟨o, s, ho, hd⟩ ⟨o', s', ho', hd'⟩
    have e := ih hd hd'
    have ha : o.a = o'.a := congrArg Prod.fst e
    have hb : o.b = o'.b := congrArg (fun y => y.2.1) e
    obtain rfl := once_eq h1 (mem_kids ho).1 (mem_kids ho').1 ha hb
    rw [(mem_kids ho).2.2, (mem_kids ho').2.2]
theorem desc_mem {l : List Op7} : ∀ (j : Nat) {x : Int × Int × Int} {p : Op7}, Desc l j x p → p ∈ l := by
  intro j
  induction j with
  | zero => intro x p h; exact (mem_kids h).1
  | succ j ih => rintro x p ⟨o, s, _, hd⟩; exact ih hd
theorem desc_up {l : List Op7} : ∀ (j : Nat) {x : Int × Int × Int} {p : Op7} {d : Nat}, Desc l j x p → Up l d (x.1, x.2.1) → Up l (d + j + 1) (p.a, p.b) := by
  intro j
  induction j with
  | zero => intro x p d h hu; exact up_kid h hu
  | succ j ih =>
    rintro x p d ⟨o, s, ho, hd⟩ hu
    have := ih hd (up_kid ho hu)
    rw [show d + (j + 1) + 1 = d + 1 + j + 1 by omega]
    exact this
theorem side_desc {l : List Op7} : ∀ (n : Nat) {x : Int × Int × Int} {p : Op7}, p ∈ sideO l n x → ∃ j, Desc l j x p := by
  intro n
  induction n with
  | zero => intro x p h; simp [sideO] at h
  | succ n ih =>
    intro x p h
    unfold sideO at h
    obtain ⟨o, ho, hp⟩ := List.mem_flatMap.1 h
    rcases List.mem_append.1 hp with hp | hp
    · obtain ⟨j, hj⟩ := ih hp
      exact ⟨j + 1, o, 0, ho, hj⟩
    · rcases List.mem_cons.1 hp with rfl | hp
      · exact ⟨0, ho⟩
      · obtain ⟨j, hj⟩ := ih hp
        exact ⟨j + 1, o, 1, ho, hj⟩
/-- What stands beside two places of one depth stands beside one of them alone. -/
theorem desc_apart {l : List Op7} (hok : l.all okO = true) (h1 : OnceIds l) {d i j : Nat} {x x' : Int × Int × Int} {p : Op7} (hx : Up l d (x.1, x.2.1)) (hx' : Up l d (x'.1, x'.2.1)) (h : Desc l i x p) (h' : Desc l j x' p) : x = x' := by
  have e := up_once hok h1 (desc_up i h hx) (desc_up j h' hx')
  obtain rfl : i = j := by omega
  exact desc_side h1 i h h'
theorem nodup_side {l : List Op7} (hok : l.all okO = true) (h1 : OnceIds l) (hl : l.Nodup) : ∀ (n d : Nat) (x : Int × Int × Int), Up l d (x.1, x.2.1) → (sideO l n x).Nodup := by
  intro n
  induction n with
  | zero => intro d x _; simp [sideO]
  | succ n ih =>
    intro d x hu
    unfold sideO
    have hk : (kidsL l x).Nodup := hl.filter _
    have hall : ∀ o ∈ kidsL l x, Up l (d + 1) (o.a, o.b) ∧ o ∈ l := fun o ho => ⟨up_kid ho hu, (mem_kids ho).1⟩
    revert hk hall
    generalize kidsL l x = K
    intro hk hall
    induction K with
    | nil => simp
    | cons o r ihr =>
      rw [List.flatMap_cons]
      obtain ⟨hor, hr⟩ := List.nodup_cons.1 hk
      obtain ⟨huo, hmo⟩ := hall o (by simp)
      have own : ∀ s p j, Desc l j (o.a, o.b, s) p → p ≠ o := fun s p j hd e => by
        subst e
        have := up_once hok h1 huo (desc_up j hd huo)
        omega
      refine List.nodup_append.2 ⟨?_, ihr hr (fun q hq => hall q (by simp [hq])), ?_⟩
      · refine List.nodup_append.2 ⟨ih _ _ huo, List.nodup_cons.2 ⟨fun hc => ?_, ih _ _ huo⟩, fun a ha b hb e => ?_⟩
        · obtain ⟨j, hj⟩ := side_desc n hc
          exact own _ _ _ hj rfl
        · subst e
          obtain ⟨i, hi⟩ := side_desc n ha
          rcases List.mem_cons.1 hb with rfl | hb
          · exact own _ _ _ hi rfl
          · obtain ⟨j, hj⟩ := side_desc n hb
            have := desc_apart hok h1 huo huo hi hj
            simp at this
      · intro a ha b hb e
        subst e
        obtain ⟨q, hq, hb⟩ := List.mem_flatMap.1 hb
        obtain ⟨huq, hmq⟩ := hall q (by simp [hq])
        have hne : q ≠ o := fun e => hor (e ▸ hq)
        have at' : ∀ (y : Op7), a ∈ sideO l n (y.a, y.b, 0) ++ y :: sideO l n (y.a, y.b, 1) → (a = y) ∨ ∃ s j, Desc l j (y.a, y.b, s) a := fun y hy => by
          rcases List.mem_append.1 hy with hy | hy
          · obtain ⟨j, hj⟩ := side_desc n hy; exact .inr ⟨0, j, hj⟩
          · rcases List.mem_cons.1 hy with rfl | hy
            · exact .inl rfl
            · obtain ⟨j, hj⟩ := side_desc n hy; exact .inr ⟨1, j, hj⟩
        rcases at' o ha with rfl | ⟨s, j, hj⟩ <;> rcases at' q hb with h2 | ⟨s', j', hj'⟩
        · exact hne h2.symm
        · have := up_once hok h1 huo (desc_up j' hj' huq); omega
        · subst h2; have := up_once hok h1 huq (desc_up j hj huo); omega
        · have e := desc_apart hok h1 huo huq hj hj'
          exact hne (once_eq h1 hmq hmo (congrArg Prod.fst e).symm (congrArg (fun y => y.2.1) e).symm)
open Classical in
theorem nodup_le {α : Type} : ∀ (a b : List α), a.Nodup → (∀ x ∈ a, x ∈ b) → a.length ≤ b.length
  | [], b, _, _ => Nat.zero_le _
  | x :: r, b, h, hs => by
    obtain ⟨hx, hr⟩ := List.nodup_cons.1 h
    have hb : x ∈ b := hs x (by simp)
    have := nodup_le r (b.erase x) hr (fun y hy => (List.mem_erase_of_ne (fun (e : y = x) => hx (by rw [← e]; exact hy))).2 (hs y (by simp [hy])))
    have hl := List.length_erase_of_mem hb
    have hpos : 0 < b.length := List.length_pos_of_mem hb
    simp only [List.length_cons]
    omega
theorem nodup_of_once {l : List Op7} (h1 : OnceIds l) : l.Nodup := by
  refine List.pairwise_iff_getElem.2 fun i j hi hj hij e => ?_
  have := h1 i j l[i] l[j] (by simp [hi]) (by simp [hj]) (by rw [e]) (by rw [e])
  omega
theorem side_len {l : List Op7} (h : opsB l = true) {n d : Nat} {x : Int × Int × Int} (hu : Up l d (x.1, x.2.1)) : (sideO l n x).length ≤ l.length := by
  obtain ⟨hok, hord⟩ := opsParts h
  have h1 := once_of hok hord
  exact nodup_le _ _ (nodup_side hok h1 (nodup_of_once h1) n d x hu) (fun p hp => by obtain ⟨j, hj⟩ := side_desc n hp; exact desc_mem j hj)
/-- All signs, as they stand. -/
def allO (l : List Op7) : List Op7 := sideO l (l.length + 2) (0, 0, 1)
end Go.Proofs.YtficnhlkefpfnaaDoor

namespace Go.Proofs.YtficnhlkefpfnaaDoor
open Go.RowKit
set_option linter.unusedSimpArgs false
set_option linter.unusedVariables false

set_option maxHeartbeats 1000000 in
theorem l1Order_any (l : List Op7) (g cap : Nat) (w : World) (hl : OpsAt w g l) (hn : l.length ≤ 1048576) (hcap : l.length ≤ cap) (hok : l.all okO = true) :
    Calls Tryd.prog 90 #[.slice (some ⟨g, 0, none⟩) l.length cap] w fun e w' => e = .returned (.bool (ordB l)) ∧ Below w.heap.size w w' := by
  go_enter Tryd.func90, Tryd.ntmps90
  go_wp2
  go_loopw [3] (fun i wr => ∃ k : Nat, k ≤ l.length ∧ i = .int .i64 k ∧ (∀ j, j < k → stepAt l j = true) ∧ Below w.heap.size w wr)
    (fun i _ => l.length - (intOf i).toNat)
  case atStart => exact ⟨0, Nat.zero_le _, rfl, fun j h => by omega, by go_grown⟩
  case round =>
    obtain ⟨k, hk, rfl, hno, hB⟩ := hrel
    have HN : Hid (∀ j, j < k → stepAt l j = true) := hno
    have HB : Hid (Below w.heap.size w wr) := hB
    have HO : Hid (l.all okO = true) := hok
    clear hno
    by_cases hlt : k < l.length
    · have hnext : Hid (stepAt l k = true → ∀ j, j < k + 1 → stepAt l j = true) := fun hf j hj1 => by
        rcases Nat.lt_or_ge j k with h | h
        · exact HN.out j h
        · obtain rfl : j = k := by omega
          exact hf
      have hbad : Hid (stepAt l k = false → ordB l = false) := ord_false hlt
      obtain ⟨h0, h1, _⟩ := (hl.below hB hl.1).2 k l[k] (by simp [hlt])
      have hgr := (hl.below hB hl.1).1
      obtain ⟨ha1, ha3, hb1, hb12⟩ := okO_id (all_iff.1 hok k hlt)
      rcases k with _ | k
      · have hst := step_zero hlt
        have hst' : Hid (stepAt l 0 = stepB 0 0 l[0].a l[0].b) := hst
        generalize l[0].a = xa at *
        generalize l[0].b = xb at *
        clear hst hB hl hok
        simp only [Nat.zero_mul] at h0 h1
        by_cases hx : xb = 1
        · subst hx
          go_wp2
          go_quiet (fail)
          go_wp2
          go_quiet (fail)
          go_wp2
          have hgood := hnext.out (hst'.out.trans (stepB_true (by omega)))
          refine ⟨⟨0 + 1, by omega, by go_num, hgood, ?_⟩, ?_⟩
          · repeat (first | exact HB.out | refine below_drewN ?_ _ | refine Below.alloc ?_ HB.out.size _)
          · simp [intOf]; omega
        · have hx1 : (xb != 1) = true := by simpa using hx
          go_wp2
          go_quiet (fail)
          go_wp2
          go_quiet (fail)
          go_wp2
          go_ret
          exact ⟨ret_bool (by rw [hbad.out (hst'.out.trans (stepB_false (by omega)))]), by repeat (first | exact HB.out | refine below_drewN ?_ _ | refine Below.alloc ?_ HB.out.size _)⟩
      · have hlt0 : k < l.length := by omega
        obtain ⟨p0, p1, _⟩ := (hl.below hB hl.1).2 k l[k] (by simp [hlt0])
        obtain ⟨pa1, pa3, pb1, pb12⟩ := okO_id (all_iff.1 hok k hlt0)
        have hst' : Hid (stepAt l (k + 1) = stepB l[k].a l[k].b l[k + 1].a l[k + 1].b) := step_succ hlt
        generalize l[k + 1].a = xa at *
        generalize l[k + 1].b = xb at *
        generalize l[k].a = pa at *
        generalize l[k].b = pb at *
        have hk0 : (0 : Int) ≤ (k : Int) := by omega
        have hk1 : (k : Int) + 1 < (l.length : Int) := by omega
        have hwk : IntKind.i64.wrap (k : Int) = k := IntWalk.i64_in _ ⟨by omega, by omega⟩
        have hwb : IntKind.i64.wrap (xb - 1) = xb - 1 := IntWalk.i64_in _ ⟨by omega, by omega⟩
        have hwp : IntKind.i64.wrap pb = pb := IntWalk.i64_in _ ⟨by omega, by omega⟩
        have hk00 : ((k : Int) + 1 == 0) = false := by simp; omega
        clear hB hl hok
        by_cases hpx : pa < xa
        · by_cases hx : xb = 1
          · subst hx
            go_wp2
            go_quiet (fail)
            go_wp2
            go_quiet (fail)
            go_wp2
            have hgood := hnext.out (hst'.out.trans (stepB_true (by omega)))
            refine ⟨⟨k + 1 + 1, by omega, by go_num, hgood, ?_⟩, ?_⟩
            · repeat (first | exact HB.out | refine below_drewN ?_ _ | refine Below.alloc ?_ HB.out.size _)
            · simp [intOf]; omega
          · have hx1 : (xb != 1) = true := by simpa using hx
            go_wp2
            go_quiet (fail)
            go_wp2
            go_quiet (fail)
            go_wp2
            go_ret
            exact ⟨ret_bool (by rw [hbad.out (hst'.out.trans (stepB_false (by omega)))]), by repeat (first | exact HB.out | refine below_drewN ?_ _ | refine Below.alloc ?_ HB.out.size _)⟩
        · by_cases hpe : pa = xa
          · subst hpe
            by_cases hx : xb = pb + 1
            · subst hx
              go_wp2
              go_quiet (fail)
              go_wp2
              go_quiet (fail)
              go_wp2
              have hgood := hnext.out (hst'.out.trans (stepB_true (by omega)))
              refine ⟨⟨k + 1 + 1, by omega, by go_num, hgood, ?_⟩, ?_⟩
              · repeat (first | exact HB.out | refine below_drewN ?_ _ | refine Below.alloc ?_ HB.out.size _)
              · simp [intOf]; omega
            · have hx1 : (pb != xb - 1) = true := by simp; omega
              go_wp2
              go_quiet (fail)
              go_wp2
              go_quiet (fail)
              go_wp2
              go_ret
              exact ⟨ret_bool (by rw [hbad.out (hst'.out.trans (stepB_false (by omega)))]), by repeat (first | exact HB.out | refine below_drewN ?_ _ | refine Below.alloc ?_ HB.out.size _)⟩
          · have hx1 : (pa != xa) = true := by simpa using hpe
            have hpd : decide (pa < xa) = false := decide_eq_false hpx
            go_wp2
            go_quiet (fail)
            go_wp2
            go_quiet (fail)
            go_wp2
            go_ret
            exact ⟨ret_bool (by rw [hbad.out (hst'.out.trans (stepB_false (by omega)))]), by repeat (first | exact HB.out | refine below_drewN ?_ _ | refine Below.alloc ?_ HB.out.size _)⟩
    · clear hB hl hok
      go_wp2
      go_ret
      exact ⟨ret_bool (by rw [ord_iff.2 (fun j hj => HN.out j (by omega))]), HB.out⟩
end Go.Proofs.YtficnhlkefpfnaaDoor

namespace Go.Proofs.YtficnhlkefpfnaaDoor
open Go.RowKit
set_option linter.unusedSimpArgs false
set_option linter.unusedVariables false

theorem opsB_of {l : List Op7} (h1 : l.all okO = true) (h2 : ordB l = true) (h3 : l.all (refsB l) = true) (h4 : l.all (deepF l (l.length + 1)) = true) : opsB l = true := by
  unfold opsB; rw [h1, h2, h3, h4]; rfl
theorem opsB_no1 {l : List Op7} (h : l.all okO = false) : opsB l = false := by unfold opsB; rw [h]; rfl
theorem opsB_no2 {l : List Op7} (h : ordB l = false) : opsB l = false := by unfold opsB; rw [h]; cases l.all okO <;> rfl
theorem opsB_no3 {l : List Op7} (h : l.all (refsB l) = false) : opsB l = false := by unfold opsB; rw [h]; cases l.all okO <;> cases ordB l <;> rfl
theorem opsB_no4 {l : List Op7} (h : l.all (deepF l (l.length + 1)) = false) : opsB l = false := by unfold opsB; rw [h]; cases l.all okO <;> cases ordB l <;> cases l.all (refsB l) <;> rfl

set_option maxHeartbeats 2000000 in
theorem specOps_any (l : List Op7) (g cap : Nat) (w : World) (hl : OpsAt w g l) (hn : l.length ≤ 1048576) (hcap : l.length ≤ cap) :
    Calls Tryd.prog 54 #[.slice (some ⟨g, 0, none⟩) l.length cap] w fun e w' => e = .returned (.bool (opsB l)) ∧ Below w.heap.size w w' := by
  have hgw : g < w.heap.size := hl.1
  have HL0 : Hid (OpsAt w g l) := hl
  clear hl
  go_enter Tryd.func54, Tryd.ntmps54
  go_wp2
  go_loopw [3] (fun i wr => ∃ k : Nat, k ≤ l.length ∧ i = .int .i64 k ∧ (∀ j (hj : j < l.length), j < k → okO l[j] = true) ∧ Below w.heap.size w wr)
    (fun i _ => l.length - (intOf i).toNat)
  case atStart => exact ⟨0, Nat.zero_le _, rfl, fun j hj h => by omega, by go_grown⟩
  case round =>
    obtain ⟨k, hk, rfl, hno, hB⟩ := hrel
    have HN : Hid (∀ j (hj : j < l.length), j < k → okO l[j] = true) := hno
    have HB : Hid (Below w.heap.size w wr) := hB
    have HL : Hid (OpsAt wr g l) := HL0.out.below hB hgw
    have hgr : g < wr.heap.size := HL.out.1
    clear hno hB
    by_cases hlt : k < l.length
    · obtain ⟨h0, h1, h2, h3, h4, h5, h6⟩ := HL.out.2 k l[k] (by simp [hlt])
      have hnext : Hid (okO l[k] = true → ∀ j (hj : j < l.length), j < k + 1 → okO l[j] = true) := fun hf j hj hj1 => by
        rcases Nat.lt_or_ge j k with h | h
        · exact HN.out j hj h
        · obtain rfl : j = k := by omega
          exact hf
      have hbad : Hid (okO l[k] = false → opsB l = false) := fun h => opsB_no1 (all_false hlt h)
      have hlt' : (k : Int) < (l.length : Int) := by omega
      have hk0 : (0 : Int) ≤ (k : Int) := by omega
      have hoo : Hid (okO l[k] = opB l[k].a l[k].b l[k].k l[k].c l[k].d l[k].s l[k].g) := rfl
      generalize l[k].a = xa at *
      generalize l[k].b = xb at *
      generalize l[k].k = xk at *
      generalize l[k].c = xc at *
      generalize l[k].d = xd at *
      generalize l[k].s = xs at *
      generalize l[k].g = xg at *
      cases ho : opB xa xb xk xc xd xs xg
      all_goals
        have HO := hideIt ho
        go_wp2_with (first
          | (go_at_call 78; refine (specOp_any _ _ _ _ _ _ _ _).mono ?_; rintro e w2 ⟨rfl, hb2⟩; have HB2 : Hid (Below w.heap.size w w2) := Bstep HB.out hb2; clear hb2))
      · go_ret
        exact ⟨ret_bool (hbad.out (hoo.out.trans (HO.out))).symm, HB2.out⟩
      · exact ⟨⟨k + 1, by omega, by go_num, hnext.out (hoo.out.trans (HO.out)), HB2.out⟩, by simp [intOf]; omega⟩
    · have H1 : Hid (l.all okO = true) := all_iff.2 fun j hj => HN.out j hj (by omega)
      clear HN
      obtain rfl : k = l.length := by omega
      clear hk hlt
      cases hord : ordB l
      · have HR := hideIt hord
        clear hord
        go_wp2_with (first
          | (go_at_call 90; refine (l1Order_any l g cap _ HL.out hn hcap H1.out).mono ?_; rintro e w2 ⟨rfl, hb2⟩; rw [HR.out]; have HB2 : Hid (Below w.heap.size w w2) := Bstep HB.out hb2; clear hb2))
        go_ret
        exact ⟨ret_bool (opsB_no2 (HR.out)).symm, HB2.out⟩
      · have HR := hideIt hord
        clear hord
        go_wp2_with (first
          | (go_at_call 90; refine (l1Order_any l g cap _ HL.out hn hcap H1.out).mono ?_; rintro e w2 ⟨rfl, hb2⟩; rw [HR.out]; have HB2 : Hid (Below w.heap.size w w2) := Bstep HB.out hb2; clear hb2))
        clear HB HL hgr
        go_loopw [4] (fun i wr => ∃ k : Nat, k ≤ l.length ∧ i = .int .i64 k ∧ (∀ j (hj : j < l.length), j < k → (refsB l) l[j] = true) ∧ Below w.heap.size w wr)
          (fun i _ => l.length - (intOf i).toNat)
        case atStart => exact ⟨0, Nat.zero_le _, rfl, fun j hj h => by omega, HB2.out⟩
        case round =>
          obtain ⟨k, hk, rfl, hno, hB⟩ := hrel
          have HN : Hid (∀ j (hj : j < l.length), j < k → (refsB l) l[j] = true) := hno
          have HB : Hid (Below w.heap.size w wr) := hB
          have HL : Hid (OpsAt wr g l) := HL0.out.below hB hgw
          have hgr : g < wr.heap.size := HL.out.1
          clear hno hB
          by_cases hlt : k < l.length
          · obtain ⟨h0, h1, h2, h3, h4, h5, h6⟩ := HL.out.2 k l[k] (by simp [hlt])
            have hnext : Hid ((refsB l) l[k] = true → ∀ j (hj : j < l.length), j < k + 1 → (refsB l) l[j] = true) := fun hf j hj hj1 => by
              rcases Nat.lt_or_ge j k with h | h
              · exact HN.out j hj h
              · obtain rfl : j = k := by omega
                exact hf
            have hbad : Hid ((refsB l) l[k] = false → opsB l = false) := fun h => opsB_no3 (all_false hlt h)
            have hlt' : (k : Int) < (l.length : Int) := by omega
            have hk0 : (0 : Int) ≤ (k : Int) := by omega
            skip
            generalize hoo : l[k] = o at *
            cases ho : (refsB l) o
            all_goals
              have HO := hideIt ho
              clear ho hoo
              go_wp2_with (first
                | (go_at_call 91; refine (l1Refs_any l g cap _ _ HL.out hn hcap).mono ?_; rintro e w2 ⟨rfl, hb2⟩; rw [HO.out]; have HB2 : Hid (Below w.heap.size w w2) := Bstep HB.out hb2; clear hb2))
            · go_ret
              exact ⟨ret_bool (hbad.out HO.out).symm, HB2.out⟩
            · exact ⟨⟨k + 1, by omega, by go_num, hnext.out HO.out, HB2.out⟩, by simp [intOf]; omega⟩
          · have H3 : Hid (l.all ((refsB l)) = true) := all_iff.2 fun j hj => HN.out j hj (by omega)
            clear HN HB2
            obtain rfl : k = l.length := by omega
            clear hk hlt
            have HB2 : Hid (Below w.heap.size w wr) := HB
            clear HB HL hgr
            go_wp2
            go_loopw [5] (fun i wr => ∃ k : Nat, k ≤ l.length ∧ i = .int .i64 k ∧ (∀ j (hj : j < l.length), j < k → (deepF l (l.length + 1)) l[j] = true) ∧ Below w.heap.size w wr)
              (fun i _ => l.length - (intOf i).toNat)
            case atStart => exact ⟨0, Nat.zero_le _, rfl, fun j hj h => by omega, HB2.out⟩
            case round =>
              obtain ⟨k, hk, rfl, hno, hB⟩ := hrel
              have HN : Hid (∀ j (hj : j < l.length), j < k → (deepF l (l.length + 1)) l[j] = true) := hno
              have HB : Hid (Below w.heap.size w wr) := hB
              have HL : Hid (OpsAt wr g l) := HL0.out.below hB hgw
              have hgr : g < wr.heap.size := HL.out.1
              clear hno hB
              by_cases hlt : k < l.length
              · obtain ⟨h0, h1, h2, h3, h4, h5, h6⟩ := HL.out.2 k l[k] (by simp [hlt])
                have hnext : Hid ((deepF l (l.length + 1)) l[k] = true → ∀ j (hj : j < l.length), j < k + 1 → (deepF l (l.length + 1)) l[j] = true) := fun hf j hj hj1 => by
                  rcases Nat.lt_or_ge j k with h | h
                  · exact HN.out j hj h
                  · obtain rfl : j = k := by omega
                    exact hf
                have hbad : Hid ((deepF l (l.length + 1)) l[k] = false → opsB l = false) := fun h => opsB_no4 (all_false hlt h)
                have hlt' : (k : Int) < (l.length : Int) := by omega
                have hk0 : (0 : Int) ≤ (k : Int) := by omega
                have HRK : Hid (refsB l l[k] = true) := all_iff.1 H3.out k hlt
                generalize hoo : l[k] = o at *
                cases ho : (deepF l (l.length + 1)) o
                all_goals
                  have HO := hideIt ho
                  clear ho hoo
                  go_wp2_with (first
                    | (go_at_call 92; refine (l1Deep_any l g cap _ _ HL.out hn hcap HRK.out H3.out).mono ?_; rintro e w2 ⟨rfl, hb2⟩; rw [HO.out]; have HB2 : Hid (Below w.heap.size w w2) := Bstep HB.out hb2; clear hb2))
                · go_ret
                  exact ⟨ret_bool (hbad.out HO.out).symm, HB2.out⟩
                · exact ⟨⟨k + 1, by omega, by go_num, hnext.out HO.out, HB2.out⟩, by simp [intOf]; omega⟩
              · have H4 : Hid (l.all ((deepF l (l.length + 1))) = true) := all_iff.2 fun j hj => HN.out j hj (by omega)
                clear HN HB2
                obtain rfl : k = l.length := by omega
                clear hk hlt
                have HB : Hid (Below w.heap.size w wr) := HB
                go_wp2
                go_ret
                exact ⟨ret_bool (opsB_of H1.out HR.out H3.out H4.out).symm, HB.out⟩
end Go.Proofs.YtficnhlkefpfnaaDoor

namespace Go.Proofs.YtficnhlkefpfnaaDoor
open Go.RowKit
set_option linter.unusedSimpArgs false
set_option linter.unusedVariables false
attribute [local go_sem ↓] Go.wp_at_zero Go.wp_at_succ

/-- The ids of signs. -/
def idsOf (L : List Op7) : List (Int × Int) := L.map fun o => (o.a, o.b)
/-- The cells of ids. -/
def idCells (L : List (Int × Int)) : List Value := L.flatMap fun x => [.int .i64 x.1, .int .i64 x.2]
theorem idCells_len : ∀ L : List (Int × Int), (idCells L).length = L.length * 2
  | [] => rfl
  | x :: r => by have := idCells_len r; simp [idCells] at this ⊢; omega
/-- Which ids were put beside one, on a side, if what was done is ok. -/
def kidIds (l : List Op7) (r m s : Int) : List (Int × Int) := if opsB l = true then idsOf (kidsL l (r, m, s)) else []
theorem idCells_more (L : List Op7) (o : Op7) : idCells (idsOf (L ++ [o])) = idCells (idsOf L) ++ [.int .i64 o.a, .int .i64 o.b] := by simp [idCells, idsOf]
theorem idsOf_len (L : List Op7) : (idsOf L).length = L.length := by simp [idsOf]

theorem infoId : (Tryd.prog.info? 69).map (fun i => (i.zero, i.size, i.bytes)) = some (some (.agg #[.int .i64 0, .int .i64 0]), 2, 16) := by kernel_rfl
theorem ids_one : ∀ {a b : Int}, ∀ u ∈ [Value.int .i64 a, .int .i64 b], u.oneCell' = true := by
  intro a b u hu
  simp at hu
  rcases hu with rfl | rfl <;> rfl

theorem ownsRow_base {w : World} {b b' : Nat} {T : TypeId} {m : Nat} {v : Value} {n : Nat} {xs : List Value} (hb : b' ≤ b) (h : w.ownsRow b T m v n xs) : w.ownsRow b' T m v n xs := by
  refine ⟨h.1, ?_⟩
  rcases h.2 with h1 | ⟨g, cap, cur, h1, h2, h3⟩
  · exact .inl h1
  · exact .inr ⟨g, cap, cur, h1, Nat.le_trans hb h2, h3⟩
/-- A row is nothing, or lies in a block. -/
theorem row_cases {w : World} {base : Nat} {T : TypeId} {m : Nat} {v : Value} {n : Nat} {xs : List Value} (h : w.ownsRow base T m v n xs) : (n = 0 ∧ ∃ p c, v = .slice p 0 c) ∨ (0 < n ∧ ∃ g cap, v = .slice (some ⟨g, 0, none⟩) n cap ∧ n ≤ cap ∧ g < w.heap.size ∧ ∀ j, j < n * m → w.cell? ⟨g, j, none⟩ = xs[j]?) := by
  rcases Nat.eq_zero_or_pos n with h0 | h0
  · refine .inl ⟨h0, ?_⟩
    subst h0
    rcases h.2 with ⟨rfl, _⟩ | ⟨g, cap, cur, rfl, _⟩
    · exact ⟨none, 0, rfl⟩
    · exact ⟨_, _, rfl⟩
  · refine .inr ⟨h0, ?_⟩
    have h' := h
    rcases h.2 with ⟨_, h1⟩ | ⟨g, cap, cur, rfl, _, hg, hc, _⟩
    · omega
    · exact ⟨g, cap, rfl, hc, (Array.getElem?_eq_some_iff.1 hg).1, fun j hj => h'.cellAt j hj⟩

theorem putCells_at : ∀ (L : List Op7) (i : Nat) (o : Op7), L[i]? = some o → (putCells L)[i * 6]? = some (.int .i64 o.a) ∧ (putCells L)[i * 6 + 1]? = some (.int .i64 o.b) ∧ (putCells L)[i * 6 + 2]? = some (.int .i64 o.c) ∧ (putCells L)[i * 6 + 3]? = some (.int .i64 o.d) ∧ (putCells L)[i * 6 + 4]? = some (.int .i64 o.s) ∧ (putCells L)[i * 6 + 5]? = some (.int .i64 o.g)
  | [], i, x, h => by simp at h
  | y :: r, 0, x, h => by simp at h; subst h; simp [putCells]
  | y :: r, i + 1, x, h => by
    have ih := putCells_at r i x (by simpa using h)
    have e : putCells (y :: r) = .int .i64 y.a :: .int .i64 y.b :: .int .i64 y.c :: .int .i64 y.d :: .int .i64 y.s :: .int .i64 y.g :: putCells r := rfl
    rw [e, show (i + 1) * 6 = i * 6 + 1 + 1 + 1 + 1 + 1 + 1 by omega]
    simpa using ih

end Go.Proofs.YtficnhlkefpfnaaDoor

namespace Go.Proofs.YtficnhlkefpfnaaDoor
open Go.RowKit
set_option linter.unusedSimpArgs false
set_option linter.unusedVariables false
attribute [local go_sem ↓] Go.wp_at_zero Go.wp_at_succ

theorem ownsRow_drewN {w : World} {b : Nat} {T : TypeId} {m : Nat} {v : Value} {n : Nat} {xs : List Value} (h : w.ownsRow b T m v n xs) (q : Nat) : (w.drewN q).ownsRow b T m v n xs := h

set_option maxRecDepth 100000 in
set_option maxHeartbeats 2000000 in
theorem l2Kids_any (l : List Op7) (g cap : Nat) (r m s : Int) (w : World) (hl : OpsAt w g l) (hn : l.length ≤ 1048576) (hcap : l.length ≤ cap) :
    Calls Tryd.prog 96 #[.slice (some ⟨g, 0, none⟩) l.length cap, .agg #[.int .i64 r, .int .i64 m], .int .i64 s] w fun e w' => ∃ v, e = .returned v ∧ w'.ownsRow w.heap.size 69 2 v (kidsL l (r, m, s)).length (idCells (idsOf (kidsL l (r, m, s)))) ∧ Below w.heap.size w w' := by
  have HL := hideIt hl
  have hgw := hl.1
  clear hl
  go_enter Tryd.func96, Tryd.ntmps96
  go_wp2
  obtain ⟨i0, hi, hz0', hz1', hz2⟩ := info_parts infoId
  have HI1 := hideIt hi
  have HZ0 := hideIt hz0'
  have HZ1 := hideIt hz1'
  have HZ2 := hideIt hz2
  clear hi hz0' hz1' hz2
  have HBW : Hid (Below w.heap.size w ((w.alloc (.cells #[.int .i64 r, .int .i64 m] 69)).alloc (.cells #[] 69))) := ((Below.refl _ _).alloc (Nat.le_refl _) _).alloc (by simp) _
  have HST : Hid (((w.alloc (.cells #[.int .i64 r, .int .i64 m] 69)).alloc (.cells #[] 69)).ownsRow (w.heap.size + 1) 69 2 (.slice (some ⟨w.heap.size + 1, 0, none⟩) 0 0) 0 []) := by
    have h := World.ownsRow_made (base := w.heap.size + 1) (e := 69) (size := 2) (w.alloc (.cells #[.int .i64 r, .int .i64 m] 69)) #[] 0 (by simp) (Nat.zero_le _) rfl
    simp only [World.size_alloc] at h
    exact h
  go_loopw [7, 8] (fun v i wr => ∃ k : Nat, k ≤ l.length ∧ i = .int .i64 k ∧ wr.ownsRow (w.heap.size + 1) 69 2 v (kidsL (l.take k) (r, m, s)).length (idCells (idsOf (kidsL (l.take k) (r, m, s)))) ∧ Below (w.heap.size + 1) ((w.alloc (.cells #[.int .i64 r, .int .i64 m] 69)).alloc (.cells #[] 69)) wr)
    (fun _ i _ => l.length - (intOf i).toNat)
  case atStart => exact ⟨0, Nat.zero_le _, rfl, HST.out, Below.refl _ _⟩
  case round =>
    obtain ⟨k, hk, rfl, hrow, hB⟩ := hrel
    have HRW := hideIt hrow
    have HB := hideIt hB
    have hzr : w.heap.size + 2 ≤ wr.heap.size := by have := hB.size; simpa using this
    have hid0 : wr.cell? ⟨w.heap.size, 0, none⟩ = some (.int .i64 r) := by rw [hB.cell (p := ⟨w.heap.size, 0, none⟩) (show w.heap.size < _ by omega)]; simp [go_sem]
    have hid1 : wr.cell? ⟨w.heap.size, 1, none⟩ = some (.int .i64 m) := by rw [hB.cell (p := ⟨w.heap.size, 1, none⟩) (show w.heap.size < _ by omega)]; simp [go_sem]
    have HLr := hideIt (HL.out.below (HBW.out.trans (hB.mono (by omega))) hgw)
    have hgr : g < wr.heap.size := HLr.out.1
    have hwr : w.heap.size < wr.heap.size := by omega
    by_cases hlt : k < l.length
    · obtain ⟨y0, y1, y2, y3, y4, y5, y6⟩ := HLr.out.2 k l[k] (by simp [hlt])
      have htk : l.take (k + 1) = l.take k ++ [l[k]] := List.take_succ_eq_append_getElem hlt
      have hno : Hid (isKid (r, m, s) l[k] = false → kidsL (l.take (k + 1)) (r, m, s) = kidsL (l.take k) (r, m, s)) := fun h => by rw [htk]; exact kids_same h
      have hyes : Hid (isKid (r, m, s) l[k] = true → kidsL (l.take (k + 1)) (r, m, s) = kidsL (l.take k) (r, m, s) ++ [l[k]]) := fun h => by rw [htk]; exact kids_more h
      have hkl := Nat.le_trans (kids_le (l.take k) (r, m, s)) (List.length_take_le k l)
      generalize l[k] = o at *
      have hlt' : (k : Int) < (l.length : Int) := by omega
      have hk0 : (0 : Int) ≤ (k : Int) := by omega
      clear hB hrow htk
      by_cases hk1 : o.k = 1
      · rw [hk1] at y2
        by_cases hc1 : o.c = r
        · rw [hc1] at y3
          by_cases hd1 : o.d = m
          · rw [hd1] at y4
            by_cases hs1 : o.s = s
            · have HKID : Hid (isKid (r, m, s) o = true) := by show isKid (r, m, s) o = true; simp [isKid, hk1, hc1, hd1, hs1]
              rw [hs1] at y5
              clear hk1 hc1 hd1 hs1
              go_wp2
              go_quiet (fail)
              have HNW : Hid (∀ nq j u, ([.int .i64 o.a, .int .i64 o.b] : List Value)[j]? = some u → ((wr.drewN nq).alloc (.cells #[.int .i64 o.a, .int .i64 o.b] 69)).cell? ((⟨wr.heap.size, 0, none⟩ : Addr).add j) = some u) := by
                intro nq j u hj
                exact cells_new (wr.drewN nq) [.int .i64 o.a, .int .i64 o.b] 69 j u hj
              go_wp2_with (first
                | (at_builtin; refine wpList_append_own_at _ rfl _ _ 116 rfl (w.heap.size + 1) 69 i0 _ 2 16 Tryd.underlying116 HI1.out HZ0.out HZ1.out HZ2.out rfl (by decide) _ _ _ rfl (World.ownsRow.alloc (ownsRow_drewN HRW.out _) _) ⟨wr.heap.size, 0, none⟩ 1 1 [.int .i64 o.a, .int .i64 o.b] rfl rfl (HNW.out _) ids_one (by unfold maxLen; omega) (by omega) (by simp; omega) ?_; intro v' w2 hown2 hg2 _ _;
                    have HO2 := hideIt hown2; have HB2 := hideIt (below_grown ((below_drewN HB.out _).alloc (by simp; omega) _) hg2 (by simp; omega) (fun j e => (HRW.out.lt j e).1)); clear hown2 hg2))
              exact ⟨⟨k + 1, by omega, by go_num, by rw [hyes.out HKID.out, idCells_more, List.length_append]; exact HO2.out, HB2.out⟩, by simp [intOf]; omega⟩
            · have HKID : Hid (isKid (r, m, s) o = false) := by show isKid (r, m, s) o = false; simp [isKid, hs1]
              go_wp2
              go_quiet (fail)
              go_wp2
              exact ⟨⟨k + 1, by omega, by go_num, by rw [hno.out HKID.out]; exact HRW.out, below_drewN HB.out _⟩, by simp [intOf]; omega⟩
          · have HKID : Hid (isKid (r, m, s) o = false) := by show isKid (r, m, s) o = false; simp [isKid, hd1]
            go_wp2
            go_quiet (fail)
            go_wp2
            exact ⟨⟨k + 1, by omega, by go_num, by rw [hno.out HKID.out]; exact HRW.out, below_drewN HB.out _⟩, by simp [intOf]; omega⟩
        · have HKID : Hid (isKid (r, m, s) o = false) := by show isKid (r, m, s) o = false; simp [isKid, hc1]
          go_wp2
          go_quiet (fail)
          go_wp2
          exact ⟨⟨k + 1, by omega, by go_num, by rw [hno.out HKID.out]; exact HRW.out, below_drewN HB.out _⟩, by simp [intOf]; omega⟩
      · have HKID : Hid (isKid (r, m, s) o = false) := by show isKid (r, m, s) o = false; simp [isKid, hk1]
        go_wp2
        go_quiet (fail)
        go_wp2
        exact ⟨⟨k + 1, by omega, by go_num, by rw [hno.out HKID.out]; exact HRW.out, below_drewN HB.out _⟩, by simp [intOf]; omega⟩
    · obtain rfl : k = l.length := by omega
      clear hB hrow
      go_wp2
      go_ret
      have h := HRW.out
      rw [List.take_length] at h
      exact ⟨_, rfl, ownsRow_base (Nat.le_succ _) h, HBW.out.trans (HB.out.mono (by omega))⟩
end Go.Proofs.YtficnhlkefpfnaaDoor

namespace Go.Proofs.YtficnhlkefpfnaaDoor
open Go.RowKit
set_option linter.unusedSimpArgs false
set_option linter.unusedVariables false
attribute [local go_sem ↓] Go.wp_at_zero Go.wp_at_succ

/-- A sign was taken away. -/
def goneB (l : List Op7) (x : Int × Int) : Bool := l.any fun o => o.k == 2 && (o.c == x.1 && o.d == x.2)
theorem gone_take {l : List Op7} (hok : l.all okO = true) (x : Int × Int) : goneB l x = decide (0 < takesN l x) := by
  unfold goneB takesN
  rw [Bool.eq_iff_iff, decide_eq_true_eq, List.countP_pos_iff, List.any_eq_true]
  constructor
  · rintro ⟨o, ho, h⟩
    simp at h
    exact ⟨o, ho, by simp [h]⟩
  · rintro ⟨o, ho, h⟩
    simp at h
    have hk : o.k = 1 ∨ o.k = 2 := by rcases thV_cases (List.all_eq_true.1 hok o ho) with h | h <;> simp [h.2]
    exact ⟨o, ho, by simp; omega⟩
/-- The cells of leaves. -/
def leafCells (l L : List Op7) : List Value := L.flatMap fun o => [.int .i64 o.a, .int .i64 o.b, .int .i64 o.g, .bool (goneB l (o.a, o.b))]
theorem leafCells_len (l : List Op7) : ∀ L : List Op7, (leafCells l L).length = L.length * 4
  | [] => rfl
  | x :: r => by have := leafCells_len l r; simp [leafCells] at this ⊢; omega
theorem leafCells_app (l L M : List Op7) : leafCells l (L ++ M) = leafCells l L ++ leafCells l M := by simp [leafCells]
theorem leafCells_one (l : List Op7) : ∀ L, ∀ u ∈ leafCells l L, u.oneCell' = true := by
  intro L u hu
  unfold leafCells at hu
  obtain ⟨o, _, ho⟩ := List.mem_flatMap.1 hu
  simp at ho
  rcases ho with rfl | rfl | rfl | rfl <;> rfl
theorem infoLeaf : (Tryd.prog.info? 115).map (fun i => (i.zero, i.size, i.bytes)) = some (some (.agg #[.int .i64 0, .int .i64 0, .int .i64 0, .bool false]), 4, 32) := by kernel_rfl

theorem gone_no {l : List Op7} {x : Int × Int} (h : ∀ j (hj : j < l.length), (l[j].k == 2 && (l[j].c == x.1 && l[j].d == x.2)) = false) : goneB l x = false := by
  unfold goneB
  rw [List.any_eq_false]
  intro o ho
  obtain ⟨j, hj, rfl⟩ := List.getElem_of_mem ho
  simp [h j hj]
theorem gone_yes {l : List Op7} {x : Int × Int} {o : Op7} {i : Nat} (h : l[i]? = some o) (h1 : o.k = 2) (h2 : o.c = x.1) (h3 : o.d = x.2) : goneB l x = true := by
  unfold goneB
  rw [List.any_eq_true]
  exact ⟨o, List.mem_of_getElem? h, by simp [h1, h2, h3]⟩

set_option maxRecDepth 100000 in
set_option maxHeartbeats 1000000 in
theorem l2Gone_any (l : List Op7) (g cap : Nat) (r m : Int) (w : World) (hl : OpsAt w g l) (hn : l.length ≤ 1048576) (hcap : l.length ≤ cap) :
    Calls Tryd.prog 133 #[.slice (some ⟨g, 0, none⟩) l.length cap, .agg #[.int .i64 r, .int .i64 m]] w fun e w' => e = .returned (.bool (goneB l (r, m))) ∧ Below w.heap.size w w' := by
  have HL := hideIt hl
  have hgw := hl.1
  clear hl
  go_enter Tryd.func133, Tryd.ntmps133
  go_wp2
  go_loopw [5] (fun i wr => ∃ k : Nat, k ≤ l.length ∧ i = .int .i64 k ∧ (∀ j (hj : j < l.length), j < k → (l[j].k == 2 && (l[j].c == r && l[j].d == m)) = false) ∧ wr.cell? ⟨w.heap.size, 0, none⟩ = some (.int .i64 r) ∧ wr.cell? ⟨w.heap.size, 1, none⟩ = some (.int .i64 m) ∧ Below w.heap.size w wr)
    (fun i _ => l.length - (intOf i).toNat)
  case atStart => exact ⟨0, Nat.zero_le _, rfl, fun j hj h => by omega, by simp [go_sem], by simp [go_sem], by go_grown⟩
  case round =>
    obtain ⟨k, hk, rfl, hno, hr, hm, hB⟩ := hrel
    have HN := hideIt hno
    have HB := hideIt hB
    have HLr := hideIt (HL.out.below hB hgw)
    have hgr : g < wr.heap.size := HLr.out.1
    by_cases hlt : k < l.length
    · obtain ⟨y0, y1, y2, y3, y4, y5, y6⟩ := HLr.out.2 k l[k] (by simp [hlt])
      have hlk : Hid (l[k]? = some l[k]) := by show l[k]? = some l[k]; simp [hlt]
      have hnext : Hid ((l[k].k == 2 && (l[k].c == r && l[k].d == m)) = false → ∀ j (hj : j < l.length), j < k + 1 → (l[j].k == 2 && (l[j].c == r && l[j].d == m)) = false) := fun hf j hj hj1 => by
        rcases Nat.lt_or_ge j k with h | h
        · exact HN.out j hj h
        · obtain rfl : j = k := by omega
          exact hf
      generalize l[k] = o at *
      have hlt' : (k : Int) < (l.length : Int) := by omega
      have hk0 : (0 : Int) ≤ (k : Int) := by omega
      clear hno hB
      by_cases hk2 : o.k = 2
      · by_cases hc1 : o.c = r
        · by_cases hd1 : o.d = m
          · have HY : Hid (goneB l (r, m) = true) := gone_yes hlk.out hk2 hc1 hd1
            rw [hk2] at y2
            rw [hc1] at y3
            rw [hd1] at y4
            clear hk2 hc1 hd1
            go_wp2
            go_quiet (fail)
            go_wp2
            go_ret
            exact ⟨ret_bool HY.out.symm, below_drewN HB.out _⟩
          · have HF : Hid ((o.k == 2 && (o.c == r && o.d == m)) = false) := by show (o.k == 2 && (o.c == r && o.d == m)) = false; simp [hd1]
            rw [hk2] at y2
            rw [hc1] at y3
            clear hk2 hc1
            go_wp2
            go_quiet (fail)
            go_wp2
            exact ⟨⟨k + 1, by omega, by go_num, hnext.out HF.out, by simpa using hr, by simpa using hm, below_drewN HB.out _⟩, by simp [intOf]; omega⟩
        · have HF : Hid ((o.k == 2 && (o.c == r && o.d == m)) = false) := by show (o.k == 2 && (o.c == r && o.d == m)) = false; simp [hc1]
          rw [hk2] at y2
          clear hk2
          go_wp2
          go_quiet (fail)
          go_wp2
          exact ⟨⟨k + 1, by omega, by go_num, hnext.out HF.out, by simpa using hr, by simpa using hm, below_drewN HB.out _⟩, by simp [intOf]; omega⟩
      · have HF : Hid ((o.k == 2 && (o.c == r && o.d == m)) = false) := by show (o.k == 2 && (o.c == r && o.d == m)) = false; simp [hk2]
        go_wp2
        go_quiet (fail)
        go_wp2
        exact ⟨⟨k + 1, by omega, by go_num, hnext.out HF.out, by simpa using hr, by simpa using hm, below_drewN HB.out _⟩, by simp [intOf]; omega⟩
    · clear hno hB
      go_wp2
      go_ret
      exact ⟨ret_bool (gone_no (fun j hj => HN.out j hj (by omega))).symm, HB.out⟩
end Go.Proofs.YtficnhlkefpfnaaDoor

namespace Go.Proofs.YtficnhlkefpfnaaDoor
open Go.RowKit
set_option linter.unusedSimpArgs false
set_option linter.unusedVariables false
attribute [local go_sem ↓] Go.wp_at_zero Go.wp_at_succ

set_option maxRecDepth 100000 in
set_option maxHeartbeats 1000000 in
theorem leafOf_any (l : List Op7) (hops : opsB l = true) (hn : l.length ≤ 1048576) (b1 b2 b3 base : Nat) (o : Op7) (hok : okO o = true) (w : World) (hT : TreeAt w b1 b2 b3 base l) :
    Calls Tryd.prog 151 #[.agg #[.map (some b1), .map (some b2), .map (some b3)], .agg #[.int .i64 o.a, .int .i64 o.b, .int .i64 o.c, .int .i64 o.d, .int .i64 o.s, .int .i64 o.g]] w fun e w' => e = .returned (.agg #[.int .i64 o.a, .int .i64 o.b, .int .i64 o.g, .bool (goneB l (o.a, o.b))]) ∧ Below w.heap.size w w' := by
  have HT := hideIt hT
  have hnum := okO_num hok
  obtain ⟨kl, hkl⟩ := key_id (r := o.a) (m := o.b) (wf_small (by omega)) (wf_small (by omega))
  have HKL := hideIt hkl
  have HG : Hid (goneB l (o.a, o.b) = decide (0 < takesN l (o.a, o.b))) := gone_take (opsParts hops).1 _
  have HV : Hid ((takeF l (o.a, o.b)).getD (.int .i64 0) = .int .i64 (takesN l (o.a, o.b) : Nat)) := takeF_get l _
  have hle := takesN_le l (o.a, o.b)
  generalize takesN l (o.a, o.b) = nn at *
  clear hT hkl
  go_enter Tryd.func151, Tryd.ntmps151
  go_wp2_with fail
  have HBW : Hid (Below w.heap.size w (((w.alloc (.cells #[.map (some b1), .map (some b2), .map (some b3)] 152)).alloc (.cells #[.int .i64 o.a, .int .i64 o.b, .int .i64 o.c, .int .i64 o.d, .int .i64 o.s, .int .i64 o.g] 168)).alloc (.cells #[.int .i64 0, .int .i64 0, .int .i64 0, .bool false] 115))) := (((Below.refl _ _).alloc (Nat.le_refl _) _).alloc (by simp) _).alloc (by simp; omega) _
  have L0 : (Instr.lookup 150 (.map (some b3)) (.agg #[.int .i64 o.a, .int .i64 o.b]) false).run Tryd.prog (((w.alloc (.cells #[.map (some b1), .map (some b2), .map (some b3)] 152)).alloc (.cells #[.int .i64 o.a, .int .i64 o.b, .int .i64 o.c, .int .i64 o.d, .int .i64 o.s, .int .i64 o.g] 168)).alloc (.cells #[.int .i64 0, .int .i64 0, .int .i64 0, .bool false] 115)).drew = .ok (.int .i64 nn) (((w.alloc (.cells #[.map (some b1), .map (some b2), .map (some b3)] 152)).alloc (.cells #[.int .i64 o.a, .int .i64 o.b, .int .i64 o.c, .int .i64 o.d, .int .i64 o.s, .int .i64 o.g] 168)).alloc (.cells #[.int .i64 0, .int .i64 0, .int .i64 0, .bool false] 115)).drew := by
    have hM : MapFn Tryd.prog 69 (((w.alloc (.cells #[.map (some b1), .map (some b2), .map (some b3)] 152)).alloc (.cells #[.int .i64 o.a, .int .i64 o.b, .int .i64 o.c, .int .i64 o.d, .int .i64 o.s, .int .i64 o.g] 168)).alloc (.cells #[.int .i64 0, .int .i64 0, .int .i64 0, .bool false] 115)).drew b3 encId (takeF l) := HT.out.2.2.below HBW.out.drew HT.out.2.2.lt
    have h := hM.look false keyedId Tryd.underlying150 (zeroInt _) encId_inj (o.a, o.b) HKL.out
    rw [HV.out] at h
    exact h
  have n0 : (0 : Int) ≤ (nn : Int) := by omega
  have n1 : (nn : Int) ≤ 1048576 := by omega
  go_region_held3 (fun w' => w'.cell? ⟨w.heap.size, 2, none⟩ = some (.map (some b3)) ∧ w'.cell? ⟨w.heap.size + 1, 0, none⟩ = some (.int .i64 o.a) ∧ w'.cell? ⟨w.heap.size + 1, 1, none⟩ = some (.int .i64 o.b) ∧ w'.cell? ⟨w.heap.size + 1, 5, none⟩ = some (.int .i64 o.g))
    (first | exact ⟨by simp [go_sem], by simp [go_sem], by simp [go_sem], by simp [go_sem]⟩)
    (fail)
  rename_i hS
  clear hS
  go_wp2
  have hG : decide (0 < nn) = goneB l (o.a, o.b) := HG.out.symm
  exact bodyPost_ret (v := .agg #[.int .i64 o.a, .int .i64 o.b, .int .i64 o.g, .bool (goneB l (o.a, o.b))]) (by simp [results, Tryd.results151, go_sem, hG]) rfl ⟨rfl, by have := HBW.out; go_grown⟩

/-- The look-up without 'ok', at the operation, inside a fence. -/
theorem wpListIn_look0 {α : Type} {P : Program} {k t e : TypeId} {w : World} {b : Nat} {enc : α → Value} {f : α → Option Value} {F : Fence} {nF : Nat} {ops : Array Oper} {rest : List Oper} {o : Oper} {A : Act} {Q : Exit → Act → World → Prop}
    (hg : o.guard = none) (m x : Operand) (hop : o.op = Op.lookup t m x false) (K : Go.Maps.Keyed P k) (ht : P.underlying t = some (.map k e)) (z : Value) (hz : (zeroValue e).run P w = .ok z w)
    (hinj : ∀ a a', enc a = enc a' → a = a') (hm : A.eval m = .map (some b)) (hown : MapFn P k w b enc f) (a : α) (hx : A.eval x = enc a) (kl : Lit) (hkey : keyOf P k (enc a) = some kl) (v : Value) (hv : (f a).getD z = v)
    (hK : wpListIn F nF P ops Q rest (A.put o.dst v) w) :
    wpListIn F nF P ops Q (o :: rest) A w := by
  refine wpListIn_plain hg fun K' hK' => ?_
  have hrun := hown.look false K ht hz hinj a hkey
  rw [hv] at hrun
  unfold Oper.wpIn
  refine ⟨by simp [Oper.about, hop], ?_⟩
  rw [Oper.semAt_plain F _ _ (by rw [hop]; intro c hc'; cases hc')]
  simp [execOp, hop, hm, hx, hrun, Result.andThen]
  exact hK' _ _ hK
end Go.Proofs.YtficnhlkefpfnaaDoor

namespace Go.Proofs.YtficnhlkefpfnaaDoor
open Go.RowKit
set_option linter.unusedSimpArgs false
set_option linter.unusedVariables false
attribute [local go_sem ↓] Go.wp_at_zero Go.wp_at_succ

theorem idCells_at2 : ∀ (L : List (Int × Int)) (i : Nat) (x : Int × Int), L[i]? = some x → (idCells L)[i * 2]? = some (.int .i64 x.1) ∧ (idCells L)[i * 2 + 1]? = some (.int .i64 x.2)
  | [], i, x, h => by simp at h
  | y :: r, 0, x, h => by simp at h; subst h; simp [idCells]
  | y :: r, i + 1, x, h => by
    have ih := idCells_at2 r i x (by simpa using h)
    have e : idCells (y :: r) = .int .i64 y.1 :: .int .i64 y.2 :: idCells r := rfl
    rw [e, show (i + 1) * 2 = i * 2 + 1 + 1 by omega]
    simpa using ih
theorem find_at {l : List Op7} (h : opsB l = true) {o : Op7} (hm : o ∈ l) : ∃ i : Nat, findI l o.a o.b = i ∧ i < l.length ∧ l[i]? = some o := by
  obtain ⟨hok, hord⟩ := opsParts h
  have h1 := once_of hok hord
  obtain ⟨i, hi⟩ := List.mem_iff_getElem?.1 hm
  obtain ⟨hl, he⟩ := List.getElem?_eq_some_iff.1 hi
  refine ⟨i, ?_, hl, hi⟩
  refine findI_some hl (by rw [he]; simp [hasId]) (fun j hj => ?_)
  cases hc : hasId o.a o.b (l[j]'(by omega))
  · rfl
  · simp [hasId] at hc
    have := h1 j i (l[j]'(by omega)) o (by simp) hi hc.1 hc.2
    omega
/-- Kid by kid. -/
def sideK (l : List Op7) (n : Nat) (L : List Op7) : List Op7 := L.flatMap fun o => sideO l n (o.a, o.b, 0) ++ o :: sideO l n (o.a, o.b, 1)
theorem sideK_all (l : List Op7) (n : Nat) (x : Int × Int × Int) : sideO l (n + 1) x = sideK l n (kidsL l x) := rfl
theorem sideK_step {l : List Op7} {n : Nat} {K : List Op7} {k : Nat} (h : k < K.length) : sideK l n (K.take (k + 1)) = sideK l n (K.take k) ++ sideO l n (K[k].a, K[k].b, 0) ++ [K[k]] ++ sideO l n (K[k].a, K[k].b, 1) := by
  unfold sideK
  rw [List.take_succ_eq_append_getElem h, List.flatMap_append]
  simp
theorem sideK_le {l : List Op7} {n : Nat} {K : List Op7} (k : Nat) : (sideK l n (K.take k)).length ≤ (sideK l n K).length := by
  unfold sideK
  conv => rhs; rw [← List.take_append_drop k K]
  rw [List.flatMap_append, List.length_append]
  omega

/-- An append in a region that draws its order, by the equation of its run. -/
theorem append_arm {P : Program} {o : Oper} {A : Act} {w w' : World} {K' : Act → World → Prop} {Q : Exit → Act → World → Prop} {ys : Nat → Option Bool} {s x : Operand} {t : TypeId} {v u v' : Value}
    (hop : o.op = .call { callee := .builtin .append, args := #[s, x], argTypes := #[t, t] }) (hw : Region.wanted o ys = true) (hs : A.eval s = v) (hx : A.eval x = u) (ht : o.type = t) (hr : (Builtin.append_ #[t, t] t #[v, u]).run P w = .ok v' w') (h : K' (A.put o.dst v') w') :
    if Region.wanted o ys = true then Oper.wp P o A w K' Q else K' (A.put o.dst undef) w := by
  rw [if_pos hw]
  unfold Oper.wp execOp
  subst ht
  simp only [hop, resolve, invoke, builtin, Sem.run_bind, Sem.run_pure, Result.andThen_ok, List.map_toArray, List.map_cons, List.map_nil, hs, hx, hr]
  exact h
/-- Where the loop of l2Side stands: the leaves so far, the kids, the things. -/
structure SL (l : List Op7) (w wr : World) (Gk : Nat) (K : List Op7) (v : Value) (L : List Op7) : Prop where
  row : wr.ownsRow (w.heap.size + 1) 115 4 v L.length (leafCells l L)
  ne : ∀ j, v.ownBlock = some j → j ≠ Gk
  kc : ∀ j, j < K.length * 2 → wr.cell? ⟨Gk, j, none⟩ = (idCells (idsOf K))[j]?
  kl : Gk < wr.heap.size
  kg : w.heap.size + 1 < Gk
  bel : Below w.heap.size w wr
theorem SL.below {l : List Op7} {w wr w' : World} {Gk : Nat} {K : List Op7} {v : Value} {L : List Op7} (h : SL l w wr Gk K v L) (hb : Below wr.heap.size wr w') : SL l w w' Gk K v L :=
  ⟨h.row.kept (row := none) ⟨hb.os, hb.tape, hb.output, hb.size, fun i hi _ => hb.block i hi⟩ (by cases v.ownBlock <;> simp), h.ne, fun j hj => ((bcell hb).1 _ _ h.kl).trans (h.kc j hj), Nat.lt_of_lt_of_le h.kl hb.size, h.kg, Bstep h.bel hb⟩
theorem SL.app {l : List Op7} {w wr w' : World} {Gk : Nat} {K : List Op7} {v v' : Value} {L M : List Op7} (h : SL l w wr Gk K v L) (hg : wr.grownBy w' v.ownBlock) (hown : w'.ownsRow (w.heap.size + 1) 115 4 v' (L.length + M.length) (leafCells l L ++ leafCells l M))
    (hloc : v'.ownBlock = v.ownBlock ∨ v'.ownBlock = some wr.heap.size) : SL l w w' Gk K v' (L ++ M) := by
  have h1 := h.kl
  refine ⟨by rw [leafCells_app, List.length_append]; exact hown, fun j hj => ?_, fun j hj => (grown_cell hg h.kl (fun e => h.ne Gk e.symm rfl) j).trans (h.kc j hj), Nat.lt_of_lt_of_le h.kl hg.size, h.kg, below_grown h.bel hg h.bel.size (fun j e => by have := (h.row.lt j e).1; omega)⟩
  rcases hloc with e | e
  · exact h.ne j (e ▸ hj)
  · rw [e] at hj
    have := Option.some.inj hj
    omega

set_option maxRecDepth 100000 in
set_option maxHeartbeats 4000000 in
theorem l2Side_any (l : List Op7) (hops : opsB l = true) (g cap : Nat) (hn : l.length ≤ 1048576) (hcap : l.length ≤ cap) : ∀ (n d : Nat) (r m s : Int), Up l d (r, m) → d + n = l.length + 2 → ∀ (w : World), OpsAt w g l →
    Calls Tryd.prog 118 #[.slice (some ⟨g, 0, none⟩) l.length cap, .agg #[.int .i64 r, .int .i64 m], .int .i64 s] w fun e w' => ∃ G c, e = .returned (.slice (some ⟨G, 0, none⟩) (sideO l n (r, m, s)).length c) ∧ w'.ownsRow w.heap.size 115 4 (.slice (some ⟨G, 0, none⟩) (sideO l n (r, m, s)).length c) (sideO l n (r, m, s)).length (leafCells l (sideO l n (r, m, s))) ∧ Below w.heap.size w w' := by
  intro n
  induction n with
  | zero =>
    intro d r m s hu hd
    have := up_le hops hu
    omega
  | succ n ih =>
    intro d r m s hu hd w hl
    have IH : Hid (∀ (o : Op7), o ∈ kidsL l (r, m, s) → ∀ (t : Int) (w : World), OpsAt w g l → Calls Tryd.prog 118 #[.slice (some ⟨g, 0, none⟩) l.length cap, .agg #[.int .i64 o.a, .int .i64 o.b], .int .i64 t] w fun e w' => ∃ G c, e = .returned (.slice (some ⟨G, 0, none⟩) (sideO l n (o.a, o.b, t)).length c) ∧ w'.ownsRow w.heap.size 115 4 (.slice (some ⟨G, 0, none⟩) (sideO l n (o.a, o.b, t)).length c) (sideO l n (o.a, o.b, t)).length (leafCells l (sideO l n (o.a, o.b, t))) ∧ Below w.heap.size w w') :=
      fun o ho t w hw => ih (d + 1) o.a o.b t (up_kid ho hu) (by omega) w hw
    have HLEN : Hid ((sideK l n (kidsL l (r, m, s))).length ≤ l.length) := side_len (n := n + 1) (x := (r, m, s)) hops hu
    have HL := hideIt hl
    have hgw := hl.1
    have HO := hideIt hops
    have HMEM : Hid (∀ o ∈ kidsL l (r, m, s), o ∈ l) := fun o ho => (mem_kids ho).1
    clear ih hu hd hl hops
    have hKl : (kidsL l (r, m, s)).length ≤ 1048576 := Nat.le_trans (kids_le l _) hn
    rw [sideK_all]
    generalize hKK : kidsL l (r, m, s) = K at *
    have HKK := hideIt hKK
    clear hKK
    go_enter Tryd.func118, Tryd.ntmps118
    go_wp2_with fail
    have HB0 : Hid (Below w.heap.size w ((w.alloc (.cells #[.int .i64 r, .int .i64 m] 69)).alloc (.cells #[] 115))) := ((Below.refl _ _).alloc (Nat.le_refl _) _).alloc (by simp) _
    refine (l2Kids_any l _ _ _ _ _ _ (HL.out.below HB0.out hgw) hn hcap).mono ?_
    rintro e w1 ⟨vk, rfl, hrk, hb1⟩
    rw [HKK.out] at hrk
    have HB1 : Hid (Below w.heap.size w w1) := HB0.out.trans (hb1.mono (by simp; omega))
    have HR0 : Hid (w1.ownsRow (w.heap.size + 1) 115 4 (.slice (some ⟨w.heap.size + 1, 0, none⟩) 0 0) 0 []) := by
      have h := World.ownsRow_made (base := w.heap.size + 1) (e := 115) (size := 4) (w.alloc (.cells #[.int .i64 r, .int .i64 m] 69)) #[] 0 (by simp) (Nat.zero_le _) rfl
      simp only [World.size_alloc] at h
      exact h.kept (row := none) ⟨hb1.os, hb1.tape, hb1.output, hb1.size, fun i hi _ => hb1.block i hi⟩ (.inr (by simp [Value.ownBlock]))
    simp only [World.size_alloc] at hrk
    have hrk2 := hrk
    rcases row_cases hrk with ⟨hlen, p0, c0, rfl⟩ | ⟨hlen, Gk, capk, rfl, hcapk, hGl, hcell⟩
    · obtain rfl : K = [] := List.length_eq_zero_iff.1 hlen
      clear hrk hrk2 hb1 hlen
      go_wp2
      refine wp_loop_rounds 1 ?_
      rw [rounds_succ]
      go_wp2
      go_ret
      exact ⟨_, _, rfl, ownsRow_base (Nat.le_succ _) HR0.out, HB1.out⟩
    · have hGk : w.heap.size + 1 + 1 ≤ Gk := (hrk2.lt Gk rfl).1
      have HS0 : Hid (SL l w w1 Gk K (.slice (some ⟨w.heap.size + 1, 0, none⟩) 0 0) []) :=
        ⟨HR0.out, fun j e => by simp [Value.ownBlock] at e; omega, hcell, hGl, by omega, HB1.out⟩
      clear hrk hrk2 hb1 hcell hGl HR0 HB0 HB1
      obtain ⟨i0, hi, hz0', hz1', hz2⟩ := info_parts infoLeaf
      have HI1 := hideIt hi
      have HZ0 := hideIt hz0'
      have HZ1 := hideIt hz1'
      have HZ2 := hideIt hz2
      clear hi hz0' hz1' hz2
      go_wp2
      go_loopw [7, 9] (fun v i wr => ∃ k : Nat, k ≤ K.length ∧ i = .int .i64 k ∧ (∃ G c, v = .slice (some ⟨G, 0, none⟩) (sideK l n (K.take k)).length c) ∧ SL l w wr Gk K v (sideK l n (K.take k)))
        (fun _ i _ => K.length - (intOf i).toNat)
      case atStart => exact ⟨0, Nat.zero_le _, rfl, ⟨_, _, rfl⟩, HS0.out⟩
      case round =>
        obtain ⟨k, hk, rfl, ⟨G0, c0, rfl⟩, hSL⟩ := hrel
        have HSL := hideIt hSL
        clear hSL HS0
        by_cases hlt : k < K.length
        · obtain ⟨j0, j1⟩ := idCells_at2 (idsOf K) k (K[k].a, K[k].b) (by simp [idsOf, hlt])
          have y0 := (HSL.out.kc (k * 2) (by omega)).trans j0
          have y1 := (HSL.out.kc (k * 2 + 1) (by omega)).trans j1
          have hGr := HSL.out.kl
          have hlt' : (k : Int) < (K.length : Int) := by omega
          have hk0 : (0 : Int) ≤ (k : Int) := by omega
          have HMK : Hid (K[k] ∈ K) := List.getElem_mem hlt
          have HST := hideIt (sideK_step (l := l) (n := n) hlt)
          have HLE := hideIt (Nat.le_trans (sideK_le (l := l) (n := n) (K := K) (k + 1)) HLEN.out)
          have HOK : Hid ((idsOf K)[k]? = some (K[k].a, K[k].b)) := by show (idsOf K)[k]? = some (K[k].a, K[k].b); simp [idsOf, hlt]
          generalize K[k] = o at *
          clear j0 j1
          obtain ⟨fi, hfi, hfl, hfo⟩ := find_at HO.out (HMEM.out o HMK.out)
          have HFI := hideIt hfi
          have HLr := hideIt (HL.out.below HSL.out.bel hgw)
          clear hfi
          go_wp2_with fail
          refine (IH.out o HMK.out 0 _ HLr.out).mono ?_
          rintro e w2 ⟨G1, c1, rfl, hr1, hb2⟩
          have HR1 := hideIt hr1
          have HS2 := hideIt (HSL.out.below hb2)
          clear hr1 hb2 y0 y1 hGr HSL HLr
          have HLL : Hid ((sideK l n (K.take k)).length + (sideO l n (o.a, o.b, 0)).length + 1 + (sideO l n (o.a, o.b, 1)).length ≤ l.length) := by
            have h := HLE.out
            rw [HST.out] at h
            simp only [List.length_append, List.length_cons, List.length_nil] at h
            exact h
          have hll := HLL.out
          go_wp2_with (first
            | (at_builtin; refine wpList_append_own_at _ rfl _ _ 111 rfl (w.heap.size + 1) 115 i0 _ 4 32 Tryd.underlying111 HI1.out HZ0.out HZ1.out HZ2.out rfl (by decide) _ _ _ rfl HS2.out.row ⟨G1, 0, none⟩ (sideO l n (o.a, o.b, 0)).length c1 (leafCells l (sideO l n (o.a, o.b, 0))) rfl (leafCells_len l _) (HR1.out.cells rfl) (leafCells_one l _) (by unfold maxLen; omega) (by omega) (by have := HS2.out.bel.size; have := HS2.out.kg; have := HS2.out.kl; omega) ?_; intro v3 w3 hown3 hg3 _ hloc3;
                have HS3 := hideIt (HS2.out.app (M := sideO l n (o.a, o.b, 0)) hg3 hown3 hloc3); clear hown3 hg3 hloc3))
          obtain ⟨j0, j1⟩ := idCells_at2 (idsOf K) k (o.a, o.b) HOK.out
          have K3 : Hid (w3.drew.cell? ⟨Gk, k * 2, none⟩ = some (.int .i64 o.a) ∧ w3.drew.cell? ⟨Gk, k * 2 + 1, none⟩ = some (.int .i64 o.b) ∧ w3.drew.cell? ⟨g, fi * 7 + 6, none⟩ = some (.int .i64 o.g)) :=
            ⟨(HS3.out.kc (k * 2) (by omega)).trans j0, (HS3.out.kc (k * 2 + 1) (by omega)).trans j1, ((HL.out.below HS3.out.bel hgw).2 fi o hfo).2.2.2.2.2.2⟩
          have hGk3 : Gk < w3.drew.heap.size := HS3.out.kl
          have HS : Hid (SL l w w3.drew Gk K v3 (sideK l n (K.take k) ++ sideO l n (o.a, o.b, 0))) := HS3.out.below ((Below.refl _ _).drew)
          have hfl' : (fi : Int) < (l.length : Int) := by omega
          have hf0 : (0 : Int) ≤ (fi : Int) := by omega
          clear HS2 HR1 HS3 j0 j1
          go_region_held3 (fun w' => w'.cell? ⟨Gk, k * 2, none⟩ = some (.int .i64 o.a) ∧ w'.cell? ⟨Gk, k * 2 + 1, none⟩ = some (.int .i64 o.b) ∧ w'.cell? ⟨g, fi * 7 + 6, none⟩ = some (.int .i64 o.g))
            (first | exact K3.out | exact K4.out | exact K5.out | exact K6.out | exact K7.out)
            (first
              | (go_at_call 75; refine (l1Find_any l g cap _ _ _ (HL.out.below HS.out.bel hgw) hn hcap).mono ?_; rintro e w4 ⟨rfl, hb4⟩; rw [HFI.out]; have K4 : Hid (w4.cell? ⟨Gk, k * 2, none⟩ = some (.int .i64 o.a) ∧ w4.cell? ⟨Gk, k * 2 + 1, none⟩ = some (.int .i64 o.b) ∧ w4.cell? ⟨g, fi * 7 + 6, none⟩ = some (.int .i64 o.g)) := ⟨((bcell hb4).1 _ _ HS.out.kl).trans K3.out.1, ((bcell hb4).1 _ _ HS.out.kl).trans K3.out.2.1, ((bcell hb4).1 _ _ (Nat.lt_of_lt_of_le hgw HS.out.bel.size)).trans K3.out.2.2⟩; have HS := hideIt (HS.out.below hb4); clear hb4)
              | (go_at_call 133; refine (l2Gone_any l g cap _ _ _ (HL.out.below HS.out.bel hgw) hn hcap).mono ?_; rintro e w5 ⟨rfl, hb5⟩; have K5 : Hid (w5.cell? ⟨Gk, k * 2, none⟩ = some (.int .i64 o.a) ∧ w5.cell? ⟨Gk, k * 2 + 1, none⟩ = some (.int .i64 o.b) ∧ w5.cell? ⟨g, fi * 7 + 6, none⟩ = some (.int .i64 o.g)) := ⟨((bcell hb5).1 _ _ HS.out.kl).trans K4.out.1, ((bcell hb5).1 _ _ HS.out.kl).trans K4.out.2.1, ((bcell hb5).1 _ _ (Nat.lt_of_lt_of_le hgw HS.out.bel.size)).trans K4.out.2.2⟩; have HS := hideIt (HS.out.below hb5);
                  have HSA : Hid (SL l w (w5.alloc (.cells #[.int .i64 o.a, .int .i64 o.b, .int .i64 o.g, .bool (goneB l (o.a, o.b))] 115)) Gk K v3 (sideK l n (K.take k) ++ sideO l n (o.a, o.b, 0))) := HS.out.below ((Below.refl _ _).alloc (Nat.le_refl _) _);
                  have K6 : Hid ((w5.alloc (.cells #[.int .i64 o.a, .int .i64 o.b, .int .i64 o.g, .bool (goneB l (o.a, o.b))] 115)).cell? ⟨Gk, k * 2, none⟩ = some (.int .i64 o.a) ∧ (w5.alloc (.cells #[.int .i64 o.a, .int .i64 o.b, .int .i64 o.g, .bool (goneB l (o.a, o.b))] 115)).cell? ⟨Gk, k * 2 + 1, none⟩ = some (.int .i64 o.b) ∧ (w5.alloc (.cells #[.int .i64 o.a, .int .i64 o.b, .int .i64 o.g, .bool (goneB l (o.a, o.b))] 115)).cell? ⟨g, fi * 7 + 6, none⟩ = some (.int .i64 o.g)) := ⟨(World.cell?_alloc_lt _ _ _ HS.out.kl).trans K5.out.1, (World.cell?_alloc_lt _ _ _ HS.out.kl).trans K5.out.2.1, (World.cell?_alloc_lt _ _ _ (show g < _ from Nat.lt_of_lt_of_le hgw HS.out.bel.size)).trans K5.out.2.2⟩;
                  obtain ⟨v6, w6, hap, hown6, hg6, _, hloc6⟩ := run_append_own_at (P := Tryd.prog) (w5.alloc (.cells #[.int .i64 o.a, .int .i64 o.b, .int .i64 o.g, .bool (goneB l (o.a, o.b))] 115)) (w.heap.size + 1) 111 111 115 i0 _ 4 32 Tryd.underlying111 HI1.out HZ0.out HZ1.out HZ2.out rfl (by decide) v3 _ _ HSA.out.row ⟨w5.heap.size, 0, none⟩ 1 1 (leafCells l [o]) rfl (cells_new w5 (leafCells l [o]) 115) (leafCells_one l _) (by rw [List.length_append]; unfold maxLen; omega) (by rw [List.length_append]; omega) (by have := HSA.out.kg; have := HSA.out.kl; omega);
                  have K7 : Hid (w6.cell? ⟨Gk, k * 2, none⟩ = some (.int .i64 o.a) ∧ w6.cell? ⟨Gk, k * 2 + 1, none⟩ = some (.int .i64 o.b) ∧ w6.cell? ⟨g, fi * 7 + 6, none⟩ = some (.int .i64 o.g)) := ⟨(grown_cell hg6 HSA.out.kl (fun e => HSA.out.ne _ e.symm rfl) _).trans K6.out.1, (grown_cell hg6 HSA.out.kl (fun e => HSA.out.ne _ e.symm rfl) _).trans K6.out.2.1, (grown_cell hg6 (Nat.lt_of_lt_of_le hgw HSA.out.bel.size) (fun e => by have := (HSA.out.row.lt _ e.symm).1; omega) _).trans K6.out.2.2⟩;
                  have HS6 := hideIt (HSA.out.app (M := [o]) hg6 hown6 hloc6); clear hown6 hg6 hloc6 hb5)
              | (refine append_arm (t := 111) rfl rfl rfl rfl rfl hap ?_; clear hap))
          rename_i hS
          clear hS HSA HS K4 K5 K6 K3
          have y0 := K7.out.1
          have y1 := K7.out.2.1
          have hGr := HS6.out.kl
          go_wp2_with fail
          refine (IH.out o HMK.out 1 _ (HL.out.below HS6.out.bel hgw)).mono ?_
          rintro e w7 ⟨G7, c7, rfl, hr7, hb7⟩
          have HR7 := hideIt hr7
          have HS7 := hideIt (HS6.out.below hb7)
          clear hr7 hb7 y0 y1 hGr HS6 K7
          go_wp2_with (first
            | (at_builtin; refine wpList_append_own_at _ rfl _ _ 111 rfl (w.heap.size + 1) 115 i0 _ 4 32 Tryd.underlying111 HI1.out HZ0.out HZ1.out HZ2.out rfl (by decide) _ _ _ rfl HS7.out.row ⟨G7, 0, none⟩ (sideO l n (o.a, o.b, 1)).length c7 (leafCells l (sideO l n (o.a, o.b, 1))) rfl (leafCells_len l _) (HR7.out.cells rfl) (leafCells_one l _) (by simp only [List.length_append, List.length_cons, List.length_nil]; unfold maxLen; omega) (by simp only [List.length_append, List.length_cons, List.length_nil]; omega) (by have := HS7.out.kg; have := HS7.out.kl; omega) ?_; intro v8 w8 hown8 hg8 hnil8 hloc8;
                have HS8 := hideIt (HS7.out.app (M := sideO l n (o.a, o.b, 1)) hg8 hown8 hloc8); clear hown8 hg8 hloc8 hnil8))
          have HE := hideIt HS8.out
          have hrow := HS8.out.row
          rw [← HST.out] at hrow
          have hv8 : ∃ G c, v8 = .slice (some ⟨G, 0, none⟩) (sideK l n (K.take (k + 1))).length c := by
            rcases hrow.2 with ⟨_, h1⟩ | ⟨G, c, cur, h1, _⟩
            · exfalso
              rw [HST.out] at h1
              simp at h1
            · exact ⟨G, c, h1⟩
          exact ⟨⟨k + 1, by omega, by go_num, hv8, by rw [HST.out]; exact HS8.out⟩, by simp [intOf]; omega⟩
        · obtain rfl : k = K.length := by omega
          go_wp2
          go_ret
          have h := HSL.out.row
          have hbb := HSL.out.bel
          rw [List.take_length] at h ⊢
          exact ⟨_, _, rfl, ownsRow_base (Nat.le_succ _) h, hbb⟩
end Go.Proofs.YtficnhlkefpfnaaDoor

namespace Go.Proofs.YtficnhlkefpfnaaDoor
open Go.RowKit
set_option linter.unusedSimpArgs false
set_option linter.unusedVariables false
attribute [local go_sem ↓] Go.wp_at_zero Go.wp_at_succ

/-- All signs, as they stand, if what was done is ok. -/
def standL (l : List Op7) : List Op7 := if opsB l = true then allO l else []
theorem all_len {l : List Op7} (h : opsB l = true) : (allO l).length ≤ l.length := side_len (x := (0, 0, 1)) h Up.zero
theorem stand_len (l : List Op7) : (standL l).length ≤ l.length := by
  unfold standL
  split
  · rename_i h; exact all_len h
  · simp

set_option maxRecDepth 100000 in
set_option maxHeartbeats 1000000 in
theorem l2Leaves_any (l : List Op7) (hops : opsB l = true) (g cap : Nat) (w : World) (hl : OpsAt w g l) (hn : l.length ≤ 1048576) (hcap : l.length ≤ cap) :
    Calls Tryd.prog 94 #[.slice (some ⟨g, 0, none⟩) l.length cap] w fun e w' => ∃ G c, e = .returned (.slice (some ⟨G, 0, none⟩) (allO l).length c) ∧ w'.ownsRow w.heap.size 115 4 (.slice (some ⟨G, 0, none⟩) (allO l).length c) (allO l).length (leafCells l (allO l)) ∧ Below w.heap.size w w' := by
  have HL := hideIt hl
  have HO := hideIt hops
  clear hl hops
  go_enter Tryd.func94, Tryd.ntmps94
  go_wp2_with fail
  refine (l2Side_any l HO.out g cap hn hcap (l.length + 2) 0 0 0 1 Up.zero (by omega) _ HL.out).mono ?_
  rintro e w1 ⟨G, c, rfl, hr, hb⟩
  have HR := hideIt hr
  have HB := hideIt hb
  clear hr hb
  go_wp2
  go_ret
  exact ⟨_, _, rfl, HR.out, HB.out⟩

/-- A leaf's four parts. -/
structure Lf where
  a : Int
  b : Int
  g : Int
  z : Bool
def lfCells (L : List Lf) : List Value := L.flatMap fun o => [.int .i64 o.a, .int .i64 o.b, .int .i64 o.g, .bool o.z]
def lfs (l L : List Op7) : List Lf := L.map fun o => ⟨o.a, o.b, o.g, goneB l (o.a, o.b)⟩
theorem lfs_cells (l L : List Op7) : leafCells l L = lfCells (lfs l L) := by simp [leafCells, lfCells, lfs, List.flatMap_map]
theorem lfs_len (l L : List Op7) : (lfs l L).length = L.length := by simp [lfs]
theorem lfCells_len : ∀ L : List Lf, (lfCells L).length = L.length * 4
  | [] => rfl
  | x :: r => by have := lfCells_len r; simp [lfCells] at this ⊢; omega
theorem lfCells_at : ∀ (L : List Lf) (i : Nat) (x : Lf), L[i]? = some x → (lfCells L)[i * 4]? = some (.int .i64 x.a) ∧ (lfCells L)[i * 4 + 1]? = some (.int .i64 x.b) ∧ (lfCells L)[i * 4 + 2]? = some (.int .i64 x.g) ∧ (lfCells L)[i * 4 + 3]? = some (.bool x.z)
  | [], i, x, h => by simp at h
  | y :: r, 0, x, h => by simp at h; subst h; simp [lfCells]
  | y :: r, i + 1, x, h => by
    have ih := lfCells_at r i x (by simpa using h)
    have e : lfCells (y :: r) = .int .i64 y.a :: .int .i64 y.b :: .int .i64 y.g :: .bool y.z :: lfCells r := rfl
    rw [e, show (i + 1) * 4 = i * 4 + 1 + 1 + 1 + 1 by omega]
    simpa using ih

end Go.Proofs.YtficnhlkefpfnaaDoor
