/- A map in memory as a plain function from keys to values: looked up, stored into, and written through an entry. -/
import Derived.Maps.OwnOps
import Derived.Maps.AppendAt
import Derived.WalkKit
namespace Go.Proofs.YtpkdadccapemcaaDoor
open Go.RowKit
open Go.Maps (Keyed)
set_option linter.unusedSimpArgs false

/-- f, but v at a. -/
def upd {α : Type} [DecidableEq α] (f : α → Option Value) (a : α) (v : Value) : α → Option Value := fun x => if x = a then some v else f x

/-- These entries are f. -/
structure GoodMap {α : Type} (P : Program) (k : TypeId) (es : Array MapEntry) (clock : Nat) (enc : α → Value) (f : α → Option Value) : Prop where
  keys : ∀ e ∈ es.toList, ∃ l, keyOf P k e.key = some l
  vals : ∀ e ∈ es.toList, ∃ a, e.key = enc a ∧ f a = some e.val
  all : ∀ a v, f a = some v → ∃ e ∈ es.toList, e.key = enc a
  once : ∀ (i j : Nat) (e e' : MapEntry), es.toList[i]? = some e → es.toList[j]? = some e' → e.key = e'.key → i = j
  born : ∀ e ∈ es.toList, e.born < clock
  stamp : ∀ (i j : Nat) (e e' : MapEntry), es.toList[i]? = some e → es.toList[j]? = some e' → e.born = e'.born → i = j

/-- Block b is a map that holds f. -/
def MapFn {α : Type} (P : Program) (k : TypeId) (w : World) (b : Nat) (enc : α → Value) (f : α → Option Value) : Prop :=
  ∃ es clock, w.heap[b]? = some (.map es clock) ∧ GoodMap P k es clock enc f
/-- .. and s is the stamp of the entry at a. -/
def MapSt {α : Type} (P : Program) (k : TypeId) (w : World) (b : Nat) (enc : α → Value) (f : α → Option Value) (a : α) (s : Nat) : Prop :=
  ∃ es clock, w.heap[b]? = some (.map es clock) ∧ GoodMap P k es clock enc f ∧ ∃ (i : Nat) (e : MapEntry), es.toList[i]? = some e ∧ e.key = enc a ∧ e.born = s

section
variable {α : Type} [DecidableEq α] {P : Program} {k t e : TypeId} {w : World} {b : Nat} {enc : α → Value} {f : α → Option Value} {es : Array MapEntry} {clock : Nat}

omit [DecidableEq α] in
theorem MapFn.lt (h : MapFn P k w b enc f) : b < w.heap.size := by
  obtain ⟨es, clock, hb, _⟩ := h
  exact (Array.getElem?_eq_some_iff.1 hb).1
omit [DecidableEq α] in
theorem MapFn.kept {w' : World} {row : Option Nat} (h : MapFn P k w b enc f) (hg : w.grownBy w' row) (hne : some b ≠ row) : MapFn P k w' b enc f := by
  have hlt := h.lt
  obtain ⟨es, clock, hb, F⟩ := h
  exact ⟨es, clock, (hg.block b hlt hne).trans hb, F⟩
omit [DecidableEq α] in
theorem MapFn.below {w' : World} {B : Nat} (h : MapFn P k w b enc f) (hb : Below B w w') (hB : b < B) : MapFn P k w' b enc f := by
  obtain ⟨es, clock, hh, F⟩ := h
  exact ⟨es, clock, (hb.block b hB).trans hh, F⟩
omit [DecidableEq α] in
theorem MapSt.fn {a : α} {s : Nat} (h : MapSt P k w b enc f a s) : MapFn P k w b enc f := by
  obtain ⟨es, clock, hb, F, _⟩ := h
  exact ⟨es, clock, hb, F⟩
omit [DecidableEq α] in
theorem MapSt.kept {w' : World} {row : Option Nat} {a : α} {s : Nat} (h : MapSt P k w b enc f a s) (hg : w.grownBy w' row) (hne : some b ≠ row) : MapSt P k w' b enc f a s := by
  have hlt := h.fn.lt
  obtain ⟨es, clock, hb, F⟩ := h
  exact ⟨es, clock, (hg.block b hlt hne).trans hb, F⟩
omit [DecidableEq α] in
theorem mapFn_made (w : World) (P : Program) (k : TypeId) (enc : α → Value) : MapFn P k (w.alloc (.map #[] 0)) w.heap.size enc (fun _ => none) :=
  ⟨#[], 0, (MapKept.heap_alloc w _).1, by simp, by simp, by simp, by simp, by simp, by simp⟩

theorem GoodMap.push (h : GoodMap P k es clock enc f) {a : α} {kl : Lit} (hkey : keyOf P k (enc a) = some kl) (hno : ∀ e ∈ es.toList, e.key ≠ enc a) (v : Value) : GoodMap P k (es.push ⟨enc a, v, clock⟩) (clock + 1) enc (upd f a v) := by
  have mem : ∀ x, x ∈ (es.push ⟨enc a, v, clock⟩).toList → x ∈ es.toList ∨ x = ⟨enc a, v, clock⟩ := fun x hx => by simpa using hx
  have split : ∀ (i : Nat) (x : MapEntry), (es.push ⟨enc a, v, clock⟩).toList[i]? = some x → (i < es.size ∧ es.toList[i]? = some x) ∨ (i = es.size ∧ x = ⟨enc a, v, clock⟩) := by
    have hlen : es.toList.length = es.size := by simp
    intro i x hx
    rw [Array.toList_push] at hx
    rcases Nat.lt_or_ge i es.size with hi | hi
    · rw [List.getElem?_append_left (by omega)] at hx
      exact .inl ⟨hi, hx⟩
    · rw [List.getElem?_append_right (by omega)] at hx
      rcases Nat.eq_or_lt_of_le hi with hi | hi
      · subst hi
        simp at hx
        exact .inr ⟨rfl, hx.symm⟩
      · rw [List.getElem?_eq_none (by simp; omega)] at hx
        cases hx
  refine ⟨fun x hx => ?_, fun x hx => ?_, fun a' v' hf => ?_, fun i j x y hx hy hxy => ?_, fun x hx => ?_, fun i j x y hx hy hxy => ?_⟩
  · rcases mem x hx with hx | rfl
    · exact h.keys x hx
    · exact ⟨_, hkey⟩
  · rcases mem x hx with hx | rfl
    · obtain ⟨a', ha', hf⟩ := h.vals x hx
      have : a' ≠ a := fun e1 => hno x hx (by rw [ha', e1])
      exact ⟨a', ha', by simp [upd, this, hf]⟩
    · exact ⟨a, rfl, by simp [upd]⟩
  · simp only [Array.toList_push, List.mem_append, List.mem_singleton]
    by_cases e1 : a' = a
    · exact ⟨_, .inr rfl, by rw [e1]⟩
    · simp only [upd, e1, if_false] at hf
      obtain ⟨x, hx, hxk⟩ := h.all a' v' hf
      exact ⟨x, .inl hx, hxk⟩
  · rcases split i x hx with ⟨hi, hx'⟩ | ⟨rfl, rfl⟩ <;> rcases split j y hy with ⟨hj, hy'⟩ | ⟨rfl, rfl⟩
    · exact h.once i j x y hx' hy' hxy
    · exact absurd hxy (hno x (List.mem_of_getElem? hx'))
    · exact absurd hxy.symm (hno y (List.mem_of_getElem? hy'))
    · rfl
  · rcases mem x hx with hx | rfl
    · exact Nat.lt_succ_of_lt (h.born x hx)
    · exact Nat.lt_succ_self _
  · rcases split i x hx with ⟨hi, hx'⟩ | ⟨rfl, rfl⟩ <;> rcases split j y hy with ⟨hj, hy'⟩ | ⟨rfl, rfl⟩
    · exact h.stamp i j x y hx' hy' hxy
    · have := h.born x (List.mem_of_getElem? hx')
      dsimp only at hxy
      omega
    · have := h.born y (List.mem_of_getElem? hy')
      dsimp only at hxy
      omega
    · rfl

theorem GoodMap.set (h : GoodMap P k es clock enc f) (hinj : ∀ a a', enc a = enc a' → a = a') {a : α} {kl : Lit} (hkey : keyOf P k (enc a) = some kl) {j : Nat} {e0 : MapEntry} (r2 : es.toList[j]? = some e0) (r3 : e0.key = enc a) (v : Value) {es' : Array MapEntry}
    (hlist : es'.toList = es.toList.set j ⟨enc a, v, e0.born⟩) : GoodMap P k es' clock enc (upd f a v) := by
  have hjl : j < es.toList.length := (List.getElem?_eq_some_iff.1 r2).1
  have who : ∀ (i : Nat) (x : MapEntry), es'.toList[i]? = some x → (i = j ∧ x = ⟨enc a, v, e0.born⟩) ∨ (i ≠ j ∧ es.toList[i]? = some x) := by
    intro i x hx
    rw [hlist] at hx
    by_cases hij : j = i
    · subst hij
      rw [List.getElem?_set_self hjl] at hx
      exact .inl ⟨rfl, (Option.some.inj hx).symm⟩
    · rw [List.getElem?_set_ne hij] at hx
      exact .inr ⟨fun e1 => hij e1.symm, hx⟩
  have mem : ∀ x ∈ es'.toList, x = ⟨enc a, v, e0.born⟩ ∨ (x ∈ es.toList ∧ x.key ≠ enc a) := by
    intro x hx
    obtain ⟨i, hi⟩ := List.mem_iff_getElem?.1 hx
    rcases who i x hi with ⟨_, h'⟩ | ⟨h', h''⟩
    · exact .inl h'
    · exact .inr ⟨List.mem_of_getElem? h'', fun e1 => h' (h.once i j x e0 h'' r2 (by rw [e1, r3]))⟩
  refine ⟨fun x hx => ?_, fun x hx => ?_, fun a' v' hf => ?_, fun i1 i2 x y hx hy hxy => ?_, fun x hx => ?_, fun i1 i2 x y hx hy hxy => ?_⟩
  · rcases mem x hx with rfl | ⟨hx', _⟩
    · exact ⟨_, hkey⟩
    · exact h.keys x hx'
  · rcases mem x hx with rfl | ⟨hx', hne⟩
    · exact ⟨a, rfl, by simp [upd]⟩
    · obtain ⟨a', ha', hf⟩ := h.vals x hx'
      have : a' ≠ a := fun e1 => hne (by rw [ha', e1])
      exact ⟨a', ha', by simp [upd, this, hf]⟩
  · rw [hlist]
    by_cases e1 : a' = a
    · exact ⟨⟨enc a, v, e0.born⟩, List.mem_iff_getElem?.2 ⟨j, List.getElem?_set_self hjl⟩, by rw [e1]⟩
    · simp only [upd, e1, if_false] at hf
      obtain ⟨x, hx, hxk⟩ := h.all a' v' hf
      obtain ⟨i, hi⟩ := List.mem_iff_getElem?.1 hx
      have hij : j ≠ i := fun e2 => by
        subst e2
        rw [r2] at hi
        obtain rfl := Option.some.inj hi
        exact e1 (hinj _ _ (hxk.symm.trans r3))
      exact ⟨x, List.mem_iff_getElem?.2 ⟨i, by rw [List.getElem?_set_ne hij]; exact hi⟩, hxk⟩
  · rcases who i1 x hx with ⟨rfl, rfl⟩ | ⟨hi, hx'⟩ <;> rcases who i2 y hy with ⟨rfl, rfl⟩ | ⟨hj', hy'⟩
    · rfl
    · exact absurd (h.once _ _ _ _ r2 hy' (by rw [r3]; exact hxy)) (Ne.symm hj')
    · exact absurd (h.once _ _ _ _ hx' r2 (by rw [r3]; exact hxy)) hi
    · exact h.once _ _ _ _ hx' hy' hxy
  · rcases mem x hx with rfl | ⟨hx', _⟩
    · exact h.born e0 (List.mem_of_getElem? r2)
    · exact h.born x hx'
  · rcases who i1 x hx with ⟨rfl, rfl⟩ | ⟨hi, hx'⟩ <;> rcases who i2 y hy with ⟨rfl, rfl⟩ | ⟨hj', hy'⟩
    · rfl
    · exact absurd (h.stamp _ _ _ _ r2 hy' hxy) (Ne.symm hj')
    · exact absurd (h.stamp _ _ _ _ hx' r2 hxy) hi
    · exact h.stamp _ _ _ _ hx' hy' hxy

omit [DecidableEq α] in
/-- 'm[a]' and 'v, ok := m[a]'. -/
theorem MapFn.look (c : Bool) (h : MapFn P k w b enc f) (K : Keyed P k) (ht : P.underlying t = some (.map k e)) {z : Value} (hz : (zeroValue e).run P w = .ok z w)
    (hinj : ∀ a a', enc a = enc a' → a = a') (a : α) {kl : Lit} (hkey : keyOf P k (enc a) = some kl) :
    (Instr.lookup t (.map (some b)) (enc a) c).run P w = .ok (if c then .tuple #[(f a).getD z, .bool (f a).isSome] else (f a).getD z) w := by
  obtain ⟨es, clock, hb, G⟩ := h
  rcases K.find w hkey es.toList G.keys with ⟨r1, r2⟩ | ⟨j, e0, r1, r2, r3⟩
  · have hf : f a = none := by
      cases hf : f a
      · rfl
      · obtain ⟨e', he', hke⟩ := G.all a _ hf
        exact absurd hke (r2 e' he')
    simp [Instr.lookup, run_underlying ht, MapKept.run_getObj_map hb, K.check w _ hkey, r1, hz, Result.andThen, hf]
  · obtain ⟨a', ha', hf⟩ := G.vals e0 (List.mem_of_getElem? r2)
    obtain rfl : a' = a := hinj _ _ (ha'.symm.trans r3)
    simp [Instr.lookup, run_underlying ht, MapKept.run_getObj_map hb, K.check w _ hkey, r1, Result.andThen, hf]

open Go.ChangeMaps in
theorem set_grown (hb : w.heap[b]? = some (.map es clock)) (o : Obj) : w.grownBy (setBlock w b o) (some b) :=
  ⟨rfl, rfl, rfl, by simp [setBlock], fun i _ hi => heap_setBlock_other hb _ (fun e => hi (by rw [e]))⟩

open Go.ChangeMaps in
/-- 'm[a] = v'. -/
theorem MapFn.store (h : MapFn P k w b enc f) (K : Keyed P k) (ht : P.underlying t = some (.map k e)) (hinj : ∀ a a', enc a = enc a' → a = a') (a : α) (v : Value) {kl : Lit} (hkey : keyOf P k (enc a) = some kl) :
    ∃ w', (Instr.mapUpdate t (.map (some b)) (enc a) v).run P w = .ok () w' ∧ MapFn P k w' b enc (upd f a v) ∧ w.grownBy w' (some b) := by
  obtain ⟨es, clock, hb, G⟩ := h
  rcases K.find w hkey es.toList G.keys with ⟨r1, r2⟩ | ⟨j, e0, r1, r2, r3⟩
  · refine ⟨setBlock w b (.map (es.push ⟨enc a, v, clock⟩) (clock + 1)), ?_, ⟨_, _, heap_setBlock_same hb _, G.push hkey r2 v⟩, set_grown hb _⟩
    simp [Instr.mapUpdate, run_underlying ht, MapKept.run_getObj_map hb, K.check w false hkey, r1, MapKept.run_setObj_map _ hb, Result.andThen, setBlock]
  · have hj : es[j]? = some e0 := by simpa using r2
    refine ⟨setBlock w b (.map (es.modify j (fun e' => { e' with key := enc a, val := v })) clock), ?_, ⟨_, clock, heap_setBlock_same hb _, G.set hinj hkey r2 r3 v ?_⟩, set_grown hb _⟩
    · simp [Instr.mapUpdate, run_underlying ht, MapKept.run_getObj_map hb, K.check w false hkey, r1, hj, r3, K.stays w hkey, MapKept.run_setObj_map _ hb, Result.andThen, setBlock]
    · rw [Array.toList_modify, modify_eq_set _ _ _ _ r2]

open Go.ChangeMaps in
/-- The entry at a, made where there is none. -/
theorem MapFn.entry (h : MapFn P k w b enc f) (K : Keyed P k) (ht : P.underlying t = some (.map k e)) {z : Value} (hz : (zeroValue e).run P w = .ok z w) (hinj : ∀ a a', enc a = enc a' → a = a') (a : α) {kl : Lit} (hkey : keyOf P k (enc a) = some kl) :
    ∃ w' s, (Instr.mapEntry t (.map (some b)) (enc a)).run P w = .ok (.tuple #[(f a).getD z, goInt (s : Nat)]) w' ∧ MapSt P k w' b enc (upd f a ((f a).getD z)) a s ∧ w.grownBy w' (some b) := by
  obtain ⟨es, clock, hb, G⟩ := h
  rcases K.find w hkey es.toList G.keys with ⟨r1, r2⟩ | ⟨j, e0, r1, r2, r3⟩
  · have hf : f a = none := by
      cases hf : f a
      · rfl
      · obtain ⟨e', he', hke⟩ := G.all a _ hf
        exact absurd hke (r2 e' he')
    refine ⟨setBlock w b (.map (es.push ⟨enc a, z, clock⟩) (clock + 1)), clock, ?_, ⟨_, _, heap_setBlock_same hb _, by rw [hf]; exact G.push hkey r2 z, es.size, ⟨enc a, z, clock⟩, by simp, rfl, rfl⟩, set_grown hb _⟩
    simp [Instr.mapEntry, run_underlying ht, MapKept.run_getObj_map hb, K.check w false hkey, r1, hz, MapKept.run_setObj_map _ hb, Result.andThen, setBlock, hf]
  · have hj : es[j]? = some e0 := by simpa using r2
    obtain ⟨a', ha', hf⟩ := G.vals e0 (List.mem_of_getElem? r2)
    obtain rfl : a' = a := hinj _ _ (ha'.symm.trans r3)
    have hlist : (es.modify j (fun e' => { e' with key := enc a' })).toList = es.toList.set j ⟨enc a', e0.val, e0.born⟩ := by rw [Array.toList_modify, modify_eq_set _ _ _ _ r2]
    have hjl : j < es.toList.length := (List.getElem?_eq_some_iff.1 r2).1
    refine ⟨setBlock w b (.map (es.modify j (fun e' => { e' with key := enc a' })) clock), e0.born, ?_, ⟨_, clock, heap_setBlock_same hb _, by rw [hf]; exact G.set hinj hkey r2 r3 e0.val hlist, j, ⟨enc a', e0.val, e0.born⟩, by rw [hlist]; exact List.getElem?_set_self hjl, rfl, rfl⟩, set_grown hb _⟩
    simp [Instr.mapEntry, run_underlying ht, MapKept.run_getObj_map hb, K.check w false hkey, r1, hj, r3, K.stays w hkey, MapKept.run_setObj_map _ hb, Result.andThen, setBlock, hf]

open Go.ChangeMaps in
/-- The store through an entry. -/
theorem MapSt.write {a : α} {s : Nat} (h : MapSt P k w b enc f a s) (hinj : ∀ a a', enc a = enc a' → a = a') {kl : Lit} (hkey : keyOf P k (enc a) = some kl) (v : Value) :
    ∃ w', (Instr.entryStore t (.map (some b)) (goInt (s : Nat)) v).run P w = .ok () w' ∧ MapFn P k w' b enc (upd f a v) ∧ w.grownBy w' (some b) := by
  obtain ⟨es, clock, hb, G, i, e0, r2, r3, r4⟩ := h
  have hi : es[i]? = some e0 := by simpa using r2
  obtain ⟨hil, hie⟩ := Array.getElem?_eq_some_iff.1 hi
  have hfind : es.findIdx? (fun e => (e.born : Int) == (s : Int)) = some i := by
    rw [Array.findIdx?_eq_some_iff_getElem]
    refine ⟨hil, by rw [hie, r4]; simp, fun j hj => ?_⟩
    cases hc : ((es[j].born : Int) == (s : Int))
    · simp [hc]
    · have h0 : (es[j].born : Int) = (s : Int) := by simpa using hc
      have h1 : es[j].born = s := by omega
      have h2 := G.stamp j i es[j] e0 (by simp) r2 (by rw [h1, r4])
      omega
  refine ⟨setBlock w b (.map (es.modify i (fun e' => { e' with val := v })) clock), ?_, ⟨_, clock, heap_setBlock_same hb _, G.set hinj hkey r2 r3 v ?_⟩, set_grown hb _⟩
  · simp [Instr.entryStore, MapKept.run_getObj_map hb, goInt, asInt, asIntOf, hfind, MapKept.run_setObj_map _ hb, Result.andThen, setBlock]
  · rw [Array.toList_modify, modify_eq_set _ _ _ _ r2, r3]

omit [DecidableEq α] in
/-- The look-up, at the operation. -/
theorem wpList_look_fn (c : Bool) {ops : Array Oper} {rest : List Oper} {o : Oper} {A : Act} {Q : Exit → Act → World → Prop}
    (hg : o.guard = none) (m x : Operand) (hop : o.op = Op.lookup t m x c) (K : Keyed P k) (ht : P.underlying t = some (.map k e)) (z : Value) (hz : (zeroValue e).run P w = .ok z w)
    (hinj : ∀ a a', enc a = enc a' → a = a') (hm : A.eval m = .map (some b)) (hown : MapFn P k w b enc f) (a : α) (hx : A.eval x = enc a) (kl : Lit) (hkey : keyOf P k (enc a) = some kl)
    (hK : wpList P ops Q rest (A.put o.dst (if c then .tuple #[(f a).getD z, .bool (f a).isSome] else (f a).getD z)) w) :
    wpList P ops Q (o :: rest) A w := by
  refine wpList_plain hg fun K' hK' => ?_
  have hrun := hown.look c K ht hz hinj a hkey
  unfold Oper.wp
  simp only [execOp, hop, hm, hx, hrun, Result.andThen, Sem.run_bind, Sem.run_pure]
  exact hK' _ _ hK

omit [DecidableEq α] in
/-- The look-up without 'ok', at the operation. -/
theorem wpList_look0 {ops : Array Oper} {rest : List Oper} {o : Oper} {A : Act} {Q : Exit → Act → World → Prop}
    (hg : o.guard = none) (m x : Operand) (hop : o.op = Op.lookup t m x false) (K : Keyed P k) (ht : P.underlying t = some (.map k e)) (z : Value) (hz : (zeroValue e).run P w = .ok z w)
    (hinj : ∀ a a', enc a = enc a' → a = a') (hm : A.eval m = .map (some b)) (hown : MapFn P k w b enc f) (a : α) (hx : A.eval x = enc a) (kl : Lit) (hkey : keyOf P k (enc a) = some kl) (v : Value) (hv : (f a).getD z = v)
    (hK : wpList P ops Q rest (A.put o.dst v) w) :
    wpList P ops Q (o :: rest) A w := by
  subst hv
  exact wpList_look_fn false hg m x hop K ht z hz hinj hm hown a hx kl hkey hK
omit [DecidableEq α] in
/-- The look-up with 'ok', at the operation. -/
theorem wpList_look1 {ops : Array Oper} {rest : List Oper} {o : Oper} {A : Act} {Q : Exit → Act → World → Prop}
    (hg : o.guard = none) (m x : Operand) (hop : o.op = Op.lookup t m x true) (K : Keyed P k) (ht : P.underlying t = some (.map k e)) (z : Value) (hz : (zeroValue e).run P w = .ok z w)
    (hinj : ∀ a a', enc a = enc a' → a = a') (hm : A.eval m = .map (some b)) (hown : MapFn P k w b enc f) (a : α) (hx : A.eval x = enc a) (kl : Lit) (hkey : keyOf P k (enc a) = some kl) (v : Value) (hv : (f a).getD z = v) (q : Bool) (hq : (f a).isSome = q)
    (hK : wpList P ops Q rest (A.put o.dst (.tuple #[v, .bool q])) w) :
    wpList P ops Q (o :: rest) A w := by
  subst hv hq
  exact wpList_look_fn true hg m x hop K ht z hz hinj hm hown a hx kl hkey hK

/-- The store, at the operation. -/
theorem wpList_store_fn {ops : Array Oper} {rest : List Oper} {o : Oper} {A : Act} {Q : Exit → Act → World → Prop}
    (hg : o.guard = none) (m x v : Operand) (hop : o.op = Op.mapUpdate t m x v) (K : Keyed P k) (ht : P.underlying t = some (.map k e))
    (hinj : ∀ a a', enc a = enc a' → a = a') (hm : A.eval m = .map (some b)) (hown : MapFn P k w b enc f) (a : α) (hx : A.eval x = enc a) (kl : Lit) (hkey : keyOf P k (enc a) = some kl) (val : Value) (hv : A.eval v = val)
    (hK : ∀ w', MapFn P k w' b enc (upd f a val) → w.grownBy w' (some b) → wpList P ops Q rest (A.put o.dst undef) w') :
    wpList P ops Q (o :: rest) A w := by
  refine wpList_plain hg fun K' hK' => ?_
  obtain ⟨w', hrun, r1, r2⟩ := hown.store K ht hinj a val hkey
  unfold Oper.wp
  simp [execOp, hop, hm, hx, hv, hrun, Result.andThen]
  exact hK' _ _ (hK w' r1 r2)
/-- The entry, at the operation. -/
theorem wpList_entry_fn {ops : Array Oper} {rest : List Oper} {o : Oper} {A : Act} {Q : Exit → Act → World → Prop}
    (hg : o.guard = none) (m x : Operand) (hop : o.op = Op.mapEntry t m x) (K : Keyed P k) (ht : P.underlying t = some (.map k e)) (z : Value) (hz : (zeroValue e).run P w = .ok z w)
    (hinj : ∀ a a', enc a = enc a' → a = a') (hm : A.eval m = .map (some b)) (hown : MapFn P k w b enc f) (a : α) (hx : A.eval x = enc a) (kl : Lit) (hkey : keyOf P k (enc a) = some kl) (v : Value) (hv : (f a).getD z = v)
    (hK : ∀ w' (s : Nat), MapSt P k w' b enc (upd f a v) a s → w.grownBy w' (some b) → wpList P ops Q rest (A.put o.dst (.tuple #[v, goInt (s : Nat)])) w') :
    wpList P ops Q (o :: rest) A w := by
  subst hv
  refine wpList_plain hg fun K' hK' => ?_
  obtain ⟨w', s, hrun, r1, r2⟩ := hown.entry K ht hz hinj a hkey
  unfold Oper.wp
  simp only [execOp, hop, hm, hx, hrun, Result.andThen, Sem.run_bind, Sem.run_pure]
  exact hK' _ _ (hK w' s r1 r2)
/-- The store through an entry, at the operation. -/
theorem wpList_write_fn {ops : Array Oper} {rest : List Oper} {o : Oper} {A : Act} {Q : Exit → Act → World → Prop} {a : α} {s : Nat}
    (hg : o.guard = none) (m x v : Operand) (hop : o.op = Op.entryStore t m x v)
    (hinj : ∀ a a', enc a = enc a' → a = a') (hm : A.eval m = .map (some b)) (hown : MapSt P k w b enc f a s) (hx : A.eval x = goInt (s : Nat)) (kl : Lit) (hkey : keyOf P k (enc a) = some kl) (val : Value) (hv : A.eval v = val)
    (hK : ∀ w', MapFn P k w' b enc (upd f a val) → w.grownBy w' (some b) → wpList P ops Q rest (A.put o.dst undef) w') :
    wpList P ops Q (o :: rest) A w := by
  refine wpList_plain hg fun K' hK' => ?_
  obtain ⟨w', hrun, r1, r2⟩ := hown.write (t := t) hinj hkey val
  unfold Oper.wp
  simp [execOp, hop, hm, hx, hv, hrun, Result.andThen]
  exact hK' _ _ (hK w' r1 r2)
end
end Go.Proofs.YtpkdadccapemcaaDoor
