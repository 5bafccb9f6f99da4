/- The contract of the program's signAhead. -/
import Derived.Test.YtkbogcbppenaaaaDoorPackC
import Derived.Test.YtkbogcbppenaaaaDoorPackT
import Derived.Stop.RegionWithIn
namespace Go.Proofs.YtkbogcbppenaaaaDoor
open Go.RowKit
set_option linter.unusedSimpArgs false
set_option linter.unusedVariables false

/-- All leaves. -/
def lvs (l : List Op7) : List Lf := lfs l (allO l)
theorem lvs_len {l : List Op7} (h : opsB l = true) : (lvs l).length ≤ 36 := by
  unfold lvs
  rw [lfs_len]
  exact Nat.le_trans (all_len h) (ops_36 h)
theorem lvs_at {l : List Op7} {j : Nat} {x : Lf} (h : (lvs l)[j]? = some x) : ∃ p, (allO l)[j]? = some p ∧ p.a = x.a ∧ p.b = x.b := by
  unfold lvs lfs at h
  rw [List.getElem?_map] at h
  cases hp : (allO l)[j]? with
  | none => rw [hp] at h; cases h
  | some p => rw [hp] at h; cases h; exact ⟨p, rfl, rfl, rfl⟩
/-- One can do one thing more. -/
def mayMore (l : List Op7) (r : Int) : Bool := opsB l && inB r 1 3 && decide (cnt l r + 1 ≤ 12)
/-- The leaf that stands ahead of a place among those that are shown, and where. -/
def aheadOf (l : List Op7) (t : Nat) : Option (Lf × Nat) := match t with
  | 0 => none
  | k + 1 => match (shownI (lvs l))[k]? with
    | some j => match (lvs l)[j]? with | some x => some (x, j) | none => none
    | none => none
def leftOf (l : List Op7) (t : Nat) : Int × Int × Nat := match aheadOf l t with | some (x, j) => (x.a, x.b, j + 1) | none => (0, 0, 0)
theorem leftOf_zero (l : List Op7) : leftOf l 0 = (0, 0, 0) := rfl
theorem leftOf_succ {l : List Op7} {k j : Nat} {x : Lf} (h : (shownI (lvs l))[k]? = some j) (hx : (lvs l)[j]? = some x) : leftOf l (k + 1) = (x.a, x.b, j + 1) := by
  simp [leftOf, aheadOf, h, hx]
theorem shown_leaf {l : List Op7} {k : Nat} (h : k < (shownI (lvs l)).length) : ∃ j x, (shownI (lvs l))[k]? = some j ∧ (lvs l)[j]? = some x ∧ j < (lvs l).length := by
  have hj := shownI_lt (List.getElem_mem h)
  exact ⟨(shownI (lvs l))[k], (lvs l)[(shownI (lvs l))[k]], by simp [h], by simp [hj], hj⟩
/-- If something was put on the right of what stands ahead of a place, something stands behind it. -/
theorem left_next {l : List Op7} (h : opsB l = true) {t : Nat} (ht : t ≤ (shownI (lvs l)).length) (hk : kidsL l ((leftOf l t).1, (leftOf l t).2.1, 1) ≠ []) : (leftOf l t).2.2 < (lvs l).length := by
  have hll : (lvs l).length = (allO l).length := by unfold lvs; exact lfs_len _ _
  cases t with
  | zero =>
    rw [leftOf_zero] at hk ⊢
    rw [hll]
    exact all_first h hk
  | succ k =>
    obtain ⟨j, x, h1, h2, h3⟩ := shown_leaf (l := l) (k := k) (by omega)
    rw [leftOf_succ h1 h2] at hk ⊢
    obtain ⟨p, hp, ha, hb⟩ := lvs_at h2
    rw [hll]
    exact all_next h hp (by rw [ha, hb]; exact hk)
/-- What is put at a place: the leaf that stands behind. -/
def nextLf (l : List Op7) (t : Nat) : Int × Int := match (lvs l)[(leftOf l t).2.2]? with | some x => (x.a, x.b) | none => (0, 0)
def putO (l : List Op7) (r : Int) (t : Nat) (sg : Int) : Op7 :=
  if kidsL l ((leftOf l t).1, (leftOf l t).2.1, 1) = [] then ⟨r, cnt l r + 1, 1, (leftOf l t).1, (leftOf l t).2.1, 1, sg⟩ else ⟨r, cnt l r + 1, 1, (nextLf l t).1, (nextLf l t).2, 0, sg⟩
def mayPut (l : List Op7) (r t sg : Int) : Bool := mayMore l r && (inB sg 97 122 && inB t 0 (shownI (lvs l)).length)
/-- What is taken at a place. -/
def takeId (l : List Op7) (t : Nat) : Int × Int := match (shownI (lvs l))[t]? with
  | some j => match (lvs l)[j]? with | some x => (x.a, x.b) | none => (0, 0)
  | none => (0, 0)
def takeO (l : List Op7) (r : Int) (t : Nat) : Op7 := ⟨r, cnt l r + 1, 2, (takeId l t).1, (takeId l t).2, 0, 0⟩
def mayTake (l : List Op7) (r t : Int) : Bool := mayMore l r && inB t 0 ((shownI (lvs l)).length - 1)
end Go.Proofs.YtkbogcbppenaaaaDoor

namespace Go.Proofs.YtkbogcbppenaaaaDoor
open Go.RowKit
set_option linter.unusedSimpArgs false
set_option linter.unusedVariables false

theorem opsB_all {l : List Op7} (h : opsB l = true) : l.all okO = true ∧ ordB l = true ∧ l.all (refsB l) = true ∧ l.all (deepF l (l.length + 1)) = true := by
  unfold opsB at h
  simp only [Bool.and_eq_true] at h
  exact ⟨h.1, h.2.1, h.2.2.1, h.2.2.2⟩
theorem next_mem {l : List Op7} {o p : Op7} (h : nextO l o = some p) : p ∈ l ∧ p.a = o.c ∧ p.b = o.d := by
  rw [nextO_find'] at h
  have h1 := List.mem_of_find?_eq_some h
  have h2 := List.find?_some h
  simp [hasId] at h2
  exact ⟨h1, h2.1, h2.2⟩
theorem deep_up {l : List Op7} (hr : l.all (refsB l) = true) : ∀ (n : Nat) (o : Op7), o ∈ l → deepF l n o = true → ∃ d, Up l d (o.c, o.d) := by
  intro n
  induction n with
  | zero => intro o _ h; simp [deepF] at h
  | succ n ih =>
    intro o ho h
    unfold deepF at h
    cases hb : noB o.c o.d
    · rw [hb] at h
      cases hx : nextO l o with
      | none => rw [hx] at h; simp at h
      | some p =>
        rw [hx] at h
        obtain ⟨hm, ha, hb'⟩ := next_mem hx
        have hk : p.k = 1 := by
          have := List.all_eq_true.1 hr o ho
          unfold refsB at this
          rw [hb, hx] at this
          simpa using this
        obtain ⟨d, hd⟩ := ih p hm (by simpa using h)
        have := Up.step hm hk hd
        rw [ha, hb'] at this
        exact ⟨d + 1, this⟩
    · unfold noB at hb
      have := of_decide_eq_true hb
      rw [this.1, this.2]
      exact ⟨0, Up.zero⟩
theorem put_up {l : List Op7} (h : opsB l = true) {o : Op7} (ho : o ∈ l) : ∃ d, Up l d (o.c, o.d) := by
  obtain ⟨_, _, h3, h4⟩ := opsB_all h
  exact deep_up h3 _ o ho (List.all_eq_true.1 h4 o ho)
theorem kid_of {l : List Op7} {o : Op7} (ho : o ∈ l) (hk : o.k = 1) : o ∈ kidsL l (o.c, o.d, o.s) := by
  unfold kidsL
  rw [List.mem_filter]
  exact ⟨ho, by simp [isKid, hk]⟩
theorem side_kid {l : List Op7} {n : Nat} {x : Int × Int × Int} {o : Op7} (ho : o ∈ kidsL l x) : o ∈ sideO l (n + 1) x ∧ ∀ s, s = 0 ∨ s = 1 → ∀ y ∈ sideO l n (o.a, o.b, s), y ∈ sideO l (n + 1) x := by
  rw [show sideO l (n + 1) x = (kidsL l x).flatMap fun o => sideO l n (o.a, o.b, 0) ++ o :: sideO l n (o.a, o.b, 1) from rfl]
  refine ⟨List.mem_flatMap.2 ⟨o, ho, by simp⟩, fun s hs y hy => List.mem_flatMap.2 ⟨o, ho, ?_⟩⟩
  rcases hs with rfl | rfl
  · exact List.mem_append.2 (.inl hy)
  · exact List.mem_append.2 (.inr (List.mem_cons_of_mem _ hy))
theorem put_side {l : List Op7} (h : opsB l = true) {o : Op7} (ho : o ∈ l) (hk : o.k = 1) : (o.c = 0 ∧ o.d = 0 ∧ o.s = 1) ∨ (1 ≤ o.c ∧ (o.s = 0 ∨ o.s = 1)) := by
  have := List.all_eq_true.1 (opsB_all h).1 o ho
  unfold okO at this
  rw [opB_true] at this
  omega
theorem up_all {l : List Op7} (h : opsB l = true) : ∀ (d : Nat) (o : Op7), o ∈ l → o.k = 1 → Up l d (o.c, o.d) → o ∈ allO l ∧ ∀ s, s = 0 ∨ s = 1 → ∀ y ∈ sideO l (l.length + 2 - (d + 1)) (o.a, o.b, s), y ∈ allO l := by
  intro d
  induction d with
  | zero =>
    intro o ho hk hu
    have e : o.c = 0 ∧ o.d = 0 := by
      rcases up_inv hu with ⟨_, hx⟩ | ⟨e, p, he, _⟩
      · exact ⟨congrArg Prod.fst hx, congrArg Prod.snd hx⟩
      · omega
    have hs : o.s = 1 := by
      rcases put_side h ho hk with ⟨_, _, h⟩ | ⟨h, _⟩
      · exact h
      · omega
    have hkid := kid_of ho hk
    rw [e.1, e.2, hs] at hkid
    exact side_kid (n := l.length + 1) hkid
  | succ d ih =>
    intro o ho hk hu
    have hle := up_le h (Up.step ho hk hu)
    rcases up_inv hu with ⟨h0, _⟩ | ⟨e, p, he, hm, hpk, hu', hx⟩
    · omega
    · obtain rfl : e = d := by omega
      have ha : o.c = p.a := congrArg Prod.fst hx
      have hb : o.d = p.b := congrArg Prod.snd hx
      have hpp := op_pos (opsB_all h).1 hm
      have hs : o.s = 0 ∨ o.s = 1 := by
        rcases put_side h ho hk with ⟨_, _, h⟩ | ⟨_, h⟩
        · exact .inr h
        · exact h
      obtain ⟨_, hsub⟩ := ih p hm hpk hu'
      have hkid := kid_of ho hk
      rw [ha, hb] at hkid
      have e1 : l.length + 2 - (e + 1) = (l.length + 2 - (e + 1 + 1)) + 1 := by omega
      rw [e1] at hsub
      obtain ⟨h1, h2⟩ := side_kid (n := l.length + 2 - (e + 1 + 1)) hkid
      exact ⟨hsub o.s hs o h1, fun s hs' y hy => hsub o.s hs y (h2 s hs' y hy)⟩
/-- What was put stands. -/
theorem all_mem {l : List Op7} (h : opsB l = true) {o : Op7} (ho : o ∈ l) (hk : o.k = 1) : o ∈ allO l := by
  obtain ⟨d, hd⟩ := put_up h ho
  exact (up_all h d o ho hk hd).1
theorem side_put {l : List Op7} (n : Nat) {x : Int × Int × Int} {p : Op7} (h : p ∈ sideO l n x) : p ∈ l ∧ p.k = 1 := by
  obtain ⟨j, hj⟩ := side_desc n h
  clear h
  induction j generalizing x with
  | zero =>
    simp only [Desc] at hj
    obtain ⟨h1, h2, _⟩ := mem_kids hj
    exact ⟨h1, h2⟩
  | succ j ih =>
    simp only [Desc] at hj
    obtain ⟨o, s, _, h⟩ := hj
    exact ih h
/-- Those that stand are those that were put. -/
theorem all_perm {l : List Op7} (h : opsB l = true) : (allO l).Perm (l.filter fun o => o.k == 1) := by
  have hl : l.Nodup := nodup_of_once (once_of (opsB_all h).1 (opsB_all h).2.1)
  refine (List.perm_ext_iff_of_nodup (nodup_all h) (hl.filter _)).2 fun o => ⟨fun ho => ?_, fun ho => ?_⟩
  · obtain ⟨h1, h2⟩ := side_put _ ho
    exact List.mem_filter.2 ⟨h1, by simp [h2]⟩
  · obtain ⟨h1, h2⟩ := List.mem_filter.1 ho
    exact all_mem h h1 (by simpa using h2)
end Go.Proofs.YtkbogcbppenaaaaDoor

namespace Go.Proofs.YtkbogcbppenaaaaDoor
open Go.RowKit
set_option linter.unusedSimpArgs false
set_option linter.unusedVariables false

theorem shownTo_prefix (L : List Lf) (k j : Nat) : ∃ r, shownTo L (k + j) = shownTo L k ++ r := by
  induction j with
  | zero => exact ⟨[], by simp⟩
  | succ j ih =>
    obtain ⟨r, hr⟩ := ih
    refine ⟨r ++ [k + j].filter fun i => match L[i]? with | some x => !x.z | none => false, ?_⟩
    rw [← List.append_assoc, ← hr]
    unfold shownTo
    rw [← Nat.add_assoc, List.range_succ, List.filter_append]
    rfl
theorem shownTo_nShown (L : List Lf) : ∀ k, k ≤ L.length → (shownTo L k).length = nShown (L.take k) := by
  intro k
  induction k with
  | zero => intro _; simp [shownTo, nShown]
  | succ k ih =>
    intro hk
    have hlt : k < L.length := by omega
    rw [List.take_succ_eq_append_getElem hlt]
    cases hz : L[k].z
    · rw [shownTo_there hlt hz, nShown_there hz, List.length_append, ih (by omega)]; rfl
    · rw [shownTo_gone hlt hz, nShown_gone hz, ih (by omega)]
theorem shownI_len (L : List Lf) : (shownI L).length = nShown L := by
  unfold shownI
  rw [shownTo_nShown L L.length (Nat.le_refl _), List.take_length]
/-- A leaf that is not gone, and has so many ahead, is the one at that place. -/
theorem shownI_at {L p t : List Lf} {x : Lf} (h : p ++ x :: t = L) (hz : x.z = false) : (shownI L)[nShown p]? = some p.length := by
  have hl : p.length < L.length := by rw [← h]; simp
  have hx : L[p.length] = x := by simp [← h]
  have htk : L.take p.length = p := by simp [← h]
  obtain ⟨r, hr⟩ := shownTo_prefix L (p.length + 1) (L.length - (p.length + 1))
  rw [show p.length + 1 + (L.length - (p.length + 1)) = L.length by omega] at hr
  unfold shownI
  rw [hr, shownTo_there hl (by rw [hx]; exact hz)]
  have e := shownTo_nShown L p.length (by omega)
  rw [htk] at e
  rw [← e]
  simp
theorem at_mid {L p t : List Lf} {x : Lf} (h : p ++ x :: t = L) : L[p.length]? = some x := by simp [← h]
/-- What is taken at a place is the leaf that has so many ahead. -/
theorem takeId_at {l : List Op7} {p t : List Lf} {x : Lf} (h : p ++ x :: t = lvs l) (hz : x.z = false) : takeId l (nShown p) = (x.a, x.b) := by
  unfold takeId
  rw [shownI_at h hz]
  simp only [at_mid h]
theorem leftOf_at {l : List Op7} {p t : List Lf} {x : Lf} (h : p ++ x :: t = lvs l) (hz : x.z = false) : leftOf l (nShown p + 1) = (x.a, x.b, p.length + 1) :=
  leftOf_succ (shownI_at h hz) (at_mid h)

/-- The id of the last one; nothing, if there is none. -/
def lastId (L : List Lf) : Int × Int := match L.getLast? with | some x => (x.a, x.b) | none => (0, 0)
theorem lastId_nil : lastId [] = (0, 0) := rfl
theorem lastId_more (L : List Lf) (x : Lf) : lastId (L ++ [x]) = (x.a, x.b) := by simp [lastId]
/-- None of them stands behind a sign of that id. -/
def noneBehind (L : List Lf) (c d : Int) : Prop := ∀ p x t, p ++ x :: t = L → ¬ lastId p = (c, d)
theorem noneBehind_nil (c d : Int) : noneBehind [] c d := fun p x t h => by simp at h
theorem noneBehind_more {L : List Lf} {c d : Int} {x : Lf} (h : noneBehind L c d) (hx : ¬ lastId L = (c, d)) : noneBehind (L ++ [x]) c d := by
  intro p y t e
  rcases List.eq_nil_or_concat t with rfl | ⟨t', z, rfl⟩
  · obtain ⟨rfl, _⟩ := List.append_inj' e rfl
    exact hx
  · have e' : (p ++ y :: t') ++ [z] = L ++ [x] := by simpa using e
    obtain ⟨e1, _⟩ := List.append_inj' e' rfl
    exact h p y t' e1
theorem all_op {l : List Op7} (h : opsB l = true) {p : Op7} (hm : p ∈ allO l) : p ∈ l := (List.mem_filter.1 ((all_perm h).mem_iff.1 hm)).1
theorem lvs_pos {l : List Op7} (h : opsB l = true) {i : Nat} {x : Lf} (hx : (lvs l)[i]? = some x) : 1 ≤ x.a := by
  obtain ⟨p, hp, pa, _⟩ := lvs_at hx
  rw [← pa]
  exact op_pos (opsParts h).1 (all_op h (List.mem_of_getElem? hp))
theorem lvs_id {l : List Op7} (h : opsB l = true) {i j : Nat} {x y : Lf} (hx : (lvs l)[i]? = some x) (hy : (lvs l)[j]? = some y) (ha : x.a = y.a) (hb : x.b = y.b) : i = j := by
  obtain ⟨p, hp, pa, pb⟩ := lvs_at hx
  obtain ⟨q, hq, qa, qb⟩ := lvs_at hy
  have hm := (List.mem_of_getElem? hp)
  have hm' := (List.mem_of_getElem? hq)
  have e : p = q := once_eq (once_of (opsParts h).1 (opsParts h).2) (all_op h hm) (all_op h hm') (by rw [pa, qa, ha]) (by rw [pb, qb, hb])
  subst e
  have hn := nodup_all h
  obtain ⟨hi, ei⟩ := List.getElem?_eq_some_iff.1 hp
  obtain ⟨hj, ej⟩ := List.getElem?_eq_some_iff.1 hq
  exact (List.getElem_inj hn).1 (ei.trans ej.symm)
/-- What stands behind the sign ahead of a place is the leaf that is looked for. -/
theorem nextLf_behind {l : List Op7} (h : opsB l = true) {t : Nat} (ht : t ≤ (shownI (lvs l)).length) {p q : List Lf} {x : Lf} (e : p ++ x :: q = lvs l) (hl : lastId p = ((leftOf l t).1, (leftOf l t).2.1)) : nextLf l t = (x.a, x.b) := by
  suffices hh : (leftOf l t).2.2 = p.length by
    unfold nextLf
    rw [hh, at_mid e]
  rcases List.eq_nil_or_concat p with rfl | ⟨p', z, rfl⟩
  · cases t with
    | zero => rfl
    | succ k =>
      obtain ⟨j, y, h1, h2, h3⟩ := shown_leaf (l := l) (k := k) (by omega)
      rw [leftOf_succ h1 h2, lastId_nil] at hl
      have := lvs_pos h h2
      have := congrArg Prod.fst hl
      simp at this
      omega
  · have hz : (lvs l)[p'.length]? = some z := at_mid (p := p') (t := x :: q) (by simpa using e)
    rw [List.concat_eq_append, lastId_more] at hl
    cases t with
    | zero =>
      rw [leftOf_zero] at hl
      have := lvs_pos h hz
      have := congrArg Prod.fst hl
      simp at this
      omega
    | succ k =>
      obtain ⟨j, y, h1, h2, h3⟩ := shown_leaf (l := l) (k := k) (by omega)
      rw [leftOf_succ h1 h2] at hl ⊢
      have := lvs_id h hz h2 (congrArg Prod.fst hl) (congrArg Prod.snd hl)
      simp
      omega
/-- If something was put on its right, there is one. -/
theorem behind_is {l : List Op7} (h : opsB l = true) {t : Nat} (ht : t ≤ (shownI (lvs l)).length) (hk : kidsL l ((leftOf l t).1, (leftOf l t).2.1, 1) ≠ []) : ¬ noneBehind (lvs l) (leftOf l t).1 (leftOf l t).2.1 := by
  intro hno
  have hlt := left_next h ht hk
  refine hno ((lvs l).take (leftOf l t).2.2) ((lvs l)[(leftOf l t).2.2]) ((lvs l).drop ((leftOf l t).2.2 + 1)) (by rw [← List.drop_eq_getElem_cons hlt, List.take_append_drop]) ?_
  cases t with
  | zero => simp [leftOf_zero, lastId]
  | succ k =>
    obtain ⟨j, y, h1, h2, h3⟩ := shown_leaf (l := l) (k := k) (by omega)
    rw [leftOf_succ h1 h2]
    have hj : (lvs l)[j] = y := (List.getElem?_eq_some_iff.1 h2).2
    show lastId ((lvs l).take (j + 1)) = _
    rw [List.take_succ_eq_append_getElem h3, lastId_more, hj]
end Go.Proofs.YtkbogcbppenaaaaDoor

namespace Go.Proofs.YtkbogcbppenaaaaDoor
open Go.RowKit Go.Shelf
set_option linter.unusedSimpArgs false
set_option linter.unusedVariables false
attribute [local go_sem] Oper.semAt_some

theorem store_fn {P : Program} {w : World} {a : Addr} {m : Mode} (fn : Fn) (first captured : Array Value) : (store a (.func fn first captured) m).run P w = stored P w a (.func fn first captured) m := run_store P w a _ m rfl
attribute [local go_sem] store_fn

set_option maxHeartbeats 1000000 in
theorem counter_any (w : World) :
    Calls Tryd.prog 126 #[] w fun e w' => e = .returned (.func (.func 142) #[] #[.pointer (some ⟨w.heap.size, 0, none⟩)]) ∧ w' = w.alloc (.cells #[.int .i64 0] 3) := by
  go_enter Tryd.func126, Tryd.ntmps126
  go_wp2
  go_ret
  exact ⟨rfl, rfl⟩
set_option maxHeartbeats 1000000 in
theorem count_gone (a b g : Int) (Q : Nat) (k : Int) (w : World) (hq : w.heap[Q]? = some (.cells #[.int .i64 k] 3 (0, 0))) :
    Calls Tryd.prog 142 #[.agg #[.int .i64 a, .int .i64 b, .int .i64 g, .bool true], .pointer (some ⟨Q, 0, none⟩)] w fun e w' => e = .returned (.int .i64 k) ∧ Below w.heap.size w w' := by
  have q0 := (blk_cell hq 0).trans rfl
  have hQ := (Array.getElem?_eq_some_iff.1 hq).1
  go_enter Tryd.func142, Tryd.ntmps142
  go_wp2
  go_ret
  exact ⟨rfl, by go_grown⟩
set_option maxHeartbeats 1000000 in
theorem count_there (a b g : Int) (Q : Nat) (k : Nat) (hk : k ≤ 1048576) (w : World) (hq : w.heap[Q]? = some (.cells #[.int .i64 (k : Int)] 3 (0, 0))) :
    Calls Tryd.prog 142 #[.agg #[.int .i64 a, .int .i64 b, .int .i64 g, .bool false], .pointer (some ⟨Q, 0, none⟩)] w fun e w' => e = .returned (.int .i64 ((k : Int) + 1)) ∧ w' = (w.setCell ⟨Q, 0, none⟩ (.int .i64 ((k : Int) + 1))).alloc (.cells #[.int .i64 a, .int .i64 b, .int .i64 g, .bool false] 81) := by
  have q0 := (blk_cell hq 0).trans rfl
  have fq : w.frozen? ⟨Q, 0, none⟩ = false := by simp [World.frozen?, hq]
  have hQ := (Array.getElem?_eq_some_iff.1 hq).1
  go_enter Tryd.func142, Tryd.ntmps142
  go_wp2
  go_ret
  exact ⟨rfl, rfl⟩

/-- Four blocks that were laid one behind the other. -/
theorem all4 (w : World) (o0 o1 o2 o3 : Obj) (k : Nat) (hk : k < 4) : ((((w.alloc o0).alloc o1).alloc o2).alloc o3).heap[w.heap.size + k]? = [o0, o1, o2, o3][k]? := by
  have e : ((((w.alloc o0).alloc o1).alloc o2).alloc o3).heap = (((w.heap.push o0).push o1).push o2).push o3 := rfl
  rw [e]
  have : k = 0 ∨ k = 1 ∨ k = 2 ∨ k = 3 := by omega
  rcases this with rfl | rfl | rfl | rfl <;> simp [Array.getElem?_push, Array.getElem_push, Nat.add_assoc]

/-- The boxes of signAt: the place, the counter and who counts, and what is to be answered. -/
structure SI (S S1 S2 S3 Qc Qf : Nat) (t k ra rb : Int) (w W : World) : Prop where
  q : W.heap[Qc]? = some (.cells #[.int .i64 k] 3 (0, 0))
  fn : W.heap[Qf]? = some (.cells #[.func (.func 142) #[] #[.pointer (some ⟨Qc, 0, none⟩)]] 177 (0, 0))
  pl : W.heap[S1]? = some (.cells #[.int .i64 t] 3 (0, 0))
  r2 : W.heap[S2]? = some (.cells #[.int .i64 ra, .int .i64 rb] 30 (0, 0))
  r3 : W.heap[S3]? = some (.cells #[.nilIface] 88 (0, 0))
  bel : Below S w W
theorem SI.below {S S1 S2 S3 Qc Qf : Nat} {t k ra rb : Int} {w W W' : World} (h : SI S S1 S2 S3 Qc Qf t k ra rb w W) (hS : S ≤ S1) (hb : Below W.heap.size W W') : SI S S1 S2 S3 Qc Qf t k ra rb w W' :=
  ⟨blk_below h.q hb, blk_below h.fn hb, blk_below h.pl hb, blk_below h.r2 hb, blk_below h.r3 hb, h.bel.trans (hb.mono (by have := (Array.getElem?_eq_some_iff.1 h.pl).1; omega))⟩
theorem SI.kept {S S1 S2 S3 Qc Qf B : Nat} {t k ra rb : Int} {w A B' : World} {row : Option Nat} (hx : SI S S1 S2 S3 Qc Qf t k ra rb w A) (hS : S ≤ w.heap.size) (hB : S ≤ B) (hg : A.grownBy B' row) (hr : ∀ r, row = some r → B ≤ r ∧ ∃ o : Obj, A.heap[r]? = some o ∧ o.isCells = false) : SI S S1 S2 S3 Qc Qf t k ra rb w B' :=
  ⟨own_blk B Qc (fun _ : Unit => #[.int .i64 k]) _ () A B' row hx.q hg hr, own_blk B Qf (fun _ : Unit => #[.func (.func 142) #[] #[.pointer (some ⟨Qc, 0, none⟩)]]) _ () A B' row hx.fn hg hr, own_blk B S1 (fun _ : Unit => #[.int .i64 t]) _ () A B' row hx.pl hg hr,
    own_blk B S2 (fun _ : Unit => #[.int .i64 ra, .int .i64 rb]) _ () A B' row hx.r2 hg hr, own_blk B S3 (fun _ : Unit => #[.nilIface]) _ () A B' row hx.r3 hg hr, ownFrom_below (β := Unit) hS hB () A B' row hx.bel hg hr⟩
theorem SI.setQ {S S1 S2 S3 Qc Qf : Nat} {t k ra rb : Int} {w W : World} (h : SI S S1 S2 S3 Qc Qf t k ra rb w W) (h1 : S ≤ Qc) (h2 : S1 < Qc) (h3 : S2 < Qc) (h4 : S3 < Qc) (h5 : Qc < Qf) (k' : Int) : SI S S1 S2 S3 Qc Qf t k' ra rb w (W.setCell ⟨Qc, 0, none⟩ (.int .i64 k')) :=
  ⟨Boxed.set _ h.q, blk_set h.fn (by omega), blk_set h.pl (by omega), blk_set h.r2 (by omega), blk_set h.r3 (by omega), h.bel.setCell (p := ⟨Qc, 0, none⟩) h1 _⟩
theorem set_two {W : World} {b : Nat} {T : TypeId} {u v u' v' : Value} (h : W.heap[b]? = some (.cells #[u, v] T (0, 0))) : ((W.setCell ⟨b, 0, none⟩ u').setCell ⟨b, 1, none⟩ v').heap[b]? = some (.cells #[u', v'] T (0, 0)) := by
  simp only [World.setCell, Array.getElem?_modify, if_true, h, Option.map_some]
  rfl
theorem blk_set1 {W : World} {b c i : Nat} {o : Obj} {u : Value} (h : W.heap[b]? = some o) (hne : b ≠ c) : (W.setCell ⟨c, i, none⟩ u).heap[b]? = some o :=
  (Below.heap_setCell W ⟨c, i, none⟩ u b hne).trans h
theorem SI.setR {S S1 S2 S3 Qc Qf : Nat} {t k ra rb : Int} {w W : World} (h : SI S S1 S2 S3 Qc Qf t k ra rb w W) (h1 : S ≤ S2) (h2 : S1 < S2) (h3 : S2 < S3) (h4 : S2 < Qc) (h5 : S2 < Qf) (a b : Int) : SI S S1 S2 S3 Qc Qf t k a b w ((W.setCell ⟨S2, 0, none⟩ (.int .i64 a)).setCell ⟨S2, 1, none⟩ (.int .i64 b)) :=
  ⟨blk_set1 (blk_set1 h.q (by omega)) (by omega), blk_set1 (blk_set1 h.fn (by omega)) (by omega), blk_set1 (blk_set1 h.pl (by omega)) (by omega), set_two h.r2, blk_set1 (blk_set1 h.r3 (by omega)) (by omega), (h.bel.setCell (p := ⟨S2, 0, none⟩) h1 _).setCell (p := ⟨S2, 1, none⟩) h1 _⟩
theorem SI.setE {S S1 S2 S3 Qc Qf : Nat} {t k ra rb : Int} {w W : World} (h : SI S S1 S2 S3 Qc Qf t k ra rb w W) (h1 : S ≤ S3) (h2 : S1 < S3) (h3 : S2 < S3) (h4 : S3 < Qc) (h5 : S3 < Qf) : SI S S1 S2 S3 Qc Qf t k ra rb w (W.setCell ⟨S3, 0, none⟩ .nilIface) :=
  ⟨blk_set h.q (by omega), blk_set h.fn (by omega), blk_set h.pl (by omega), blk_set h.r2 (by omega), Boxed.set _ h.r3, h.bel.setCell (p := ⟨S3, 0, none⟩) h1 _⟩

set_option maxRecDepth 100000 in
set_option maxHeartbeats 2000000 in
theorem signAt_in (l : List Op7) (hops : opsB l = true) (hn : l.length ≤ 1048576) (w0 : World) (b1 b2 b3 base : Nat) (hT : TreeAt w0 b1 b2 b3 base l) (n : Nat) (h3 : 3 ≤ n) (t : Int) (x : Addr) (w : World) (hW : Below w0.heap.size w0 w)
    (he : w.cell? ⟨0, 0, none⟩ = some (.iface 191 (.pointer (some x)))) (h0 : 0 < w.heap.size) :
    CallsIn Fence.wide n Tryd.prog 100 #[.agg #[.map (some b1), .map (some b2), .map (some b3)], .int .i64 t] w fun e w' =>
      ((∃ k j y, t = (k : Nat) ∧ (shownI (lvs l))[k]? = some j ∧ (lvs l)[j]? = some y ∧ e = .returned (.tuple #[.agg #[.int .i64 y.a, .int .i64 y.b], .nilIface])) ∨ (inB t 0 ((shownI (lvs l)).length - 1) = false ∧ e = .returned (.tuple #[.agg #[.int .i64 0, .int .i64 0], .iface 191 (.pointer (some x))]))) ∧ Below w.heap.size w w' := by
  have h1 : 1 ≤ n := by omega
  have HW := hideIt hW
  have HTT := hideIt hT
  have HO := hideIt hops
  clear hW hT hops
  refine callsIn_of_wp_marks Tryd.func100 rfl trivial ?_ rfl
  simp only [Tryd.ntmps100, List.size_toArray, List.length_cons, List.length_nil, Nat.reduceAdd, Nat.reduceSub, Array.replicate_succ, Array.replicate_zero, List.push_toArray, List.append_toArray, List.nil_append, List.cons_append]
  have A4 : Hid (∃ W4, ((((w.alloc (.cells #[.map (some b1), .map (some b2), .map (some b3)] 86)).alloc (.cells #[.int .i64 t] 3)).alloc (.cells #[.int .i64 0, .int .i64 0] 30)).alloc (.cells #[.nilIface] 88)) = W4 ∧
      W4.heap[w.heap.size]? = some (.cells #[.map (some b1), .map (some b2), .map (some b3)] 86 (0, 0)) ∧ W4.heap[w.heap.size + 1]? = some (.cells #[.int .i64 t] 3 (0, 0)) ∧ W4.heap[w.heap.size + 1 + 1]? = some (.cells #[.int .i64 0, .int .i64 0] 30 (0, 0)) ∧ W4.heap[w.heap.size + 1 + 1 + 1]? = some (.cells #[.nilIface] 88 (0, 0)) ∧ W4.heap.size = w.heap.size + 1 + 1 + 1 + 1 ∧ Below w.heap.size w W4) :=
    ⟨_, rfl, all4 w _ _ _ _ 0 (by omega), all4 w _ _ _ _ 1 (by omega), all4 w _ _ _ _ 2 (by omega), all4 w _ _ _ _ 3 (by omega), by simp, ((((Below.refl _ _).alloc (Nat.le_refl _) _).alloc (by simp) _).alloc (by simp; omega) _).alloc (by simp; omega) _⟩
  by_cases hneg : t < 0
  · gi_wp2
    obtain ⟨W4, hW4, ht4, ha4, hi4, he4, hz4, hb4⟩ := A4.out
    rw [hW4]
    clear hW4 A4 HTT HW HO
    have herr : W4.cell? ⟨0, 0, none⟩ = some (.iface 191 (.pointer (some x))) := errB hb4 h0 he
    have i0 := (blk_cell hi4 0).trans rfl
    have i1 := (blk_cell hi4 1).trans rfl
    have e0 := (blk_cell he4 0).trans rfl
    have fi : ∀ j, W4.frozen? ⟨w.heap.size + 1 + 1, j, none⟩ = false := fun j => by simp [World.frozen?, hi4]
    have fe : W4.frozen? ⟨w.heap.size + 1 + 1 + 1, 0, none⟩ = false := by simp [World.frozen?, he4]
    have HBW := hideIt hb4
    clear he hi4 he4 ht4 ha4 hb4
    generalize hS1 : w.heap.size + 1 = S1 at *
    generalize hS2 : S1 + 1 = S2 at *
    generalize hS3 : S2 + 1 = S3 at *
    generalize hS : w.heap.size = S at *
    have n02 : ¬ 0 = S2 := by omega
    have n20 : ¬ S2 = 0 := by omega
    have n03 : ¬ 0 = S3 := by omega
    have n30 : ¬ S3 = 0 := by omega
    have n23 : ¬ S2 = S3 := by omega
    have n32 : ¬ S3 = S2 := by omega
    refine wpIn_wide.2 ?_
    go_region_held3 (fun w' => w'.cell? ⟨0, 0, none⟩ = some (.iface 191 (.pointer (some x)))) (first | exact herr | (simp [go_sem, herr, n02, n20, n03, n30])) (fail)
    gi_wp2
    exact ⟨.tuple #[.agg #[.int .i64 0, .int .i64 0], .iface 191 (.pointer (some x))], by simp [results, Tryd.results100, go_sem, i0, i1, e0, n23, n32], .inr ⟨by simp [inB]; omega, rfl⟩, hS.symm ▸ (((HBW.out.setCell (p := ⟨S2, 0, none⟩) (by show S ≤ S2; omega) _).setCell (p := ⟨S2, 1, none⟩) (by show S ≤ S2; omega) _).setCell (p := ⟨S3, 0, none⟩) (by show S ≤ S3; omega) _).drew⟩
  · gi_wp2
    refine ⟨trivial, ?_⟩
    obtain ⟨W4, hW4, ht4, ha4, hi4, he4, hz4, hb4⟩ := A4.out
    rw [hW4]
    refine (callsIn_wide.2 (counter_any _)).mono ?_
    rintro e w1 ⟨rfl, hw1⟩
    have hb1 : Below W4.heap.size W4 w1 := by rw [hw1]; exact (Below.refl _ _).alloc (Nat.le_refl _) _
    have hc1 : w1.heap[W4.heap.size]? = some (.cells #[.int .i64 0] 3 (0, 0)) := by rw [hw1]; exact World.alloc_heap_new _ _
    have hz1 : w1.heap.size = W4.heap.size + 1 := by rw [hw1]; simp
    clear hw1 hW4 A4
    have ht1 := blk_below ht4 hb1
    have ct0 := (blk_cell ht1 0).trans rfl
    have ct1 := (blk_cell ht1 1).trans rfl
    have ct2 := (blk_cell ht1 2).trans rfl
    have g0 : w.heap.size < w1.heap.size := by omega
    have HZ1 := hideIt hz1
    have HZ4 := hideIt hz4
    clear hz1 hz4 ht4
    generalize hQc : W4.heap.size = Qc at *
    gi_wp2
    refine ⟨trivial, ?_⟩
    refine (callsIn_wide.2 (leaves_any _ _ _ _ ⟨rfl, rfl, rfl⟩ b1 b2 b3 ⟨rfl, rfl, rfl⟩)).mono ?_
    rintro e w2 ⟨rfl, rfl⟩
    gi_wp2
    obtain ⟨Wb, hWb⟩ : ∃ Wb, ((w1.alloc (.cells #[.func (.func 142) #[] #[.pointer (some ⟨Qc, 0, none⟩)]] 177)).alloc (.cells #[.map (some b1), .map (some b2), .map (some b3)] 86)) = Wb := ⟨_, rfl⟩
    have hsb : Wb.heap.size = w1.heap.size + 1 + 1 := by rw [← hWb]; simp
    have hBw : Below w1.heap.size w1 Wb := by rw [← hWb]; exact ((Below.refl _ _).alloc (Nat.le_refl _) _).alloc (by simp) _
    have hbox : Wb.heap[w1.heap.size]? = some (.cells #[.func (.func 142) #[] #[.pointer (some ⟨Qc, 0, none⟩)]] 177 (0, 0)) := by rw [← hWb]; exact (Below.heap_alloc _ _ _ (by simp)).trans (World.alloc_heap_new _ _)
    have hblk : Wb.heap[w1.heap.size + 1]? = some (.cells #[.map (some b1), .map (some b2), .map (some b3)] 86 (0, 0)) := by
      rw [← hWb]
      have h := World.alloc_heap_new (w1.alloc (.cells #[.func (.func 142) #[] #[.pointer (some ⟨Qc, 0, none⟩)]] 177)) (.cells #[.map (some b1), .map (some b2), .map (some b3)] 86)
      rw [World.size_alloc] at h
      exact h
    rw [hWb]
    have hb1' : Below W4.heap.size W4 w1 := hQc.symm ▸ hb1
    have HSI : Hid (SI w.heap.size (w.heap.size + 1) (w.heap.size + 1 + 1) (w.heap.size + 1 + 1 + 1) Qc w1.heap.size t 0 0 0 w Wb) := ⟨blk_below hc1 hBw, hbox, blk_below (blk_below ha4 hb1') hBw, blk_below (blk_below hi4 hb1') hBw, blk_below (blk_below he4 hb1') hBw, Bstep (Bstep hb4 hb1') hBw⟩
    have HSQ := hideIt (leaves_stops l HO.out hn w0 b1 b2 b3 base HTT.out (n - 1) (w1.heap.size + 1) Wb (HW.out.trans (HSI.out.bel.mono HW.out.size)) hblk)
    have hlen : (allO l).length ≤ 1048576 := Nat.le_trans (all_len HO.out) hn
    have hn0 : w0.heap.size ≤ w.heap.size := HW.out.size
    have hz1 := HZ1.out
    have hz4 := HZ4.out
    have HE0 : Hid (∀ W, Below w.heap.size w W → W.cell? ⟨0, 0, none⟩ = some (.iface 191 (.pointer (some x)))) := fun W h => errB h h0 he
    clear HTT HW hbox hblk hWb ct0 ct1 ct2 hBw hb1 hb1' hc1 ha4 hi4 he4 hb4 ht1 HZ1 HZ4 he
    generalize hBt : w1.heap.size + 1 = Bt at *
    generalize hQf : w1.heap.size = Qf at *
    generalize hS1 : w.heap.size + 1 = S1 at *
    generalize hS2 : S1 + 1 = S2 at *
    generalize hS3 : S2 + 1 = S3 at *
    generalize hS : w.heap.size = S at *
    obtain ⟨tk, rfl⟩ : ∃ tk : Nat, t = tk := ⟨t.toNat, by omega⟩
    have oc : S3 < Qc := by omega
    have oq : Qc < Qf := by omega
    have ob : Wb.heap.size = Bt + 1 := by omega
    clear hneg hz1 hz4
    refine wpIn_rangeFunc_ownH rfl h1 (gf := 124) (lb := #[.pointer (some ⟨Bt, 0, none⟩)]) rfl trivial (enters_of Tryd.func124 (by kernel_rfl) rfl) HSQ.out
      (fun h k => h.trans k) (kpT_b (by omega)) (Below.refl _ _) (fun _ => rfl)
      (fun pre W => SI S S1 S2 S3 Qc Qf tk (nShown pre : Nat) 0 0 w W ∧ nShown pre ≤ tk)
      (fun c pre W => c = .ret ∧ ∃ p y, pre = p ++ [y] ∧ y.z = false ∧ nShown p = tk ∧ SI S S1 S2 S3 Qc Qf tk (nShown pre : Nat) y.a y.b w W)
      (fun s A B' row hx hg hr => ⟨hx.1.kept (by omega) (by omega) hg hr, hx.2⟩)
      (fun c s A B' row hx hg hr => by obtain ⟨h1, p, y, h2, h3, h4, h5⟩ := hx; exact ⟨h1, p, y, h2, h3, h4, h5.kept (by omega) (by omega) hg hr⟩)
      ⟨HSI.out, Nat.zero_le _⟩
      (fun x' a' W => ∃ Bx, Qf + 1 ≤ Bx ∧ W.heap[Bx]? = some (.cells #[.int .i64 x'.a, .int .i64 x'.b, .int .i64 x'.g, .bool x'.z] 81 (0, 0)) ∧ a' =
        { tmps := #[Value.agg #[Value.map (some b1), Value.map (some b2), Value.map (some b3)], Value.int IntKind.i64 tk,
          Value.pointer (some { block := S, off := 0 }),
          Value.pointer (some { block := S1, off := 0 }),
          Value.pointer (some { block := S2, off := 0 }),
          Value.pointer (some { block := S3, off := 0 }),
          Value.pointer (some { block := Qf, off := 0 }), Value.pointer (some { block := Bx, off := 0 }), Value.int IntKind.i64 tk, Value.bool false,
          undef, undef, Value.func (Fn.func 142) #[] #[Value.pointer (some { block := Qc, off := 0 })],
          Value.agg #[Value.map (some b1), Value.map (some b2), Value.map (some b3)],
          Value.func (Fn.func 124) #[] #[Value.pointer (some { block := Bt, off := 0 })], lfV x', undef,
          undef, undef, undef, undef, undef, undef, undef, undef], defers := [] })
      ?hAx ?assign ?body ?done ?stop
    case hAx =>
      rintro x' a' _ A B row ⟨Bx, hb, hx, ha⟩ hg hr
      exact ⟨Bx, hb, (hg.block Bx (Array.getElem?_eq_some_iff.1 hx).1 (fun e => by obtain ⟨_, o, ho, hc⟩ := hr Bx e.symm; rw [hx] at ho; cases ho; cases hc)).trans hx, ha⟩
    case assign =>
      rintro lp pre x' W K ⟨hci, hfr⟩ hK
      have hsW : S ≤ W.heap.size := by have := hci.bel.size; omega
      have hQW := (Array.getElem?_eq_some_iff.1 hci.fn).1
      unfold lfV
      gi_wp2
      exact hK _ _ ((KeepsOthers.alloc _ _).from _) (KpT.of_below (by omega) ((Below.refl _ _).alloc (Nat.le_refl _) _)) ⟨hci.below (by omega) ((Below.refl _ _).alloc (Nat.le_refl _) _), hfr⟩ ⟨W.heap.size, by omega, World.alloc_heap_new _ _, rfl⟩
    case body =>
      rintro lp pre x' a' W hl ⟨rr, hr⟩ ⟨hci, hfr⟩ ⟨Bx, hbx, hx, rfl⟩ hlt
      have HCW := hideIt hci
      have HX := hideIt hx
      have x0 := (blk_cell hx 0).trans rfl
      have x1 := (blk_cell hx 1).trans rfl
      have x2 := (blk_cell hx 2).trans rfl
      have x3 := (blk_cell hx 3).trans rfl
      have f2 := (blk_cell hci.fn 0).trans rfl
      have p1 := (blk_cell hci.pl 0).trans rfl
      have hgone : Hid (x'.z = true → nShown (pre ++ [x']) = nShown pre) := nShown_gone
      have hthere : Hid (x'.z = false → nShown (pre ++ [x']) = nShown pre + 1) := nShown_there
      have hyes : Hid (x'.z = false → nShown pre = tk → ∀ W9, SI S S1 S2 S3 Qc Qf tk (nShown (pre ++ [x']) : Nat) x'.a x'.b w W9 → ∃ p y, pre ++ [x'] = p ++ [y] ∧ y.z = false ∧ nShown p = tk ∧ SI S S1 S2 S3 Qc Qf tk (nShown (pre ++ [x']) : Nat) y.a y.b w W9) := fun h1 h2 W9 h3 => ⟨pre, x', rfl, h1, h2, h3⟩
      have hsl : nShown pre ≤ 1048576 := Nat.le_trans (nShown_le _) (by omega)
      have hsW : S ≤ W.heap.size := by have := hci.bel.size; omega
      clear hr hx hci
      generalize x'.a = xa at *
      generalize x'.b = xb at *
      generalize x'.g = xg at *
      generalize x'.z = xz at *
      generalize hns : nShown pre = ns at *
      cases xz
      · have HT := hideIt (hthere.out (by first | rfl | trivial))
        have HYS := hideIt (hyes.out (by first | rfl | trivial))
        have HQd : Hid (W.drew.heap[Qc]? = some (.cells #[.int .i64 (ns : Int)] 3 (0, 0))) := HCW.out.q
        have HSd : Hid (SI S S1 S2 S3 Qc Qf tk ((ns : Int) + 1) 0 0 w (W.drew.setCell ⟨Qc, 0, none⟩ (.int .i64 ((ns : Int) + 1)))) := (HCW.out.below (by omega) ((Below.refl _ _).drew)).setQ (by omega) (by omega) (by omega) (by omega) (by omega) _
        have HPd : Hid (KpT w0.heap.size W (W.drew.setCell ⟨Qc, 0, none⟩ (.int .i64 ((ns : Int) + 1)))) := (KpT.of_below (by omega) ((Below.refl _ _).drew)).trans (kpT_row (W := W.drew) (by show w0.heap.size ≤ W.heap.size; omega) (grownBy_setCell' _ _ _) (fun j e => by cases e; exact ⟨by omega, _, _, _, HCW.out.q, by decide⟩))
        have hsz9 : w0.heap.size ≤ (W.drew.setCell ⟨Qc, 0, none⟩ (.int .i64 ((ns : Int) + 1))).heap.size := Nat.le_trans (by omega) HPd.out.1.size
        have n23 : ¬ S3 = S2 := by omega
        have nb2 : ¬ Bx = S2 := by omega
        clear hthere hgone hyes
        gi_wp2
        gi_region_with (first
          | (refine ⟨trivial, (fun h => by cases h), ?_⟩; refine ((callsIn_wide.2 (count_there xa xb xg Qc ns hsl _ HQd.out)).inRound lp).mono ?_; rintro e W2 ⟨rfl, hw2⟩;
              have HS2 : Hid (SI S S1 S2 S3 Qc Qf tk ((ns : Int) + 1) 0 0 w W2) := (by rw [hw2]; exact HSd.out.below (by omega) ((Below.refl _ _).alloc (Nat.le_refl _) _));
              have HX2 : Hid (W2.heap[Bx]? = some (.cells #[.int .i64 xa, .int .i64 xb, .int .i64 xg, .bool false] 81 (0, 0))) := (by rw [hw2]; exact blk_below (blk_set (W := W.drew) HX.out (by omega)) ((Below.refl _ _).alloc (Nat.le_refl _) _));
              have HK2 : Hid (KeepsOthers W W2) := (by rw [hw2]; exact ((KeepsOthers.drew W).trans (KeepsOthers.setCell _ _ _)).trans (KeepsOthers.alloc _ _));
              have HP2 : Hid (KpT w0.heap.size W W2) := (by rw [hw2]; exact HPd.out.trans (KpT.of_below hsz9 ((Below.refl _ _).alloc (Nat.le_refl _) _)));
              have p2 := (blk_cell HS2.out.pl 0).trans rfl; clear hw2)
          | gi_in)
        all_goals
          clear HSd HPd HQd p1 f2 x0 x1 x2 x3 p2
          have y0 := (blk_cell HX2.out 0).trans rfl
          have y1 := (blk_cell HX2.out 1).trans rfl
          have i0 := (blk_cell HS2.out.r2 0).trans rfl
          have i1 := (blk_cell HS2.out.r2 1).trans rfl
          have e0 := (blk_cell HS2.out.r3 0).trans rfl
          have f2 : ∀ j, W2.frozen? ⟨S2, j, none⟩ = false := fun j => by simp [World.frozen?, HS2.out.r2]
          have f3 : W2.frozen? ⟨S3, 0, none⟩ = false := by simp [World.frozen?, HS2.out.r3]
          by_cases htk : ns = tk
          · rw [decide_eq_true (show (tk : Int) < (ns : Int) + 1 by omega)]
            have HF := hideIt (HYS.out htk)
            clear HYS htk
            gi_wp2
            exact ⟨(((HK2.out.trans (KeepsOthers.setCell _ _ _)).trans (KeepsOthers.setCell _ _ _)).trans (KeepsOthers.setCell _ _ _)).from _, rfl, HF.out _ (by rw [HT.out]; push_cast; exact (HS2.out.setR (by omega) (by omega) (by omega) (by omega) (by omega) _ _).setE (by omega) (by omega) (by omega) (by omega) (by omega))⟩
          · rw [decide_eq_false (show ¬ (tk : Int) < (ns : Int) + 1 by omega)]
            clear HYS
            gi_wp2
            exact ⟨HK2.out.from _, HP2.out, by rw [HT.out]; push_cast; exact HS2.out, by rw [HT.out]; omega⟩
      · have HT := hideIt (hgone.out (by first | rfl | trivial))
        have HQd : Hid (W.drew.heap[Qc]? = some (.cells #[.int .i64 (ns : Int)] 3 (0, 0))) := HCW.out.q
        clear hthere hgone hyes
        gi_wp2
        gi_region_with (first
          | (refine ⟨trivial, (fun h => by cases h), ?_⟩; refine ((callsIn_wide.2 (count_gone xa xb xg Qc (ns : Int) _ HQd.out)).inRound lp).mono ?_; rintro e W2 ⟨rfl, hb2⟩;
              have HB2 : Hid (Below W.heap.size W W2) := ((Below.refl _ _).drew).trans hb2;
              have p2 := (blk_cell (blk_below HCW.out.pl HB2.out) 0).trans rfl; clear hb2)
          | gi_in)
        all_goals
          clear HQd p1 f2 x0 x1 x2 x3 p2
          rw [decide_eq_false (show ¬ tk < ns by omega)]
          gi_wp2
          exact ⟨(show KeepsOthers W W2 from ⟨HB2.out.size, fun k o h _ => blk_below h HB2.out⟩).from _, KpT.of_below (by omega) HB2.out, by rw [HT.out]; exact HCW.out.below (by omega) HB2.out, by rw [HT.out]; exact hfr⟩
    case done =>
      rintro D ys W hD rfl ⟨hci, hfr⟩ hK
      have HNO : Hid (inB (tk : Int) 0 ((shownI (lvs l)).length - 1) = false) := by
        show inB (tk : Int) 0 ((shownI (lvs l)).length - 1) = false
        rw [shownI_len]
        have : nShown (lvs l) ≤ tk := hfr
        simp [inB]
        omega
      have he0 := HE0.out W hci.bel
      have HCI2 := hideIt hci
      have i0 := (blk_cell hci.r2 0).trans rfl
      have i1 := (blk_cell hci.r2 1).trans rfl
      have e0 := (blk_cell hci.r3 0).trans rfl
      have f2 : ∀ j, W.frozen? ⟨S2, j, none⟩ = false := fun j => by simp [World.frozen?, hci.r2]
      have f3 : W.frozen? ⟨S3, 0, none⟩ = false := by simp [World.frozen?, hci.r3]
      have n02 : ¬ 0 = S2 := by omega
      have n20 : ¬ S2 = 0 := by omega
      have n03 : ¬ 0 = S3 := by omega
      have n30 : ¬ S3 = 0 := by omega
      have n23 : ¬ S2 = S3 := by omega
      have n32 : ¬ S3 = S2 := by omega
      clear hfr hci
      gi_wp2
      refine wpIn_wide.2 ?_
      go_region_held3 (fun w' => w'.cell? ⟨0, 0, none⟩ = some (.iface 191 (.pointer (some x)))) (first | exact he0 | (simp [go_sem, he0, n02, n20, n03, n30])) (fail)
      gi_wp2
      have HZ := HCI2.out.setR (by omega) (by omega) (by omega) (by omega) (by omega) 0 0
      obtain ⟨WZ, hWZ⟩ : ∃ WZ, (((W.setCell ⟨S2, 0, none⟩ (.int .i64 0)).setCell ⟨S2, 1, none⟩ (.int .i64 0)).setCell ⟨S3, 0, none⟩ (.iface 191 (.pointer (some x)))).drew = WZ := ⟨_, rfl⟩
      rw [hWZ]
      have z2 : WZ.heap[S2]? = some (.cells #[.int .i64 0, .int .i64 0] 30 (0, 0)) := by rw [← hWZ]; exact blk_set HZ.r2 n23
      have z3 : WZ.heap[S3]? = some (.cells #[.iface 191 (.pointer (some x))] 88 (0, 0)) := by rw [← hWZ]; exact Boxed.set _ HZ.r3
      have zK : WZ.heap[D]? = some (.deferred (some [])) := by rw [← hWZ]; exact blk_set (blk_set1 (blk_set1 hK (by omega)) (by omega)) (by omega)
      have zB : Below S w WZ := by rw [← hWZ]; exact (HZ.bel.setCell (p := ⟨S3, 0, none⟩) (by show S ≤ S3; omega) _).drew
      clear hWZ
      refine ⟨by simp, .inl ⟨_, _, rfl, run_takeDeferred zK, ?_⟩⟩
      have v0 : (WZ.putObj D (.deferred none)).cell? ⟨S2, 0, none⟩ = some (.int .i64 0) := (cell_put _ (by omega)).trans ((blk_cell z2 0).trans rfl)
      have v1 : (WZ.putObj D (.deferred none)).cell? ⟨S2, 1, none⟩ = some (.int .i64 0) := (cell_put _ (by omega)).trans ((blk_cell z2 1).trans rfl)
      have v2 : (WZ.putObj D (.deferred none)).cell? ⟨S3, 0, none⟩ = some (.iface 191 (.pointer (some x))) := (cell_put _ (by omega)).trans ((blk_cell z3 0).trans rfl)
      exact ⟨.tuple #[.agg #[.int .i64 0, .int .i64 0], .iface 191 (.pointer (some x))], by simp [results, Tryd.results100, go_sem, v0, v1, v2], .inr ⟨HNO.out, rfl⟩, hS.symm ▸ zB.trans (belowK_b (w := Wb) (by omega) WZ D _ _ (by omega) zK rfl rfl)⟩
    case stop =>
      rintro D c pre W hD ⟨t', ht⟩ ⟨rfl, p, y, rfl, hz, hk, hci⟩ hK
      have HYES : Hid ((shownI (lvs l))[tk]? = some p.length ∧ (lvs l)[p.length]? = some y) := by
        have ht' : p ++ y :: t' = lvs l := by rw [← show (p ++ [y]) ++ t' = lvs l from ht]; simp
        exact ⟨hk ▸ shownI_at ht' hz, at_mid ht'⟩
      have HCI2 := hideIt hci
      have i0 := (blk_cell hci.r2 0).trans rfl
      have i1 := (blk_cell hci.r2 1).trans rfl
      have e0 := (blk_cell hci.r3 0).trans rfl
      clear hci ht
      gi_wp2
      refine ⟨by simp, .inl ⟨_, _, rfl, run_takeDeferred hK, ?_⟩⟩
      have v0 : (W.putObj D (.deferred none)).cell? ⟨S2, 0, none⟩ = some (.int .i64 y.a) := (cell_put _ (by omega)).trans i0
      have v1 : (W.putObj D (.deferred none)).cell? ⟨S2, 1, none⟩ = some (.int .i64 y.b) := (cell_put _ (by omega)).trans i1
      have v2 : (W.putObj D (.deferred none)).cell? ⟨S3, 0, none⟩ = some .nilIface := (cell_put _ (by omega)).trans e0
      exact ⟨.tuple #[.agg #[.int .i64 y.a, .int .i64 y.b], .nilIface], by simp [results, Tryd.results100, go_sem, v0, v1, v2], .inl ⟨tk, _, y, rfl, HYES.out.1, HYES.out.2, rfl⟩, hS.symm ▸ HCI2.out.bel.trans (belowK_b (w := Wb) (by omega) W D _ _ (by omega) hK rfl rfl)⟩
end Go.Proofs.YtkbogcbppenaaaaDoor

namespace Go.Proofs.YtkbogcbppenaaaaDoor
open Go.RowKit Go.Shelf
set_option linter.unusedSimpArgs false
set_option linter.unusedVariables false
attribute [local go_sem ↓] Go.wp_at_zero Go.wp_at_succ

theorem wf64_iff {n : Int} : wf64 n ↔ -9223372036854775808 ≤ n ∧ n ≤ 9223372036854775807 := by
  constructor
  · intro h
    simp [wf64, Lit.wf, IntKind.min, IntKind.max, IntKind.signed, IntKind.bits] at h
    omega
  · exact wf_small
/-- A box that is to be answered, still nothing, in memory that has grown. -/
structure IB (w W : World) : Prop where
  box : W.heap[w.heap.size]? = some (.cells #[.int .i64 0, .int .i64 0] 30 (0, 0))
  bel : Below w.heap.size w W
theorem IB.start (w : World) : IB w (w.alloc (.cells #[.int .i64 0, .int .i64 0] 30)) := ⟨World.alloc_heap_new _ _, (Below.refl _ _).alloc (Nat.le_refl _) _⟩
theorem IB.below {w W W' : World} (h : IB w W) (hb : Below W.heap.size W W') : IB w W' := ⟨blk_below h.box hb, Bstep h.bel hb⟩
theorem IB.lt {w W : World} (h : IB w W) : w.heap.size < W.heap.size := (Array.getElem?_eq_some_iff.1 h.box).1
theorem IB.frozen {w W : World} (h : IB w W) (j : Nat) : W.frozen? ⟨w.heap.size, j, none⟩ = false := by simp [World.frozen?, h.box]

set_option maxRecDepth 100000 in
set_option maxHeartbeats 2000000 in
theorem signAhead_any (l : List Op7) (hops : opsB l = true) (hn : l.length ≤ 1048576) (w0 : World) (b1 b2 b3 base : Nat) (hT : TreeAt w0 b1 b2 b3 base l) (t : Int) (ht : wf64 t) (x : Addr) (w : World) (hW : Below w0.heap.size w0 w)
    (he : w.cell? ⟨0, 0, none⟩ = some (.iface 191 (.pointer (some x)))) (h0 : 0 < w.heap.size) :
    Calls Tryd.prog 65 #[.agg #[.map (some b1), .map (some b2), .map (some b3)], .int .i64 t] w fun e w' =>
      ((inB t 0 (shownI (lvs l)).length = true ∧ e = .returned (.tuple #[.agg #[.int .i64 (leftOf l t.toNat).1, .int .i64 (leftOf l t.toNat).2.1], .nilIface])) ∨ (inB t 0 (shownI (lvs l)).length = false ∧ e = .returned (.tuple #[.agg #[.int .i64 0, .int .i64 0], .iface 191 (.pointer (some x))]))) ∧ Below w.heap.size w w' := by
  have HW := hideIt hW
  have HTT := hideIt hT
  have HO := hideIt hops
  clear hW hT hops
  go_enter Tryd.func65, Tryd.ntmps65
  have A2 : Hid (∃ W2, ((w.alloc (.cells #[.map (some b1), .map (some b2), .map (some b3)] 86)).alloc (.cells #[.int .i64 0, .int .i64 0] 30)) = W2 ∧ W2.heap[w.heap.size + 1]? = some (.cells #[.int .i64 0, .int .i64 0] 30 (0, 0)) ∧ Below w.heap.size w W2) := by
    refine ⟨_, rfl, ?_, ((Below.refl _ _).alloc (Nat.le_refl _) _).alloc (by simp) _⟩
    have h := World.alloc_heap_new (w.alloc (.cells #[.map (some b1), .map (some b2), .map (some b3)] 86)) (.cells #[.int .i64 0, .int .i64 0] 30)
    rw [World.size_alloc] at h
    exact h
  by_cases hneg : t < 0
  · go_wp2
    obtain ⟨W2, hW2, hbx, hb2⟩ := A2.out
    rw [hW2]
    have herr := errB hb2 h0 he
    have i0 := (blk_cell hbx 0).trans rfl
    have i1 := (blk_cell hbx 1).trans rfl
    have fi : ∀ j, W2.frozen? ⟨w.heap.size + 1, j, none⟩ = false := fun j => by simp [World.frozen?, hbx]
    have HB := hideIt hb2
    clear hW2 A2 hbx hb2
    generalize hS1 : w.heap.size + 1 = S1 at *
    have n0 : ¬ 0 = S1 := by omega
    have n1 : ¬ S1 = 0 := by omega
    go_region_held3 (fun w' => w'.cell? ⟨0, 0, none⟩ = some (.iface 191 (.pointer (some x)))) (first | exact herr | (simp [go_sem, herr, n0, n1])) (fail)
    go_wp2
    exact bodyPost_ret (v := .tuple #[.agg #[.int .i64 0, .int .i64 0], .iface 191 (.pointer (some x))]) (by simp [results, Tryd.results65, go_sem, i0, i1]) rfl ⟨.inr ⟨by simp [inB]; omega, rfl⟩, ((HB.out.setCell (p := ⟨S1, 0, none⟩) (by show w.heap.size ≤ S1; omega) _).setCell (p := ⟨S1, 1, none⟩) (by show w.heap.size ≤ S1; omega) _).drew⟩
  · by_cases hz : t = 0
    · subst hz
      go_wp2
      obtain ⟨W2, hW2, hbx, hb2⟩ := A2.out
      rw [hW2]
      have i0 := (blk_cell hbx 0).trans rfl
      have i1 := (blk_cell hbx 1).trans rfl
      exact bodyPost_ret (v := .tuple #[.agg #[.int .i64 0, .int .i64 0], .nilIface]) (by simp [results, Tryd.results65, go_sem, i0, i1]) rfl ⟨.inl ⟨by simp [inB], rfl⟩, hb2⟩
    · have hwi : IntKind.i64.wrap (t - 1) = t - 1 := by
        obtain ⟨h1, h2⟩ := wf64_iff.1 ht
        exact IntWalk.i64_in (t - 1) ⟨by omega, by omega⟩
      go_wp2_with fail
      obtain ⟨W2, hW2, hbx, hb2⟩ := A2.out
      rw [hW2]
      have HBX := hideIt hbx
      have HB2 := hideIt hb2
      clear hW2 A2 hbx hb2
      refine (callsIn_wide.1 (signAt_in l HO.out hn w0 b1 b2 b3 base HTT.out 3 (Nat.le_refl _) (t - 1) x _ (HW.out.trans (HB2.out.mono HW.out.size)) (errB HB2.out h0 he) (posB HB2.out h0))).mono ?_
      rintro e w3 ⟨(⟨k, j, y, hk, hj, hy, rfl⟩ | ⟨hno, rfl⟩), hb3⟩
      all_goals
        have hbx3 := blk_below HBX.out hb3
        have HB3 := hideIt (Bstep HB2.out hb3)
        have i0 := (blk_cell hbx3 0).trans rfl
        have i1 := (blk_cell hbx3 1).trans rfl
        have fi : ∀ j, w3.frozen? ⟨w.heap.size + 1, j, none⟩ = false := fun j => by simp [World.frozen?, hbx3]
        clear hb3 hbx3 HBX HB2
        generalize hS1 : w.heap.size + 1 = S1 at *
      · have HTT' : Hid (inB t 0 (shownI (lvs l)).length = true ∧ leftOf l t.toNat = (y.a, y.b, j + 1)) := by
          have hlt := (List.getElem?_eq_some_iff.1 hj).1
          refine ⟨by simp [inB]; omega, ?_⟩
          rw [show t.toNat = k + 1 by omega]
          exact leftOf_succ hj hy
        clear hk hj hy hwi ht
        generalize y.a = ya at *
        generalize y.b = yb at *
        go_wp2
        exact bodyPost_ret (v := .tuple #[.agg #[.int .i64 ya, .int .i64 yb], .nilIface]) (by simp [results, Tryd.results65, go_sem, i0, i1]) rfl ⟨.inl ⟨HTT'.out.1, by rw [HTT'.out.2]⟩, (HB3.out.setCell (p := ⟨S1, 0, none⟩) (by show w.heap.size ≤ S1; omega) _).setCell (p := ⟨S1, 1, none⟩) (by show w.heap.size ≤ S1; omega) _⟩
      · have HNO : Hid (inB t 0 (shownI (lvs l)).length = false) := by
          have h := hno
          simp [inB] at h
          show inB t 0 (shownI (lvs l)).length = false
          simp [inB]
          omega
        clear hno hwi ht
        go_wp2
        exact bodyPost_ret (v := .tuple #[.agg #[.int .i64 0, .int .i64 0], .iface 191 (.pointer (some x))]) (by simp [results, Tryd.results65, go_sem, i0, i1]) rfl ⟨.inr ⟨HNO.out, rfl⟩, (HB3.out.setCell (p := ⟨S1, 0, none⟩) (by show w.heap.size ≤ S1; omega) _).setCell (p := ⟨S1, 1, none⟩) (by show w.heap.size ≤ S1; omega) _⟩
end Go.Proofs.YtkbogcbppenaaaaDoor
