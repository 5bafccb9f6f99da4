/- Texts between marks, and boxes of ids that are kept through a region of drawn order. -/
import Derived.Test.YtjadkhejdbdpoaaDoorPackA
import Derived.Test.YtjadkhejdbdpoaaDoorPackH
import Derived.Test.YtjadkhejdbdpoaaDoorPackC
import Derived.Test.YtjadkhejdbdpoaaDoorPackP
namespace Go.Proofs.YtjadkhejdbdpoaaDoor
open Go.RowKit
set_option linter.unusedSimpArgs false
set_option linter.unusedVariables false
attribute [local go_sem ↓] Go.wp_at_zero Go.wp_at_succ

/-- Where the thing of an id stands, if what was done is ok. -/
def findB (l : List Op7) (r m : Int) : Int := if opsB l = true then findI l r m else -1
theorem opsB_parts {l : List Op7} (h : opsB l = true) : l.all okO = true ∧ ordB l = true := by
  unfold opsB at h
  simp only [Bool.and_eq_true] at h
  exact ⟨h.1, h.2.1⟩


theorem keepF {w w1 w2 : World} {u v : Value} (hb : Below w1.heap.size w1 w2)
    (h : w1.cell? ⟨w.heap.size, 0, none⟩ = some u ∧ w1.cell? ⟨w.heap.size, 1, none⟩ = some v ∧ w.heap.size < w1.heap.size ∧ Below w.heap.size w w1) :
    w2.cell? ⟨w.heap.size, 0, none⟩ = some u ∧ w2.cell? ⟨w.heap.size, 1, none⟩ = some v ∧ w.heap.size < w2.heap.size ∧ Below w.heap.size w w2 := by
  obtain ⟨h1, h2, h4, h5⟩ := h
  obtain ⟨hc, _⟩ := bcell hb
  exact ⟨(hc _ _ h4).trans h1, (hc _ _ h4).trans h2, Nat.lt_of_lt_of_le h4 hb.size, Bstep h5 hb⟩

end Go.Proofs.YtjadkhejdbdpoaaDoor

namespace Go.Proofs.YtjadkhejdbdpoaaDoor
open Go.RowKit
set_option linter.unusedSimpArgs false
set_option linter.unusedVariables false

theorem opsB_all {l : List Op7} (h : opsB l = true) : l.all okO = true ∧ ordB l = true ∧ l.all (refsB l) = true ∧ l.all (deepF l (l.length + 1)) = true := by
  unfold opsB at h
  simp only [Bool.and_eq_true] at h
  exact ⟨h.1, h.2.1, h.2.2.1, h.2.2.2⟩
theorem next_mem {l : List Op7} {o p : Op7} (h : nextO l o = some p) : p ∈ l ∧ p.a = o.c ∧ p.b = o.d := by
  rw [nextO_find'] at h
  have h1 := List.mem_of_find?_eq_some h
  have h2 := List.find?_some h
  simp [hasId] at h2
  exact ⟨h1, h2.1, h2.2⟩
theorem deep_up {l : List Op7} (hr : l.all (refsB l) = true) : ∀ (n : Nat) (o : Op7), o ∈ l → deepF l n o = true → ∃ d, Up l d (o.c, o.d) := by
  intro n
  induction n with
  | zero => intro o _ h; simp [deepF] at h
  | succ n ih =>
    intro o ho h
    unfold deepF at h
    cases hb : noB o.c o.d
    · rw [hb] at h
      cases hx : nextO l o with
      | none => rw [hx] at h; simp at h
      | some p =>
        rw [hx] at h
        obtain ⟨hm, ha, hb'⟩ := next_mem hx
        have hk : p.k = 1 := by
          have := List.all_eq_true.1 hr o ho
          unfold refsB at this
          rw [hb, hx] at this
          simpa using this
        obtain ⟨d, hd⟩ := ih p hm (by simpa using h)
        have := Up.step hm hk hd
        rw [ha, hb'] at this
        exact ⟨d + 1, this⟩
    · unfold noB at hb
      have := of_decide_eq_true hb
      rw [this.1, this.2]
      exact ⟨0, Up.zero⟩
theorem put_up {l : List Op7} (h : opsB l = true) {o : Op7} (ho : o ∈ l) : ∃ d, Up l d (o.c, o.d) := by
  obtain ⟨_, _, h3, h4⟩ := opsB_all h
  exact deep_up h3 _ o ho (List.all_eq_true.1 h4 o ho)
theorem kid_of {l : List Op7} {o : Op7} (ho : o ∈ l) (hk : o.k = 1) : o ∈ kidsL l (o.c, o.d, o.s) := by
  unfold kidsL
  rw [List.mem_filter]
  exact ⟨ho, by simp [isKid, hk]⟩
theorem side_kid {l : List Op7} {n : Nat} {x : Int × Int × Int} {o : Op7} (ho : o ∈ kidsL l x) : o ∈ sideO l (n + 1) x ∧ ∀ s, s = 0 ∨ s = 1 → ∀ y ∈ sideO l n (o.a, o.b, s), y ∈ sideO l (n + 1) x := by
  rw [show sideO l (n + 1) x = (kidsL l x).flatMap fun o => sideO l n (o.a, o.b, 0) ++ o :: sideO l n (o.a, o.b, 1) from rfl]
  refine ⟨List.mem_flatMap.2 ⟨o, ho, by simp⟩, fun s hs y hy => List.mem_flatMap.2 ⟨o, ho, ?_⟩⟩
  rcases hs with rfl | rfl
  · exact List.mem_append.2 (.inl hy)
  · exact List.mem_append.2 (.inr (List.mem_cons_of_mem _ hy))
theorem put_side {l : List Op7} (h : opsB l = true) {o : Op7} (ho : o ∈ l) (hk : o.k = 1) : (o.c = 0 ∧ o.d = 0 ∧ o.s = 1) ∨ (1 ≤ o.c ∧ (o.s = 0 ∨ o.s = 1)) := by
  have := List.all_eq_true.1 (opsB_all h).1 o ho
  unfold okO at this
  rw [opB_true] at this
  omega
theorem up_all {l : List Op7} (h : opsB l = true) : ∀ (d : Nat) (o : Op7), o ∈ l → o.k = 1 → Up l d (o.c, o.d) → o ∈ allO l ∧ ∀ s, s = 0 ∨ s = 1 → ∀ y ∈ sideO l (l.length + 2 - (d + 1)) (o.a, o.b, s), y ∈ allO l := by
  intro d
  induction d with
  | zero =>
    intro o ho hk hu
    have e : o.c = 0 ∧ o.d = 0 := by
      rcases up_inv hu with ⟨_, hx⟩ | ⟨e, p, he, _⟩
      · exact ⟨congrArg Prod.fst hx, congrArg Prod.snd hx⟩
      · omega
    have hs : o.s = 1 := by
      rcases put_side h ho hk with ⟨_, _, h⟩ | ⟨h, _⟩
      · exact h
      · omega
    have hkid := kid_of ho hk
    rw [e.1, e.2, hs] at hkid
    exact side_kid (n := l.length + 1) hkid
  | succ d ih =>
    intro o ho hk hu
    have hle := up_le h (Up.step ho hk hu)
    rcases up_inv hu with ⟨h0, _⟩ | ⟨e, p, he, hm, hpk, hu', hx⟩
    · omega
    · obtain rfl : e = d := by omega
      have ha : o.c = p.a := congrArg Prod.fst hx
      have hb : o.d = p.b := congrArg Prod.snd hx
      have hpp := op_pos (opsB_all h).1 hm
      have hs : o.s = 0 ∨ o.s = 1 := by
        rcases put_side h ho hk with ⟨_, _, h⟩ | ⟨_, h⟩
        · exact .inr h
        · exact h
      obtain ⟨_, hsub⟩ := ih p hm hpk hu'
      have hkid := kid_of ho hk
      rw [ha, hb] at hkid
      have e1 : l.length + 2 - (e + 1) = (l.length + 2 - (e + 1 + 1)) + 1 := by omega
      rw [e1] at hsub
      obtain ⟨h1, h2⟩ := side_kid (n := l.length + 2 - (e + 1 + 1)) hkid
      exact ⟨hsub o.s hs o h1, fun s hs' y hy => hsub o.s hs y (h2 s hs' y hy)⟩
/-- What was put stands. -/
theorem all_mem {l : List Op7} (h : opsB l = true) {o : Op7} (ho : o ∈ l) (hk : o.k = 1) : o ∈ allO l := by
  obtain ⟨d, hd⟩ := put_up h ho
  exact (up_all h d o ho hk hd).1
theorem side_put {l : List Op7} (n : Nat) {x : Int × Int × Int} {p : Op7} (h : p ∈ sideO l n x) : p ∈ l ∧ p.k = 1 := by
  obtain ⟨j, hj⟩ := side_desc n h
  clear h
  induction j generalizing x with
  | zero =>
    simp only [Desc] at hj
    obtain ⟨h1, h2, _⟩ := mem_kids hj
    exact ⟨h1, h2⟩
  | succ j ih =>
    simp only [Desc] at hj
    obtain ⟨o, s, _, h⟩ := hj
    exact ih h
/-- Those that stand are those that were put. -/
theorem all_perm {l : List Op7} (h : opsB l = true) : (allO l).Perm (l.filter fun o => o.k == 1) := by
  have hl : l.Nodup := nodup_of_once (once_of (opsB_all h).1 (opsB_all h).2.1)
  refine (List.perm_ext_iff_of_nodup (nodup_all h) (hl.filter _)).2 fun o => ⟨fun ho => ?_, fun ho => ?_⟩
  · obtain ⟨h1, h2⟩ := side_put _ ho
    exact List.mem_filter.2 ⟨h1, by simp [h2]⟩
  · obtain ⟨h1, h2⟩ := List.mem_filter.1 ho
    exact all_mem h h1 (by simpa using h2)
end Go.Proofs.YtjadkhejdbdpoaaDoor

namespace Go.Proofs.YtjadkhejdbdpoaaDoor
open Go.RowKit
set_option linter.unusedSimpArgs false
set_option linter.unusedVariables false

theorem shownTo_prefix (L : List Lf) (k j : Nat) : ∃ r, shownTo L (k + j) = shownTo L k ++ r := by
  induction j with
  | zero => exact ⟨[], by simp⟩
  | succ j ih =>
    obtain ⟨r, hr⟩ := ih
    refine ⟨r ++ [k + j].filter fun i => match L[i]? with | some x => !x.z | none => false, ?_⟩
    rw [← List.append_assoc, ← hr]
    unfold shownTo
    rw [← Nat.add_assoc, List.range_succ, List.filter_append]
    rfl
theorem shownTo_nShown (L : List Lf) : ∀ k, k ≤ L.length → (shownTo L k).length = nShown (L.take k) := by
  intro k
  induction k with
  | zero => intro _; simp [shownTo, nShown]
  | succ k ih =>
    intro hk
    have hlt : k < L.length := by omega
    rw [List.take_succ_eq_append_getElem hlt]
    cases hz : L[k].z
    · rw [shownTo_there hlt hz, nShown_there hz, List.length_append, ih (by omega)]; rfl
    · rw [shownTo_gone hlt hz, nShown_gone hz, ih (by omega)]
theorem shownI_len (L : List Lf) : (shownI L).length = nShown L := by
  unfold shownI
  rw [shownTo_nShown L L.length (Nat.le_refl _), List.take_length]
/-- A leaf that is not gone, and has so many ahead, is the one at that place. -/
theorem shownI_at {L p t : List Lf} {x : Lf} (h : p ++ x :: t = L) (hz : x.z = false) : (shownI L)[nShown p]? = some p.length := by
  have hl : p.length < L.length := by rw [← h]; simp
  have hx : L[p.length] = x := by simp [← h]
  have htk : L.take p.length = p := by simp [← h]
  obtain ⟨r, hr⟩ := shownTo_prefix L (p.length + 1) (L.length - (p.length + 1))
  rw [show p.length + 1 + (L.length - (p.length + 1)) = L.length by omega] at hr
  unfold shownI
  rw [hr, shownTo_there hl (by rw [hx]; exact hz)]
  have e := shownTo_nShown L p.length (by omega)
  rw [htk] at e
  rw [← e]
  simp
theorem at_mid {L p t : List Lf} {x : Lf} (h : p ++ x :: t = L) : L[p.length]? = some x := by simp [← h]
/-- What is taken at a place is the leaf that has so many ahead. -/
theorem takeId_at {l : List Op7} {p t : List Lf} {x : Lf} (h : p ++ x :: t = lvs l) (hz : x.z = false) : takeId l (nShown p) = (x.a, x.b) := by
  unfold takeId
  rw [shownI_at h hz]
  simp only [at_mid h]
theorem leftOf_at {l : List Op7} {p t : List Lf} {x : Lf} (h : p ++ x :: t = lvs l) (hz : x.z = false) : leftOf l (nShown p + 1) = (x.a, x.b, p.length + 1) :=
  leftOf_succ (shownI_at h hz) (at_mid h)

/-- The id of the last one; nothing, if there is none. -/
def lastId (L : List Lf) : Int × Int := match L.getLast? with | some x => (x.a, x.b) | none => (0, 0)
theorem lastId_nil : lastId [] = (0, 0) := rfl
theorem lastId_more (L : List Lf) (x : Lf) : lastId (L ++ [x]) = (x.a, x.b) := by simp [lastId]
/-- None of them stands behind a sign of that id. -/
def noneBehind (L : List Lf) (c d : Int) : Prop := ∀ p x t, p ++ x :: t = L → ¬ lastId p = (c, d)
theorem noneBehind_nil (c d : Int) : noneBehind [] c d := fun p x t h => by simp at h
theorem noneBehind_more {L : List Lf} {c d : Int} {x : Lf} (h : noneBehind L c d) (hx : ¬ lastId L = (c, d)) : noneBehind (L ++ [x]) c d := by
  intro p y t e
  rcases List.eq_nil_or_concat t with rfl | ⟨t', z, rfl⟩
  · obtain ⟨rfl, _⟩ := List.append_inj' e rfl
    exact hx
  · have e' : (p ++ y :: t') ++ [z] = L ++ [x] := by simpa using e
    obtain ⟨e1, _⟩ := List.append_inj' e' rfl
    exact h p y t' e1
theorem all_op {l : List Op7} (h : opsB l = true) {p : Op7} (hm : p ∈ allO l) : p ∈ l := (List.mem_filter.1 ((all_perm h).mem_iff.1 hm)).1
theorem lvs_pos {l : List Op7} (h : opsB l = true) {i : Nat} {x : Lf} (hx : (lvs l)[i]? = some x) : 1 ≤ x.a := by
  obtain ⟨p, hp, pa, _⟩ := lvs_at hx
  rw [← pa]
  exact op_pos (opsParts h).1 (all_op h (List.mem_of_getElem? hp))
theorem lvs_id {l : List Op7} (h : opsB l = true) {i j : Nat} {x y : Lf} (hx : (lvs l)[i]? = some x) (hy : (lvs l)[j]? = some y) (ha : x.a = y.a) (hb : x.b = y.b) : i = j := by
  obtain ⟨p, hp, pa, pb⟩ := lvs_at hx
  obtain ⟨q, hq, qa, qb⟩ := lvs_at hy
  have hm := (List.mem_of_getElem? hp)
  have hm' := (List.mem_of_getElem? hq)
  have e : p = q := once_eq (once_of (opsParts h).1 (opsParts h).2) (all_op h hm) (all_op h hm') (by rw [pa, qa, ha]) (by rw [pb, qb, hb])
  subst e
  have hn := nodup_all h
  obtain ⟨hi, ei⟩ := List.getElem?_eq_some_iff.1 hp
  obtain ⟨hj, ej⟩ := List.getElem?_eq_some_iff.1 hq
  exact (List.getElem_inj hn).1 (ei.trans ej.symm)
/-- What stands behind the sign ahead of a place is the leaf that is looked for. -/
theorem nextLf_behind {l : List Op7} (h : opsB l = true) {t : Nat} (ht : t ≤ (shownI (lvs l)).length) {p q : List Lf} {x : Lf} (e : p ++ x :: q = lvs l) (hl : lastId p = ((leftOf l t).1, (leftOf l t).2.1)) : nextLf l t = (x.a, x.b) := by
  suffices hh : (leftOf l t).2.2 = p.length by
    unfold nextLf
    rw [hh, at_mid e]
  rcases List.eq_nil_or_concat p with rfl | ⟨p', z, rfl⟩
  · cases t with
    | zero => rfl
    | succ k =>
      obtain ⟨j, y, h1, h2, h3⟩ := shown_leaf (l := l) (k := k) (by omega)
      rw [leftOf_succ h1 h2, lastId_nil] at hl
      have := lvs_pos h h2
      have := congrArg Prod.fst hl
      simp at this
      omega
  · have hz : (lvs l)[p'.length]? = some z := at_mid (p := p') (t := x :: q) (by simpa using e)
    rw [List.concat_eq_append, lastId_more] at hl
    cases t with
    | zero =>
      rw [leftOf_zero] at hl
      have := lvs_pos h hz
      have := congrArg Prod.fst hl
      simp at this
      omega
    | succ k =>
      obtain ⟨j, y, h1, h2, h3⟩ := shown_leaf (l := l) (k := k) (by omega)
      rw [leftOf_succ h1 h2] at hl ⊢
      have := lvs_id h hz h2 (congrArg Prod.fst hl) (congrArg Prod.snd hl)
      simp
      omega
/-- If something was put on its right, there is one. -/
theorem behind_is {l : List Op7} (h : opsB l = true) {t : Nat} (ht : t ≤ (shownI (lvs l)).length) (hk : kidsL l ((leftOf l t).1, (leftOf l t).2.1, 1) ≠ []) : ¬ noneBehind (lvs l) (leftOf l t).1 (leftOf l t).2.1 := by
  intro hno
  have hlt := left_next h ht hk
  refine hno ((lvs l).take (leftOf l t).2.2) ((lvs l)[(leftOf l t).2.2]) ((lvs l).drop ((leftOf l t).2.2 + 1)) (by rw [← List.drop_eq_getElem_cons hlt, List.take_append_drop]) ?_
  cases t with
  | zero => simp [leftOf_zero, lastId]
  | succ k =>
    obtain ⟨j, y, h1, h2, h3⟩ := shown_leaf (l := l) (k := k) (by omega)
    rw [leftOf_succ h1 h2]
    have hj : (lvs l)[j] = y := (List.getElem?_eq_some_iff.1 h2).2
    show lastId ((lvs l).take (j + 1)) = _
    rw [List.take_succ_eq_append_getElem h3, lastId_more, hj]
end Go.Proofs.YtjadkhejdbdpoaaDoor

namespace Go.Proofs.YtjadkhejdbdpoaaDoor
open Go.RowKit
set_option linter.unusedSimpArgs false
set_option linter.unusedVariables false

theorem shownI_nodup (L : List Lf) : (shownI L).Nodup := List.Pairwise.filter _ List.nodup_range
theorem shownI_mem {L : List Lf} {j : Nat} {x : Lf} (h : j ∈ shownI L) (hx : L[j]? = some x) : x.z = false := by
  unfold shownI shownTo at h
  have h2 := (List.mem_filter.1 h).2
  rw [hx] at h2
  simpa using h2
theorem split_at {L : List Lf} {j : Nat} {x : Lf} (hx : L[j]? = some x) : L.take j ++ x :: L.drop (j + 1) = L := by
  obtain ⟨hj, he⟩ := List.getElem?_eq_some_iff.1 hx
  rw [← he, ← List.drop_eq_getElem_cons hj, List.take_append_drop]
/-- So many that are not gone stand ahead of the one at a place. -/
theorem shownI_ahead {L : List Lf} {k j : Nat} {x : Lf} (h : (shownI L)[k]? = some j) (hx : L[j]? = some x) : nShown (L.take j) = k := by
  have hz := shownI_mem (List.mem_of_getElem? h) hx
  have h1 := shownI_at (split_at hx) hz
  have hj : (L.take j).length = j := by
    have := (List.getElem?_eq_some_iff.1 hx).1
    simp; omega
  rw [hj] at h1
  have hlt := (List.getElem?_eq_some_iff.1 h).1
  exact ((List.getElem?_inj hlt (shownI_nodup L)).1 (h.trans h1.symm)).symm
theorem free_ahead {l : List Op7} (h : opsB l = true) {j : Nat} {x : Lf} (hx : (lvs l)[j]? = some x) : freeOf ((lvs l).take j) x.a x.b := by
  intro y hy ⟨ha, hb⟩
  obtain ⟨i, hi⟩ := List.mem_iff_getElem?.1 hy
  have hij : i < j := by
    have := (List.getElem?_eq_some_iff.1 hi).1
    simp at this; omega
  have hi' : (lvs l)[i]? = some y := by rw [List.getElem?_take] at hi; simpa [hij] using hi
  have := lvs_id h hi' hx ha hb
  omega
/-- The place of a leaf: how many that are not gone stand up to it. -/
theorem place_leaf {l : List Op7} (h : opsB l = true) {j : Nat} {x : Lf} (hx : (lvs l)[j]? = some x) : markP l x.a x.b = some (nShown ((lvs l).take (j + 1))) := by
  unfold markP placeM
  rw [if_pos h, if_neg (by have := lvs_pos h hx; omega)]
  have h1 := upTo_at (a := x.a) (b := x.b) (t := (lvs l).drop (j + 1)) (n := 0) (free_ahead h hx) rfl rfl
  rw [split_at hx] at h1
  have hj := (List.getElem?_eq_some_iff.1 hx)
  obtain ⟨hlt, he⟩ := hj
  rw [List.take_succ_eq_append_getElem hlt, he]
  show upTo x.a x.b (lvs l) 0 = _
  rw [h1, Nat.zero_add]
theorem mark_back {l : List Op7} (h : opsB l = true) {t : Nat} (ht : t ≤ (shownI (lvs l)).length) : markP l (leftOf l t).1 (leftOf l t).2.1 = some t := by
  cases t with
  | zero => unfold markP placeM; rw [if_pos h, leftOf_zero]; rfl
  | succ k =>
    obtain ⟨j, x, h1, h2, h3⟩ := shown_leaf (l := l) (k := k) (by omega)
    rw [leftOf_succ h1 h2]
    show markP l x.a x.b = _
    rw [place_leaf h h2, List.take_succ_eq_append_getElem h3, nShown_there (by rw [(List.getElem?_eq_some_iff.1 h2).2]; exact shownI_mem (List.mem_of_getElem? h1) h2), shownI_ahead h1 h2]
end Go.Proofs.YtjadkhejdbdpoaaDoor

namespace Go.Proofs.YtjadkhejdbdpoaaDoor
open Go.RowKit
set_option linter.unusedSimpArgs false
set_option linter.unusedVariables false

theorem mark_zero {l : List Op7} (h : opsB l = true) : markP l 0 0 = some 0 := by unfold markP placeM; rw [if_pos h]; rfl
theorem txt_shown {l : List Op7} (h : opsB l = true) : (txtB (shown (lfs l (standL l)))).size = (shownI (lvs l)).length := by
  rw [nShown_text, shownI_len]
  unfold lvs standL
  rw [if_pos h]
theorem span_from {l : List Op7} (h : opsB l = true) {k : Nat} (hk : k ≤ (shownI (lvs l)).length) : spanT l 0 0 (leftOf l k).1 (leftOf l k).2.1 = (txtB (shown (lfs l (standL l)))).extract 0 k :=
  span_yes (mark_zero h) (mark_back h hk) (Nat.zero_le _)
theorem span_to {l : List Op7} (h : opsB l = true) {k m : Nat} (hk : k ≤ m) (hm : m ≤ (shownI (lvs l)).length) : spanT l (leftOf l k).1 (leftOf l k).2.1 (leftOf l m).1 (leftOf l m).2.1 = (txtB (shown (lfs l (standL l)))).extract k m :=
  span_yes (mark_back h (by omega)) (mark_back h hm) hk
theorem bytes_whole (T : ByteArray) : T.extract 0 T.size = T := by
  apply ByteArray.ext
  rw [ByteArray.data_extract]
  exact Array.extract_size
theorem bytes_cut (T : ByteArray) {k : Nat} (hk : k ≤ T.size) : T.extract 0 k ++ T.extract k T.size = T := by
  apply ByteArray.ext
  rw [ByteArray.data_append, ByteArray.data_extract, ByteArray.data_extract, Array.extract_append_extract]
  rw [Nat.min_eq_left (Nat.zero_le _), Nat.max_eq_right hk]
  exact Array.extract_size
end Go.Proofs.YtjadkhejdbdpoaaDoor

namespace Go.Proofs.YtjadkhejdbdpoaaDoor
open Go.RowKit
set_option linter.unusedSimpArgs false
set_option linter.unusedVariables false

/-- Things, and two boxes of ids. -/
structure SW (w W : World) (G c A B : Nat) (L : List Op7) (ar am br bm : Int) : Prop where
  own : OwnOps W w.heap.size G c L
  a : Bx W A ar am
  b : Bx W B br bm
  bel : Below w.heap.size w W
theorem SW.below {w W W' : World} {G c A B : Nat} {L : List Op7} {ar am br bm : Int} (h : SW w W G c A B L ar am br bm) (hb : Below W.heap.size W W') : SW w W' G c A B L ar am br bm := ⟨h.own.below hb, h.a.below hb, h.b.below hb, Bstep h.bel hb⟩
theorem mark_ops {l : List Op7} {a b : Int} {k : Nat} (h : markP l a b = some k) : opsB l = true := by
  unfold markP at h
  split at h
  · rename_i ho; exact ho
  · cases h
theorem bytes_two (T : ByteArray) {p q : Nat} (hp : p ≤ q) (hq : q ≤ T.size) : T.extract 0 p ++ T.extract p q = T.extract 0 q := by
  apply ByteArray.ext
  rw [ByteArray.data_append, ByteArray.data_extract, ByteArray.data_extract, ByteArray.data_extract, Array.extract_append_extract]
  rw [Nat.min_eq_left (Nat.zero_le _), Nat.max_eq_right hp]
theorem bytes_empty : ByteArray.empty.toList.isEmpty = true := by
  unfold ByteArray.toList
  rw [ByteArray.toList.loop]
  rfl
theorem bytes_none (T : ByteArray) (p : Nat) : (T.extract p p).toList.isEmpty = true := by
  have h : T.extract p p = ByteArray.empty := by
    apply ByteArray.ext
    rw [ByteArray.data_extract]
    simp [Nat.min_le_left]
  rw [h]; exact bytes_empty
theorem txt_none : (txtB []).toList.isEmpty = true := bytes_empty

/-- What is kept besides the boxes' cells. -/
def R5 (w : World) (G c N A B : Nat) (L : List Op7) (W : World) : Prop := OwnOps W w.heap.size G c L ∧ N < W.heap.size ∧ A < W.heap.size ∧ B < W.heap.size ∧ Below w.heap.size w W
theorem R5.at {w : World} {G c N A B : Nat} {L : List Op7} {W : World} (h : R5 w G c N A B L W) : OpsAt W G L := h.1.at
theorem R5.bel {w : World} {G c N A B : Nat} {L : List Op7} {W : World} (h : R5 w G c N A B L W) : Below w.heap.size w W := h.2.2.2.2
theorem keep7 {w : World} {G c N A B : Nat} {L : List Op7} {ar am br bm : Int} {W W' : World} (hb : Below W.heap.size W W')
    (h : W.cell? ⟨N, 0, none⟩ = some (.int .i64 0) ∧ W.cell? ⟨N, 1, none⟩ = some (.int .i64 0) ∧ W.cell? ⟨A, 0, none⟩ = some (.int .i64 ar) ∧ W.cell? ⟨A, 1, none⟩ = some (.int .i64 am) ∧ W.cell? ⟨B, 0, none⟩ = some (.int .i64 br) ∧ W.cell? ⟨B, 1, none⟩ = some (.int .i64 bm) ∧ R5 w G c N A B L W) :
    W'.cell? ⟨N, 0, none⟩ = some (.int .i64 0) ∧ W'.cell? ⟨N, 1, none⟩ = some (.int .i64 0) ∧ W'.cell? ⟨A, 0, none⟩ = some (.int .i64 ar) ∧ W'.cell? ⟨A, 1, none⟩ = some (.int .i64 am) ∧ W'.cell? ⟨B, 0, none⟩ = some (.int .i64 br) ∧ W'.cell? ⟨B, 1, none⟩ = some (.int .i64 bm) ∧ R5 w G c N A B L W' := by
  obtain ⟨h1, h2, h3, h4, h5, h6, h7, h8, h9, h10, h11⟩ := h
  obtain ⟨hc, _⟩ := bcell hb
  exact ⟨(hc _ _ h8).trans h1, (hc _ _ h8).trans h2, (hc _ _ h9).trans h3, (hc _ _ h9).trans h4, (hc _ _ h10).trans h5, (hc _ _ h10).trans h6, h7.below hb, Nat.lt_of_lt_of_le h8 hb.size, Nat.lt_of_lt_of_le h9 hb.size, Nat.lt_of_lt_of_le h10 hb.size, Bstep h11 hb⟩
theorem rest7 {w : World} {G c N A B : Nat} {L : List Op7} {ar am br bm : Int} {W : World}
    (h : W.cell? ⟨N, 0, none⟩ = some (.int .i64 0) ∧ W.cell? ⟨N, 1, none⟩ = some (.int .i64 0) ∧ W.cell? ⟨A, 0, none⟩ = some (.int .i64 ar) ∧ W.cell? ⟨A, 1, none⟩ = some (.int .i64 am) ∧ W.cell? ⟨B, 0, none⟩ = some (.int .i64 br) ∧ W.cell? ⟨B, 1, none⟩ = some (.int .i64 bm) ∧ R5 w G c N A B L W) : R5 w G c N A B L W := h.2.2.2.2.2.2
end Go.Proofs.YtjadkhejdbdpoaaDoor
