/- Which leaf stands at a place, and which behind a sign, in plain mathematics. -/
import Derived.Test.YtkbogcbppenaaaaDoorPackA
import Derived.Test.YtkbogcbppenaaaaDoorPackC
namespace Go.Proofs.YtkbogcbppenaaaaDoor
open Go.RowKit
set_option linter.unusedSimpArgs false
set_option linter.unusedVariables false
attribute [local go_sem ↓] Go.wp_at_zero Go.wp_at_succ

/-- Where the thing of an id stands, if what was done is ok. -/
def findB (l : List Op7) (r m : Int) : Int := if opsB l = true then findI l r m else -1
theorem opsB_parts {l : List Op7} (h : opsB l = true) : l.all okO = true ∧ ordB l = true := by
  unfold opsB at h
  simp only [Bool.and_eq_true] at h
  exact ⟨h.1, h.2.1⟩


theorem keepF {w w1 w2 : World} {u v : Value} (hb : Below w1.heap.size w1 w2)
    (h : w1.cell? ⟨w.heap.size, 0, none⟩ = some u ∧ w1.cell? ⟨w.heap.size, 1, none⟩ = some v ∧ w.heap.size < w1.heap.size ∧ Below w.heap.size w w1) :
    w2.cell? ⟨w.heap.size, 0, none⟩ = some u ∧ w2.cell? ⟨w.heap.size, 1, none⟩ = some v ∧ w.heap.size < w2.heap.size ∧ Below w.heap.size w w2 := by
  obtain ⟨h1, h2, h4, h5⟩ := h
  obtain ⟨hc, _⟩ := bcell hb
  exact ⟨(hc _ _ h4).trans h1, (hc _ _ h4).trans h2, Nat.lt_of_lt_of_le h4 hb.size, Bstep h5 hb⟩

set_option maxRecDepth 100000 in
set_option maxHeartbeats 1000000 in
theorem implFind_any (l : List Op7) (g cap : Nat) (r m : Int) (x : Addr) (w : World) (hl : OpsAt w g l) (hn : l.length ≤ 1048576) (hcap : l.length ≤ cap)
    (he : w.cell? ⟨0, 0, none⟩ = some (.iface 191 (.pointer (some x)))) (h0 : 0 < w.heap.size) :
    Calls Tryd.prog 112 #[.slice (some ⟨g, 0, none⟩) l.length cap, .agg #[.int .i64 r, .int .i64 m]] w fun e w' => e = .returned (.int .i64 (findB l r m)) ∧ Below w.heap.size w w' := by
  have HL := hideIt hl
  have hgw := hl.1
  clear hl
  go_enter Tryd.func112, Tryd.ntmps112
  go_wp2_with fail
  have HB0 : Hid (Below w.heap.size w (w.alloc (.cells #[.int .i64 r, .int .i64 m] 30))) := (Below.refl _ _).alloc (Nat.le_refl _) _
  refine (things_any l g cap x _ (HL.out.below HB0.out hgw) hn hcap (errB HB0.out h0 he) (posB HB0.out h0)).mono ?_
  rintro e w1 ⟨(⟨ht, M, hMM, rfl, hT⟩ | ⟨ht, rfl⟩), hb1⟩
  all_goals
    have HT := hideIt (ht.symm.trans (th_same l))
    have HB1 : Hid (Below w.heap.size w w1) := HB0.out.trans (hb1.mono (by simp))
    have herr1 : w1.cell? ⟨0, 0, none⟩ = some (.iface 191 (.pointer (some x))) := errB HB1.out h0 he
    have k0 : w1.cell? ⟨w.heap.size, 0, none⟩ = some (.int .i64 r) := by rw [(bcell hb1).1 _ _ (by simp)]; simp [go_sem]
    have k1 : w1.cell? ⟨w.heap.size, 1, none⟩ = some (.int .i64 m) := by rw [(bcell hb1).1 _ _ (by simp)]; simp [go_sem]
    have hz1 : w.heap.size < w1.heap.size := by have := hb1.size; simp at this; omega
    clear ht hb1
  · have HTT := hideIt hT
    have hM1 : M < w1.heap.size := hT.1
    obtain ⟨hok, hord⟩ := opsB_parts HT.out.symm
    have HOK := hideIt hok
    have HPL : Hid (placeI (cnt l 1) (cnt l 2) (cnt l 3) r m = findB l r m) := by
      show placeI _ _ _ _ _ = _
      rw [← find_place hok hord]; unfold findB; rw [← HT.out]; rfl
    have hlen := len_le hok hord
    have b1 : Hid ((0 ≤ cnt l 1 ∧ cnt l 1 ≤ 1048576) ∧ (0 ≤ cnt l 2 ∧ cnt l 2 ≤ 1048576)) := by
      have h1 := cnt_nonneg l 1
      have h2 := cnt_nonneg l 2
      have h3 := cnt_nonneg l 3
      have h4 := cnt_sum l
      exact ⟨⟨by omega, by omega⟩, ⟨by omega, by omega⟩⟩
    clear hT hok hord hMM
    go_wp2_with (first | (go_at_call 59; refine (is_nil x _).mono ?_; rintro e w'' ⟨rfl, rfl⟩))
    go_region_held3 (fun w' => w'.cell? ⟨w.heap.size, 0, none⟩ = some (.int .i64 r) ∧ w'.cell? ⟨w.heap.size, 1, none⟩ = some (.int .i64 m) ∧ w.heap.size < w'.heap.size ∧ Below w.heap.size w w')
      (first | exact keepF hb2 (by with_reducible assumption) | exact ⟨k0, k1, hz1, HB1.out.drew⟩)
      (first
        | (go_at_call 132; refine (count_any l M l.length _ (HTT.out.below ((Below.refl _ _).drew) hM1) hn (Nat.le_refl _) HOK.out).mono ?_; rintro e w2 ⟨rfl, hse, hfz2, hb2⟩; have HSE := hideIt hse; clear hse hfz2)
        | (go_at_call 131; refine (place_any _ _ _ _ _ _ _ HSE.out b1.out.1 b1.out.2).mono ?_; rintro e w3 ⟨rfl, hb2⟩; rw [HPL.out]))
    rename_i hS
    have HB3 := hideIt hS.2.2.2
    clear hS hb2
    go_wp2
    go_ret
    exact ⟨rfl, HB3.out⟩
  · go_wp2_with (first | (go_at_call 59; refine (is_same x _).mono ?_; rintro e w'' ⟨rfl, rfl⟩))
    go_ret
    exact ⟨ret_int (by unfold findB; rw [← HT.out]; rfl), HB1.out⟩
end Go.Proofs.YtkbogcbppenaaaaDoor

namespace Go.Proofs.YtkbogcbppenaaaaDoor
open Go.RowKit
set_option linter.unusedSimpArgs false
set_option linter.unusedVariables false

/-- All leaves. -/
def lvs (l : List Op7) : List Lf := lfs l (allO l)
theorem lvs_len {l : List Op7} (h : opsB l = true) : (lvs l).length ≤ 36 := by
  unfold lvs
  rw [lfs_len]
  exact Nat.le_trans (all_len h) (ops_36 h)
theorem lvs_at {l : List Op7} {j : Nat} {x : Lf} (h : (lvs l)[j]? = some x) : ∃ p, (allO l)[j]? = some p ∧ p.a = x.a ∧ p.b = x.b := by
  unfold lvs lfs at h
  rw [List.getElem?_map] at h
  cases hp : (allO l)[j]? with
  | none => rw [hp] at h; cases h
  | some p => rw [hp] at h; cases h; exact ⟨p, rfl, rfl, rfl⟩
/-- One can do one thing more. -/
def mayMore (l : List Op7) (r : Int) : Bool := opsB l && inB r 1 3 && decide (cnt l r + 1 ≤ 12)
/-- The leaf that stands ahead of a place among those that are shown, and where. -/
def aheadOf (l : List Op7) (t : Nat) : Option (Lf × Nat) := match t with
  | 0 => none
  | k + 1 => match (shownI (lvs l))[k]? with
    | some j => match (lvs l)[j]? with | some x => some (x, j) | none => none
    | none => none
def leftOf (l : List Op7) (t : Nat) : Int × Int × Nat := match aheadOf l t with | some (x, j) => (x.a, x.b, j + 1) | none => (0, 0, 0)
theorem leftOf_zero (l : List Op7) : leftOf l 0 = (0, 0, 0) := rfl
theorem leftOf_succ {l : List Op7} {k j : Nat} {x : Lf} (h : (shownI (lvs l))[k]? = some j) (hx : (lvs l)[j]? = some x) : leftOf l (k + 1) = (x.a, x.b, j + 1) := by
  simp [leftOf, aheadOf, h, hx]
theorem shown_leaf {l : List Op7} {k : Nat} (h : k < (shownI (lvs l)).length) : ∃ j x, (shownI (lvs l))[k]? = some j ∧ (lvs l)[j]? = some x ∧ j < (lvs l).length := by
  have hj := shownI_lt (List.getElem_mem h)
  exact ⟨(shownI (lvs l))[k], (lvs l)[(shownI (lvs l))[k]], by simp [h], by simp [hj], hj⟩
/-- If something was put on the right of what stands ahead of a place, something stands behind it. -/
theorem left_next {l : List Op7} (h : opsB l = true) {t : Nat} (ht : t ≤ (shownI (lvs l)).length) (hk : kidsL l ((leftOf l t).1, (leftOf l t).2.1, 1) ≠ []) : (leftOf l t).2.2 < (lvs l).length := by
  have hll : (lvs l).length = (allO l).length := by unfold lvs; exact lfs_len _ _
  cases t with
  | zero =>
    rw [leftOf_zero] at hk ⊢
    rw [hll]
    exact all_first h hk
  | succ k =>
    obtain ⟨j, x, h1, h2, h3⟩ := shown_leaf (l := l) (k := k) (by omega)
    rw [leftOf_succ h1 h2] at hk ⊢
    obtain ⟨p, hp, ha, hb⟩ := lvs_at h2
    rw [hll]
    exact all_next h hp (by rw [ha, hb]; exact hk)
/-- What is put at a place: the leaf that stands behind. -/
def nextLf (l : List Op7) (t : Nat) : Int × Int := match (lvs l)[(leftOf l t).2.2]? with | some x => (x.a, x.b) | none => (0, 0)
def putO (l : List Op7) (r : Int) (t : Nat) (sg : Int) : Op7 :=
  if kidsL l ((leftOf l t).1, (leftOf l t).2.1, 1) = [] then ⟨r, cnt l r + 1, 1, (leftOf l t).1, (leftOf l t).2.1, 1, sg⟩ else ⟨r, cnt l r + 1, 1, (nextLf l t).1, (nextLf l t).2, 0, sg⟩
def mayPut (l : List Op7) (r t sg : Int) : Bool := mayMore l r && (inB sg 97 122 && inB t 0 (shownI (lvs l)).length)
/-- What is taken at a place. -/
def takeId (l : List Op7) (t : Nat) : Int × Int := match (shownI (lvs l))[t]? with
  | some j => match (lvs l)[j]? with | some x => (x.a, x.b) | none => (0, 0)
  | none => (0, 0)
def takeO (l : List Op7) (r : Int) (t : Nat) : Op7 := ⟨r, cnt l r + 1, 2, (takeId l t).1, (takeId l t).2, 0, 0⟩
def mayTake (l : List Op7) (r t : Int) : Bool := mayMore l r && inB t 0 ((shownI (lvs l)).length - 1)
end Go.Proofs.YtkbogcbppenaaaaDoor

namespace Go.Proofs.YtkbogcbppenaaaaDoor
open Go.RowKit
set_option linter.unusedSimpArgs false
set_option linter.unusedVariables false

theorem opsB_all {l : List Op7} (h : opsB l = true) : l.all okO = true ∧ ordB l = true ∧ l.all (refsB l) = true ∧ l.all (deepF l (l.length + 1)) = true := by
  unfold opsB at h
  simp only [Bool.and_eq_true] at h
  exact ⟨h.1, h.2.1, h.2.2.1, h.2.2.2⟩
theorem next_mem {l : List Op7} {o p : Op7} (h : nextO l o = some p) : p ∈ l ∧ p.a = o.c ∧ p.b = o.d := by
  rw [nextO_find'] at h
  have h1 := List.mem_of_find?_eq_some h
  have h2 := List.find?_some h
  simp [hasId] at h2
  exact ⟨h1, h2.1, h2.2⟩
theorem deep_up {l : List Op7} (hr : l.all (refsB l) = true) : ∀ (n : Nat) (o : Op7), o ∈ l → deepF l n o = true → ∃ d, Up l d (o.c, o.d) := by
  intro n
  induction n with
  | zero => intro o _ h; simp [deepF] at h
  | succ n ih =>
    intro o ho h
    unfold deepF at h
    cases hb : noB o.c o.d
    · rw [hb] at h
      cases hx : nextO l o with
      | none => rw [hx] at h; simp at h
      | some p =>
        rw [hx] at h
        obtain ⟨hm, ha, hb'⟩ := next_mem hx
        have hk : p.k = 1 := by
          have := List.all_eq_true.1 hr o ho
          unfold refsB at this
          rw [hb, hx] at this
          simpa using this
        obtain ⟨d, hd⟩ := ih p hm (by simpa using h)
        have := Up.step hm hk hd
        rw [ha, hb'] at this
        exact ⟨d + 1, this⟩
    · unfold noB at hb
      have := of_decide_eq_true hb
      rw [this.1, this.2]
      exact ⟨0, Up.zero⟩
theorem put_up {l : List Op7} (h : opsB l = true) {o : Op7} (ho : o ∈ l) : ∃ d, Up l d (o.c, o.d) := by
  obtain ⟨_, _, h3, h4⟩ := opsB_all h
  exact deep_up h3 _ o ho (List.all_eq_true.1 h4 o ho)
theorem kid_of {l : List Op7} {o : Op7} (ho : o ∈ l) (hk : o.k = 1) : o ∈ kidsL l (o.c, o.d, o.s) := by
  unfold kidsL
  rw [List.mem_filter]
  exact ⟨ho, by simp [isKid, hk]⟩
theorem side_kid {l : List Op7} {n : Nat} {x : Int × Int × Int} {o : Op7} (ho : o ∈ kidsL l x) : o ∈ sideO l (n + 1) x ∧ ∀ s, s = 0 ∨ s = 1 → ∀ y ∈ sideO l n (o.a, o.b, s), y ∈ sideO l (n + 1) x := by
  rw [show sideO l (n + 1) x = (kidsL l x).flatMap fun o => sideO l n (o.a, o.b, 0) ++ o :: sideO l n (o.a, o.b, 1) from rfl]
  refine ⟨List.mem_flatMap.2 ⟨o, ho, by simp⟩, fun s hs y hy => List.mem_flatMap.2 ⟨o, ho, ?_⟩⟩
  rcases hs with rfl | rfl
  · exact List.mem_append.2 (.inl hy)
  · exact List.mem_append.2 (.inr (List.mem_cons_of_mem _ hy))
theorem put_side {l : List Op7} (h : opsB l = true) {o : Op7} (ho : o ∈ l) (hk : o.k = 1) : (o.c = 0 ∧ o.d = 0 ∧ o.s = 1) ∨ (1 ≤ o.c ∧ (o.s = 0 ∨ o.s = 1)) := by
  have := List.all_eq_true.1 (opsB_all h).1 o ho
  unfold okO at this
  rw [opB_true] at this
  omega
theorem up_all {l : List Op7} (h : opsB l = true) : ∀ (d : Nat) (o : Op7), o ∈ l → o.k = 1 → Up l d (o.c, o.d) → o ∈ allO l ∧ ∀ s, s = 0 ∨ s = 1 → ∀ y ∈ sideO l (l.length + 2 - (d + 1)) (o.a, o.b, s), y ∈ allO l := by
  intro d
  induction d with
  | zero =>
    intro o ho hk hu
    have e : o.c = 0 ∧ o.d = 0 := by
      rcases up_inv hu with ⟨_, hx⟩ | ⟨e, p, he, _⟩
      · exact ⟨congrArg Prod.fst hx, congrArg Prod.snd hx⟩
      · omega
    have hs : o.s = 1 := by
      rcases put_side h ho hk with ⟨_, _, h⟩ | ⟨h, _⟩
      · exact h
      · omega
    have hkid := kid_of ho hk
    rw [e.1, e.2, hs] at hkid
    exact side_kid (n := l.length + 1) hkid
  | succ d ih =>
    intro o ho hk hu
    have hle := up_le h (Up.step ho hk hu)
    rcases up_inv hu with ⟨h0, _⟩ | ⟨e, p, he, hm, hpk, hu', hx⟩
    · omega
    · obtain rfl : e = d := by omega
      have ha : o.c = p.a := congrArg Prod.fst hx
      have hb : o.d = p.b := congrArg Prod.snd hx
      have hpp := op_pos (opsB_all h).1 hm
      have hs : o.s = 0 ∨ o.s = 1 := by
        rcases put_side h ho hk with ⟨_, _, h⟩ | ⟨_, h⟩
        · exact .inr h
        · exact h
      obtain ⟨_, hsub⟩ := ih p hm hpk hu'
      have hkid := kid_of ho hk
      rw [ha, hb] at hkid
      have e1 : l.length + 2 - (e + 1) = (l.length + 2 - (e + 1 + 1)) + 1 := by omega
      rw [e1] at hsub
      obtain ⟨h1, h2⟩ := side_kid (n := l.length + 2 - (e + 1 + 1)) hkid
      exact ⟨hsub o.s hs o h1, fun s hs' y hy => hsub o.s hs y (h2 s hs' y hy)⟩
/-- What was put stands. -/
theorem all_mem {l : List Op7} (h : opsB l = true) {o : Op7} (ho : o ∈ l) (hk : o.k = 1) : o ∈ allO l := by
  obtain ⟨d, hd⟩ := put_up h ho
  exact (up_all h d o ho hk hd).1
theorem side_put {l : List Op7} (n : Nat) {x : Int × Int × Int} {p : Op7} (h : p ∈ sideO l n x) : p ∈ l ∧ p.k = 1 := by
  obtain ⟨j, hj⟩ := side_desc n h
  clear h
  induction j generalizing x with
  | zero =>
    simp only [Desc] at hj
    obtain ⟨h1, h2, _⟩ := mem_kids hj
    exact ⟨h1, h2⟩
  | succ j ih =>
    simp only [Desc] at hj
    obtain ⟨o, s, _, h⟩ := hj
    exact ih h
/-- Those that stand are those that were put. -/
theorem all_perm {l : List Op7} (h : opsB l = true) : (allO l).Perm (l.filter fun o => o.k == 1) := by
  have hl : l.Nodup := nodup_of_once (once_of (opsB_all h).1 (opsB_all h).2.1)
  refine (List.perm_ext_iff_of_nodup (nodup_all h) (hl.filter _)).2 fun o => ⟨fun ho => ?_, fun ho => ?_⟩
  · obtain ⟨h1, h2⟩ := side_put _ ho
    exact List.mem_filter.2 ⟨h1, by simp [h2]⟩
  · obtain ⟨h1, h2⟩ := List.mem_filter.1 ho
    exact all_mem h h1 (by simpa using h2)
end Go.Proofs.YtkbogcbppenaaaaDoor

namespace Go.Proofs.YtkbogcbppenaaaaDoor
open Go.RowKit
set_option linter.unusedSimpArgs false
set_option linter.unusedVariables false

theorem shownTo_prefix (L : List Lf) (k j : Nat) : ∃ r, shownTo L (k + j) = shownTo L k ++ r := by
  induction j with
  | zero => exact ⟨[], by simp⟩
  | succ j ih =>
    obtain ⟨r, hr⟩ := ih
    refine ⟨r ++ [k + j].filter fun i => match L[i]? with | some x => !x.z | none => false, ?_⟩
    rw [← List.append_assoc, ← hr]
    unfold shownTo
    rw [← Nat.add_assoc, List.range_succ, List.filter_append]
    rfl
theorem shownTo_nShown (L : List Lf) : ∀ k, k ≤ L.length → (shownTo L k).length = nShown (L.take k) := by
  intro k
  induction k with
  | zero => intro _; simp [shownTo, nShown]
  | succ k ih =>
    intro hk
    have hlt : k < L.length := by omega
    rw [List.take_succ_eq_append_getElem hlt]
    cases hz : L[k].z
    · rw [shownTo_there hlt hz, nShown_there hz, List.length_append, ih (by omega)]; rfl
    · rw [shownTo_gone hlt hz, nShown_gone hz, ih (by omega)]
theorem shownI_len (L : List Lf) : (shownI L).length = nShown L := by
  unfold shownI
  rw [shownTo_nShown L L.length (Nat.le_refl _), List.take_length]
/-- A leaf that is not gone, and has so many ahead, is the one at that place. -/
theorem shownI_at {L p t : List Lf} {x : Lf} (h : p ++ x :: t = L) (hz : x.z = false) : (shownI L)[nShown p]? = some p.length := by
  have hl : p.length < L.length := by rw [← h]; simp
  have hx : L[p.length] = x := by simp [← h]
  have htk : L.take p.length = p := by simp [← h]
  obtain ⟨r, hr⟩ := shownTo_prefix L (p.length + 1) (L.length - (p.length + 1))
  rw [show p.length + 1 + (L.length - (p.length + 1)) = L.length by omega] at hr
  unfold shownI
  rw [hr, shownTo_there hl (by rw [hx]; exact hz)]
  have e := shownTo_nShown L p.length (by omega)
  rw [htk] at e
  rw [← e]
  simp
theorem at_mid {L p t : List Lf} {x : Lf} (h : p ++ x :: t = L) : L[p.length]? = some x := by simp [← h]
/-- What is taken at a place is the leaf that has so many ahead. -/
theorem takeId_at {l : List Op7} {p t : List Lf} {x : Lf} (h : p ++ x :: t = lvs l) (hz : x.z = false) : takeId l (nShown p) = (x.a, x.b) := by
  unfold takeId
  rw [shownI_at h hz]
  simp only [at_mid h]
theorem leftOf_at {l : List Op7} {p t : List Lf} {x : Lf} (h : p ++ x :: t = lvs l) (hz : x.z = false) : leftOf l (nShown p + 1) = (x.a, x.b, p.length + 1) :=
  leftOf_succ (shownI_at h hz) (at_mid h)

/-- The id of the last one; nothing, if there is none. -/
def lastId (L : List Lf) : Int × Int := match L.getLast? with | some x => (x.a, x.b) | none => (0, 0)
theorem lastId_nil : lastId [] = (0, 0) := rfl
theorem lastId_more (L : List Lf) (x : Lf) : lastId (L ++ [x]) = (x.a, x.b) := by simp [lastId]
/-- None of them stands behind a sign of that id. -/
def noneBehind (L : List Lf) (c d : Int) : Prop := ∀ p x t, p ++ x :: t = L → ¬ lastId p = (c, d)
theorem noneBehind_nil (c d : Int) : noneBehind [] c d := fun p x t h => by simp at h
theorem noneBehind_more {L : List Lf} {c d : Int} {x : Lf} (h : noneBehind L c d) (hx : ¬ lastId L = (c, d)) : noneBehind (L ++ [x]) c d := by
  intro p y t e
  rcases List.eq_nil_or_concat t with rfl | ⟨t', z, rfl⟩
  · obtain ⟨rfl, _⟩ := List.append_inj' e rfl
    exact hx
  · have e' : (p ++ y :: t') ++ [z] = L ++ [x] := by simpa using e
    obtain ⟨e1, _⟩ := List.append_inj' e' rfl
    exact h p y t' e1
theorem all_op {l : List Op7} (h : opsB l = true) {p : Op7} (hm : p ∈ allO l) : p ∈ l := (List.mem_filter.1 ((all_perm h).mem_iff.1 hm)).1
theorem lvs_pos {l : List Op7} (h : opsB l = true) {i : Nat} {x : Lf} (hx : (lvs l)[i]? = some x) : 1 ≤ x.a := by
  obtain ⟨p, hp, pa, _⟩ := lvs_at hx
  rw [← pa]
  exact op_pos (opsParts h).1 (all_op h (List.mem_of_getElem? hp))
theorem lvs_id {l : List Op7} (h : opsB l = true) {i j : Nat} {x y : Lf} (hx : (lvs l)[i]? = some x) (hy : (lvs l)[j]? = some y) (ha : x.a = y.a) (hb : x.b = y.b) : i = j := by
  obtain ⟨p, hp, pa, pb⟩ := lvs_at hx
  obtain ⟨q, hq, qa, qb⟩ := lvs_at hy
  have hm := (List.mem_of_getElem? hp)
  have hm' := (List.mem_of_getElem? hq)
  have e : p = q := once_eq (once_of (opsParts h).1 (opsParts h).2) (all_op h hm) (all_op h hm') (by rw [pa, qa, ha]) (by rw [pb, qb, hb])
  subst e
  have hn := nodup_all h
  obtain ⟨hi, ei⟩ := List.getElem?_eq_some_iff.1 hp
  obtain ⟨hj, ej⟩ := List.getElem?_eq_some_iff.1 hq
  exact (List.getElem_inj hn).1 (ei.trans ej.symm)
/-- What stands behind the sign ahead of a place is the leaf that is looked for. -/
theorem nextLf_behind {l : List Op7} (h : opsB l = true) {t : Nat} (ht : t ≤ (shownI (lvs l)).length) {p q : List Lf} {x : Lf} (e : p ++ x :: q = lvs l) (hl : lastId p = ((leftOf l t).1, (leftOf l t).2.1)) : nextLf l t = (x.a, x.b) := by
  suffices hh : (leftOf l t).2.2 = p.length by
    unfold nextLf
    rw [hh, at_mid e]
  rcases List.eq_nil_or_concat p with rfl | ⟨p', z, rfl⟩
  · cases t with
    | zero => rfl
    | succ k =>
      obtain ⟨j, y, h1, h2, h3⟩ := shown_leaf (l := l) (k := k) (by omega)
      rw [leftOf_succ h1 h2, lastId_nil] at hl
      have := lvs_pos h h2
      have := congrArg Prod.fst hl
      simp at this
      omega
  · have hz : (lvs l)[p'.length]? = some z := at_mid (p := p') (t := x :: q) (by simpa using e)
    rw [List.concat_eq_append, lastId_more] at hl
    cases t with
    | zero =>
      rw [leftOf_zero] at hl
      have := lvs_pos h hz
      have := congrArg Prod.fst hl
      simp at this
      omega
    | succ k =>
      obtain ⟨j, y, h1, h2, h3⟩ := shown_leaf (l := l) (k := k) (by omega)
      rw [leftOf_succ h1 h2] at hl ⊢
      have := lvs_id h hz h2 (congrArg Prod.fst hl) (congrArg Prod.snd hl)
      simp
      omega
/-- If something was put on its right, there is one. -/
theorem behind_is {l : List Op7} (h : opsB l = true) {t : Nat} (ht : t ≤ (shownI (lvs l)).length) (hk : kidsL l ((leftOf l t).1, (leftOf l t).2.1, 1) ≠ []) : ¬ noneBehind (lvs l) (leftOf l t).1 (leftOf l t).2.1 := by
  intro hno
  have hlt := left_next h ht hk
  refine hno ((lvs l).take (leftOf l t).2.2) ((lvs l)[(leftOf l t).2.2]) ((lvs l).drop ((leftOf l t).2.2 + 1)) (by rw [← List.drop_eq_getElem_cons hlt, List.take_append_drop]) ?_
  cases t with
  | zero => simp [leftOf_zero, lastId]
  | succ k =>
    obtain ⟨j, y, h1, h2, h3⟩ := shown_leaf (l := l) (k := k) (by omega)
    rw [leftOf_succ h1 h2]
    have hj : (lvs l)[j] = y := (List.getElem?_eq_some_iff.1 h2).2
    show lastId ((lvs l).take (j + 1)) = _
    rw [List.take_succ_eq_append_getElem h3, lastId_more, hj]
end Go.Proofs.YtkbogcbppenaaaaDoor
