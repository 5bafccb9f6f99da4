/- Contracts of the tree's eachOf and eachKid, for every body that keeps the walk's own blocks. -/
import Derived.Test.YtedanlmippfojaaDoorP3
import Derived.Test.YtedanlmippfojaaDoorP1
import Derived.Test.YtedanlmippfojaaDoorP2
import Derived.Test.YtedanlmippfojaaDoorP0
import Derived.Maps.OwnIn
import Derived.RangeFuncNested
import Derived.RangeFuncBound
import Derived.RangeFuncCalls
import Derived.RangeFuncLeaves
import Derived.Shelf.Abstract
import Derived.OwnWalkIn
import Derived.TacticsInMore
import Derived.LoopNIn
import Derived.LoopIn
namespace Go.Proofs.YtedanlmippfojaaDoor
open Go.RowKit
set_option linter.unusedSimpArgs false
set_option linter.unusedVariables false

theorem withL_lenG (l : List Op7) (o : Op7) : (withL l o).length ≤ 2 * l.length + 1 := by
  unfold withL
  have h1 := List.length_filter_le (fun p => lessB p o) l
  have h2 := List.length_filter_le (fun p => lessB o p) l
  simp only [List.length_append, List.length_cons, List.length_nil]
  omega
theorem flatMap_congr_mem {α β : Type} {f g : α → List β} : ∀ {A : List α}, (∀ a ∈ A, f a = g a) → A.flatMap f = A.flatMap g
  | [], _ => rfl
  | a :: r, h => by rw [List.flatMap_cons, List.flatMap_cons, h a (by simp), flatMap_congr_mem (fun b hb => h b (by simp [hb]))]
theorem side_stable {l : List Op7} (h : opsB l = true) : ∀ (n d : Nat) (y : Int × Int × Int), Up l d (y.1, y.2.1) → l.length + 2 ≤ d + n → sideO l (n + 1) y = sideO l n y := by
  intro n
  induction n with
  | zero => intro d y hu hd; have := up_le h hu; omega
  | succ n ih =>
    intro d y hu hd
    show (kidsL l y).flatMap _ = (kidsL l y).flatMap _
    refine flatMap_congr_mem fun o ho => ?_
    have huo := up_kid ho hu
    rw [ih (d + 1) (o.a, o.b, 0) huo (by omega), ih (d + 1) (o.a, o.b, 1) huo (by omega)]
theorem all_side {l : List Op7} (h : opsB l = true) : ∀ m, l.length + 2 ≤ m → sideO l m (0, 0, 1) = allO l := by
  intro m hm
  obtain ⟨e, rfl⟩ : ∃ e, m = l.length + 2 + e := ⟨m - (l.length + 2), by omega⟩
  clear hm
  induction e with
  | zero => rfl
  | succ e ih => rw [← ih]; exact side_stable h (l.length + 2 + e) 0 (0, 0, 1) Up.zero (by omega)
/-- A sign, with what was put at a place beside it. -/
def insT (x : Int × Int × Int) (T : List Op7) (q : Op7) : List Op7 := if q.a = x.1 ∧ q.b = x.2.1 then (if x.2.2 = 1 then q :: T else T ++ [q]) else [q]
theorem graft_side {l L : List Op7} (h : opsB l = true) {x : Int × Int × Int} (hs : x.2.2 = 0 ∨ x.2.2 = 1) (hx : kidsL l x = []) {T : List Op7} {N : Nat} (hT : ∀ n, N ≤ n → sideO L n x = T) (hk : ∀ y d, y ≠ x → Up l d (y.1, y.2.1) → kidsL L y = kidsL l y) :
    ∀ (n d : Nat) (y : Int × Int × Int), Up l d (y.1, y.2.1) → y ≠ x → l.length + 2 + N ≤ d + n → sideO L n y = (sideO l n y).flatMap (insT x T) := by
  intro n
  induction n with
  | zero => intro d y hu _ hd; have := up_le h hu; omega
  | succ n ih =>
    intro d y hu hne hd
    show (kidsL L y).flatMap _ = ((kidsL l y).flatMap _).flatMap _
    rw [hk y d hne hu, List.flatMap_assoc]
    refine flatMap_congr_mem fun o ho => ?_
    have huo := up_kid ho hu
    have hle := up_le h huo
    have he : sideO l n x = [] := by cases n with | zero => rfl | succ n => show (kidsL l x).flatMap _ = []; rw [hx]; rfl
    rw [List.flatMap_append, List.flatMap_cons]
    by_cases hq : o.a = x.1 ∧ o.b = x.2.1
    · obtain ⟨h1, h2⟩ := hq
      rcases hs with h3 | h3
      · have e0 : (o.a, o.b, (0 : Int)) = x := by rw [h1, h2, ← h3]
        have n1 : (o.a, o.b, (1 : Int)) ≠ x := fun e => by have := congrArg (fun z => z.2.2) e; simp at this; omega
        rw [ih (d + 1) (o.a, o.b, 1) huo n1 (by omega), e0, hT n (by omega), he]
        simp [insT, h1, h2, h3]
      · have e1 : (o.a, o.b, (1 : Int)) = x := by rw [h1, h2, ← h3]
        have n0 : (o.a, o.b, (0 : Int)) ≠ x := fun e => by have := congrArg (fun z => z.2.2) e; simp at this; omega
        rw [ih (d + 1) (o.a, o.b, 0) huo n0 (by omega), e1, hT n (by omega), he]
        simp [insT, h1, h2, h3]
    · have ne : ∀ s : Int, (o.a, o.b, s) ≠ x := fun s e => hq ⟨congrArg Prod.fst e, congrArg (fun z => z.2.1) e⟩
      rw [ih (d + 1) (o.a, o.b, 0) huo (ne 0) (by omega), ih (d + 1) (o.a, o.b, 1) huo (ne 1) (by omega)]
      have : insT x T o = [o] := by unfold insT; rw [if_neg hq]
      rw [this]; rfl
theorem graft_all {l L : List Op7} (h : opsB l = true) (hL : opsB L = true) {x : Int × Int × Int} (hs : x.2.2 = 0 ∨ x.2.2 = 1) (hx : kidsL l x = []) {T : List Op7} {N : Nat} (hT : ∀ n, N ≤ n → sideO L n x = T) (hk : ∀ y d, y ≠ x → Up l d (y.1, y.2.1) → kidsL L y = kidsL l y) (h0 : x ≠ (0, 0, 1)) :
    allO L = (allO l).flatMap (insT x T) := by
  rw [← all_side hL (l.length + 2 + N + (L.length + 2)) (by omega), ← all_side h (l.length + 2 + N + (L.length + 2)) (by omega)]
  exact graft_side h hs hx hT hk _ 0 (0, 0, 1) Up.zero (Ne.symm h0) (by omega)
theorem graft_none {l L : List Op7} (h : opsB l = true) (hL : opsB L = true) (hx : kidsL l (0, 0, 1) = []) {T : List Op7} {N : Nat} (hT : ∀ n, N ≤ n → sideO L n (0, 0, 1) = T) : allO l = [] ∧ allO L = T := by
  refine ⟨?_, ?_⟩
  · show (kidsL l (0, 0, 1)).flatMap _ = []
    rw [hx]; rfl
  · rw [← all_side hL (N + (L.length + 2)) (by omega)]
    exact hT _ (by omega)
theorem ins_apart {x : Int × Int × Int} {T A : List Op7} (h : ∀ q ∈ A, ¬ (q.a = x.1 ∧ q.b = x.2.1)) : A.flatMap (insT x T) = A := by
  induction A with
  | nil => rfl
  | cons q r ih =>
    rw [List.flatMap_cons, ih (fun p hp => h p (by simp [hp]))]
    unfold insT
    rw [if_neg (h q (by simp))]
    rfl
theorem all_once {l : List Op7} (h : opsB l = true) {A B : List Op7} {p : Op7} (he : allO l = A ++ p :: B) : (∀ q ∈ A, ¬ (q.a = p.a ∧ q.b = p.b)) ∧ ∀ q ∈ B, ¬ (q.a = p.a ∧ q.b = p.b) := by
  have hnd := nodup_all h
  rw [he] at hnd
  obtain ⟨_, h2, h3⟩ := List.nodup_append.1 hnd
  have mem : ∀ q ∈ allO l, q ∈ l := fun q hq => (side_put _ hq).1
  have hp : p ∈ l := mem p (by rw [he]; simp)
  refine ⟨fun q hq e => ?_, fun q hq e => ?_⟩
  · have : q = p := once_eq (once_ops h) (mem q (by rw [he]; simp [hq])) hp e.1 e.2
    exact h3 q hq p (by simp) this
  · have : q = p := once_eq (once_ops h) (mem q (by rw [he]; simp [hq])) hp e.1 e.2
    subst this
    exact (List.nodup_cons.1 h2).1 hq
theorem ins_at {l : List Op7} (h : opsB l = true) {A B T : List Op7} {p : Op7} {x : Int × Int × Int} (hp : p.a = x.1 ∧ p.b = x.2.1) (he : allO l = A ++ p :: B) : (allO l).flatMap (insT x T) = A ++ (if x.2.2 = 1 then p :: T else T ++ [p]) ++ B := by
  obtain ⟨h1, h2⟩ := all_once h he
  rw [he, List.flatMap_append, List.flatMap_cons, ins_apart (fun q hq => by rw [← hp.1, ← hp.2]; exact h1 q hq), ins_apart (fun q hq => by rw [← hp.1, ← hp.2]; exact h2 q hq)]
  unfold insT
  rw [if_pos hp]
  simp
/-- The kids of a list with one more. -/
theorem kids_with {l : List Op7} {o : Op7} (h : opsB l = true) (hno : ∀ p ∈ l, ¬ (p.a = o.a ∧ p.b = o.b)) (y : Int × Int × Int) : (isKid y o = false → kidsL (withL l o) y = kidsL l y) ∧ (isKid y o = true → kidsL l y = [] → kidsL (withL l o) y = [o]) := by
  obtain ⟨A, B, h1, h2⟩ := withL_split (ops_sorted h) hno
  unfold kidsL
  rw [h2]
  constructor
  · intro hk
    conv => rhs; rw [h1]
    rw [List.filter_append, List.filter_append, List.filter_cons_of_neg (by simp [hk])]
  · intro hk he
    conv at he => lhs; rw [h1]
    rw [List.filter_append] at he
    obtain ⟨e1, e2⟩ := List.append_eq_nil_iff.1 he
    rw [List.filter_append, List.filter_cons_of_pos (by simp [hk]), e1, e2]
    rfl
/-- Nothing was put beside what is new. -/
theorem kids_new {l : List Op7} {o : Op7} (h : opsB l = true) (hno : ∀ p ∈ l, ¬ (p.a = o.a ∧ p.b = o.b)) (ho : 1 ≤ o.a) (s : Int) : kidsL l (o.a, o.b, s) = [] := by
  refine List.filter_eq_nil_iff.2 fun q hq hk => ?_
  simp [isKid] at hk
  obtain ⟨d, hd⟩ := put_up h hq
  rcases up_inv hd with ⟨_, hx⟩ | ⟨e, p, _, hm, _, _, hx⟩
  · have := congrArg Prod.fst hx
    simp at this
    omega
  · have e1 : q.c = p.a := congrArg Prod.fst hx
    have e2 : q.d = p.b := congrArg Prod.snd hx
    exact hno p hm ⟨by omega, by omega⟩
/-- What is put at an empty place stands alone there. -/
theorem side_new {l : List Op7} {o : Op7} (h : opsB l = true) (hc : CanL l o) (hk : o.k = 1) (hx : kidsL l (o.c, o.d, o.s) = []) : ∀ n, 1 ≤ n → sideO (withL l o) n (o.c, o.d, o.s) = [o] := by
  intro n hn
  obtain ⟨m, rfl⟩ : ∃ m, n = m + 1 := ⟨n - 1, by omega⟩
  have hself : isKid (o.c, o.d, o.s) o = true := by simp [isKid, hk]
  have hne : ∀ s, isKid (o.a, o.b, s) o = false := fun s => by
    cases hb : isKid (o.a, o.b, s) o
    · rfl
    · simp [isKid] at hb
      obtain ⟨d, hd⟩ := hc.ref
      rcases up_inv hd with ⟨_, hx⟩ | ⟨e, p, _, hm, _, _, hx⟩
      · have := congrArg Prod.fst hx
        have := (okO_id hc.form).1
        simp at *
        omega
      · have e1 : o.c = p.a := congrArg Prod.fst hx
        have e2 : o.d = p.b := congrArg Prod.snd hx
        exact absurd ⟨by omega, by omega⟩ (hc.new p hm)
  have hnil : ∀ s, sideO (withL l o) m (o.a, o.b, s) = [] := fun s => by
    cases m with
    | zero => rfl
    | succ m =>
      show (kidsL (withL l o) (o.a, o.b, s)).flatMap _ = []
      rw [(kids_with h hc.new _).1 (hne s), kids_new h hc.new (okO_id hc.form).1 s]
      rfl
  show (kidsL (withL l o) (o.c, o.d, o.s)).flatMap _ = [o]
  rw [(kids_with h hc.new _).2 hself hx]
  simp [hnil]
/-- What is put at an empty place of a sign: behind it, or ahead of it. -/
theorem all_with {l : List Op7} {o p : Op7} (h : opsB l = true) (hc : CanL l o) (hk : o.k = 1) (hx : kidsL l (o.c, o.d, o.s) = []) {A B : List Op7} (he : allO l = A ++ p :: B) (hp : p.a = o.c ∧ p.b = o.d) : allO (withL l o) = if o.s = 1 then A ++ p :: o :: B else A ++ o :: p :: B := by
  have hform := hc.form
  unfold okO at hform
  rw [opB_true] at hform
  have hs : o.s = 0 ∨ o.s = 1 := by omega
  have hpos : 1 ≤ p.a := op_pos (opsB_all h).1 (side_put _ (show p ∈ allO l by rw [he]; simp)).1
  have := graft_all h ((can_iff h hc.new).2 hc) (x := (o.c, o.d, o.s)) hs hx (side_new h hc hk hx) (fun y d hy _ => (kids_with h hc.new y).1 (by
    cases hb : isKid y o
    · rfl
    · simp [isKid] at hb
      exact absurd (by rw [hb.2.1, hb.2.2.1, hb.2.2.2]) hy)) (fun e => by have := congrArg Prod.fst e; simp at this; omega)
  rw [this, ins_at h (x := (o.c, o.d, o.s)) hp he]
  rcases hs with e | e <;> simp [e]
theorem all_with_none {l : List Op7} {o : Op7} (h : opsB l = true) (hc : CanL l o) (hk : o.k = 1) (h0 : o.c = 0 ∧ o.d = 0) (hs : o.s = 1) (hx : kidsL l (0, 0, 1) = []) : allO l = [] ∧ allO (withL l o) = [o] := by
  refine graft_none h ((can_iff h hc.new).2 hc) hx (N := 1) fun n hn => ?_
  have := side_new h hc hk (by rw [h0.1, h0.2, hs]; exact hx) n hn
  rw [h0.1, h0.2, hs] at this
  exact this
/-- What takes something away moves nothing. -/
theorem all_take {l : List Op7} {o : Op7} (h : opsB l = true) (hc : CanL l o) (hk : o.k = 2) : allO (withL l o) = allO l := by
  have hkid : ∀ y, kidsL (withL l o) y = kidsL l y := fun y => (kids_with h hc.new y).1 (by simp [isKid, hk])
  have hside : ∀ n y, sideO (withL l o) n y = sideO l n y := by
    intro n
    induction n with
    | zero => intro y; rfl
    | succ n ih =>
      intro y
      show (kidsL (withL l o) y).flatMap _ = (kidsL l y).flatMap _
      rw [hkid y]
      exact flatMap_congr_mem fun q _ => by rw [ih, ih]
  have hle := withL_lenG l o
  rw [← all_side ((can_iff h hc.new).2 hc) (l.length + 2 + 2 * l.length + 5) (by omega), ← all_side h (l.length + 2 + 2 * l.length + 5) (by omega)]
  exact hside _ _
end Go.Proofs.YtedanlmippfojaaDoor

namespace Go.Proofs.YtedanlmippfojaaDoor
open Go.RowKit
set_option linter.unusedSimpArgs false
set_option linter.unusedVariables false

/-- How many of them are not gone. -/
def nShown (L : List Lf) : Nat := (L.filter fun x => !x.z).length
theorem nShown_nil : nShown [] = 0 := rfl
theorem nShown_gone {L : List Lf} {x : Lf} (h : x.z = true) : nShown (L ++ [x]) = nShown L := by simp [nShown, h]
theorem nShown_there {L : List Lf} {x : Lf} (h : x.z = false) : nShown (L ++ [x]) = nShown L + 1 := by simp [nShown, h]
theorem nShown_le (L : List Lf) : nShown L ≤ L.length := List.length_filter_le _ _
theorem nShown_app (A B : List Lf) : nShown (A ++ B) = nShown A + nShown B := by simp [nShown]
/-- A list that has no leaf of that id. -/
def freeOf (L : List Lf) (a b : Int) : Prop := ∀ x ∈ L, ¬ (x.a = a ∧ x.b = b)
theorem freeOf_nil (a b : Int) : freeOf [] a b := fun _ h => by cases h
theorem freeOf_more {L : List Lf} {a b : Int} {x : Lf} (h : freeOf L a b) (hx : ¬ (x.a = a ∧ x.b = b)) : freeOf (L ++ [x]) a b := by
  intro y hy
  rcases List.mem_append.1 hy with h1 | h1
  · exact h y h1
  · simp at h1; subst h1; exact hx
/-- How many that are not gone stand up to the first one of that id. -/
def upTo (a b : Int) : List Lf → Nat → Option Nat
  | [], _ => none
  | x :: t, n => if x.a = a ∧ x.b = b then some (if x.z then n else n + 1) else upTo a b t (if x.z then n else n + 1)
theorem upTo_free {a b : Int} : ∀ {L : List Lf} {n : Nat}, freeOf L a b → upTo a b L n = none
  | [], _, _ => rfl
  | x :: t, n, h => by
    simp only [upTo]
    rw [if_neg (h x List.mem_cons_self)]
    exact upTo_free fun y hy => h y (List.mem_cons_of_mem _ hy)
theorem upTo_at {a b : Int} : ∀ {p : List Lf} {x : Lf} {t : List Lf} {n : Nat}, freeOf p a b → x.a = a → x.b = b → upTo a b (p ++ x :: t) n = some (n + nShown (p ++ [x]))
  | [], x, t, n, _, ha, hb => by
    simp only [List.nil_append, upTo]
    rw [if_pos ⟨ha, hb⟩]
    cases hz : x.z <;> simp [nShown, hz]
  | y :: p, x, t, n, h, ha, hb => by
    simp only [List.cons_append, upTo]
    rw [if_neg (h y List.mem_cons_self), upTo_at (fun u hu => h u (List.mem_cons_of_mem _ hu)) ha hb]
    cases hz : y.z <;> simp [nShown, hz] <;> omega
/-- The place of a mark: none, if there is no such sign. -/
def placeM (l : List Op7) (a b : Int) : Option Nat := if a = 0 ∧ b = 0 then some 0 else upTo a b (lfs l (allO l)) 0
/-- What MarkPlace answers. -/
def markP (l : List Op7) (a b : Int) : Option Nat := if opsB l = true then placeM l a b else none
def pN (p : Option Nat) : Int := match p with | some n => n | none => 0
def pB (p : Option Nat) : Bool := match p with | some _ => true | none => false
theorem upTo_le {a b : Int} : ∀ {L : List Lf} {n k : Nat}, upTo a b L n = some k → k ≤ n + nShown L
  | [], _, _, h => by cases h
  | x :: t, n, k, h => by
    simp only [upTo] at h
    cases hz : x.z <;> simp only [hz] at h <;> split at h <;> (try cases h) <;> (try simp [nShown, hz]) <;> (try (have h1 := upTo_le h; simp [nShown] at h1; omega))
theorem markP_le {l : List Op7} {a b : Int} {k : Nat} (h : markP l a b = some k) : k ≤ nShown (lfs l (standL l)) := by
  unfold markP at h
  split at h
  · rename_i ho
    unfold placeM at h
    split at h
    · cases h; omega
    · have h1 := upTo_le h
      have h2 : standL l = allO l := by unfold standL; rw [ho]; rfl
      rw [h2]; omega
  · cases h
end Go.Proofs.YtedanlmippfojaaDoor

namespace Go.Proofs.YtedanlmippfojaaDoor
open Go.RowKit
set_option linter.unusedSimpArgs false
set_option linter.unusedVariables false

theorem shownTo_prefix (L : List Lf) (k j : Nat) : ∃ r, shownTo L (k + j) = shownTo L k ++ r := by
  induction j with
  | zero => exact ⟨[], by simp⟩
  | succ j ih =>
    obtain ⟨r, hr⟩ := ih
    refine ⟨r ++ [k + j].filter fun i => match L[i]? with | some x => !x.z | none => false, ?_⟩
    rw [← List.append_assoc, ← hr]
    unfold shownTo
    rw [← Nat.add_assoc, List.range_succ, List.filter_append]
    try rfl
theorem shownTo_nShown (L : List Lf) : ∀ k, k ≤ L.length → (shownTo L k).length = nShown (L.take k) := by
  intro k
  induction k with
  | zero => intro _; simp [shownTo, nShown]
  | succ k ih =>
    intro hk
    have hlt : k < L.length := by omega
    rw [List.take_succ_eq_append_getElem hlt]
    cases hz : L[k].z
    · rw [shownTo_there hlt hz, nShown_there hz, List.length_append, ih (by omega)]; rfl
    · rw [shownTo_gone hlt hz, nShown_gone hz, ih (by omega)]
theorem shownI_len (L : List Lf) : (shownI L).length = nShown L := by
  unfold shownI
  rw [shownTo_nShown L L.length (Nat.le_refl _), List.take_length]
/-- A leaf that is not gone, and has so many ahead, is the one at that place. -/
theorem shownI_at {L p t : List Lf} {x : Lf} (h : p ++ x :: t = L) (hz : x.z = false) : (shownI L)[nShown p]? = some p.length := by
  have hl : p.length < L.length := by rw [← h]; simp
  have hx : L[p.length] = x := by simp [← h]
  have htk : L.take p.length = p := by simp [← h]
  obtain ⟨r, hr⟩ := shownTo_prefix L (p.length + 1) (L.length - (p.length + 1))
  rw [show p.length + 1 + (L.length - (p.length + 1)) = L.length by omega] at hr
  unfold shownI
  rw [hr, shownTo_there hl (by rw [hx]; exact hz)]
  have e := shownTo_nShown L p.length (by omega)
  rw [htk] at e
  rw [← e]
  simp
theorem at_mid {L p t : List Lf} {x : Lf} (h : p ++ x :: t = L) : L[p.length]? = some x := by simp [← h]
/-- What is taken at a place is the leaf that has so many ahead. -/
theorem takeId_at {l : List Op7} {p t : List Lf} {x : Lf} (h : p ++ x :: t = lvs l) (hz : x.z = false) : takeId l (nShown p) = (x.a, x.b) := by
  unfold takeId
  rw [shownI_at h hz]
  simp only [at_mid h]
theorem leftOf_at {l : List Op7} {p t : List Lf} {x : Lf} (h : p ++ x :: t = lvs l) (hz : x.z = false) : leftOf l (nShown p + 1) = (x.a, x.b, p.length + 1) :=
  leftOf_succ (shownI_at h hz) (at_mid h)

/-- The id of the last one; nothing, if there is none. -/
def lastId (L : List Lf) : Int × Int := match L.getLast? with | some x => (x.a, x.b) | none => (0, 0)
theorem lastId_nil : lastId [] = (0, 0) := rfl
theorem lastId_more (L : List Lf) (x : Lf) : lastId (L ++ [x]) = (x.a, x.b) := by simp [lastId]
/-- None of them stands behind a sign of that id. -/
def noneBehind (L : List Lf) (c d : Int) : Prop := ∀ p x t, p ++ x :: t = L → ¬ lastId p = (c, d)
theorem noneBehind_nil (c d : Int) : noneBehind [] c d := fun p x t h => by simp at h
theorem noneBehind_more {L : List Lf} {c d : Int} {x : Lf} (h : noneBehind L c d) (hx : ¬ lastId L = (c, d)) : noneBehind (L ++ [x]) c d := by
  intro p y t e
  rcases List.eq_nil_or_concat t with rfl | ⟨t', z, rfl⟩
  · obtain ⟨rfl, _⟩ := List.append_inj' e rfl
    exact hx
  · have e' : (p ++ y :: t') ++ [z] = L ++ [x] := by simpa using e
    obtain ⟨e1, _⟩ := List.append_inj' e' rfl
    exact h p y t' e1
theorem all_op {l : List Op7} (h : opsB l = true) {p : Op7} (hm : p ∈ allO l) : p ∈ l := (List.mem_filter.1 ((all_perm h).mem_iff.1 hm)).1
theorem lvs_pos {l : List Op7} (h : opsB l = true) {i : Nat} {x : Lf} (hx : (lvs l)[i]? = some x) : 1 ≤ x.a := by
  obtain ⟨p, hp, pa, _⟩ := lvs_at hx
  rw [← pa]
  exact op_pos (opsParts h).1 (all_op h (List.mem_of_getElem? hp))
theorem lvs_id {l : List Op7} (h : opsB l = true) {i j : Nat} {x y : Lf} (hx : (lvs l)[i]? = some x) (hy : (lvs l)[j]? = some y) (ha : x.a = y.a) (hb : x.b = y.b) : i = j := by
  obtain ⟨p, hp, pa, pb⟩ := lvs_at hx
  obtain ⟨q, hq, qa, qb⟩ := lvs_at hy
  have hm := (List.mem_of_getElem? hp)
  have hm' := (List.mem_of_getElem? hq)
  have e : p = q := once_eq (once_of (opsParts h).1 (opsParts h).2) (all_op h hm) (all_op h hm') (by rw [pa, qa, ha]) (by rw [pb, qb, hb])
  subst e
  have hn := nodup_all h
  obtain ⟨hi, ei⟩ := List.getElem?_eq_some_iff.1 hp
  obtain ⟨hj, ej⟩ := List.getElem?_eq_some_iff.1 hq
  exact (List.getElem_inj hn).1 (ei.trans ej.symm)
/-- What stands behind the sign ahead of a place is the leaf that is looked for. -/
theorem nextLf_behind {l : List Op7} (h : opsB l = true) {t : Nat} (ht : t ≤ (shownI (lvs l)).length) {p q : List Lf} {x : Lf} (e : p ++ x :: q = lvs l) (hl : lastId p = ((leftOf l t).1, (leftOf l t).2.1)) : nextLf l t = (x.a, x.b) := by
  suffices hh : (leftOf l t).2.2 = p.length by
    unfold nextLf
    rw [hh, at_mid e]
  rcases List.eq_nil_or_concat p with rfl | ⟨p', z, rfl⟩
  · cases t with
    | zero => rfl
    | succ k =>
      obtain ⟨j, y, h1, h2, h3⟩ := shown_leaf (l := l) (k := k) (by omega)
      rw [leftOf_succ h1 h2, lastId_nil] at hl
      have := lvs_pos h h2
      have := congrArg Prod.fst hl
      simp at this
      omega
  · have hz : (lvs l)[p'.length]? = some z := at_mid (p := p') (t := x :: q) (by simpa using e)
    rw [List.concat_eq_append, lastId_more] at hl
    cases t with
    | zero =>
      rw [leftOf_zero] at hl
      have := lvs_pos h hz
      have := congrArg Prod.fst hl
      simp at this
      omega
    | succ k =>
      obtain ⟨j, y, h1, h2, h3⟩ := shown_leaf (l := l) (k := k) (by omega)
      rw [leftOf_succ h1 h2] at hl ⊢
      have := lvs_id h hz h2 (congrArg Prod.fst hl) (congrArg Prod.snd hl)
      simp
      omega
/-- If something was put on its right, there is one. -/
theorem behind_is {l : List Op7} (h : opsB l = true) {t : Nat} (ht : t ≤ (shownI (lvs l)).length) (hk : kidsL l ((leftOf l t).1, (leftOf l t).2.1, 1) ≠ []) : ¬ noneBehind (lvs l) (leftOf l t).1 (leftOf l t).2.1 := by
  intro hno
  have hlt := left_next h ht hk
  refine hno ((lvs l).take (leftOf l t).2.2) ((lvs l)[(leftOf l t).2.2]) ((lvs l).drop ((leftOf l t).2.2 + 1)) (by rw [← List.drop_eq_getElem_cons hlt, List.take_append_drop]) ?_
  cases t with
  | zero => simp [leftOf_zero, lastId]
  | succ k =>
    obtain ⟨j, y, h1, h2, h3⟩ := shown_leaf (l := l) (k := k) (by omega)
    rw [leftOf_succ h1 h2]
    have hj : (lvs l)[j] = y := (List.getElem?_eq_some_iff.1 h2).2
    show lastId ((lvs l).take (j + 1)) = _
    rw [List.take_succ_eq_append_getElem h3, lastId_more, hj]
end Go.Proofs.YtedanlmippfojaaDoor

namespace Go.Proofs.YtedanlmippfojaaDoor
open Go.RowKit
set_option linter.unusedSimpArgs false
set_option linter.unusedVariables false

theorem shownI_nodup (L : List Lf) : (shownI L).Nodup := List.Pairwise.filter _ List.nodup_range
theorem shownI_mem {L : List Lf} {j : Nat} {x : Lf} (h : j ∈ shownI L) (hx : L[j]? = some x) : x.z = false := by
  unfold shownI shownTo at h
  have h2 := (List.mem_filter.1 h).2
  rw [hx] at h2
  simpa using h2
theorem split_at {L : List Lf} {j : Nat} {x : Lf} (hx : L[j]? = some x) : L.take j ++ x :: L.drop (j + 1) = L := by
  obtain ⟨hj, he⟩ := List.getElem?_eq_some_iff.1 hx
  rw [← he, ← List.drop_eq_getElem_cons hj, List.take_append_drop]
/-- So many that are not gone stand ahead of the one at a place. -/
theorem shownI_ahead {L : List Lf} {k j : Nat} {x : Lf} (h : (shownI L)[k]? = some j) (hx : L[j]? = some x) : nShown (L.take j) = k := by
  have hz := shownI_mem (List.mem_of_getElem? h) hx
  have h1 := shownI_at (split_at hx) hz
  have hj : (L.take j).length = j := by
    have := (List.getElem?_eq_some_iff.1 hx).1
    simp; omega
  rw [hj] at h1
  have hlt := (List.getElem?_eq_some_iff.1 h).1
  exact ((List.getElem?_inj hlt (shownI_nodup L)).1 (h.trans h1.symm)).symm
theorem free_ahead {l : List Op7} (h : opsB l = true) {j : Nat} {x : Lf} (hx : (lvs l)[j]? = some x) : freeOf ((lvs l).take j) x.a x.b := by
  intro y hy ⟨ha, hb⟩
  obtain ⟨i, hi⟩ := List.mem_iff_getElem?.1 hy
  have hij : i < j := by
    have := (List.getElem?_eq_some_iff.1 hi).1
    simp at this; omega
  have hi' : (lvs l)[i]? = some y := by rw [List.getElem?_take] at hi; simpa [hij] using hi
  have := lvs_id h hi' hx ha hb
  omega
/-- The place of a leaf: how many that are not gone stand up to it. -/
theorem place_leaf {l : List Op7} (h : opsB l = true) {j : Nat} {x : Lf} (hx : (lvs l)[j]? = some x) : markP l x.a x.b = some (nShown ((lvs l).take (j + 1))) := by
  unfold markP placeM
  rw [if_pos h, if_neg (by have := lvs_pos h hx; omega)]
  have h1 := upTo_at (a := x.a) (b := x.b) (t := (lvs l).drop (j + 1)) (n := 0) (free_ahead h hx) rfl rfl
  rw [split_at hx] at h1
  have hj := (List.getElem?_eq_some_iff.1 hx)
  obtain ⟨hlt, he⟩ := hj
  rw [List.take_succ_eq_append_getElem hlt, he]
  show upTo x.a x.b (lvs l) 0 = _
  rw [h1, Nat.zero_add]
theorem mark_back {l : List Op7} (h : opsB l = true) {t : Nat} (ht : t ≤ (shownI (lvs l)).length) : markP l (leftOf l t).1 (leftOf l t).2.1 = some t := by
  cases t with
  | zero => unfold markP placeM; rw [if_pos h, leftOf_zero]; rfl
  | succ k =>
    obtain ⟨j, x, h1, h2, h3⟩ := shown_leaf (l := l) (k := k) (by omega)
    rw [leftOf_succ h1 h2]
    show markP l x.a x.b = _
    rw [place_leaf h h2, List.take_succ_eq_append_getElem h3, nShown_there (by rw [(List.getElem?_eq_some_iff.1 h2).2]; exact shownI_mem (List.mem_of_getElem? h1) h2), shownI_ahead h1 h2]
end Go.Proofs.YtedanlmippfojaaDoor

namespace Go.Proofs.YtedanlmippfojaaDoor
open Go.RowKit
set_option linter.unusedSimpArgs false
set_option linter.unusedVariables false

theorem mid_eq {α : Type} : ∀ {A B C D : List α} {q : α}, (A ++ q :: B).Nodup → A ++ q :: B = C ++ q :: D → A = C ∧ B = D
  | [], B, [], D, q, _, he => by simp at he; exact ⟨rfl, he⟩
  | [], B, c :: C, D, q, hn, he => by
    simp at he
    obtain ⟨rfl, rfl⟩ := he
    simp at hn
  | a :: A, B, [], D, q, hn, he => by
    simp at he
    obtain ⟨rfl, h⟩ := he
    simp at hn
  | a :: A, B, c :: C, D, q, hn, he => by
    simp only [List.cons_append, List.cons.injEq] at he
    obtain ⟨rfl, h⟩ := he
    obtain ⟨h1, h2⟩ := mid_eq (List.nodup_cons.1 hn).2 h
    exact ⟨by rw [h1], h2⟩
theorem txtB_app (A B : List Int) : txtB A ++ txtB B = txtB (A ++ B) := by
  apply ByteArray.ext
  simp [txtB]
theorem txt_take (A B : List Int) : (txtB (A ++ B)).extract 0 A.length = txtB A := by
  apply ByteArray.ext
  rw [ByteArray.data_extract]
  simp [txtB]
theorem txt_drop (A B : List Int) : (txtB (A ++ B)).extract A.length (A ++ B).length = txtB B := by
  apply ByteArray.ext
  rw [ByteArray.data_extract]
  simp [txtB]
  exact List.take_of_length_le (by simp)
theorem shown_app (A B : List Lf) : shown (A ++ B) = shown A ++ shown B := by simp [shown]
theorem shown_n (A : List Lf) : (shown A).length = nShown A := by simp [shown, nShown]
theorem lfs_two (l A B : List Op7) : lfs l (A ++ B) = lfs l A ++ lfs l B := by simp [lfs]
theorem lfs_cons (l : List Op7) (o : Op7) (A : List Op7) : lfs l (o :: A) = ⟨o.a, o.b, o.g, goneB l (o.a, o.b)⟩ :: lfs l A := rfl

theorem next_new {l : List Op7} {r : Int} (h : opsB l = true) : ∀ p ∈ l, ¬ (p.a = r ∧ p.b = cnt l r + 1) := by
  obtain ⟨hok, hord⟩ := opsParts h
  rintro p hp ⟨ha, hb⟩
  obtain ⟨j, hj, rfl⟩ := List.getElem_of_mem hp
  have h1 := num_is hok hord j hj
  have h2 := cntTo_same hj ha
  have h3 := cnt_mono (l := l) r l.length (j + 1) (by omega) (Nat.le_refl _)
  rw [cntTo_len] at h3
  rw [ha] at h1
  omega
theorem next_prev {l : List Op7} {r : Int} (h : opsB l = true) (h1 : 1 < cnt l r + 1) : ∃ q ∈ l, q.a = r ∧ q.b = cnt l r + 1 - 1 := by
  obtain ⟨hok, hord⟩ := opsParts h
  obtain ⟨j, hj, ha, hc⟩ := there_is (l := l) (r := r) (n := cnt l r) (by omega) l.length (Nat.le_refl _) (by rw [cntTo_len]; omega)
  have := num_is hok hord j hj
  rw [ha, hc] at this
  exact ⟨_, List.getElem_mem hj, ha, by omega⟩
theorem may_parts {l : List Op7} {r : Int} (h : mayMore l r = true) : opsB l = true ∧ 1 ≤ r ∧ r ≤ 3 ∧ cnt l r + 1 ≤ 12 ∧ 0 ≤ cnt l r := by
  unfold mayMore inB at h
  simp only [Bool.and_eq_true, decide_eq_true_eq] at h
  exact ⟨h.1.1, h.1.2.1, h.1.2.2, h.2, by unfold cnt; omega⟩
theorem up_of {l : List Op7} (h : opsB l = true) {p : Op7} (hp : p ∈ allO l) : ∃ d, Up l d (p.a, p.b) := by
  obtain ⟨h1, h2⟩ := side_put _ hp
  obtain ⟨d, hd⟩ := put_up h h1
  exact ⟨d + 1, Up.step h1 h2 hd⟩
/-- A leaf, and the sign that it is. -/
theorem leaf_sign {l : List Op7} {j : Nat} {x : Lf} (hx : (lvs l)[j]? = some x) : ∃ A p B, allO l = A ++ p :: B ∧ A.length = j ∧ p.a = x.a ∧ p.b = x.b ∧ p.g = x.g := by
  unfold lvs lfs at hx
  rw [List.getElem?_map] at hx
  cases hp : (allO l)[j]? with
  | none => rw [hp] at hx; cases hx
  | some p =>
    rw [hp] at hx
    cases hx
    obtain ⟨hj, e⟩ := List.getElem?_eq_some_iff.1 hp
    refine ⟨(allO l).take j, p, (allO l).drop (j + 1), ?_, by simp; omega, rfl, rfl, rfl⟩
    rw [← e, ← List.drop_eq_getElem_cons hj, List.take_append_drop]
theorem id_ok {l : List Op7} (h : opsB l = true) {p : Op7} (hp : p ∈ allO l) : 1 ≤ p.a ∧ p.a ≤ 3 ∧ 1 ≤ p.b ∧ p.b ≤ 12 :=
  okO_id (List.all_eq_true.1 (opsB_all h).1 p (side_put _ hp).1)

/-- What one takes away can be taken away. -/
theorem take_can {l : List Op7} {r : Int} {t : Nat} (h : mayMore l r = true) (ht : t < (shownI (lvs l)).length) : CanL l (takeO l r t) ∧ ∃ A p B, allO l = A ++ p :: B ∧ (p.a, p.b) = takeId l t ∧ goneB l (p.a, p.b) = false ∧ nShown (lfs l A) = t := by
  obtain ⟨ho, hr1, hr3, hc, hc0⟩ := may_parts h
  obtain ⟨j, x, h1, h2, h3⟩ := shown_leaf ht
  obtain ⟨A, p, B, he, hA, ha, hb, _⟩ := leaf_sign h2
  have hid : takeId l t = (p.a, p.b) := by unfold takeId; rw [h1]; simp only [h2]; rw [ha, hb]
  have hp : p ∈ allO l := by rw [he]; simp
  have hpm := (side_put _ hp).1
  have hnn := next_new (r := r) ho p hpm
  have hio := id_ok ho hp
  refine ⟨⟨?_, ?_, ?_, ?_⟩, A, p, B, he, hid.symm, ?_, ?_⟩
  · unfold takeO okO
    rw [hid, opB_true]
    exact ⟨⟨hr1, hr3, by show 1 ≤ cnt l r + 1; omega, hc⟩, fun e => hnn ⟨e.1, e.2⟩, .inr ⟨rfl, hio.1, hio.2.1, hio.2.2.1, hio.2.2.2, rfl, rfl⟩⟩
  · exact next_new ho
  · exact next_prev ho
  · unfold takeO
    rw [hid]
    exact up_of ho hp
  · have hz := shownI_mem (List.mem_of_getElem? h1) h2
    have hx : x = ⟨p.a, p.b, p.g, goneB l (p.a, p.b)⟩ := by
      unfold lvs lfs at h2
      rw [List.getElem?_map, he, ← hA] at h2
      simp at h2
      exact h2.symm
    rw [hx] at hz
    exact hz
  · rw [← shownI_ahead h1 h2]
    unfold lvs
    rw [he, lfs_two, lfs_cons, List.take_left' (by rw [lfs_len]; exact hA)]

/-- What stands right behind a sign that has something on its right has nothing on its left. -/
theorem next_free {l : List Op7} (h : opsB l = true) {A B : List Op7} {p q : Op7} (he : allO l = A ++ p :: q :: B) (hk : kidsL l (p.a, p.b, 1) ≠ []) : kidsL l (q.a, q.b, 0) = [] := by
  have hnd := nodup_all h
  have hp : p ∈ allO l := by rw [he]; simp
  have hq : q ∈ allO l := by rw [he]; simp
  have hpl := side_put _ hp
  have hql := side_put _ hq
  have hpq : ¬ (p.a = q.a ∧ p.b = q.b) := by
    rintro ⟨e1, e2⟩
    have := once_eq (once_ops h) hpl.1 hql.1 e1 e2
    subst this
    rw [he] at hnd
    have h2 := (List.nodup_append.1 hnd).2.1
    simp at h2
  -- q stands on p's right
  obtain ⟨pre, post, n, d, hu, hn, ha⟩ := all_both hp
  have h1 : A = pre ++ sideO l n (p.a, p.b, 0) ∧ q :: B = sideO l n (p.a, p.b, 1) ++ post := by
    refine mid_eq (q := p) (by rw [← he]; exact hnd) ?_
    rw [← he, ha]
    simp
  obtain ⟨y, hy⟩ := List.exists_mem_of_ne_nil _ hk
  have hyin : y ∈ sideO l n (p.a, p.b, 1) := desc_deep h (i := 0) (x := (p.a, p.b, 1)) hy hu hn
  have hqin : q ∈ sideO l n (p.a, p.b, 1) := by
    cases hs : sideO l n (p.a, p.b, 1) with
    | nil => rw [hs] at hyin; cases hyin
    | cons z zs =>
      have h2 := h1.2
      rw [hs] at h2
      simp only [List.cons_append, List.cons.injEq] at h2
      rw [h2.1]
      simp
  have hpu : undB l q.a q.b p.a p.b = true := by
    have := side_atOr (l := l) h (p := p) (q := q) (n := n) (by simp [hqin])
    unfold atOrB at this
    rcases Bool.or_eq_true _ _ |>.mp this with e | e
    · have e2 : q.a = p.a ∧ q.b = p.b := by simpa using e
      exact absurd ⟨e2.1.symm, e2.2.symm⟩ hpq
    · exact e
  -- p would stand on q's left
  cases hkq : kidsL l (q.a, q.b, 0) with
  | nil => rfl
  | cons z zs =>
    exfalso
    obtain ⟨pre', post', n', d', hu', hn', ha'⟩ := all_both hq
    have h3 : A ++ [p] = pre' ++ sideO l n' (q.a, q.b, 0) ∧ B = sideO l n' (q.a, q.b, 1) ++ post' := by
      refine mid_eq (q := q) (A := A ++ [p]) (by rw [List.append_assoc, List.singleton_append, ← he]; exact hnd) ?_
      rw [List.append_assoc, List.singleton_append, ← he, ha']
      simp
    have hz : z ∈ kidsL l (q.a, q.b, 0) := by rw [hkq]; simp
    have hzin : z ∈ sideO l n' (q.a, q.b, 0) := desc_deep h (i := 0) (x := (q.a, q.b, 0)) hz hu' hn'
    have hpin : p ∈ sideO l n' (q.a, q.b, 0) := by
      rcases List.eq_nil_or_concat (sideO l n' (q.a, q.b, 0)) with e | ⟨S, y', e⟩
      · rw [e] at hzin; cases hzin
      · rw [e] at h3
        have h4 : A ++ [p] = (pre' ++ S) ++ [y'] := by rw [h3.1]; simp
        have h5 := (List.append_inj' h4 rfl).2
        simp at h5
        rw [e, h5]
        simp
    have := side_atOr (l := l) h (p := q) (q := p) (n := n') (by simp [hpin])
    unfold atOrB at this
    rcases Bool.or_eq_true _ _ |>.mp this with e | e
    · exact hpq (by simpa using e)
    · have := und_asym (l := l) (a := (q.a, q.b)) (b := (p.a, p.b)) hpu
      simp only at this
      rw [e] at this
      cases this
/-- The first of all has nothing on its left. -/
theorem first_free {l : List Op7} (h : opsB l = true) {B : List Op7} {q : Op7} (he : allO l = q :: B) : kidsL l (q.a, q.b, 0) = [] := by
  have hnd := nodup_all h
  have hq : q ∈ allO l := by rw [he]; simp
  obtain ⟨pre, post, n, d, hu, hn, ha⟩ := all_both hq
  have h1 : [] = pre ++ sideO l n (q.a, q.b, 0) ∧ B = sideO l n (q.a, q.b, 1) ++ post := by
    refine mid_eq (q := q) (A := []) (by rw [List.nil_append, ← he]; exact hnd) ?_
    rw [List.nil_append, ← he, ha]
    simp
  cases hk : kidsL l (q.a, q.b, 0) with
  | nil => rfl
  | cons z zs =>
    exfalso
    have hz : z ∈ kidsL l (q.a, q.b, 0) := by rw [hk]; simp
    have hzin : z ∈ sideO l n (q.a, q.b, 0) := desc_deep h (i := 0) (x := (q.a, q.b, 0)) hz hu hn
    have h2 := (List.append_eq_nil_iff.1 h1.1.symm).2
    rw [h2] at hzin
    cases hzin

/-- What one puts can be put, beside nothing that stands there already; and where it stands then. -/
theorem put_can {l : List Op7} {r sg : Int} {t : Nat} (h : mayMore l r = true) (hsg : 97 ≤ sg ∧ sg ≤ 122) (ht : t ≤ (shownI (lvs l)).length) : CanL l (putO l r t sg) ∧ kidsL l ((putO l r t sg).c, (putO l r t sg).d, (putO l r t sg).s) = [] ∧
    ∃ A B, allO l = A ++ B ∧ allO (withL l (putO l r t sg)) = A ++ putO l r t sg :: B ∧ nShown (lfs l A) = t := by
  obtain ⟨ho, hr1, hr3, hc, hc0⟩ := may_parts h
  have hpar : ∀ c d s, (∃ e, Up l e (c, d)) → (c = 0 ∧ d = 0 ∧ s = 1 ∨ 1 ≤ c ∧ c ≤ 3 ∧ 1 ≤ d ∧ d ≤ 12 ∧ (s = 0 ∨ s = 1)) → ¬ (c = r ∧ d = cnt l r + 1) → CanL l ⟨r, cnt l r + 1, 1, c, d, s, sg⟩ := by
    intro c d s hup hcd hne
    refine ⟨?_, next_new ho, next_prev ho, hup⟩
    unfold okO
    rw [opB_true]
    exact ⟨⟨hr1, hr3, by show 1 ≤ cnt l r + 1; omega, hc⟩, hne, .inl ⟨rfl, hsg.1, hsg.2, hcd⟩⟩
  by_cases hk : kidsL l ((leftOf l t).1, (leftOf l t).2.1, 1) = []
  · rw [show putO l r t sg = ⟨r, cnt l r + 1, 1, (leftOf l t).1, (leftOf l t).2.1, 1, sg⟩ from by unfold putO; rw [if_pos hk]]
    cases t with
    | zero =>
      rw [leftOf_zero] at hk ⊢
      simp only at hk ⊢
      have hcan := hpar 0 0 1 ⟨0, Up.zero⟩ (by omega) (by omega)
      obtain ⟨e1, e2⟩ := all_with_none ho hcan rfl ⟨rfl, rfl⟩ rfl hk
      exact ⟨hcan, hk, [], [], e1, e2, rfl⟩
    | succ k =>
      obtain ⟨j, x, h1, h2, h3⟩ := shown_leaf (l := l) (k := k) (by omega)
      obtain ⟨A, p, B, he, hA, ha, hb, _⟩ := leaf_sign h2
      have hp : p ∈ allO l := by rw [he]; simp
      rw [leftOf_succ h1 h2] at hk ⊢
      simp only at hk ⊢
      rw [← ha, ← hb] at hk ⊢
      have hnn := next_new (r := r) ho p (side_put _ hp).1
      have hcan := hpar p.a p.b 1 (up_of ho hp) (by have := id_ok ho hp; omega) hnn
      refine ⟨hcan, hk, A ++ [p], B, by rw [he]; simp, ?_, ?_⟩
      · have := all_with ho hcan rfl hk he ⟨rfl, rfl⟩
        rw [this]
        simp
      · have hz := shownI_mem (List.mem_of_getElem? h1) h2
        have htk : (lvs l).take (j + 1) = lfs l (A ++ [p]) := by
          unfold lvs
          rw [he, show A ++ p :: B = (A ++ [p]) ++ B by simp, lfs_two, List.take_left' (by rw [lfs_len]; simp; omega)]
        rw [← htk, List.take_succ_eq_append_getElem h3, nShown_there (by rw [(List.getElem?_eq_some_iff.1 h2).2]; exact hz), shownI_ahead h1 h2]
  · have hlt := left_next ho ht hk
    obtain ⟨nx, hnx⟩ : ∃ nx, (lvs l)[(leftOf l t).2.2]? = some nx := ⟨_, List.getElem?_eq_getElem hlt⟩
    rw [show putO l r t sg = ⟨r, cnt l r + 1, 1, nx.a, nx.b, 0, sg⟩ from by unfold putO; rw [if_neg hk]; simp [nextLf, hnx]]
    obtain ⟨A', q, B, he, hA, ha, hb, _⟩ := leaf_sign hnx
    have hq : q ∈ allO l := by rw [he]; simp
    rw [← ha, ← hb]
    have hnn := next_new (r := r) ho q (side_put _ hq).1
    have hcan := hpar q.a q.b 0 (up_of ho hq) (by have := id_ok ho hq; omega) hnn
    have hfree : kidsL l (q.a, q.b, 0) = [] ∧ nShown (lfs l A') = t := by
      cases t with
      | zero =>
        rw [leftOf_zero] at hA
        have hA0 : A' = [] := by simpa using hA
        subst hA0
        exact ⟨first_free ho (by simpa using he), rfl⟩
      | succ k =>
        obtain ⟨j, x, h1, h2, h3⟩ := shown_leaf (l := l) (k := k) (by omega)
        obtain ⟨A, p, B', he', hA', ha', hb', _⟩ := leaf_sign h2
        rw [leftOf_succ h1 h2] at hk hA
        simp only at hk hA
        rw [← ha', ← hb'] at hk
        have hh : A' = A ++ [p] ∧ q :: B = B' := by
          have e : (A ++ [p]) ++ B' = A' ++ q :: B := by rw [← he, he']; simp
          have := List.append_inj e (by simp; omega)
          exact ⟨this.1.symm, this.2.symm⟩
        refine ⟨next_free ho (A := A) (B := B) (p := p) (by rw [he', hh.2]) hk, ?_⟩
        have hz := shownI_mem (List.mem_of_getElem? h1) h2
        have htk : (lvs l).take (j + 1) = lfs l (A ++ [p]) := by
          unfold lvs
          rw [he', show A ++ p :: B' = (A ++ [p]) ++ B' by simp, lfs_two, List.take_left' (by rw [lfs_len]; simp; omega)]
        rw [hh.1, ← htk, List.take_succ_eq_append_getElem h3, nShown_there (by rw [(List.getElem?_eq_some_iff.1 h2).2]; exact hz), shownI_ahead h1 h2]
    refine ⟨hcan, hfree.1, A', q :: B, he, ?_, hfree.2⟩
    have := all_with ho hcan rfl hfree.1 he ⟨rfl, rfl⟩
    rw [this]
    simp

theorem gone_with {l : List Op7} (h : opsB l = true) {o : Op7} (hc : CanL l o) (y : Int × Int) : goneB (withL l o) y = (goneB l y || (o.k == 2 && (o.c == y.1 && o.d == y.2))) := by
  have hm := withL_mem (ops_sorted h) hc.new
  rw [Bool.eq_iff_iff]
  unfold goneB
  rw [Bool.or_eq_true, List.any_eq_true, List.any_eq_true]
  constructor
  · rintro ⟨x, hx, hb⟩
    rcases (hm x).1 hx with rfl | hx
    · exact .inr hb
    · exact .inl ⟨x, hx, hb⟩
  · rintro (⟨x, hx, hb⟩ | hb)
    · exact ⟨x, (hm x).2 (.inr hx), hb⟩
    · exact ⟨o, (hm o).2 (.inl rfl), hb⟩
theorem gone_new {l : List Op7} (h : opsB l = true) {o : Op7} (hc : CanL l o) : goneB l (o.a, o.b) = false := by
  cases hg : goneB l (o.a, o.b)
  · rfl
  · exfalso
    unfold goneB at hg
    obtain ⟨q, hq, hb⟩ := List.any_eq_true.1 hg
    simp at hb
    obtain ⟨d, hd⟩ := put_up h hq
    rcases up_inv hd with ⟨_, hx⟩ | ⟨e, p, _, hm, _, _, hx⟩
    · have := congrArg Prod.fst hx
      have := (okO_id hc.form).1
      simp at *
      omega
    · have e1 : q.c = p.a := congrArg Prod.fst hx
      have e2 : q.d = p.b := congrArg Prod.snd hx
      exact hc.new p hm ⟨by omega, by omega⟩
theorem lfs_put {l : List Op7} (h : opsB l = true) {o : Op7} (hc : CanL l o) (hk : o.k = 1) (A : List Op7) : lfs (withL l o) A = lfs l A := by
  unfold lfs
  refine List.map_congr_left fun x _ => ?_
  rw [gone_with h hc, hk]
  simp
/-- What is put stands in the text, at its place. -/
theorem put_text {l : List Op7} (h : opsB l = true) {o : Op7} (hc : CanL l o) (hk : o.k = 1) {A B : List Op7} (he : allO l = A ++ B) (hw : allO (withL l o) = A ++ o :: B) :
    shown (lfs l (allO l)) = shown (lfs l A) ++ shown (lfs l B) ∧ shown (lfs (withL l o) (allO (withL l o))) = shown (lfs l A) ++ (o.g % 256) :: shown (lfs l B) := by
  refine ⟨by rw [he, lfs_two, shown_app], ?_⟩
  rw [hw, lfs_put h hc hk, lfs_two, lfs_cons, shown_app, gone_new h hc]
  simp [shown]
/-- What is taken away is gone from the text, and nothing else. -/
theorem take_text {l : List Op7} (h : opsB l = true) {o : Op7} (hc : CanL l o) (hk : o.k = 2) {A B : List Op7} {p : Op7} (he : allO l = A ++ p :: B) (hp : o.c = p.a ∧ o.d = p.b) (hg : goneB l (p.a, p.b) = false) :
    shown (lfs l (allO l)) = shown (lfs l A) ++ (p.g % 256) :: shown (lfs l B) ∧ shown (lfs (withL l o) (allO (withL l o))) = shown (lfs l A) ++ shown (lfs l B) := by
  obtain ⟨h1, h2⟩ := all_once h he
  have hsame : ∀ C : List Op7, (∀ q ∈ C, ¬ (q.a = p.a ∧ q.b = p.b)) → lfs (withL l o) C = lfs l C := by
    intro C hC
    unfold lfs
    refine List.map_congr_left fun x hx => ?_
    have := hC x hx
    have hn : (o.c == x.a && o.d == x.b) = false := by
      cases hb : (o.c == x.a && o.d == x.b)
      · rfl
      · simp at hb
        exact absurd ⟨by omega, by omega⟩ this
    rw [gone_with h hc]
    simp only
    rw [hn]
    simp
  refine ⟨by rw [he, lfs_two, lfs_cons, shown_app, hg]; simp [shown], ?_⟩
  rw [all_take h hc hk, he, lfs_two, lfs_cons, hsame A h1, hsame B h2, shown_app, gone_with h hc]
  simp [shown, hk, hp.1, hp.2]
end Go.Proofs.YtedanlmippfojaaDoor

namespace Go.Proofs.YtedanlmippfojaaDoor
open Go.RowKit
set_option linter.unusedSimpArgs false
set_option linter.unusedVariables false

theorem OpsAt.cellsTk {w : World} {g : Nat} {l : List Op7} (h : OpsAt w g l) (x : Nat) : ∀ j u, (opCells (l.take x))[j]? = some u → w.cell? ((⟨g, 0, none⟩ : Addr).add j) = some u := fun j u hj => by
  refine h.cells j u ?_
  have e : opCells l = opCells (l.take x) ++ opCells (l.drop x) := by rw [← opCells_app, List.take_append_drop]
  rw [e, List.getElem?_append_left (List.getElem?_eq_some_iff.1 hj).1]
  exact hj
theorem addOff (g o j : Nat) : (⟨g, o, none⟩ : Addr).add j = ⟨g, o + j, none⟩ := by
  unfold Addr.add
  split <;> simp_all
theorem OpsAt.cellsDr {w : World} {g : Nat} {l : List Op7} (h : OpsAt w g l) {x : Nat} (hx : x ≤ l.length) : ∀ j u, (opCells (l.drop x))[j]? = some u → w.cell? ((⟨g, x * 7, none⟩ : Addr).add j) = some u := fun j u hj => by
  have e : opCells l = opCells (l.take x) ++ opCells (l.drop x) := by rw [← opCells_app, List.take_append_drop]
  have h1 := h.cells (x * 7 + j) u (by
    rw [e, List.getElem?_append_right (by rw [opCells_len]; simp; omega)]
    rw [← hj]
    congr 1
    rw [opCells_len]
    simp
    omega)
  rw [add_plain] at h1
  rw [addOff]
  exact h1
end Go.Proofs.YtedanlmippfojaaDoor

namespace Go.Proofs.YtedanlmippfojaaDoor
open Go.RowKit
set_option linter.unusedSimpArgs false
set_option linter.unusedVariables false
attribute [local go_sem ↓] Go.wp_at_zero Go.wp_at_succ

set_option maxRecDepth 100000 in
set_option maxHeartbeats 2000000 in
theorem implLess_any (a b c d : Int) (w : World) :
    Calls Tryd.prog 37 #[.agg #[.int .i64 a, .int .i64 b], .agg #[.int .i64 c, .int .i64 d]] w fun e w' => e = .returned (.bool (decide (a < c ∨ (a = c ∧ b < d)))) ∧ Below w.heap.size w w' := by
  go_enter Tryd.func37, Tryd.ntmps37
  by_cases h2 : a = c
  · subst h2
    go_wp2
    go_ret
    exact ⟨by simp, by go_grown⟩
  · go_wp2
    go_ret
    exact ⟨by simp [h2], by go_grown⟩
/-- With one more, put in at the first that is not ahead of it. -/
def insL (l : List Op7) (o : Op7) : List Op7 := l.takeWhile (fun p => lessB p o) ++ o :: l.dropWhile (fun p => lessB p o)
theorem insL_at {l : List Op7} {o : Op7} {k : Nat} (hk : k ≤ l.length) (h1 : ∀ j (hj : j < l.length), j < k → lessB l[j] o = true) (h2 : k = l.length ∨ ∃ hk : k < l.length, lessB l[k] o = false) : insL l o = l.take k ++ o :: l.drop k := by
  have ht : l.takeWhile (fun p => lessB p o) = l.take k ∧ l.dropWhile (fun p => lessB p o) = l.drop k := by
    clear hk
    induction l generalizing k with
    | nil => simp
    | cons p r ih =>
      rcases k with _ | k
      · rcases h2 with h2 | ⟨_, h2⟩
        · simp at h2
        · simp only [List.getElem_cons_zero] at h2
          simp [List.takeWhile_cons, List.dropWhile_cons, h2]
      · have hp := h1 0 (by simp) (by omega)
        simp only [List.getElem_cons_zero] at hp
        obtain ⟨e1, e2⟩ := ih (k := k) (fun j hj hjk => by have := h1 (j + 1) (by simp; omega) (by omega); simpa using this) (by
          rcases h2 with h2 | ⟨hk, h2⟩
          · left; simpa using h2
          · right; exact ⟨by simpa using hk, by simpa using h2⟩)
        simp [List.takeWhile_cons, List.dropWhile_cons, hp, e1, e2]
  unfold insL
  rw [ht.1, ht.2]
theorem insL_len (l : List Op7) (o : Op7) : (insL l o).length = l.length + 1 := by
  unfold insL
  rw [List.length_append, List.length_cons]
  have := congrArg List.length (List.takeWhile_append_dropWhile (p := fun p => lessB p o) (l := l))
  rw [List.length_append] at this
  omega

theorem srcNil (l : List Op7) (w : World) (a : Addr) : ∀ j u, (opCells (l.drop l.length))[j]? = some u → w.cell? (a.add j) = some u := by
  intro j u hj
  rw [List.drop_length] at hj
  simp [opCells] at hj
theorem ins_row {w : World} {base : Nat} {l : List Op7} {o : Op7} {v : Value} (h : w.ownsRow base 29 7 v (insL l o).length (opCells (insL l o))) : ∃ g c, v = .slice (some ⟨g, 0, none⟩) (insL l o).length c := by
  have h' := h
  rw [insL_len] at h
  obtain ⟨g, c, hv⟩ := ownsRow_succ h
  exact ⟨g, c, by rw [hv, insL_len]⟩

set_option maxRecDepth 100000 in
set_option maxHeartbeats 4000000 in
theorem putIn_any (l : List Op7) (g cap : Nat) (o : Op7) (w : World) (hl : OpsAt w g l) (hn : l.length ≤ 1048576) (hcap : l.length ≤ cap) :
    Calls Tryd.prog 79 #[.slice (some ⟨g, 0, none⟩) l.length cap, .agg #[.int .i64 o.a, .int .i64 o.b, .int .i64 o.k, .int .i64 o.c, .int .i64 o.d, .int .i64 o.s, .int .i64 o.g]] w fun e w' => ∃ G c, e = .returned (.slice (some ⟨G, 0, none⟩) (insL l o).length c) ∧ OwnOps w' w.heap.size G c (insL l o) ∧ Below w.heap.size w w' := by
  have HL := hideIt hl
  have hgw := hl.1
  clear hl
  obtain ⟨i0, hi, hz0', hz1', hz2⟩ := info_parts infoOp
  have HI1 := hideIt hi
  have HZ0 := hideIt hz0'
  have HZ1 := hideIt hz1'
  have HZ2 := hideIt hz2
  clear hi hz0' hz1' hz2
  go_enter Tryd.func79, Tryd.ntmps79
  go_wp2
  have HST : Hid (WL w (w.alloc (.cells #[.int .i64 o.a, .int .i64 o.b, .int .i64 o.k, .int .i64 o.c, .int .i64 o.d, .int .i64 o.s, .int .i64 o.g] 29)) o (.slice none 0 0) []) :=
    ⟨World.ownsRow_nil _ _ _ _, World.alloc_heap_new w _, (Below.refl _ _).alloc (Nat.le_refl _) _⟩
  go_loopw [5] (fun i wr => ∃ k : Nat, k ≤ l.length ∧ i = .int .i64 k ∧ (∀ j (hj : j < l.length), j < k → lessB l[j] o = true) ∧ WL w wr o (.slice none 0 0) [])
    (fun i _ => l.length - (intOf i).toNat)
  case atStart => exact ⟨0, Nat.zero_le _, rfl, fun j hj h => by omega, HST.out⟩
  case round =>
    clear HST
    obtain ⟨k, hk, rfl, hall, hS⟩ := hrel
    have HS := hideIt hS
    have HA := hideIt hall
    have hgr : g < wr.heap.size := Nat.lt_of_lt_of_le hgw hS.bel.size
    have hwr := hS.lt
    clear hS hall
    by_cases hlt : k < l.length
    · obtain ⟨y0, y1, y2, y3, y4, y5, y6⟩ := (HL.out.below HS.out.bel hgw).2 k l[k] (by simp [hlt])
      obtain ⟨b0, b1, b2, b3, b4, b5, b6⟩ := HS.out.id
      have HE : Hid (lessB l[k] o = false → insL l o = l.take k ++ o :: l.drop k) := fun h => insL_at hk HA.out (.inr ⟨hlt, h⟩)
      have HM : Hid (lessB l[k] o = true → ∀ j (hj : j < l.length), j < k + 1 → lessB l[j] o = true) := fun h j hj hjk => by
        rcases Nat.lt_or_ge j k with hh | hh
        · exact HA.out j hj hh
        · obtain rfl : j = k := by omega
          exact h
      generalize l[k] = p at *
      have hlt' : (k : Int) < (l.length : Int) := by omega
      have hk0 : (0 : Int) ≤ (k : Int) := by omega
      cases hz : lessB p o
      all_goals
        have HZ := hideIt hz
        clear hz
        go_wp2
        go_region_held3 (fun w' => w'.cell? ⟨g, k * 7, none⟩ = some (.int .i64 p.a) ∧ w'.cell? ⟨g, k * 7 + 1, none⟩ = some (.int .i64 p.b) ∧ w'.cell? ⟨w.heap.size, 0, none⟩ = some (.int .i64 o.a) ∧ w'.cell? ⟨w.heap.size, 1, none⟩ = some (.int .i64 o.b))
          (first | exact ⟨y0, y1, b0, b1⟩ | exact ⟨((bcell hb2).1 g _ hgr).trans y0, ((bcell hb2).1 g _ hgr).trans y1, ((bcell hb2).1 _ _ hwr).trans b0, ((bcell hb2).1 _ _ hwr).trans b1⟩)
          (first | (go_at_call 37; refine (implLess_any _ _ _ _ _).mono ?_; rintro e w2 ⟨rfl, hb2⟩; have HS2 : Hid (WL w w2 o (.slice none 0 0) []) := (HS.out.below ((Below.refl _ _).drew)).below hb2; rw [show decide (p.a < o.a ∨ p.a = o.a ∧ p.b < o.b) = _ from HZ.out]))
        rename_i hHH
        clear hHH hb2 y0 y1 y2 y3 y4 y5 y6 b0 b1 b2 b3 b4 b5 b6
      · have HEE := hideIt (HE.out HZ.out)
        clear HE HM HA
        have hw1 : IntKind.i64.wrap ((l.length : Int) + 1) = ((l.length + 1 : Nat) : Int) := by rw [IntWalk.i64_in _ ⟨by omega, by omega⟩]; omega
        have hkk : (k : Int) ≤ (cap : Int) := by omega
        have hk0' : (0 : Int) ≤ (k : Int) := by omega
        have hkl : (k : Int) ≤ (l.length : Int) := by omega
        have HLd : Hid ((l.drop k).length = l.length - k) := List.length_drop
        have HLt : Hid ((l.take k).length = k) := (by show (l.take k).length = k; simp; try omega)
        have hkn : k ≤ l.length := by omega
        have haddr : (if cap = k then (some ⟨g, 0, none⟩ : Option Addr) else some ⟨g, k * 7, none⟩) = some ⟨g, if cap = k then 0 else k * 7, none⟩ := by split <;> rfl
        go_wp2_with (first
          | (at_make; refine wpList_make_own _ rfl _ _ 23 rfl (w.heap.size + 1) 29 i0 _ 7 Tryd.underlying23 HI1.out HZ0.out HZ1.out .i64 .i64 _ (l.length + 1) rfl rfl rfl (by rw [HZ2.out]; omega) (by unfold maxLen; omega) HS2.out.lt ?_; intro w3 hown3 hg3; have hb3 : Below w2.heap.size w2 w3 := (Below.refl _ _).grown hg3 (Nat.le_refl _) (fun k h => by cases h); have HS3 : Hid (WL w w3 o (.slice (some ⟨w2.heap.size, 0, none⟩) 0 (l.length + 1)) []) := ⟨hown3, (hb3.block _ HS2.out.lt).trans HS2.out.box, Bstep HS2.out.bel hb3⟩; clear hown3 hg3 hb3)
          | (at_builtin; refine wpList_append_own_at _ rfl _ _ 23 rfl (w.heap.size + 1) 29 i0 _ 7 56 Tryd.underlying23 HI1.out HZ0.out HZ1.out HZ2.out rfl (by decide) _ _ _ rfl HS3.out.row ⟨g, 0, none⟩ k cap (opCells (l.take k)) rfl (by rw [opCells_len, HLt.out]) ((HL.out.below HS3.out.bel hgw).cellsTk k) (opCells_one _) (by (try simp only [List.length_nil]); unfold maxLen; omega) (by (try simp only [List.length_nil]); omega) HS3.out.lt ?_; intro v4 w4 hown4 hg4 _ _; have HS4 := hideIt (WL.app (M := l.take k) HS3.out hg4 (by rw [HLt.out]; exact hown4)); clear hown4 hg4 HS3; have hw4 := HS4.out.lt; obtain ⟨b0, b1, b2, b3, b4, b5, b6⟩ := HS4.out.id)
          | (at_builtin; refine wpList_append_own_at _ rfl _ _ 23 rfl (w.heap.size + 1) 29 i0 _ 7 56 Tryd.underlying23 HI1.out HZ0.out HZ1.out HZ2.out rfl (by decide) _ _ _ rfl (HS4.out.row.alloc _) ⟨w4.heap.size, 0, none⟩ 1 1 (opCells [o]) rfl rfl (cells_new w4 (opCells [o]) 29) (opCells_one _) (by (try simp only [List.length_append, List.length_nil]); rw [HLt.out]; unfold maxLen; omega) (by (try simp only [List.length_append, List.length_nil]); rw [HLt.out]; omega) (by simp; omega) ?_; intro v5 w5 hown5 hg5 _ _; have HS5 := hideIt (WL.app (M := [o]) (HS4.out.below ((Below.refl _ _).alloc (Nat.le_refl _) _)) hg5 hown5); clear hown5 hg5 HS4 hw4 b0 b1 b2 b3 b4 b5 b6; have hw5 := HS5.out.lt)
          | (at_builtin; refine wpList_append_own_at _ rfl _ _ 23 rfl (w.heap.size + 1) 29 i0 _ 7 56 Tryd.underlying23 HI1.out HZ0.out HZ1.out HZ2.out rfl (by decide) _ _ _ rfl HS5.out.row ⟨g, k * 7, none⟩ (l.length - k) (cap - k) (opCells (l.drop k)) rfl (by rw [opCells_len, HLd.out]) ((HL.out.below HS5.out.bel hgw).cellsDr hkn) (opCells_one _) (by (try simp only [List.length_append, List.length_nil, List.length_cons]); rw [HLt.out]; unfold maxLen; omega) (by (try simp only [List.length_append, List.length_nil, List.length_cons]); rw [HLt.out]; omega) (by omega) ?_; intro v6 w6 hown6 hg6 _ _; have HS6 := hideIt (WL.app (M := l.drop k) HS5.out hg6 (by rw [HLd.out]; exact hown6)); clear hown6 hg6 HS5 hw5))
        go_ret
        have hE : [] ++ l.take k ++ [o] ++ l.drop k = insL l o := by rw [HEE.out]; simp
        have hR := HS6.out.row
        rw [hE] at hR
        obtain ⟨gR, cR, rfl⟩ := ins_row hR
        exact ⟨_, _, rfl, ownsRow_base (Nat.le_succ _) hR, HS6.out.bel⟩
      · have HMM := hideIt (HM.out HZ.out)
        go_wp2
        exact ⟨⟨k + 1, by omega, by go_num, HMM.out, HS2.out⟩, by simp [intOf]; omega⟩
    · obtain rfl : k = l.length := by omega
      have HEE : Hid (insL l o = l.take l.length ++ o :: l.drop l.length) := insL_at hk HA.out (.inl rfl)
      go_wp2
      go_quiet (fail)
      generalize hD : World.drewN wr _ = w2
      have HS2 : Hid (WL w w2 o (.slice none 0 0) []) := by show WL w w2 o (.slice none 0 0) []; rw [← hD]; exact HS.out.below (below_drewN (Below.refl _ _) _)
      clear hD
      have hcc : cap = l.length ∨ l.length < cap := by omega
      rcases hcc with hcc | hcc
      · subst hcc
        have hw1 : IntKind.i64.wrap ((l.length : Int) + 1) = ((l.length + 1 : Nat) : Int) := by rw [IntWalk.i64_in _ ⟨by omega, by omega⟩]; omega
        have hkk : (l.length : Int) ≤ (l.length : Int) := by omega
        have hk0' : (0 : Int) ≤ (l.length : Int) := by omega
        have hkl : (l.length : Int) ≤ (l.length : Int) := by omega
        have HLd : Hid ((l.drop l.length).length = 0) := (by show (l.drop l.length).length = 0; simp)
        have HLt : Hid ((l.take l.length).length = l.length) := (by show (l.take l.length).length = l.length; simp; try omega)
        have hkn : l.length ≤ l.length := by omega
        go_wp2_with (first
          | (at_make; refine wpList_make_own _ rfl _ _ 23 rfl (w.heap.size + 1) 29 i0 _ 7 Tryd.underlying23 HI1.out HZ0.out HZ1.out .i64 .i64 _ (l.length + 1) rfl rfl rfl (by rw [HZ2.out]; omega) (by unfold maxLen; omega) HS2.out.lt ?_; intro w3 hown3 hg3; have hb3 : Below w2.heap.size w2 w3 := (Below.refl _ _).grown hg3 (Nat.le_refl _) (fun k h => by cases h); have HS3 : Hid (WL w w3 o (.slice (some ⟨w2.heap.size, 0, none⟩) 0 (l.length + 1)) []) := ⟨hown3, (hb3.block _ HS2.out.lt).trans HS2.out.box, Bstep HS2.out.bel hb3⟩; clear hown3 hg3 hb3)
          | (at_builtin; refine wpList_append_own_at _ rfl _ _ 23 rfl (w.heap.size + 1) 29 i0 _ 7 56 Tryd.underlying23 HI1.out HZ0.out HZ1.out HZ2.out rfl (by decide) _ _ _ rfl HS3.out.row ⟨g, 0, none⟩ l.length l.length (opCells (l.take l.length)) rfl (by rw [opCells_len, HLt.out]) ((HL.out.below HS3.out.bel hgw).cellsTk l.length) (opCells_one _) (by (try simp only [List.length_nil]); unfold maxLen; omega) (by (try simp only [List.length_nil]); omega) HS3.out.lt ?_; intro v4 w4 hown4 hg4 _ _; have HS4 := hideIt (WL.app (M := l.take l.length) HS3.out hg4 (by rw [HLt.out]; exact hown4)); clear hown4 hg4 HS3; have hw4 := HS4.out.lt; obtain ⟨b0, b1, b2, b3, b4, b5, b6⟩ := HS4.out.id)
          | (at_builtin; refine wpList_append_own_at _ rfl _ _ 23 rfl (w.heap.size + 1) 29 i0 _ 7 56 Tryd.underlying23 HI1.out HZ0.out HZ1.out HZ2.out rfl (by decide) _ _ _ rfl (HS4.out.row.alloc _) ⟨w4.heap.size, 0, none⟩ 1 1 (opCells [o]) rfl rfl (cells_new w4 (opCells [o]) 29) (opCells_one _) (by (try simp only [List.length_append, List.length_nil]); rw [HLt.out]; unfold maxLen; omega) (by (try simp only [List.length_append, List.length_nil]); rw [HLt.out]; omega) (by simp; omega) ?_; intro v5 w5 hown5 hg5 _ _; have HS5 := hideIt (WL.app (M := [o]) (HS4.out.below ((Below.refl _ _).alloc (Nat.le_refl _) _)) hg5 hown5); clear hown5 hg5 HS4 hw4 b0 b1 b2 b3 b4 b5 b6; have hw5 := HS5.out.lt)
          | (at_builtin; refine wpList_append_own_at _ rfl _ _ 23 rfl (w.heap.size + 1) 29 i0 _ 7 56 Tryd.underlying23 HI1.out HZ0.out HZ1.out HZ2.out rfl (by decide) _ _ _ rfl HS5.out.row ⟨g, 0, none⟩ 0 0 (opCells (l.drop l.length)) rfl (by rw [opCells_len, HLd.out]) (srcNil l w5 ⟨g, 0, none⟩) (opCells_one _) (by (try simp only [List.length_append, List.length_nil, List.length_cons]); rw [HLt.out]; unfold maxLen; omega) (by (try simp only [List.length_append, List.length_nil, List.length_cons]); rw [HLt.out]; omega) (by omega) ?_; intro v6 w6 hown6 hg6 _ _; have HS6 := hideIt (WL.app (M := l.drop l.length) HS5.out hg6 (by rw [HLd.out]; exact hown6)); clear hown6 hg6 HS5 hw5)
          | (at_builtin; refine wpList_append_own_at _ rfl _ _ 23 rfl (w.heap.size + 1) 29 i0 _ 7 56 Tryd.underlying23 HI1.out HZ0.out HZ1.out HZ2.out rfl (by decide) _ _ _ rfl HS5.out.row ⟨g, l.length * 7, none⟩ 0 (l.length - l.length) (opCells (l.drop l.length)) rfl (by rw [opCells_len, HLd.out]) (srcNil l w5 ⟨g, l.length * 7, none⟩) (opCells_one _) (by (try simp only [List.length_append, List.length_nil, List.length_cons]); rw [HLt.out]; unfold maxLen; omega) (by (try simp only [List.length_append, List.length_nil, List.length_cons]); rw [HLt.out]; omega) (by omega) ?_; intro v6 w6 hown6 hg6 _ _; have HS6 := hideIt (WL.app (M := l.drop l.length) HS5.out hg6 (by rw [HLd.out]; exact hown6)); clear hown6 hg6 HS5 hw5))
        go_ret
        have hE : [] ++ l.take l.length ++ [o] ++ l.drop l.length = insL l o := by rw [HEE.out]; simp
        have hR := HS6.out.row
        rw [hE] at hR
        obtain ⟨gR, cR, rfl⟩ := ins_row hR
        exact ⟨_, _, rfl, ownsRow_base (Nat.le_succ _) hR, HS6.out.bel⟩
      · have hw1 : IntKind.i64.wrap ((l.length : Int) + 1) = ((l.length + 1 : Nat) : Int) := by rw [IntWalk.i64_in _ ⟨by omega, by omega⟩]; omega
        have hkk : (l.length : Int) ≤ (cap : Int) := by omega
        have hk0' : (0 : Int) ≤ (l.length : Int) := by omega
        have hkl : (l.length : Int) ≤ (l.length : Int) := by omega
        have HLd : Hid ((l.drop l.length).length = 0) := (by show (l.drop l.length).length = 0; simp)
        have HLt : Hid ((l.take l.length).length = l.length) := (by show (l.take l.length).length = l.length; simp; try omega)
        have hkn : l.length ≤ l.length := by omega
        go_wp2_with (first
          | (at_make; refine wpList_make_own _ rfl _ _ 23 rfl (w.heap.size + 1) 29 i0 _ 7 Tryd.underlying23 HI1.out HZ0.out HZ1.out .i64 .i64 _ (l.length + 1) rfl rfl rfl (by rw [HZ2.out]; omega) (by unfold maxLen; omega) HS2.out.lt ?_; intro w3 hown3 hg3; have hb3 : Below w2.heap.size w2 w3 := (Below.refl _ _).grown hg3 (Nat.le_refl _) (fun k h => by cases h); have HS3 : Hid (WL w w3 o (.slice (some ⟨w2.heap.size, 0, none⟩) 0 (l.length + 1)) []) := ⟨hown3, (hb3.block _ HS2.out.lt).trans HS2.out.box, Bstep HS2.out.bel hb3⟩; clear hown3 hg3 hb3)
          | (at_builtin; refine wpList_append_own_at _ rfl _ _ 23 rfl (w.heap.size + 1) 29 i0 _ 7 56 Tryd.underlying23 HI1.out HZ0.out HZ1.out HZ2.out rfl (by decide) _ _ _ rfl HS3.out.row ⟨g, 0, none⟩ l.length cap (opCells (l.take l.length)) rfl (by rw [opCells_len, HLt.out]) ((HL.out.below HS3.out.bel hgw).cellsTk l.length) (opCells_one _) (by (try simp only [List.length_nil]); unfold maxLen; omega) (by (try simp only [List.length_nil]); omega) HS3.out.lt ?_; intro v4 w4 hown4 hg4 _ _; have HS4 := hideIt (WL.app (M := l.take l.length) HS3.out hg4 (by rw [HLt.out]; exact hown4)); clear hown4 hg4 HS3; have hw4 := HS4.out.lt; obtain ⟨b0, b1, b2, b3, b4, b5, b6⟩ := HS4.out.id)
          | (at_builtin; refine wpList_append_own_at _ rfl _ _ 23 rfl (w.heap.size + 1) 29 i0 _ 7 56 Tryd.underlying23 HI1.out HZ0.out HZ1.out HZ2.out rfl (by decide) _ _ _ rfl (HS4.out.row.alloc _) ⟨w4.heap.size, 0, none⟩ 1 1 (opCells [o]) rfl rfl (cells_new w4 (opCells [o]) 29) (opCells_one _) (by (try simp only [List.length_append, List.length_nil]); rw [HLt.out]; unfold maxLen; omega) (by (try simp only [List.length_append, List.length_nil]); rw [HLt.out]; omega) (by simp; omega) ?_; intro v5 w5 hown5 hg5 _ _; have HS5 := hideIt (WL.app (M := [o]) (HS4.out.below ((Below.refl _ _).alloc (Nat.le_refl _) _)) hg5 hown5); clear hown5 hg5 HS4 hw4 b0 b1 b2 b3 b4 b5 b6; have hw5 := HS5.out.lt)
          | (at_builtin; refine wpList_append_own_at _ rfl _ _ 23 rfl (w.heap.size + 1) 29 i0 _ 7 56 Tryd.underlying23 HI1.out HZ0.out HZ1.out HZ2.out rfl (by decide) _ _ _ rfl HS5.out.row ⟨g, 0, none⟩ 0 0 (opCells (l.drop l.length)) rfl (by rw [opCells_len, HLd.out]) (srcNil l w5 ⟨g, 0, none⟩) (opCells_one _) (by (try simp only [List.length_append, List.length_nil, List.length_cons]); rw [HLt.out]; unfold maxLen; omega) (by (try simp only [List.length_append, List.length_nil, List.length_cons]); rw [HLt.out]; omega) (by omega) ?_; intro v6 w6 hown6 hg6 _ _; have HS6 := hideIt (WL.app (M := l.drop l.length) HS5.out hg6 (by rw [HLd.out]; exact hown6)); clear hown6 hg6 HS5 hw5)
          | (at_builtin; refine wpList_append_own_at _ rfl _ _ 23 rfl (w.heap.size + 1) 29 i0 _ 7 56 Tryd.underlying23 HI1.out HZ0.out HZ1.out HZ2.out rfl (by decide) _ _ _ rfl HS5.out.row ⟨g, l.length * 7, none⟩ 0 (cap - l.length) (opCells (l.drop l.length)) rfl (by rw [opCells_len, HLd.out]) (srcNil l w5 ⟨g, l.length * 7, none⟩) (opCells_one _) (by (try simp only [List.length_append, List.length_nil, List.length_cons]); rw [HLt.out]; unfold maxLen; omega) (by (try simp only [List.length_append, List.length_nil, List.length_cons]); rw [HLt.out]; omega) (by omega) ?_; intro v6 w6 hown6 hg6 _ _; have HS6 := hideIt (WL.app (M := l.drop l.length) HS5.out hg6 (by rw [HLd.out]; exact hown6)); clear hown6 hg6 HS5 hw5))
        go_ret
        have hE : [] ++ l.take l.length ++ [o] ++ l.drop l.length = insL l o := by rw [HEE.out]; simp
        have hR := HS6.out.row
        rw [hE] at hR
        obtain ⟨gR, cR, rfl⟩ := ins_row hR
        exact ⟨_, _, rfl, ownsRow_base (Nat.le_succ _) hR, HS6.out.bel⟩
end Go.Proofs.YtedanlmippfojaaDoor

namespace Go.Proofs.YtedanlmippfojaaDoor
open Go.RowKit
set_option linter.unusedSimpArgs false
set_option linter.unusedVariables false

set_option maxHeartbeats 1000000 in
theorem implOps_any (l : List Op7) (g cap : Nat) (x : Addr) (w : World) (hl : OpsAt w g l) (hn : l.length ≤ 1048576) (hcap : l.length ≤ cap)
    (he : w.cell? ⟨0, 0, none⟩ = some (.iface 203 (.pointer (some x)))) (h0 : 0 < w.heap.size) :
    Calls Tryd.prog 36 #[.slice (some ⟨g, 0, none⟩) l.length cap] w fun e w' => e = .returned (.bool (thB l)) ∧ Below w.heap.size w w' := by
  have HL := hideIt hl
  clear hl
  go_enter Tryd.func36, Tryd.ntmps36
  go_wp2_with fail
  refine (things_any l g cap x _ HL.out hn hcap he h0).mono ?_
  rintro e w1 ⟨(⟨ht, M, _, rfl, hT⟩ | ⟨ht, rfl⟩), hb1⟩
  all_goals
    have HT := hideIt ht
    have HB1 := hideIt hb1
    have herr1 : w1.cell? ⟨0, 0, none⟩ = some (.iface 203 (.pointer (some x))) := by rw [(bcell hb1).1 _ _ h0]; exact he
    clear ht hb1
  · clear hT
    go_wp2_with (first | (go_at_call 68; refine (is_nil x _).mono ?_; rintro e w'' ⟨rfl, rfl⟩))
    go_ret
    exact ⟨ret_bool HT.out.symm, HB1.out⟩
  · go_wp2_with (first | (go_at_call 68; refine (is_same x _).mono ?_; rintro e w'' ⟨rfl, rfl⟩))
    go_ret
    exact ⟨ret_bool HT.out.symm, HB1.out⟩
end Go.Proofs.YtedanlmippfojaaDoor

namespace Go.Proofs.YtedanlmippfojaaDoor
open Go.RowKit
set_option linter.unusedSimpArgs false
set_option linter.unusedVariables false
attribute [local go_sem ↓] Go.wp_at_zero Go.wp_at_succ

/-- Something more can be done. -/
def okW (l : List Op7) (o : Op7) : Bool := opsB l && (decide (findI l o.a o.b < 0) && opsB (withL l o))
theorem insL_with {l : List Op7} (hs : l.Pairwise fun p q => lessB p q = true) {o : Op7} (hno : ∀ p ∈ l, ¬ (p.a = o.a ∧ p.b = o.b)) : insL l o = withL l o := by
  induction l with
  | nil => rfl
  | cons p r ih =>
    obtain ⟨h1, h2⟩ := List.pairwise_cons.1 hs
    have ih := ih h2 (fun q hq => hno q (by simp [hq]))
    have hp := hno p (by simp)
    by_cases hl : lessB p o = true
    · have hno' : lessB o p = false := by
        unfold lessB at *
        have := of_decide_eq_true hl
        exact decide_eq_false (by omega)
      have e : withL (p :: r) o = p :: withL r o := by
        unfold withL
        rw [List.filter_cons_of_pos (by simp [hl]), List.filter_cons_of_neg (by simp [hno'])]
        simp
      rw [e, ← ih]
      simp [insL, List.takeWhile_cons, List.dropWhile_cons, hl]
    · have hl' : lessB o p = true := by
        unfold lessB at *
        have := of_decide_eq_false (Bool.eq_false_iff.2 hl)
        exact decide_eq_true (by omega)
      have hall : ∀ q ∈ r, lessB o q = true ∧ lessB q o = false := fun q hq => by
        have := h1 q hq
        unfold lessB at *
        have h3 := of_decide_eq_true this
        have h4 := of_decide_eq_true hl'
        exact ⟨decide_eq_true (by omega), decide_eq_false (by omega)⟩
      have e : withL (p :: r) o = o :: p :: r := by
        unfold withL
        rw [List.filter_cons_of_neg (by simpa using hl), List.filter_cons_of_pos (by simp [hl']), List.filter_eq_nil_iff.2 (fun q hq => by simp [(hall q hq).2]), List.filter_eq_self.2 (fun q hq => (hall q hq).1)]
        rfl
      have hl0 : lessB p o = false := Bool.eq_false_iff.2 hl
      rw [e]
      simp [insL, List.takeWhile_cons, List.dropWhile_cons, hl0]
theorem insL_dup {l : List Op7} {o : Op7} (hf : ¬ findI l o.a o.b < 0) : opsB (insL l o) = false := by
  cases h : opsB (insL l o)
  · rfl
  · exfalso
    have hs := ops_sorted h
    have hp : ∃ p ∈ l, p.a = o.a ∧ p.b = o.b := by
      obtain ⟨k, hk, hkl⟩ : ∃ k : Nat, findI l o.a o.b = k ∧ ∃ hk : k < l.length, hasId o.a o.b l[k] = true := by
        unfold findI at hf ⊢
        cases hx : l.findIdx? (hasId o.a o.b) with
        | none => rw [hx] at hf; simp at hf
        | some i =>
          obtain ⟨h1, h2, _⟩ := List.findIdx?_eq_some_iff_getElem.1 hx
          exact ⟨i, rfl, h1, h2⟩
      obtain ⟨hk', hid⟩ := hkl
      exact ⟨l[k], List.getElem_mem _, by simpa [hasId] using hid⟩
    obtain ⟨p, hp, ha, hb⟩ := hp
    unfold insL at hs
    obtain ⟨_, h2, h3⟩ := List.pairwise_append.1 hs
    have hpm : p ∈ l.takeWhile (fun q => lessB q o) ∨ p ∈ l.dropWhile (fun q => lessB q o) := by
      rw [← List.takeWhile_append_dropWhile (p := fun q => lessB q o) (l := l)] at hp
      exact List.mem_append.1 hp
    have : lessB p o = true ∨ lessB o p = true := by
      rcases hpm with h | h
      · exact .inl (h3 p h o (by simp))
      · exact .inr ((List.pairwise_cons.1 h2).1 p h)
    unfold lessB at this
    rcases this with h | h <;> have := of_decide_eq_true h <;> omega

theorem withL_lenW (l : List Op7) (o : Op7) : (withL l o).length ≤ 2 * l.length + 1 := by
  unfold withL
  have h1 := List.length_filter_le (fun p => lessB p o) l
  have h2 := List.length_filter_le (fun p => lessB o p) l
  simp only [List.length_append, List.length_cons, List.length_nil]
  omega
theorem findI_w1 {l : List Op7} {r m : Int} (h : findI l r m < 0) : findI l r m = -1 := by
  unfold findI at *
  cases hx : l.findIdx? (hasId r m) with
  | none => rfl
  | some i => rw [hx] at h; simp only at h; omega
theorem findI_w0 {l : List Op7} {r m : Int} (h : ¬ findI l r m < 0) : ∃ k : Nat, findI l r m = k := ⟨(findI l r m).toNat, by omega⟩
/-- The answer. -/
def ansW (l : List Op7) (o : Op7) : List Op7 := if okW l o = true then withL l o else []
theorem ansW_yes {l : List Op7} {o : Op7} (h : okW l o = true) : ansW l o = withL l o := by unfold ansW; rw [if_pos h]
theorem ansW_no {l : List Op7} {o : Op7} (h : okW l o = false) : ansW l o = [] := by unfold ansW; rw [h]; rfl

set_option maxRecDepth 100000 in
set_option maxHeartbeats 1000000 in
theorem implWith_any (l : List Op7) (g cap : Nat) (o : Op7) (x : Addr) (w : World) (hl : OpsAt w g l) (hn : l.length ≤ 1048576) (hcap : l.length ≤ cap)
    (he : w.cell? ⟨0, 0, none⟩ = some (.iface 203 (.pointer (some x)))) (h0 : 0 < w.heap.size) :
    Calls Tryd.prog 26 #[.slice (some ⟨g, 0, none⟩) l.length cap, .agg #[.int .i64 o.a, .int .i64 o.b, .int .i64 o.k, .int .i64 o.c, .int .i64 o.d, .int .i64 o.s, .int .i64 o.g]] w fun e w' =>
      ∃ v, e = .returned (.tuple #[v, .bool (okW l o)]) ∧ w'.ownsRow w.heap.size 29 7 v (ansW l o).length (opCells (ansW l o)) ∧ Below w.heap.size w w' := by
  have HL := hideIt hl
  have hgw := hl.1
  clear hl
  have HW : Hid (WL w (w.alloc (.cells #[.int .i64 o.a, .int .i64 o.b, .int .i64 o.k, .int .i64 o.c, .int .i64 o.d, .int .i64 o.s, .int .i64 o.g] 29)) o (.slice none 0 0) []) :=
    ⟨World.ownsRow_nil _ _ _ _, World.alloc_heap_new w _, (Below.refl _ _).alloc (Nat.le_refl _) _⟩
  cases hops : opsB l
  · have hz : okW l o = false := by unfold okW; rw [hops]; rfl
    rw [ansW_no hz, hz]
    clear hz
    have HO := hideIt hops
    clear hops
    go_enter Tryd.func26, Tryd.ntmps26
    go_wp2_with (first
      | (go_at_call 36; refine (implOps_any l g cap x _ (HL.out.below HW.out.bel hgw) hn hcap (errB HW.out.bel h0 he) (posB HW.out.bel h0)).mono ?_; rintro e w1 ⟨rfl, hb1⟩; rw [th_same, HO.out]; have HB := hideIt (HW.out.below hb1).bel; clear hb1))
    exact bodyPost_ret (v := .tuple #[.slice none 0 0, .bool false]) (by simp [results, Tryd.results26, go_sem]) rfl ⟨_, rfl, World.ownsRow_nil _ _ _ _, HB.out⟩
  · have h36 := ops_36 hops
    have HINS : Hid (findI l o.a o.b < 0 → insL l o = withL l o) := fun h2 => insL_with (ops_sorted hops) (find_new h2)
    have HDUP : Hid (¬ findI l o.a o.b < 0 → opsB (insL l o) = false) := insL_dup
    have HOK : Hid (okW l o = (decide (findI l o.a o.b < 0) && opsB (withL l o))) := by show okW l o = _; unfold okW; rw [hops]; rfl
    have HO := hideIt hops
    clear hops
    cases hi : opsB (insL l o)
    · have hz : okW l o = false := by
        rw [HOK.out]
        by_cases hf : findI l o.a o.b < 0
        · rw [← HINS.out hf, hi, Bool.and_false]
        · simp [hf]
      rw [ansW_no hz, hz]
      have HI := hideIt hi
      clear hi hz HOK HINS HDUP
      go_enter Tryd.func26, Tryd.ntmps26
      go_wp2_with fail
      refine (implOps_any l g cap x _ (HL.out.below HW.out.bel hgw) hn hcap (errB HW.out.bel h0 he) (posB HW.out.bel h0)).mono ?_
      rintro e w1 ⟨rfl, hb1⟩
      rw [th_same, HO.out]
      have HW1 := hideIt (HW.out.below hb1)
      have HB := hideIt HW1.out.bel
      obtain ⟨b0, b1, b2, b3, b4, b5, b6⟩ := HW1.out.id
      clear hb1
      go_wp2_with fail
      refine (putIn_any l g cap o _ (HL.out.below HB.out hgw) hn hcap).mono ?_
      rintro e w2 ⟨G, c, rfl, hO2, hb2⟩
      have HO2 := hideIt hO2
      have HB := hideIt (Bstep HB.out hb2)
      clear hO2 hb2
      go_wp2_with fail
      refine (implOps_any (insL l o) G c x _ HO2.out.at (by rw [insL_len]; omega) HO2.out.cap (errB HB.out h0 he) (posB HB.out h0)).mono ?_
      rintro e w3 ⟨rfl, hb3⟩
      rw [th_same, HI.out]
      have HB := hideIt (Bstep HB.out hb3)
      clear hb3
      go_wp2
      exact bodyPost_ret (v := .tuple #[.slice none 0 0, .bool false]) (by simp [results, Tryd.results26, go_sem]) rfl ⟨_, rfl, World.ownsRow_nil _ _ _ _, HB.out⟩
    · have hf : findI l o.a o.b < 0 := by
        rcases Decidable.em (findI l o.a o.b < 0) with h | h
        · exact h
        · rw [HDUP.out h] at hi; cases hi
      have hz : okW l o = true := by rw [HOK.out, ← HINS.out hf, hi]; simp [hf]
      rw [ansW_yes hz, hz, ← HINS.out hf]
      have HI := hideIt hi
      clear hi hz HOK HINS HDUP hf
      go_enter Tryd.func26, Tryd.ntmps26
      go_wp2_with fail
      refine (implOps_any l g cap x _ (HL.out.below HW.out.bel hgw) hn hcap (errB HW.out.bel h0 he) (posB HW.out.bel h0)).mono ?_
      rintro e w1 ⟨rfl, hb1⟩
      rw [th_same, HO.out]
      have HW1 := hideIt (HW.out.below hb1)
      have HB := hideIt HW1.out.bel
      obtain ⟨b0, b1, b2, b3, b4, b5, b6⟩ := HW1.out.id
      clear hb1
      go_wp2_with fail
      refine (putIn_any l g cap o _ (HL.out.below HB.out hgw) hn hcap).mono ?_
      rintro e w2 ⟨G, c, rfl, hO2, hb2⟩
      have HO2 := hideIt (show OwnOps w2 w.heap.size G c (insL l o) from ownsRow_base HB.out.size hO2)
      have HB := hideIt (Bstep HB.out hb2)
      clear hO2 hb2
      go_wp2_with fail
      refine (implOps_any (insL l o) G c x _ HO2.out.at (by rw [insL_len]; omega) HO2.out.cap (errB HB.out h0 he) (posB HB.out h0)).mono ?_
      rintro e w3 ⟨rfl, hb3⟩
      rw [th_same, HI.out]
      have HO3 := hideIt (HO2.out.below hb3)
      have HB := hideIt (Bstep HB.out hb3)
      clear hb3
      go_wp2
      exact bodyPost_ret (v := .tuple #[.slice (some ⟨G, 0, none⟩) (insL l o).length c, .bool true]) (by simp [results, Tryd.results26, go_sem]) rfl ⟨_, rfl, HO3.out, HB.out⟩

set_option maxRecDepth 100000 in
set_option maxHeartbeats 1000000 in
theorem specWith_any (l : List Op7) (g cap : Nat) (o : Op7) (w : World) (hl : OpsAt w g l) (hn : l.length ≤ 1048576) (hcap : l.length ≤ cap) :
    Calls Tryd.prog 32 #[.slice (some ⟨g, 0, none⟩) l.length cap, .agg #[.int .i64 o.a, .int .i64 o.b, .int .i64 o.k, .int .i64 o.c, .int .i64 o.d, .int .i64 o.s, .int .i64 o.g]] w fun e w' =>
      ∃ v, e = .returned (.tuple #[v, .bool (okW l o)]) ∧ w'.ownsRow w.heap.size 29 7 v (ansW l o).length (opCells (ansW l o)) ∧ Below w.heap.size w w' := by
  have HL := hideIt hl
  have hgw := hl.1
  clear hl
  have HW : Hid (WL w (w.alloc (.cells #[.int .i64 o.a, .int .i64 o.b, .int .i64 o.k, .int .i64 o.c, .int .i64 o.d, .int .i64 o.s, .int .i64 o.g] 29)) o (.slice none 0 0) []) :=
    ⟨World.ownsRow_nil _ _ _ _, World.alloc_heap_new w _, (Below.refl _ _).alloc (Nat.le_refl _) _⟩
  cases hops : opsB l
  · have hz : okW l o = false := by unfold okW; rw [hops]; rfl
    rw [ansW_no hz, hz]
    clear hz
    have HO := hideIt hops
    clear hops
    go_enter Tryd.func32, Tryd.ntmps32
    go_wp2_with (first
      | (go_at_call 22; refine (specOps_any l g cap _ (HL.out.below HW.out.bel hgw) hn hcap).mono ?_; rintro e w1 ⟨rfl, hb1⟩; rw [HO.out]; have HB := hideIt (HW.out.below hb1).bel; clear hb1))
    exact bodyPost_ret (v := .tuple #[.slice (some ⟨w1.heap.size, 0, none⟩) 0 0, .bool false]) (by simp [results, Tryd.results32, go_sem]) rfl ⟨_, rfl, World.ownsRow_made (base := w.heap.size) (e := 29) (size := 7) _ #[] 0 HB.out.size (Nat.zero_le _) rfl, HB.out.alloc HB.out.size _⟩
  · have h36 := ops_36 hops
    have HOK : Hid (okW l o = (decide (findI l o.a o.b < 0) && opsB (withL l o))) := by show okW l o = _; unfold okW; rw [hops]; rfl
    have HO := hideIt hops
    clear hops
    by_cases hf : findI l o.a o.b < 0
    · have HF := hideIt (findI_w1 hf)
      cases hi : opsB (withL l o)
      · have hz : okW l o = false := by rw [HOK.out, hi, Bool.and_false]
        rw [ansW_no hz, hz]
        have HI := hideIt hi
        clear hi hz HOK hf
        go_enter Tryd.func32, Tryd.ntmps32
        go_wp2_with fail
        refine (specOps_any l g cap _ (HL.out.below HW.out.bel hgw) hn hcap).mono ?_
        rintro e w1 ⟨rfl, hb1⟩
        rw [HO.out]
        have HW1 := hideIt (HW.out.below hb1)
        obtain ⟨b0, b1, b2, b3, b4, b5, b6⟩ := HW1.out.id
        clear hb1
        go_wp2_with fail
        refine (l1Find_any l _ _ _ _ _ (HL.out.below HW1.out.bel hgw) hn hcap).mono ?_
        rintro e w2 ⟨rfl, hb2⟩
        rw [HF.out]
        have HW2 := hideIt (HW1.out.below hb2)
        clear hb2 b0 b1 b2 b3 b4 b5 b6
        obtain ⟨b0, b1, b2, b3, b4, b5, b6⟩ := HW2.out.id
        go_wp2_with fail
        refine (l3With_any l g cap o _ (HL.out.below HW2.out.bel hgw) hn hcap).mono ?_
        rintro e w3 ⟨G, c, rfl, hO3, hb3⟩
        have HO3 := hideIt (show OwnOps w3 w.heap.size G c (withL l o) from ownsRow_base HW2.out.bel.size hO3)
        have HB := hideIt (Bstep HW2.out.bel hb3)
        clear hO3 hb3
        go_wp2_with fail
        refine (specOps_any (withL l o) G c _ HO3.out.at (by have := withL_lenW l o; omega) HO3.out.cap).mono ?_
        rintro e w4 ⟨rfl, hb4⟩
        rw [HI.out]
        have HO4 := hideIt (HO3.out.below hb4)
        have HB := hideIt (Bstep HB.out hb4)
        clear hb4
        go_wp2
        exact bodyPost_ret (v := .tuple #[.slice (some ⟨w4.heap.size, 0, none⟩) 0 0, .bool false]) (by simp [results, Tryd.results32, go_sem]) rfl ⟨_, rfl, World.ownsRow_made (base := w.heap.size) (e := 29) (size := 7) _ #[] 0 HB.out.size (Nat.zero_le _) rfl, HB.out.alloc HB.out.size _⟩
      · have hz : okW l o = true := by rw [HOK.out, hi]; simp [hf]
        rw [ansW_yes hz, hz]
        have HI := hideIt hi
        clear hi hz HOK hf
        go_enter Tryd.func32, Tryd.ntmps32
        go_wp2_with fail
        refine (specOps_any l g cap _ (HL.out.below HW.out.bel hgw) hn hcap).mono ?_
        rintro e w1 ⟨rfl, hb1⟩
        rw [HO.out]
        have HW1 := hideIt (HW.out.below hb1)
        obtain ⟨b0, b1, b2, b3, b4, b5, b6⟩ := HW1.out.id
        clear hb1
        go_wp2_with fail
        refine (l1Find_any l _ _ _ _ _ (HL.out.below HW1.out.bel hgw) hn hcap).mono ?_
        rintro e w2 ⟨rfl, hb2⟩
        rw [HF.out]
        have HW2 := hideIt (HW1.out.below hb2)
        clear hb2 b0 b1 b2 b3 b4 b5 b6
        obtain ⟨b0, b1, b2, b3, b4, b5, b6⟩ := HW2.out.id
        go_wp2_with fail
        refine (l3With_any l g cap o _ (HL.out.below HW2.out.bel hgw) hn hcap).mono ?_
        rintro e w3 ⟨G, c, rfl, hO3, hb3⟩
        have HO3 := hideIt (show OwnOps w3 w.heap.size G c (withL l o) from ownsRow_base HW2.out.bel.size hO3)
        have HB := hideIt (Bstep HW2.out.bel hb3)
        clear hO3 hb3
        go_wp2_with fail
        refine (specOps_any (withL l o) G c _ HO3.out.at (by have := withL_lenW l o; omega) HO3.out.cap).mono ?_
        rintro e w4 ⟨rfl, hb4⟩
        rw [HI.out]
        have HO4 := hideIt (HO3.out.below hb4)
        have HB := hideIt (Bstep HB.out hb4)
        clear hb4
        go_wp2
        exact bodyPost_ret (v := .tuple #[.slice (some ⟨G, 0, none⟩) (withL l o).length c, .bool true]) (by simp [results, Tryd.results32, go_sem]) rfl ⟨_, rfl, HO4.out, HB.out⟩
    · have hz : okW l o = false := by rw [HOK.out]; simp [hf]
      rw [ansW_no hz, hz]
      obtain ⟨kf, hkf⟩ := findI_w0 hf
      have HF := hideIt hkf
      have hk0 : ¬ (kf : Int) < 0 := by omega
      clear hz HOK hf hkf
      go_enter Tryd.func32, Tryd.ntmps32
      go_wp2_with fail
      refine (specOps_any l g cap _ (HL.out.below HW.out.bel hgw) hn hcap).mono ?_
      rintro e w1 ⟨rfl, hb1⟩
      rw [HO.out]
      have HW1 := hideIt (HW.out.below hb1)
      obtain ⟨b0, b1, b2, b3, b4, b5, b6⟩ := HW1.out.id
      clear hb1
      go_wp2_with fail
      refine (l1Find_any l _ _ _ _ _ (HL.out.below HW1.out.bel hgw) hn hcap).mono ?_
      rintro e w2 ⟨rfl, hb2⟩
      rw [HF.out]
      have HW2 := hideIt (HW1.out.below hb2)
      clear hb2 b0 b1 b2 b3 b4 b5 b6
      obtain ⟨b0, b1, b2, b3, b4, b5, b6⟩ := HW2.out.id
      go_wp2
      have HB := hideIt HW2.out.bel
      exact bodyPost_ret (v := .tuple #[.slice (some ⟨w2.heap.size, 0, none⟩) 0 0, .bool false]) (by simp [results, Tryd.results32, go_sem]) rfl ⟨_, rfl, World.ownsRow_made (base := w.heap.size) (e := 29) (size := 7) _ #[] 0 HB.out.size (Nat.zero_le _) rfl, HB.out.alloc HB.out.size _⟩
end Go.Proofs.YtedanlmippfojaaDoor

namespace Go.Proofs.YtedanlmippfojaaDoor
open Go.RowKit
set_option linter.unusedSimpArgs false
set_option linter.unusedVariables false

theorem find_none_new {l : List Op7} {o : Op7} (h : ∀ p ∈ l, ¬ (p.a = o.a ∧ p.b = o.b)) : findI l o.a o.b = -1 := by
  refine findI_none fun q hq => ?_
  cases hb : hasId o.a o.b q
  · rfl
  · unfold hasId at hb
    simp at hb
    exact absurd ⟨hb.1, hb.2⟩ (h q hq)
theorem okW_can {l : List Op7} {o : Op7} (h : opsB l = true) (hc : CanL l o) : okW l o = true ∧ opsB (withL l o) = true := by
  have h2 := (can_iff h hc.new).2 hc
  refine ⟨?_, h2⟩
  unfold okW
  rw [h, find_none_new hc.new, h2]
  rfl
theorem stand_ok {l : List Op7} (h : opsB l = true) : standL l = allO l := by unfold standL; rw [if_pos h]
/-- The text behind taking something away. -/
theorem take_done {l : List Op7} {r t : Int} (h : mayTake l r t = true) : okW l (takeO l r t.toNat) = true ∧ opsB l = true ∧ opsB (withL l (takeO l r t.toNat)) = true ∧ (0 ≤ t ∧ t.toNat + 1 ≤ (txtB (shown (lfs l (standL l)))).size) ∧ (standL (withL l (takeO l r t.toNat))).length = (standL l).length ∧
    txtB (shown (lfs (withL l (takeO l r t.toNat)) (standL (withL l (takeO l r t.toNat))))) = (txtB (shown (lfs l (standL l)))).extract 0 t.toNat ++ (txtB (shown (lfs l (standL l)))).extract (t.toNat + 1) (txtB (shown (lfs l (standL l)))).size := by
  unfold mayTake inB at h
  simp only [Bool.and_eq_true, decide_eq_true_eq] at h
  obtain ⟨hm, ht0, ht1⟩ := h
  have ho := (may_parts hm).1
  have htl : t.toNat < (shownI (lvs l)).length := by omega
  obtain ⟨hc, A, p, B, he, hid, hg, hn⟩ := take_can hm htl
  obtain ⟨hok, hw⟩ := okW_can ho hc
  have hp : (takeO l r t.toNat).c = p.a ∧ (takeO l r t.toNat).d = p.b := by
    unfold takeO
    rw [← hid]
    exact ⟨rfl, rfl⟩
  obtain ⟨e1, e2⟩ := take_text ho hc rfl he hp hg
  rw [stand_ok ho, stand_ok hw]
  have hl : (shown (lfs l A)).length = t.toNat := by rw [shown_n, hn]
  refine ⟨hok, ho, hw, ⟨ht0, ?_⟩, by rw [all_take ho hc rfl], ?_⟩
  · rw [txtB_size, e1]
    simp [hl]
  · rw [e1, e2, txtB_size]
    have h1 : (txtB (shown (lfs l A) ++ p.g % 256 :: shown (lfs l B))).extract 0 t.toNat = txtB (shown (lfs l A)) := by rw [← hl]; exact txt_take _ _
    have h2 : (txtB (shown (lfs l A) ++ p.g % 256 :: shown (lfs l B))).extract (t.toNat + 1) (shown (lfs l A) ++ p.g % 256 :: shown (lfs l B)).length = txtB (shown (lfs l B)) := by
      have := txt_drop (shown (lfs l A) ++ [p.g % 256]) (shown (lfs l B))
      simp only [List.append_assoc, List.singleton_append, List.length_append, List.length_cons, List.length_nil] at this ⊢
      rw [← hl]
      exact this
    rw [h1, h2, txtB_app]
/-- The text behind putting a sign. -/
theorem put_done {l : List Op7} {r t sg : Int} (h : mayPut l r t sg = true) : okW l (putO l r t.toNat sg) = true ∧ opsB l = true ∧ opsB (withL l (putO l r t.toNat sg)) = true ∧ (0 ≤ t ∧ t.toNat ≤ (txtB (shown (lfs l (standL l)))).size) ∧ (97 ≤ sg ∧ sg ≤ 122) ∧
    txtB (shown (lfs (withL l (putO l r t.toNat sg)) (standL (withL l (putO l r t.toNat sg))))) = (txtB (shown (lfs l (standL l)))).extract 0 t.toNat ++ txtB [sg] ++ (txtB (shown (lfs l (standL l)))).extract t.toNat (txtB (shown (lfs l (standL l)))).size := by
  unfold mayPut inB at h
  simp only [Bool.and_eq_true, decide_eq_true_eq] at h
  obtain ⟨hm, hsg, ht0, ht1⟩ := h
  have ho := (may_parts hm).1
  obtain ⟨hc, hx, A, B, he, hwe, hn⟩ := put_can (t := t.toNat) hm hsg (by omega)
  obtain ⟨hok, hw⟩ := okW_can ho hc
  have hk : (putO l r t.toNat sg).k = 1 := by unfold putO; split <;> rfl
  have hgg : (putO l r t.toNat sg).g = sg := by unfold putO; split <;> rfl
  obtain ⟨e1, e2⟩ := put_text ho hc hk he hwe
  rw [stand_ok ho, stand_ok hw]
  have hl : (shown (lfs l A)).length = t.toNat := by rw [shown_n, hn]
  refine ⟨hok, ho, hw, ⟨ht0, ?_⟩, hsg, ?_⟩
  · rw [txtB_size, e1]
    simp [hl]
  · rw [e1, e2, txtB_size, hgg, show sg % 256 = sg by omega]
    have h1 : (txtB (shown (lfs l A) ++ shown (lfs l B))).extract 0 t.toNat = txtB (shown (lfs l A)) := by rw [← hl]; exact txt_take _ _
    have h2 : (txtB (shown (lfs l A) ++ shown (lfs l B))).extract t.toNat (shown (lfs l A) ++ shown (lfs l B)).length = txtB (shown (lfs l B)) := by rw [← hl]; exact txt_drop _ _
    rw [h1, h2, txtB_app, txtB_app]
    simp
end Go.Proofs.YtedanlmippfojaaDoor

namespace Go.Proofs.YtedanlmippfojaaDoor
open Go.RowKit
set_option linter.unusedSimpArgs false
set_option linter.unusedVariables false
attribute [local go_sem ↓] Go.wp_at_zero Go.wp_at_succ store_op_new
attribute [-go_sem] Instr.storeAt

/-- The byte at a place of a text, as a number. -/
def byteAt (s : ByteArray) (k : Nat) : Int := if h : k < s.size then wrap64 (s[k].toNat : Nat) else 0
theorem byteAt_in {s : ByteArray} {k : Nat} (h : k < s.size) : wrap64 ((s[k].toNat : Nat) : Int) = byteAt s k := by unfold byteAt; rw [dif_pos h]
/-- What was done when one has typed so much of a run. -/
def runTo (l : List Op7) (r t : Int) (s : ByteArray) : Nat → Option (List Op7)
  | 0 => some l
  | k + 1 => match runTo l r t s k with
    | some L => if mayPut L r (wrap64 (t + k)) (byteAt s k) = true then some (withL L (putO L r (wrap64 (t + k)).toNat (byteAt s k))) else none
    | none => none
def runR (l : List Op7) (r t : Int) (s : ByteArray) : Option (List Op7) := if opsB l = true ∧ s.size ≤ 12 then runTo l r t s s.size else none
def okR (l : List Op7) (r t : Int) (s : ByteArray) : Bool := (runR l r t s).isSome
def ansR (l : List Op7) (r t : Int) (s : ByteArray) : List Op7 := (runR l r t s).getD []
theorem runTo_yes {l L : List Op7} {r t : Int} {s : ByteArray} {k : Nat} (h : runTo l r t s k = some L) (hm : mayPut L r (wrap64 (t + k)) (byteAt s k) = true) : runTo l r t s (k + 1) = some (withL L (putO L r (wrap64 (t + k)).toNat (byteAt s k))) := by
  simp only [runTo]; rw [h]; simp only; rw [if_pos hm]
theorem runTo_no {l L : List Op7} {r t : Int} {s : ByteArray} {k : Nat} (h : runTo l r t s k = some L) (hm : mayPut L r (wrap64 (t + k)) (byteAt s k) = false) : runTo l r t s (k + 1) = none := by
  simp only [runTo]; rw [h]; simp only; rw [hm]; simp
theorem runTo_none {l : List Op7} {r t : Int} {s : ByteArray} {k : Nat} (h : runTo l r t s k = none) : ∀ j, runTo l r t s (k + j) = none := by
  intro j
  induction j with
  | zero => exact h
  | succ j ih => rw [← Nat.add_assoc]; simp only [runTo]; rw [ih]
theorem run_fail {l : List Op7} {r t : Int} {s : ByteArray} {k : Nat} (h : runTo l r t s k = none) (hk : k ≤ s.size) : runR l r t s = none := by
  unfold runR
  split
  · have := runTo_none h (s.size - k)
    rw [show k + (s.size - k) = s.size by omega] at this
    exact this
  · rfl
theorem run_big {l : List Op7} {r t : Int} {s : ByteArray} (h : 12 < s.size) : runR l r t s = none := by unfold runR; rw [if_neg (by omega)]
theorem run_nops {l : List Op7} {r t : Int} {s : ByteArray} (h : opsB l = false) : runR l r t s = none := by unfold runR; rw [h]; simp
theorem run_some {l L : List Op7} {r t : Int} {s : ByteArray} (ho : opsB l = true) (hs : s.size ≤ 12) (h : runTo l r t s s.size = some L) : runR l r t s = some L := by unfold runR; rw [if_pos ⟨ho, hs⟩]; exact h
theorem run_no {l : List Op7} {r t : Int} {s : ByteArray} (h : runR l r t s = none) : okR l r t s = false ∧ ansR l r t s = [] := by unfold okR ansR; rw [h]; exact ⟨rfl, rfl⟩
theorem run_yes {l L : List Op7} {r t : Int} {s : ByteArray} (h : runR l r t s = some L) : okR l r t s = true ∧ ansR l r t s = L := by unfold okR ansR; rw [h]; exact ⟨rfl, rfl⟩
theorem runTo_ok {l : List Op7} (ho : opsB l = true) {r t : Int} {s : ByteArray} : ∀ {k : Nat} {L : List Op7}, runTo l r t s k = some L → opsB L = true
  | 0, L, h => by simp only [runTo] at h; cases h; exact ho
  | k + 1, L, h => by
    simp only [runTo] at h
    cases hk : runTo l r t s k with
    | none => rw [hk] at h; cases h
    | some M =>
      rw [hk] at h
      simp only at h
      split at h
      · rename_i hm
        cases h
        exact (put_done hm).2.2.1
      · cases h
/-- Nobody types more than twelve. -/
theorem run_cnt {l : List Op7} {r t : Int} {s : ByteArray} : ∀ {k : Nat} {L : List Op7}, runTo l r t s k = some L → cnt L r = cnt l r + k ∧ (0 < k → cnt L r ≤ 12)
  | 0, L, h => by simp only [runTo] at h; cases h; exact ⟨by simp, fun h => by omega⟩
  | k + 1, L, h => by
    simp only [runTo] at h
    cases hk : runTo l r t s k with
    | none => rw [hk] at h; cases h
    | some M =>
      rw [hk] at h
      simp only at h
      split at h
      · rename_i hm
        cases h
        obtain ⟨h1, _⟩ := run_cnt hk
        have hf := put_done hm
        have hc : cnt (withL M (putO M r (wrap64 (t + k)).toNat (byteAt s k))) r = cnt M r + 1 := by
          obtain ⟨A, B, e1, e2⟩ := withL_split (ops_sorted hf.2.1) (find_new (l := M) (r := (putO M r (wrap64 (t + k)).toNat (byteAt s k)).a) (m := (putO M r (wrap64 (t + k)).toNat (byteAt s k)).b) (by
            have := hf.1
            unfold okW at this
            simp only [Bool.and_eq_true, decide_eq_true_eq] at this
            exact this.2.1))
          have ha : (putO M r (wrap64 (t + k)).toNat (byteAt s k)).a = r := by unfold putO; split <;> rfl
          rw [e2]
          conv => rhs; rw [e1]
          unfold cnt
          rw [List.countP_append, List.countP_cons, List.countP_append]
          simp [isRep, ha]
          omega
        have hmm : cnt M r + 1 ≤ 12 := by
          unfold mayPut at hm
          simp only [Bool.and_eq_true] at hm
          exact (may_parts hm.1).2.2.2.1
        rw [hc]
        exact ⟨by push_cast; omega, fun _ => hmm⟩
      · cases h
theorem run_len {l L : List Op7} {r t : Int} {s : ByteArray} {k : Nat} (h : runTo l r t s k = some L) : k ≤ 12 := by
  obtain ⟨h1, h2⟩ := run_cnt h
  have : 0 ≤ cnt l r := by unfold cnt; omega
  rcases Nat.eq_zero_or_pos k with h0 | h0
  · omega
  · have := h2 h0
    omega

set_option maxRecDepth 100000 in
set_option maxHeartbeats 2000000 in
theorem specRun_any (l : List Op7) (g cap : Nat) (r t : Int) (s : ByteArray) (w : World) (hl : OpsAt w g l) (hn : l.length ≤ 1048576) (hcap : l.length ≤ cap) (hs : s.size ≤ 1048576) :
    Calls Tryd.prog 28 #[.slice (some ⟨g, 0, none⟩) l.length cap, .int .i64 r, .int .i64 t, .string s] w fun e w' =>
      ∃ v, e = .returned (.tuple #[v, .bool (okR l r t s)]) ∧ w'.ownsRow w.heap.size 29 7 v (ansR l r t s).length (opCells (ansR l r t s)) ∧ Below w.heap.size w w' := by
  have HL := hideIt hl
  have hgw := hl.1
  clear hl
  obtain ⟨i0, hi, hz0', hz1', hz2⟩ := info_parts infoOp
  have HI1 := hideIt hi
  have HZ0 := hideIt hz0'
  have HZ1 := hideIt hz1'
  have HZ2 := hideIt hz2
  clear hi hz0' hz1' hz2
  cases ho : opsB l
  all_goals
    have HO := hideIt ho
    clear ho
    go_enter Tryd.func28, Tryd.ntmps28
    go_wp2_with fail
    refine (specOps_any l _ _ _ HL.out hn hcap).mono ?_
    rintro e w1 ⟨rfl, hb1⟩
    rw [HO.out]
    have HB1 := hideIt hb1
    have HL1 := hideIt (HL.out.below hb1 hgw)
    clear hb1
  · obtain ⟨e1, e2⟩ := run_no (run_nops (r := r) (t := t) (s := s) HO.out)
    have HE1 := hideIt e1
    have HE2 := hideIt e2
    clear e1 e2
    go_wp2
    refine bodyPost_ret (v := .tuple #[.slice (some ⟨w1.heap.size, 0, none⟩) 0 0, .bool false]) (by simp [results, Tryd.results28, go_sem]) rfl ?_
    rw [HE1.out, HE2.out]
    exact ⟨_, rfl, World.ownsRow_made (base := w.heap.size) (e := 29) (size := 7) w1 #[] 0 HB1.out.size (Nat.zero_le _) rfl, HB1.out.alloc HB1.out.size _⟩
  · have h36 := ops_36 HO.out
    have hz1 := HB1.out.size
    have HST : Hid ((w1.alloc (.cells #[] 29)).ownsRow w.heap.size 29 7 (.slice (some ⟨w1.heap.size, 0, none⟩) 0 0) 0 []) :=
      World.ownsRow_made (base := w.heap.size) (e := 29) (size := 7) w1 #[] 0 HB1.out.size (Nat.zero_le _) rfl
    have HC := hideIt (HL1.out.below ((Below.refl _ _).alloc (Nat.le_refl _) (.cells #[] 29)) HL1.out.1).cells
    go_wp2_with (first
      | (at_builtin; refine wpList_append_own_at _ rfl _ _ 23 rfl w.heap.size 29 i0 _ 7 56 Tryd.underlying23 HI1.out HZ0.out HZ1.out HZ2.out rfl (by decide) _ _ _ rfl HST.out ⟨g, 0, none⟩ l.length cap (opCells l) rfl (opCells_len l) HC.out (opCells_one _) (by unfold maxLen; omega) (by omega) (by simp; omega) ?_; intro v' w3 hown3 hg3 hnil3 _))
    have HS0 : Hid (∃ G c, v' = .slice (some ⟨G, 0, none⟩) l.length c ∧ OwnOps w3 w.heap.size G c l) := by
      show ∃ G c, _
      rw [Nat.zero_add, List.nil_append] at hown3
      rcases hown3.2 with ⟨e, _⟩ | ⟨G, c, cur, e, _⟩
      · exact absurd (hnil3.1 e).1 (fun h => by cases h)
      · subst e; exact ⟨G, c, rfl, hown3⟩
    have HB3 := hideIt (below_grown (HB1.out.alloc HB1.out.size _) hg3 (by simp; omega) (fun j e => (HST.out.lt j e).1))
    clear hown3 hg3 hnil3
    go_loopw [10, 11] (fun v i wr => ∃ (k G c : Nat) (L : List Op7), k ≤ s.size ∧ i = .int .i64 k ∧ v = .slice (some ⟨G, 0, none⟩) L.length c ∧ OwnOps wr w.heap.size G c L ∧ runTo l r t s k = some L ∧ Below w.heap.size w wr)
      (fun _ i _ => s.size - (intOf i).toNat)
    case atStart =>
      obtain ⟨G, c, e, h⟩ := HS0.out
      exact ⟨0, G, c, l, Nat.zero_le _, rfl, e, h, rfl, HB3.out⟩
    case round =>
      obtain ⟨k, G, c, L, hk, rfl, rfl, hS, hrun, hB⟩ := hrel
      have HRUN := hideIt hrun
      have hL36 := ops_36 (runTo_ok HO.out hrun)
      have HS := hideIt hS
      have HB := hideIt hB
      have hzr := hB.size
      clear hS hB HS0 HB3 hrun
      by_cases hlt : k < s.size
      · have hlt' : (k : Int) < (s.size : Int) := by omega
        have hk0 : (0 : Int) ≤ (k : Int) := by omega
        by_cases h12 : 12 ≤ k
        · have h12' : (12 : Int) ≤ (k : Int) := by omega
          obtain ⟨e1, e2⟩ := run_no (run_big (l := l) (r := r) (t := t) (s := s) (by omega))
          have HE1 := hideIt e1
          have HE2 := hideIt e2
          clear e1 e2
          go_wp2
          refine bodyPost_ret (v := .tuple #[.slice (some ⟨wr.heap.size, 0, none⟩) 0 0, .bool false]) (by simp [results, Tryd.results28, go_sem]) rfl ?_
          rw [HE1.out, HE2.out]
          exact ⟨_, rfl, World.ownsRow_made (base := w.heap.size) (e := 29) (size := 7) wr #[] 0 HB.out.size (Nat.zero_le _) rfl, HB.out.alloc HB.out.size _⟩
        · have h12' : ¬ ((12 : Int) ≤ (k : Int)) := by omega
          go_wp2_with fail
          rw [byteAt_in hlt]
          refine (typePut_any L G c r _ _ wr HS.out.at (by omega) HS.out.cap).mono ?_
          rintro e w4 ⟨(⟨hm, rfl⟩ | ⟨hm, rfl⟩), hb4⟩
          · have HB4 := hideIt (Bstep HB.out hb4)
            have hz4 := HB4.out.size
            obtain ⟨e1, e2⟩ := run_no (run_fail (runTo_no HRUN.out hm) (by omega))
            have HE1 := hideIt e1
            have HE2 := hideIt e2
            clear hb4 hm e1 e2
            have HM : Hid ((((w4.alloc (.cells #[.int .i64 0, .int .i64 0, .int .i64 0, .int .i64 0, .int .i64 0, .int .i64 0, .int .i64 0] 29)).alloc (.cells #[] 29))).ownsRow w.heap.size 29 7 (.slice (some ⟨w4.heap.size + 1, 0, none⟩) 0 0) 0 []) := by
              have h := World.ownsRow_made (base := w.heap.size) (e := 29) (size := 7) (w4.alloc (.cells #[.int .i64 0, .int .i64 0, .int .i64 0, .int .i64 0, .int .i64 0, .int .i64 0, .int .i64 0] 29)) #[] 0 (by simp; omega) (Nat.zero_le _) rfl
              rw [World.size_alloc] at h
              exact h
            go_wp2
            refine bodyPost_ret (v := .tuple #[.slice (some ⟨w4.heap.size + 1, 0, none⟩) 0 0, .bool false]) (by simp [results, Tryd.results28, go_sem]) rfl ?_
            rw [HE1.out, HE2.out]
            exact ⟨_, rfl, HM.out, (HB4.out.alloc HB4.out.size _).alloc (by simp; omega) _⟩
          · have h36L := ops_36 (mayPut_ok hm)
            have HB4 := hideIt (Bstep HB.out hb4)
            have HS4 := hideIt (HS.out.below hb4)
            have hz4 := HB4.out.size
            have HNX := hideIt (runTo_yes HRUN.out hm)
            clear hb4 hm
            generalize putO L r _ _ = o at *
            unfold opV
            go_wp2_with fail
            refine (l3With_any L G c o _ (HS4.out.below ((Below.refl _ _).alloc (Nat.le_refl _) _)).at (by omega) HS4.out.cap).mono ?_
            rintro e w5 ⟨G5, c5, rfl, hS5, hb5⟩
            have HS5 : Hid (OwnOps w5 w.heap.size G5 c5 (withL L o)) := ownsRow_base (by simp; omega) hS5
            have HB5 := hideIt (Bstep (HB4.out.alloc HB4.out.size _) hb5)
            have hwl := withL_len L o
            clear hS5 hb5
            go_wp2
            exact ⟨⟨k + 1, G5, c5, withL L o, by omega, by go_num, rfl, HS5.out, HNX.out, HB5.out⟩, by simp [intOf]; omega⟩
      · obtain rfl : k = s.size := by omega
        by_cases hbig : 12 < s.size
        · exact absurd (run_len HRUN.out) (by omega)
        · obtain ⟨e1, e2⟩ := run_yes (run_some HO.out (by omega) HRUN.out)
          have HE1 := hideIt e1
          have HE2 := hideIt e2
          clear e1 e2
          go_wp2
          refine bodyPost_ret (v := .tuple #[.slice (some ⟨G, 0, none⟩) L.length c, .bool true]) (by simp [results, Tryd.results28, go_sem]) rfl ?_
          rw [HE1.out, HE2.out]
          exact ⟨_, rfl, HS.out, HB.out⟩
end Go.Proofs.YtedanlmippfojaaDoor

namespace Go.Proofs.YtedanlmippfojaaDoor
open Go.RowKit
set_option linter.unusedSimpArgs false
set_option linter.unusedVariables false
attribute [local go_sem ↓] Go.wp_at_zero Go.wp_at_succ

theorem ops_nil : opsB [] = true := by rw [← th_same]; rfl

set_option maxRecDepth 100000 in
set_option maxHeartbeats 4000000 in
theorem things_none (x : Addr) (w : World) (he : w.cell? ⟨0, 0, none⟩ = some (.iface 203 (.pointer (some x)))) (h0 : 0 < w.heap.size) :
    Calls Tryd.prog 69 #[.slice none 0 0] w fun e w' =>
      (∃ M, w.heap.size ≤ M ∧ e = .returned (.tuple #[.slice (some ⟨M, 0, none⟩) 0 0, .nilIface]) ∧ ThingsAt w' M []) ∧ Below w.heap.size w w' := by
  obtain ⟨i0, hi, hz0, hz1, hz2⟩ := info_parts infoThing
  have HI := hideIt hi
  have HZ0 := hideIt hz0
  have HZ1 := hideIt hz1
  have HZ2 := hideIt hz2
  clear hi hz0 hz1 hz2
  go_enter Tryd.func69, Tryd.ntmps69
  go_wp2_with (first
    | (at_make; refine wpList_make_own _ rfl _ _ 97 rfl w.heap.size 126 i0 _ 1 Tryd.underlying97 HI.out HZ0.out HZ1.out .i64 .i64 _ 0 rfl rfl rfl (by rw [HZ2.out]; omega) (by unfold maxLen; omega) (Nat.le_refl _) ?_; intro w2 hown hgrow))
  have hB2 : Below w.heap.size w w2 := (Below.refl _ _).grown hgrow (Nat.le_refl _) (fun k h => by cases h)
  have hM : w.heap.size < w2.heap.size := (hown.lt _ rfl).2
  clear hgrow
  have HB := hideIt hB2
  have HT : Hid (ThingsAt w2 w.heap.size []) := ⟨hM, fun i o h => by cases h⟩
  clear hB2 hown
  go_loopw [4, 20] (fun v i wr => i = .int .i64 0 ∧ v = .slice (some ⟨w.heap.size, 0, none⟩) 0 0 ∧ wr = w2)
    (fun _ i _ => 0)
  case atStart => exact ⟨rfl, rfl, rfl⟩
  case round =>
    obtain ⟨rfl, rfl, rfl⟩ := hrel
    have herr : wr.cell? ⟨0, 0, none⟩ = some (.iface 203 (.pointer (some x))) := errB HB.out h0 he
    go_wp2_with fail
    refine (inOrder_any [] w.heap.size 0 _ HT.out (by simp) (Nat.le_refl _) rfl).mono ?_
    rintro e w3 ⟨rfl, hb3⟩
    rw [show ordB [] = true from rfl]
    have HB3 : Hid (Below w.heap.size w w3) := Bstep HB.out hb3
    have HT3 : Hid (ThingsAt w3 w.heap.size []) := HT.out.below hb3 hM
    have herr3 : w3.cell? ⟨0, 0, none⟩ = some (.iface 203 (.pointer (some x))) := errB HB3.out h0 he
    have hp3 : 0 < w3.heap.size := posB HB3.out h0
    clear hb3 herr
    go_wp2_with fail
    refine (refs_any [] w.heap.size 0 x _ HT3.out (by simp) (Nat.le_refl _) rfl herr3 hp3).mono ?_
    rintro e w4 ⟨(⟨hrf, M2, rfl, hI⟩ | ⟨hrf, rfl⟩), hb4⟩
    · have HI4 := hideIt hI
      have HB4 : Hid (Below w.heap.size w w4) := Bstep HB3.out hb4
      have HT4 : Hid (ThingsAt w4 w.heap.size []) := HT3.out.below hb4 HT3.out.1
      clear hrf hI hb4
      go_wp2_with fail
      refine (cir_any [] M2 _ HI4.out (by simp)).mono ?_
      rintro e w5 ⟨rfl, rfl⟩
      rw [show (!(List.range ([] : List Op7).length).all (fun i => cnF (([] : List Op7).map (plc [])) ([] : List Op7).length i)) = false from rfl]
      go_wp2
      go_ret2
      exact ⟨⟨w.heap.size, Nat.le_refl _, rfl, HT4.out⟩, HB4.out⟩
    · cases hrf

theorem things_nil (l : List Op7) (hL0 : l = []) (x : Addr) (w : World) (he : w.cell? ⟨0, 0, none⟩ = some (.iface 203 (.pointer (some x)))) (h0 : 0 < w.heap.size) :
    Calls Tryd.prog 69 #[.slice none 0 0] w fun e w' =>
      ((thB l = true ∧ ∃ M, w.heap.size ≤ M ∧ e = .returned (.tuple #[.slice (some ⟨M, 0, none⟩) l.length l.length, .nilIface]) ∧ ThingsAt w' M l) ∨
       (thB l = false ∧ e = .returned (.tuple #[.slice none 0 0, .iface 203 (.pointer (some x))]))) ∧ Below w.heap.size w w' := by
  subst hL0
  exact (things_none x w he h0).mono fun e w' ⟨⟨M, h1, h2, h3⟩, hb⟩ => ⟨.inl ⟨rfl, M, h1, h2, h3⟩, hb⟩
end Go.Proofs.YtedanlmippfojaaDoor

namespace Go.Proofs.YtedanlmippfojaaDoor
open Go.RowKit
set_option linter.unusedSimpArgs false
set_option linter.unusedVariables false

set_option maxHeartbeats 1000000 in
theorem implSeen_any (l : List Op7) (g cap : Nat) (x : Addr) (w : World) (hl : OpsAt w g l) (hn : l.length ≤ 1048576) (hcap : l.length ≤ cap)
    (he : w.cell? ⟨0, 0, none⟩ = some (.iface 203 (.pointer (some x)))) (h0 : 0 < w.heap.size) :
    Calls Tryd.prog 18 #[.slice (some ⟨g, 0, none⟩) l.length cap] w fun e w' =>
      ((opsB l = true ∧ ∃ G, w.heap.size ≤ G ∧ e = .returned (.slice (some ⟨G, 0, none⟩) 3 3) ∧ IntsAt w' G [cnt l 1, cnt l 2, cnt l 3] ∧ ∀ j, w'.frozen? ⟨G, j, none⟩ = false) ∨ (opsB l = false ∧ e = .returned (.slice none 0 0))) ∧ Below w.heap.size w w' := by
  have HL := hideIt hl
  clear hl
  go_enter Tryd.func18, Tryd.ntmps18
  go_wp2_with fail
  refine (things_any l g cap x _ HL.out hn hcap he h0).mono ?_
  rintro e w1 ⟨(⟨ht, M, hMM, rfl, hT⟩ | ⟨ht, rfl⟩), hb1⟩
  all_goals
    have HT := hideIt ((th_same l).symm.trans ht)
    have HB1 := hideIt hb1
    have herr1 : w1.cell? ⟨0, 0, none⟩ = some (.iface 203 (.pointer (some x))) := errB hb1 h0 he
    clear ht hb1
  · have HTT := hideIt hT
    have HOK := hideIt (opsB_parts HT.out).1
    clear hT hMM
    go_wp2_with (first | (go_at_call 68; refine (is_nil x _).mono ?_; rintro e w'' ⟨rfl, rfl⟩))
    refine (count_any l M l.length _ HTT.out hn (Nat.le_refl _) HOK.out).mono ?_
    rintro e w2 ⟨rfl, hse, hfz, hb2⟩
    have HSE := hideIt hse
    have HF := hideIt hfz
    have HB2 := hideIt (Bstep HB1.out hb2)
    clear hse hfz hb2
    go_wp2
    go_ret
    exact ⟨.inl ⟨HT.out, _, HB1.out.size, rfl, HSE.out, HF.out⟩, HB2.out⟩
  · go_wp2_with (first | (go_at_call 68; refine (is_same x _).mono ?_; rintro e w'' ⟨rfl, rfl⟩))
    go_ret
    exact ⟨.inr ⟨HT.out, rfl⟩, HB1.out⟩
end Go.Proofs.YtedanlmippfojaaDoor

namespace Go.Proofs.YtedanlmippfojaaDoor
open Go.RowKit
set_option linter.unusedSimpArgs false
set_option linter.unusedVariables false
attribute [local go_sem ↓] Go.wp_at_zero Go.wp_at_succ

set_option maxRecDepth 100000 in
set_option maxHeartbeats 2000000 in
theorem implNext_any (l : List Op7) (hops : opsB l = true) (g cap : Nat) (r : Int) (x : Addr) (w : World) (hl : OpsAt w g l) (hn : l.length ≤ 1048576) (hcap : l.length ≤ cap)
    (he : w.cell? ⟨0, 0, none⟩ = some (.iface 203 (.pointer (some x)))) (h0 : 0 < w.heap.size) :
    Calls Tryd.prog 133 #[.slice (some ⟨g, 0, none⟩) l.length cap, .int .i64 r] w fun e w' =>
      ((mayMore l r = false ∧ e = .returned (.tuple #[.agg #[.int .i64 0, .int .i64 0], .iface 203 (.pointer (some x))])) ∨
       (mayMore l r = true ∧ e = .returned (.tuple #[.agg #[.int .i64 r, .int .i64 (cnt l r + 1)], .nilIface]))) ∧ Below w.heap.size w w' := by
  have HL := hideIt hl
  have hgw := hl.1
  have HO := hideIt hops
  have HMM : Hid (mayMore l r = (inB r 1 3 && decide (cnt l r + 1 ≤ 12))) := by show mayMore l r = _; unfold mayMore; rw [hops]; rfl
  clear hl hops
  have HB0 : Hid (Below w.heap.size w (w.alloc (.cells #[.int .i64 0, .int .i64 0] 27))) := (Below.refl _ _).alloc (Nat.le_refl _) _
  go_enter Tryd.func133, Tryd.ntmps133
  go_wp2_with fail
  refine (implSeen_any l g cap x _ (HL.out.below HB0.out hgw) hn hcap (errB HB0.out h0 he) (posB HB0.out h0)).mono ?_
  rintro e w1 ⟨(⟨_, G, hG, rfl, hI, _⟩ | ⟨hf, _⟩), hb1⟩
  rotate_left
  · rw [HO.out] at hf; cases hf
  have HB1 := hideIt (Bstep HB0.out hb1)
  have rc0 : w1.cell? ⟨w.heap.size, 0, none⟩ = some (.int .i64 0) := ((bcell hb1).1 _ _ (by simp)).trans (by simp [go_sem])
  have rc1 : w1.cell? ⟨w.heap.size, 1, none⟩ = some (.int .i64 0) := ((bcell hb1).1 _ _ (by simp)).trans (by simp [go_sem])
  have hwl : w.heap.size < w1.heap.size := by have := hb1.size; simp at this; omega
  have hfz : ∀ j, w1.frozen? ⟨w.heap.size, j, none⟩ = false := fun j => ((bcell hb1).2 _ _ (by simp)).trans (by simp [go_sem])
  have herr : w1.cell? ⟨0, 0, none⟩ = some (.iface 203 (.pointer (some x))) := errB HB1.out h0 he
  have hne0 : ¬ 0 = w.heap.size := by omega
  have hne1 : ¬ w.heap.size = 0 := by omega
  obtain ⟨c0, c1, c2⟩ := ints3 hI
  clear hb1 hI
  cases hi : inB r 1 3
  · have hr : r < 1 ∨ 3 < r := by simp [inB] at hi; omega
    have HM : Hid (mayMore l r = false) := by show mayMore l r = false; rw [HMM.out, hi]; rfl
    clear hi HMM
    rcases hr with hr | hr
    · go_wp2
      go_region_held3 (fun w' => w'.cell? ⟨0, 0, none⟩ = some (.iface 203 (.pointer (some x)))) (first | exact herr | (simp [go_sem, herr, hne0, hne1])) (fail)
      go_wp2
      exact bodyPost_ret (v := .tuple #[.agg #[.int .i64 0, .int .i64 0], .iface 203 (.pointer (some x))]) (by simp [results, Tryd.results133, go_sem, rc0, rc1]) rfl ⟨.inl ⟨HM.out, rfl⟩, ((HB1.out.setCell (p := ⟨w.heap.size, 0, none⟩) (Nat.le_refl _) _).setCell (p := ⟨w.heap.size, 1, none⟩) (Nat.le_refl _) _).drew⟩
    · have hr1 : ¬ r < 1 := by omega
      go_wp2
      go_region_held3 (fun w' => w'.cell? ⟨0, 0, none⟩ = some (.iface 203 (.pointer (some x)))) (first | exact herr | (simp [go_sem, herr, hne0, hne1])) (fail)
      go_wp2
      exact bodyPost_ret (v := .tuple #[.agg #[.int .i64 0, .int .i64 0], .iface 203 (.pointer (some x))]) (by simp [results, Tryd.results133, go_sem, rc0, rc1]) rfl ⟨.inl ⟨HM.out, rfl⟩, ((HB1.out.setCell (p := ⟨w.heap.size, 0, none⟩) (Nat.le_refl _) _).setCell (p := ⟨w.heap.size, 1, none⟩) (Nat.le_refl _) _).drew⟩
  · have h3 := in3 hi
    have HME : Hid (mayMore l r = idB r (cnt l r + 1)) := by
      show mayMore l r = idB r (cnt l r + 1)
      rw [HMM.out, hi]
      have := cntTo_le l l.length r
      rw [cntTo_len] at this
      unfold idB
      simp only [Bool.true_and]
      apply decide_eq_decide.2
      simp [inB] at hi
      omega
    have hcb : 0 ≤ cnt l r ∧ cnt l r ≤ 36 := by
      have := cntTo_le l l.length r
      rw [cntTo_len] at this
      have := ops_36 HO.out
      omega
    clear hi HMM
    have hwi : IntKind.i64.wrap (cnt l r + 1) = cnt l r + 1 := IntWalk.i64_in _ ⟨by omega, by omega⟩
    rcases h3 with rfl | rfl | rfl
    all_goals
      go_wp2_with fail
      refine (idOk_any _ _ _).mono ?_
      rintro e w2 ⟨rfl, hb2⟩
      rw [← HME.out]
      have HB2 : Hid (Below w.heap.size w w2) := Bstep (HB1.out.alloc HB1.out.size _) hb2
      have herr2 : w2.cell? ⟨0, 0, none⟩ = some (.iface 203 (.pointer (some x))) := errB HB2.out h0 he
      have s0 : w2.cell? ⟨w.heap.size, 0, none⟩ = some (.int .i64 0) := ((bcell hb2).1 w.heap.size 0 (by simp; omega)).trans ((World.cell?_alloc_lt _ _ _ hwl).trans rc0)
      have s1 : w2.cell? ⟨w.heap.size, 1, none⟩ = some (.int .i64 0) := ((bcell hb2).1 w.heap.size 1 (by simp; omega)).trans ((World.cell?_alloc_lt _ _ _ hwl).trans rc1)
      have sf : ∀ j, w2.frozen? ⟨w.heap.size, j, none⟩ = false := fun j => ((bcell hb2).2 w.heap.size j (by simp; omega)).trans ((World.frozen?_alloc_past _ _ _ hwl).trans (hfz j))
      have i0 := (bcell hb2).1 w1.heap.size 0 (by simp)
      have i1 := (bcell hb2).1 w1.heap.size 1 (by simp)
      simp [go_sem] at i0 i1
      have hiw : ¬ w1.heap.size = w.heap.size := by omega
      have hwi2 : ¬ w.heap.size = w1.heap.size := by omega
      clear hb2 herr rc0 rc1 hfz c0 c1 c2
      generalize w1.heap.size = I at *
      cases hm : mayMore l _
      · have HM := hideIt hm
        clear hm HME
        go_wp2
        go_region_held3 (fun w' => w'.cell? ⟨0, 0, none⟩ = some (.iface 203 (.pointer (some x)))) (first | exact herr2 | (simp [go_sem, herr2, hne0, hne1])) (fail)
        go_wp2
        exact bodyPost_ret (v := .tuple #[.agg #[.int .i64 0, .int .i64 0], .iface 203 (.pointer (some x))]) (by simp [results, Tryd.results133, go_sem, s0, s1]) rfl ⟨.inl ⟨HM.out, rfl⟩, ((HB2.out.setCell (p := ⟨w.heap.size, 0, none⟩) (Nat.le_refl _) _).setCell (p := ⟨w.heap.size, 1, none⟩) (Nat.le_refl _) _).drew⟩
      · have HM := hideIt hm
        clear hm HME
        go_wp2
        first
          | exact bodyPost_ret (v := .tuple #[.agg #[.int .i64 1, .int .i64 (cnt l 1 + 1)], .nilIface]) (by simp [results, Tryd.results133, go_sem, s0, s1, i0, i1]) rfl ⟨.inr ⟨HM.out, rfl⟩, (HB2.out.setCell (p := ⟨w.heap.size, 0, none⟩) (Nat.le_refl _) _).setCell (p := ⟨w.heap.size, 1, none⟩) (Nat.le_refl _) _⟩
          | exact bodyPost_ret (v := .tuple #[.agg #[.int .i64 2, .int .i64 (cnt l 2 + 1)], .nilIface]) (by simp [results, Tryd.results133, go_sem, s0, s1, i0, i1]) rfl ⟨.inr ⟨HM.out, rfl⟩, (HB2.out.setCell (p := ⟨w.heap.size, 0, none⟩) (Nat.le_refl _) _).setCell (p := ⟨w.heap.size, 1, none⟩) (Nat.le_refl _) _⟩
          | exact bodyPost_ret (v := .tuple #[.agg #[.int .i64 3, .int .i64 (cnt l 3 + 1)], .nilIface]) (by simp [results, Tryd.results133, go_sem, s0, s1, i0, i1]) rfl ⟨.inr ⟨HM.out, rfl⟩, (HB2.out.setCell (p := ⟨w.heap.size, 0, none⟩) (Nat.le_refl _) _).setCell (p := ⟨w.heap.size, 1, none⟩) (Nat.le_refl _) _⟩
end Go.Proofs.YtedanlmippfojaaDoor

namespace Go.Proofs.YtedanlmippfojaaDoor
open Go.RowKit
set_option linter.unusedSimpArgs false
set_option linter.unusedVariables false
attribute [local go_sem ↓] Go.wp_at_zero Go.wp_at_succ

set_option maxRecDepth 100000 in
set_option maxHeartbeats 1000000 in
theorem leafOf_any (l : List Op7) (hops : opsB l = true) (hn : l.length ≤ 1048576) (b1 b2 b3 base : Nat) (o : Op7) (hok : okO o = true) (w : World) (hT : TreeAt w b1 b2 b3 base l) :
    Calls Tryd.prog 142 #[.agg #[.map (some b1), .map (some b2), .map (some b3)], .agg #[.int .i64 o.a, .int .i64 o.b, .int .i64 o.c, .int .i64 o.d, .int .i64 o.s, .int .i64 o.g]] w fun e w' => e = .returned (.agg #[.int .i64 o.a, .int .i64 o.b, .int .i64 o.g, .bool (goneB l (o.a, o.b))]) ∧ Below w.heap.size w w' := by
  have HT := hideIt hT
  have hnum := okO_num hok
  obtain ⟨kl, hkl⟩ := key_id (r := o.a) (m := o.b) (wf_small (by omega)) (wf_small (by omega))
  have HKL := hideIt hkl
  have HG : Hid (goneB l (o.a, o.b) = decide (0 < takesN l (o.a, o.b))) := gone_take (opsParts hops).1 _
  have HV : Hid ((takeF l (o.a, o.b)).getD (.int .i64 0) = .int .i64 (takesN l (o.a, o.b) : Nat)) := takeF_get l _
  have hle := takesN_le l (o.a, o.b)
  generalize takesN l (o.a, o.b) = nn at *
  clear hT hkl
  go_enter Tryd.func142, Tryd.ntmps142
  go_wp2_with fail
  have HBW : Hid (Below w.heap.size w (((w.alloc (.cells #[.map (some b1), .map (some b2), .map (some b3)] 107)).alloc (.cells #[.int .i64 o.a, .int .i64 o.b, .int .i64 o.c, .int .i64 o.d, .int .i64 o.s, .int .i64 o.g] 136)).alloc (.cells #[.int .i64 0, .int .i64 0, .int .i64 0, .bool false] 44))) := (((Below.refl _ _).alloc (Nat.le_refl _) _).alloc (by simp) _).alloc (by simp; omega) _
  have L0 : (Instr.lookup 105 (.map (some b3)) (.agg #[.int .i64 o.a, .int .i64 o.b]) false).run Tryd.prog (((w.alloc (.cells #[.map (some b1), .map (some b2), .map (some b3)] 107)).alloc (.cells #[.int .i64 o.a, .int .i64 o.b, .int .i64 o.c, .int .i64 o.d, .int .i64 o.s, .int .i64 o.g] 136)).alloc (.cells #[.int .i64 0, .int .i64 0, .int .i64 0, .bool false] 44)).drew = .ok (.int .i64 nn) (((w.alloc (.cells #[.map (some b1), .map (some b2), .map (some b3)] 107)).alloc (.cells #[.int .i64 o.a, .int .i64 o.b, .int .i64 o.c, .int .i64 o.d, .int .i64 o.s, .int .i64 o.g] 136)).alloc (.cells #[.int .i64 0, .int .i64 0, .int .i64 0, .bool false] 44)).drew := by
    have hM : MapFn Tryd.prog 27 (((w.alloc (.cells #[.map (some b1), .map (some b2), .map (some b3)] 107)).alloc (.cells #[.int .i64 o.a, .int .i64 o.b, .int .i64 o.c, .int .i64 o.d, .int .i64 o.s, .int .i64 o.g] 136)).alloc (.cells #[.int .i64 0, .int .i64 0, .int .i64 0, .bool false] 44)).drew b3 encId (takeF l) := HT.out.2.2.below HBW.out.drew HT.out.2.2.lt
    have h := hM.look false keyedId Tryd.underlying105 (zeroInt _) encId_inj (o.a, o.b) HKL.out
    rw [HV.out] at h
    exact h
  have n0 : (0 : Int) ≤ (nn : Int) := by omega
  have n1 : (nn : Int) ≤ 1048576 := by omega
  go_region_held3 (fun w' => w'.cell? ⟨w.heap.size, 2, none⟩ = some (.map (some b3)) ∧ w'.cell? ⟨w.heap.size + 1, 0, none⟩ = some (.int .i64 o.a) ∧ w'.cell? ⟨w.heap.size + 1, 1, none⟩ = some (.int .i64 o.b) ∧ w'.cell? ⟨w.heap.size + 1, 5, none⟩ = some (.int .i64 o.g))
    (first | exact ⟨by simp [go_sem], by simp [go_sem], by simp [go_sem], by simp [go_sem]⟩)
    (fail)
  rename_i hS
  clear hS
  go_wp2
  have hG : decide (0 < nn) = goneB l (o.a, o.b) := HG.out.symm
  exact bodyPost_ret (v := .agg #[.int .i64 o.a, .int .i64 o.b, .int .i64 o.g, .bool (goneB l (o.a, o.b))]) (by simp [results, Tryd.results142, go_sem, hG]) rfl ⟨rfl, by have := HBW.out; go_grown⟩

/-- The look-up without 'ok', at the operation, inside a fence. -/
theorem wpListIn_look0 {α : Type} {P : Program} {k t e : TypeId} {w : World} {b : Nat} {enc : α → Value} {f : α → Option Value} {F : Fence} {nF : Nat} {ops : Array Oper} {rest : List Oper} {o : Oper} {A : Act} {Q : Exit → Act → World → Prop}
    (hg : o.guard = none) (m x : Operand) (hop : o.op = Op.lookup t m x false) (K : Go.Maps.Keyed P k) (ht : P.underlying t = some (.map k e)) (z : Value) (hz : (zeroValue e).run P w = .ok z w)
    (hinj : ∀ a a', enc a = enc a' → a = a') (hm : A.eval m = .map (some b)) (hown : MapFn P k w b enc f) (a : α) (hx : A.eval x = enc a) (kl : Lit) (hkey : keyOf P k (enc a) = some kl) (v : Value) (hv : (f a).getD z = v)
    (hK : wpListIn F nF P ops Q rest (A.put o.dst v) w) :
    wpListIn F nF P ops Q (o :: rest) A w := by
  refine wpListIn_plain hg fun K' hK' => ?_
  have hrun := hown.look false K ht hz hinj a hkey
  rw [hv] at hrun
  unfold Oper.wpIn
  refine ⟨by simp [Oper.about, hop], ?_⟩
  rw [Oper.semAt_plain F _ _ (by rw [hop]; intro c hc'; cases hc')]
  simp [execOp, hop, hm, hx, hrun, Result.andThen]
  exact hK' _ _ hK
end Go.Proofs.YtedanlmippfojaaDoor

namespace Go.Proofs.YtedanlmippfojaaDoor
open Go.RowKit Go.Shelf
set_option linter.unusedSimpArgs false
set_option linter.unusedVariables false
attribute [local go_sem] Oper.semAt_some

theorem room_none {F : Fence} (hd : F.depth = none) (k : Nat) : F.room k := fun d h => by rw [hd] at h; cases h
theorem round_any {F : Fence} (hd : F.depth = none) {m m' : Nat} {P : Program} {l : Nat} {f : FuncId} {tmps : Array Value} {assign body : Code} {w : World} {R : Ending → World → Prop}
    (h : RoundIn F m P l f tmps assign body w R) : RoundIn F m' P l f tmps assign body w R := ⟨h.1, fun c cs _ => h.2 c cs (room_none hd _)⟩
theorem yield_any {F : Fence} (hd : F.depth = none) {m : Nat} (m' : Nat) {P : Program} {l : Nat} {args : Array Value} {W : World} {R : Ending → World → Prop} (h : YieldAt F m P l args W R) : YieldAt F m' P l args W R := by
  obtain ⟨fn, tmps, assign, body, hy, hR⟩ := h
  exact ⟨fn, tmps, assign, body, hy, round_any hd hR⟩

/-- What a round keeps: all that lay below n0, and the walk's own blocks. -/
def KpT (n0 : Nat) (W W' : World) : Prop := Below n0 W W' ∧ ∀ (b : Nat) (cur : Array Value) (T : TypeId) (fr : Nat × Nat), W.heap[b]? = some (.cells cur T fr) → (T = 107 ∨ T = 132 ∨ T = 136) → W'.heap[b]? = W.heap[b]?
theorem KpT.refl (n0 : Nat) (W : World) : KpT n0 W W := ⟨Below.refl _ _, fun _ _ _ _ _ _ => rfl⟩
theorem KpT.trans {n0 : Nat} {A B C : World} (h : KpT n0 A B) (k : KpT n0 B C) : KpT n0 A C :=
  ⟨h.1.trans k.1, fun b cur T fr hb hT => by have e := h.2 b cur T fr hb hT; exact (k.2 b cur T fr (e.trans hb) hT).trans e⟩
theorem KpT.of_below {n0 : Nat} {W W' : World} (hn : n0 ≤ W.heap.size) (h : Below W.heap.size W W') : KpT n0 W W' :=
  ⟨h.mono hn, fun b cur T fr hb _ => h.block b (Array.getElem?_eq_some_iff.1 hb).1⟩
theorem KpT.cell {n0 : Nat} {W W' : World} (h : KpT n0 W W') {b : Nat} {cur : Array Value} {T : TypeId} {fr : Nat × Nat} (hb : W.heap[b]? = some (.cells cur T fr)) (hT : T = 107 ∨ T = 132 ∨ T = 136) : W'.heap[b]? = some (.cells cur T fr) :=
  (h.2 b cur T fr hb hT).trans hb
/-- How a part of the walk ends: all of xs have come; or a round has said 'no more', at a beginning of them. -/
def EPost (n0 : Nat) (J Jx : List Lf → World → Prop) (pre xs : List Lf) (W : World) (e : Ending) (W' : World) : Prop :=
  (e = .returned (.bool true) ∧ J (pre ++ xs) W' ∧ KpT n0 W W') ∨ (e = .returned (.bool false) ∧ ∃ q t, q ++ t = pre ++ xs ∧ Jx q W')
theorem abides_below {B : Nat} {J : List Lf → World → Prop} (hJ : AbidesFrom B J) {pre : List Lf} {W W' : World} (h : J pre W) (hb : Below W.heap.size W W') : J pre W' :=
  hJ pre W W' none h ⟨hb.os, hb.tape, hb.output, hb.size, fun i hi _ => hb.block i hi⟩ (fun r e => by cases e)
theorem blk_cell {W : World} {b : Nat} {cur : Array Value} {T : TypeId} (h : W.heap[b]? = some (.cells cur T (0, 0))) (j : Nat) : W.cell? ⟨b, j, none⟩ = cur[j]? := by simp [World.cell?, h]

set_option maxRecDepth 100000 in
set_option maxHeartbeats 4000000 in
theorem eachOf_in (l : List Op7) (hops : opsB l = true) (hn : l.length ≤ 1048576) (w0 : World) (b1 b2 b3 base : Nat) (hT : TreeAt w0 b1 b2 b3 base l) (lp B N : Nat) (J Jx : List Lf → World → Prop) (hJ : AbidesFrom B J)
    (hY : ∀ m pre (x : Lf) W, J pre W → pre.length < N → YieldAt Fence.wide m Tryd.prog lp #[.agg #[.int .i64 x.a, .int .i64 x.b, .int .i64 x.g, .bool x.z]] W fun e W' =>
      (e = .returned (.bool true) ∧ J (pre ++ [x]) W' ∧ KpT w0.heap.size W W') ∨ (e = .returned (.bool false) ∧ Jx (pre ++ [x]) W'))
    (o : Op7) (hok : okO o = true) (X0 X1 : List Lf)
    (ih0 : ∀ k pre W, Below w0.heap.size w0 W → J pre W → pre.length + X0.length ≤ N → CallsIn Fence.wide k Tryd.prog 119 #[.agg #[.map (some b1), .map (some b2), .map (some b3)], .agg #[.int .i64 o.a, .int .i64 o.b, .int .i64 0], .func (.yield lp) #[] #[]] W (EPost w0.heap.size J Jx pre X0 W))
    (ih1 : ∀ k pre W, Below w0.heap.size w0 W → J pre W → pre.length + X1.length ≤ N → CallsIn Fence.wide k Tryd.prog 119 #[.agg #[.map (some b1), .map (some b2), .map (some b3)], .agg #[.int .i64 o.a, .int .i64 o.b, .int .i64 1], .func (.yield lp) #[] #[]] W (EPost w0.heap.size J Jx pre X1 W))
    (k : Nat) (pre : List Lf) (W : World) (hW : Below w0.heap.size w0 W) (h0 : J pre W) (hN : pre.length + (X0.length + 1 + X1.length) ≤ N) :
    CallsIn Fence.wide k Tryd.prog 138 #[.agg #[.map (some b1), .map (some b2), .map (some b3)], .agg #[.int .i64 o.a, .int .i64 o.b, .int .i64 o.c, .int .i64 o.d, .int .i64 o.s, .int .i64 o.g], .func (.yield lp) #[] #[]] W (EPost w0.heap.size J Jx pre (X0 ++ ⟨o.a, o.b, o.g, goneB l (o.a, o.b)⟩ :: X1) W) := by
  refine callsIn_of_wp Tryd.func138 rfl trivial ?_ rfl
  simp only [Tryd.ntmps138, List.size_toArray, List.length_cons, List.length_nil, Nat.reduceAdd, Nat.reduceSub, Array.replicate_succ, Array.replicate_zero, List.push_toArray, List.append_toArray, List.nil_append, List.cons_append]
  have hn0 : w0.heap.size ≤ W.heap.size := hW.size
  have HBa : Hid (Below W.heap.size W ((W.alloc (.cells #[.map (some b1), .map (some b2), .map (some b3)] 107)).alloc (.cells #[.int .i64 o.a, .int .i64 o.b, .int .i64 o.c, .int .i64 o.d, .int .i64 o.s, .int .i64 o.g] 136))) := ((Below.refl _ _).alloc (Nat.le_refl _) _).alloc (by simp) _
  have HKa : Hid (KpT w0.heap.size W ((W.alloc (.cells #[.map (some b1), .map (some b2), .map (some b3)] 107)).alloc (.cells #[.int .i64 o.a, .int .i64 o.b, .int .i64 o.c, .int .i64 o.d, .int .i64 o.s, .int .i64 o.g] 136))) := KpT.of_below hn0 HBa.out
  have HWa : Hid (Below w0.heap.size w0 ((W.alloc (.cells #[.map (some b1), .map (some b2), .map (some b3)] 107)).alloc (.cells #[.int .i64 o.a, .int .i64 o.b, .int .i64 o.c, .int .i64 o.d, .int .i64 o.s, .int .i64 o.g] 136))) := hW.trans HKa.out.1
  have HTa : Hid (((W.alloc (.cells #[.map (some b1), .map (some b2), .map (some b3)] 107)).alloc (.cells #[.int .i64 o.a, .int .i64 o.b, .int .i64 o.c, .int .i64 o.d, .int .i64 o.s, .int .i64 o.g] 136)).heap[W.heap.size]? = some (.cells #[.map (some b1), .map (some b2), .map (some b3)] 107 (0, 0))) := (Below.heap_alloc _ _ _ (by simp)).trans (World.alloc_heap_new _ _)
  have HSa : Hid (((W.alloc (.cells #[.map (some b1), .map (some b2), .map (some b3)] 107)).alloc (.cells #[.int .i64 o.a, .int .i64 o.b, .int .i64 o.c, .int .i64 o.d, .int .i64 o.s, .int .i64 o.g] 136)).heap[W.heap.size + 1]? = some (.cells #[.int .i64 o.a, .int .i64 o.b, .int .i64 o.c, .int .i64 o.d, .int .i64 o.s, .int .i64 o.g] 136 (0, 0))) := by
    have h := World.alloc_heap_new (W.alloc (.cells #[.map (some b1), .map (some b2), .map (some b3)] 107)) (.cells #[.int .i64 o.a, .int .i64 o.b, .int .i64 o.c, .int .i64 o.d, .int .i64 o.s, .int .i64 o.g] 136)
    rw [World.size_alloc] at h
    exact h
  have IH0 := hideIt ih0
  have IH1 := hideIt ih1
  have HY := hideIt hY
  have HJ := hideIt hJ
  have HT := hideIt hT
  have HJa := hideIt (abides_below hJ h0 HBa.out)
  clear ih0 ih1 hY hJ hT h0 hW
  gi_wp2
  refine ⟨trivial, (fun h => by cases h), ?_⟩
  refine (IH0.out _ pre _ HWa.out HJa.out (by omega)).mono ?_
  rintro e W1 (⟨rfl, hJ1, hK1⟩ | ⟨rfl, q, t, hqt, hq⟩)
  · have t1 := hK1.cell HTa.out (.inl rfl)
    have s1 := hK1.cell HSa.out (.inr (.inr rfl))
    have HT1 := hideIt t1
    have HS1 := hideIt s1
    have HJ1 := hideIt hJ1
    have HK1 := hideIt (HKa.out.trans hK1)
    have HW1 := hideIt (HWa.out.trans hK1.1)
    have ct0 := (blk_cell t1 0).trans rfl
    have ct1 := (blk_cell t1 1).trans rfl
    have ct2 := (blk_cell t1 2).trans rfl
    have cs0 := (blk_cell s1 0).trans rfl
    have cs1 := (blk_cell s1 1).trans rfl
    have cs2 := (blk_cell s1 2).trans rfl
    have cs3 := (blk_cell s1 3).trans rfl
    have cs4 := (blk_cell s1 4).trans rfl
    have cs5 := (blk_cell s1 5).trans rfl
    clear t1 s1 hJ1 hK1 HJa HKa HWa HTa HSa HBa
    gi_wp2
    refine ⟨trivial, (fun h => by cases h), ?_⟩
    refine (callsIn_wide.2 (leafOf_any l hops hn b1 b2 b3 base o hok W1 (HT.out.below HW1.out))).mono ?_
    rintro e W2 ⟨rfl, hb2⟩
    have HK2 := hideIt (KpT.of_below (n0 := w0.heap.size) HW1.out.size hb2)
    have HJ2 := hideIt (abides_below HJ.out HJ1.out hb2)
    clear hb2 ct0 ct1 ct2 cs0 cs1 cs2 cs3 cs4 cs5 HJ1
    obtain ⟨fn, tmps, assign, body, hy, hR⟩ := HY.out (k - 1) (pre ++ X0) ⟨o.a, o.b, o.g, goneB l (o.a, o.b)⟩ W2 HJ2.out (by simp; omega)
    dsimp only at hy
    have HR := hideIt hR
    clear hR
    gi_wp2
    refine ⟨(fun h => by cases h), ?_⟩
    refine HR.out.mono ?_
    rintro e W3 (⟨rfl, hJ3, hK3⟩ | ⟨rfl, hx3⟩)
    · have hk13 := HK2.out.trans hK3
      have t3 := hk13.cell HT1.out (.inl rfl)
      have s3 := hk13.cell HS1.out (.inr (.inr rfl))
      have HJ3 := hideIt hJ3
      have HK3 := hideIt (HK1.out.trans hk13)
      have HW3 := hideIt (HW1.out.trans hk13.1)
      have ct0 := (blk_cell t3 0).trans rfl
      have ct1 := (blk_cell t3 1).trans rfl
      have ct2 := (blk_cell t3 2).trans rfl
      have cs0 := (blk_cell s3 0).trans rfl
      have cs1 := (blk_cell s3 1).trans rfl
      have cs2 := (blk_cell s3 2).trans rfl
      have cs3 := (blk_cell s3 3).trans rfl
      have cs4 := (blk_cell s3 4).trans rfl
      have cs5 := (blk_cell s3 5).trans rfl
      clear hk13 t3 s3 hJ3 hK3 HR hy HJ2 HK2 HT1 HS1 HK1 HW1
      gi_wp2
      refine ⟨trivial, (fun h => by cases h), ?_⟩
      refine (IH1.out _ (pre ++ X0 ++ [⟨o.a, o.b, o.g, goneB l (o.a, o.b)⟩]) _ HW3.out HJ3.out (by simp; omega)).mono ?_
      rintro e W4 (⟨rfl, hJ4, hK4⟩ | ⟨rfl, q, t, hqt, hq⟩)
      · gi_wp2
        go_ret
        exact .inl ⟨rfl, by simpa [List.append_assoc] using hJ4, HK3.out.trans hK4⟩
      · gi_wp2
        go_ret
        exact .inr ⟨rfl, q, t, by simpa [List.append_assoc] using hqt, hq⟩
    · gi_wp2
      refine ⟨trivial, ?_⟩
      gi_wp2
      go_ret
      exact .inr ⟨rfl, _, _, by simp [List.append_assoc]; rfl, hx3⟩
  · gi_wp2
    refine ⟨trivial, ?_⟩
    gi_wp2
    refine ⟨fun _ h => (by cases h), ?_⟩
    gi_wp2
    refine ⟨trivial, ?_⟩
    gi_wp2
    go_ret
    exact .inr ⟨rfl, q, t ++ _, by rw [← List.append_assoc, hqt, List.append_assoc], hq⟩

theorem up_num {l : List Op7} (hok : l.all okO = true) {d : Nat} {x : Int × Int} (h : Up l d x) : (0 ≤ x.1 ∧ x.1 ≤ 3) ∧ (0 ≤ x.2 ∧ x.2 ≤ 12) := by
  rcases up_inv h with ⟨_, rfl⟩ | ⟨e, o, _, hm, _, _, rfl⟩
  · simp
  · have := okO_num (List.all_eq_true.1 hok o hm)
    simp only
    omega
theorem lfs_app (l A B : List Op7) : lfs l (A ++ B) = lfs l A ++ lfs l B := by simp [lfs]
theorem lfs_step {l : List Op7} {n : Nat} {K : List Op7} {k : Nat} (h : k < K.length) : lfs l (sideK l n (K.take (k + 1))) = lfs l (sideK l n (K.take k)) ++ (lfs l (sideO l n (K[k].a, K[k].b, 0)) ++ ⟨K[k].a, K[k].b, K[k].g, goneB l (K[k].a, K[k].b)⟩ :: lfs l (sideO l n (K[k].a, K[k].b, 1))) := by
  rw [sideK_step h]
  simp [lfs]

theorem sideK_app (l : List Op7) (n : Nat) (A B : List Op7) : sideK l n (A ++ B) = sideK l n A ++ sideK l n B := by
  simp [sideK]
theorem lfs_rest {l : List Op7} {n : Nat} {K : List Op7} (k : Nat) : ∃ r, lfs l (sideK l n K) = lfs l (sideK l n (K.take k)) ++ r :=
  ⟨lfs l (sideK l n (K.drop k)), by rw [← lfs_app, ← sideK_app, List.take_append_drop]⟩

set_option maxRecDepth 100000 in
set_option maxHeartbeats 4000000 in
theorem eachKid_in (l : List Op7) (hops : opsB l = true) (hn : l.length ≤ 1048576) (w0 : World) (b1 b2 b3 base : Nat) (hT : TreeAt w0 b1 b2 b3 base l) (lp B N : Nat) (J Jx : List Lf → World → Prop) (hJ : AbidesFrom B J)
    (hY : ∀ m pre (x : Lf) W, J pre W → pre.length < N → YieldAt Fence.wide m Tryd.prog lp #[.agg #[.int .i64 x.a, .int .i64 x.b, .int .i64 x.g, .bool x.z]] W fun e W' =>
      (e = .returned (.bool true) ∧ J (pre ++ [x]) W' ∧ KpT w0.heap.size W W') ∨ (e = .returned (.bool false) ∧ Jx (pre ++ [x]) W')) :
    ∀ (n d : Nat) (r m s : Int), Up l d (r, m) → (s = 0 ∨ s = 1) → d + n = l.length + 2 → ∀ k pre W, Below w0.heap.size w0 W → J pre W → pre.length + (lfs l (sideO l n (r, m, s))).length ≤ N →
      CallsIn Fence.wide k Tryd.prog 119 #[.agg #[.map (some b1), .map (some b2), .map (some b3)], .agg #[.int .i64 r, .int .i64 m, .int .i64 s], .func (.yield lp) #[] #[]] W (EPost w0.heap.size J Jx pre (lfs l (sideO l n (r, m, s))) W) := by
  intro n
  induction n with
  | zero =>
    intro d r m s hu _ hd
    have := up_le hops hu
    omega
  | succ n ih =>
    intro d r m s hu hs01 hd k pre W hW h0 hN
    have hnum := up_num (opsParts hops).1 hu
    simp only at hnum
    obtain ⟨ks, hks⟩ := key_spot (r := r) (m := m) (s := s) (wf_small (by omega)) (wf_small (by omega)) (wf_small (by omega))
    have OF : Hid (∀ o ∈ kidsL l (r, m, s), ∀ k pre W, Below w0.heap.size w0 W → J pre W → pre.length + ((lfs l (sideO l n (o.a, o.b, 0))).length + 1 + (lfs l (sideO l n (o.a, o.b, 1))).length) ≤ N →
        CallsIn Fence.wide k Tryd.prog 138 #[.agg #[.map (some b1), .map (some b2), .map (some b3)], .agg #[.int .i64 o.a, .int .i64 o.b, .int .i64 o.c, .int .i64 o.d, .int .i64 o.s, .int .i64 o.g], .func (.yield lp) #[] #[]] W (EPost w0.heap.size J Jx pre (lfs l (sideO l n (o.a, o.b, 0)) ++ ⟨o.a, o.b, o.g, goneB l (o.a, o.b)⟩ :: lfs l (sideO l n (o.a, o.b, 1))) W)) :=
      fun o ho k pre W hW h0 hN => eachOf_in l hops hn w0 b1 b2 b3 base hT lp B N J Jx hJ hY o (List.all_eq_true.1 (opsParts hops).1 o (mem_kids ho).1) _ _
        (fun k pre W hW h0 hN => ih (d + 1) o.a o.b 0 (up_kid ho hu) (.inl rfl) (by omega) k pre W hW h0 hN)
        (fun k pre W hW h0 hN => ih (d + 1) o.a o.b 1 (up_kid ho hu) (.inr rfl) (by omega) k pre W hW h0 hN) k pre W hW h0 hN
    rw [sideK_all] at hN ⊢
    obtain ⟨f, hf⟩ := hT.2.1
    have hrow := hf.at (r, m, s)
    have hM : Hid (MapFn Tryd.prog 132 w0 b2 encSpot f) := hf.1
    obtain ⟨v0, hv0⟩ : ∃ v0, (f (r, m, s)).getD (.slice none 0 0) = v0 := ⟨_, rfl⟩
    rw [hv0] at hrow
    have HV0 := hideIt hv0
    have HKS := hideIt hks
    have HJ := hideIt hJ
    have hn0 : w0.heap.size ≤ W.heap.size := hW.size
    have hKl : (kidsL l (r, m, s)).length ≤ 1048576 := Nat.le_trans (kids_le l _) hn
    clear ih hu hd hY hJ hT hf hv0 hks hops
    generalize kidsL l (r, m, s) = K at *
    have HBa : Hid (Below W.heap.size W ((W.alloc (.cells #[.map (some b1), .map (some b2), .map (some b3)] 107)).alloc (.cells #[.int .i64 r, .int .i64 m, .int .i64 s] 132))) := ((Below.refl _ _).alloc (Nat.le_refl _) _).alloc (by simp) _
    have HKa : Hid (KpT w0.heap.size W ((W.alloc (.cells #[.map (some b1), .map (some b2), .map (some b3)] 107)).alloc (.cells #[.int .i64 r, .int .i64 m, .int .i64 s] 132))) := KpT.of_below hn0 HBa.out
    have HWa := hideIt (hW.trans HKa.out.1)
    have HTa : Hid (((W.alloc (.cells #[.map (some b1), .map (some b2), .map (some b3)] 107)).alloc (.cells #[.int .i64 r, .int .i64 m, .int .i64 s] 132)).heap[W.heap.size]? = some (.cells #[.map (some b1), .map (some b2), .map (some b3)] 107 (0, 0))) := (Below.heap_alloc _ _ _ (by simp)).trans (World.alloc_heap_new _ _)
    have HJa := hideIt (abides_below HJ.out h0 HBa.out)
    clear h0 hW
    rcases row_cases hrow with ⟨hlen, p0, c0, rfl⟩ | ⟨hlen, G, cap0, rfl, hcap0, hGl, hcell⟩
    · obtain rfl : K = [] := List.length_eq_zero_iff.1 hlen
      refine callsIn_of_wp Tryd.func119 rfl trivial ?_ rfl
      simp only [Tryd.ntmps119, List.size_toArray, List.length_cons, List.length_nil, Nat.reduceAdd, Nat.reduceSub, Array.replicate_succ, Array.replicate_zero, List.push_toArray, List.append_toArray, List.nil_append, List.cons_append]
      gi_wp2_with (first
        | (gi_at_lookup; refine wpListIn_look0 (t := 104) (e := 130) rfl _ _ rfl keyedSpot Tryd.underlying104 (.slice none 0 0) (zeroSlice _) encSpot_inj rfl (hM.out.below HWa.out hM.out.lt) (r, m, s) rfl ks HKS.out _ HV0.out ?_)
        | gi_in)
      gi_loopw [14] (fun i wr => ∃ j : Nat, j = 0 ∧ i = .int .i64 j ∧ J pre wr ∧ KpT w0.heap.size W wr)
        (fun _ _ => 0)
      case atStart => exact ⟨0, rfl, rfl, HJa.out, HKa.out⟩
      case round =>
        obtain ⟨j, rfl, rfl, hj, hkp⟩ := hrel
        gi_wp2
        go_ret
        exact .inl ⟨rfl, by simpa [sideK, lfs] using hj, hkp⟩
    · have HCE := hideIt hcell
      clear hrow hcell
      refine callsIn_of_wp Tryd.func119 rfl trivial ?_ rfl
      simp only [Tryd.ntmps119, List.size_toArray, List.length_cons, List.length_nil, Nat.reduceAdd, Nat.reduceSub, Array.replicate_succ, Array.replicate_zero, List.push_toArray, List.append_toArray, List.nil_append, List.cons_append]
      gi_wp2_with (first
        | (gi_at_lookup; refine wpListIn_look0 (t := 104) (e := 130) rfl _ _ rfl keyedSpot Tryd.underlying104 (.slice none 0 0) (zeroSlice _) encSpot_inj rfl (hM.out.below HWa.out hM.out.lt) (r, m, s) rfl ks HKS.out _ HV0.out ?_)
        | gi_in)
      gi_loopw [14] (fun i wr => ∃ j : Nat, j ≤ K.length ∧ i = .int .i64 j ∧ J (pre ++ lfs l (sideK l n (K.take j))) wr ∧ KpT w0.heap.size W wr ∧ Below w0.heap.size w0 wr ∧ wr.heap[W.heap.size]? = some (.cells #[.map (some b1), .map (some b2), .map (some b3)] 107 (0, 0)))
        (fun i _ => K.length - (intOf i).toNat)
      case atStart => exact ⟨0, Nat.zero_le _, rfl, by simpa [sideK, lfs] using HJa.out, HKa.out, HWa.out, HTa.out⟩
      case round =>
        obtain ⟨j, hj, rfl, hJj, hKj, hWj, hTj⟩ := hrel
        have HJj := hideIt hJj
        have HKj := hideIt hKj
        have HWj := hideIt hWj
        have ct0 := (blk_cell hTj 0).trans rfl
        have ct1 := (blk_cell hTj 1).trans rfl
        have ct2 := (blk_cell hTj 2).trans rfl
        have HTj := hideIt hTj
        have hlw : W.heap.size < wr.heap.size := (Array.getElem?_eq_some_iff.1 hTj).1
        clear hJj hKj hTj HJa HKa HWa HTa HBa
        by_cases hlt : j < K.length
        · obtain ⟨i0', i1', i2', i3', i4', i5'⟩ := putCells_at K j K[j] (by simp [hlt])
          have cc : ∀ q, q < K.length * 6 → wr.cell? ⟨G, q, none⟩ = (putCells K)[q]? := fun q hq => (hWj.cell (p := ⟨G, q, none⟩) hGl).trans (HCE.out q hq)
          have y0 := (cc (j * 6) (by omega)).trans i0'
          have y1 := (cc (j * 6 + 1) (by omega)).trans i1'
          have y2 := (cc (j * 6 + 2) (by omega)).trans i2'
          have y3 := (cc (j * 6 + 3) (by omega)).trans i3'
          have y4 := (cc (j * 6 + 4) (by omega)).trans i4'
          have y5 := (cc (j * 6 + 5) (by omega)).trans i5'
          have HMK : Hid (K[j] ∈ K) := List.getElem_mem hlt
          have HST := hideIt (lfs_step (l := l) (n := n) hlt)
          have HLE : Hid (pre.length + (lfs l (sideK l n (K.take (j + 1)))).length ≤ N) := by
            have h := sideK_le (l := l) (n := n) (K := K) (j + 1)
            show pre.length + (lfs l (sideK l n (K.take (j + 1)))).length ≤ N
            rw [lfs_len] at hN ⊢
            omega
          have hGr : G < wr.heap.size := Nat.lt_of_lt_of_le hGl hWj.size
          generalize K[j] = o at *
          have hlt' : (j : Int) < (K.length : Int) := by omega
          have hj0 : (0 : Int) ≤ (j : Int) := by omega
          clear cc i0' i1' i2' i3' i4' i5' hWj
          have HBo : Hid (Below wr.heap.size wr (wr.alloc (.cells #[.int .i64 o.a, .int .i64 o.b, .int .i64 o.c, .int .i64 o.d, .int .i64 o.s, .int .i64 o.g] 136))) := (Below.refl _ _).alloc (Nat.le_refl _) _
          have HKo := hideIt (KpT.of_below (n0 := w0.heap.size) HWj.out.size HBo.out)
          have HJo := hideIt (abides_below HJ.out HJj.out HBo.out)
          have HWo := hideIt (HWj.out.trans HKo.out.1)
          have hll : pre.length + (lfs l (sideK l n (K.take j))).length + ((lfs l (sideO l n (o.a, o.b, 0))).length + 1 + (lfs l (sideO l n (o.a, o.b, 1))).length) ≤ N := by
            have h := HLE.out
            rw [HST.out] at h
            simp only [List.length_append, List.length_cons] at h
            omega
          gi_wp2
          refine ⟨trivial, (fun h => by cases h), ?_⟩
          refine (OF.out o HMK.out _ (pre ++ lfs l (sideK l n (K.take j))) _ HWo.out HJo.out (by rw [List.length_append]; exact hll)).mono ?_
          rintro e W5 (⟨rfl, hJ5, hK5⟩ | ⟨rfl, q, t, hqt, hq⟩)
          · have HJ5 := hideIt hJ5
            have HK5 := hideIt (HKo.out.trans hK5)
            clear hJ5 hK5
            gi_wp2
            exact ⟨⟨j + 1, by omega, by go_num, by rw [HST.out, ← List.append_assoc]; exact HJ5.out, HKj.out.trans HK5.out, HWj.out.trans HK5.out.1, HK5.out.cell HTj.out (.inl rfl)⟩, by simp [intOf]; omega⟩
          · gi_wp2
            go_ret
            obtain ⟨r, hr⟩ := lfs_rest (l := l) (n := n) (K := K) (j + 1)
            exact .inr ⟨rfl, q, t ++ r, by rw [hr, HST.out, ← List.append_assoc, hqt]; simp [List.append_assoc], hq⟩
        · obtain rfl : j = K.length := by omega
          gi_wp2
          go_ret
          exact .inl ⟨rfl, by have h := HJj.out; rw [List.take_length] at h; exact h, HKj.out⟩
end Go.Proofs.YtedanlmippfojaaDoor
