/- How signs stand, as plain lists: kid by kid, what is on the left, the sign, what is on the right; each stands once. -/
import Derived.Test.YtpkdadccapemcaaDoorTreeInv
namespace Go.Proofs.YtpkdadccapemcaaDoor
open Go.RowKit
set_option linter.unusedSimpArgs false
set_option linter.unusedVariables false

/-- All signs on a side of one, n levels deep. -/
def sideO (l : List Op7) : Nat → Int × Int × Int → List Op7
  | 0, _ => []
  | n + 1, x => (kidsL l x).flatMap fun o => sideO l n (o.a, o.b, 0) ++ o :: sideO l n (o.a, o.b, 1)
/-- An id to which one comes from nothing in d steps. -/
inductive Up (l : List Op7) : Nat → Int × Int → Prop
  | zero : Up l 0 (0, 0)
  | step {d : Nat} {o : Op7} (hm : o ∈ l) (hk : o.k = 1) (h : Up l d (o.c, o.d)) : Up l (d + 1) (o.a, o.b)
theorem mem_kids {l : List Op7} {x : Int × Int × Int} {o : Op7} (h : o ∈ kidsL l x) : o ∈ l ∧ o.k = 1 ∧ x = (o.c, o.d, o.s) := by
  unfold kidsL at h
  obtain ⟨h1, h2⟩ := List.mem_filter.1 h
  simp [isKid] at h2
  exact ⟨h1, h2.1, by rw [h2.2.1, h2.2.2.1, h2.2.2.2]⟩
theorem up_kid {l : List Op7} {x : Int × Int × Int} {o : Op7} {d : Nat} (h : o ∈ kidsL l x) (hu : Up l d (x.1, x.2.1)) : Up l (d + 1) (o.a, o.b) := by
  obtain ⟨h1, h2, rfl⟩ := mem_kids h
  exact Up.step h1 h2 hu
theorem once_eq {l : List Op7} (h1 : OnceIds l) {o p : Op7} (ho : o ∈ l) (hp : p ∈ l) (ha : o.a = p.a) (hb : o.b = p.b) : o = p := by
  obtain ⟨i, hi⟩ := List.mem_iff_getElem?.1 ho
  obtain ⟨j, hj⟩ := List.mem_iff_getElem?.1 hp
  obtain rfl := h1 i j o p hi hj ha hb
  exact Option.some.inj (hi.symm.trans hj)
theorem up_inv {l : List Op7} {d : Nat} {x : Int × Int} (h : Up l d x) : (d = 0 ∧ x = (0, 0)) ∨ ∃ e o, d = e + 1 ∧ o ∈ l ∧ o.k = 1 ∧ Up l e (o.c, o.d) ∧ x = (o.a, o.b) := by
  cases h with
  | zero => exact .inl ⟨rfl, rfl⟩
  | step hm hk h => exact .inr ⟨_, _, rfl, hm, hk, h, rfl⟩
theorem op_pos {l : List Op7} (hok : l.all okO = true) {o : Op7} (h : o ∈ l) : 1 ≤ o.a := (okO_id (List.all_eq_true.1 hok o h)).1
theorem up_once {l : List Op7} (hok : l.all okO = true) (h1 : OnceIds l) : ∀ {d d' : Nat} {x : Int × Int}, Up l d x → Up l d' x → d = d' := by
  intro d
  induction d with
  | zero =>
    intro d' x h h'
    rcases up_inv h with ⟨_, rfl⟩ | ⟨e, o, he, _⟩
    · rcases up_inv h' with ⟨rfl, _⟩ | ⟨e', o', _, hm, _, _, hx⟩
      · rfl
      · have := op_pos hok hm
        have := congrArg Prod.fst hx
        simp at this
        omega
    · omega
  | succ d ih =>
    intro d' x h h'
    rcases up_inv h with ⟨h0, _⟩ | ⟨e, o, he, hm, hk, hu, rfl⟩
    · omega
    · obtain rfl : e = d := by omega
      rcases up_inv h' with ⟨_, hx⟩ | ⟨e', o', rfl, hm', _, hu', hx⟩
      · have := op_pos hok hm
        have := congrArg Prod.fst hx
        simp at this
        omega
      · obtain rfl := once_eq h1 hm hm' (congrArg Prod.fst hx) (congrArg Prod.snd hx)
        rw [ih hu hu']
theorem find_self {l : List Op7} (h1 : OnceIds l) {o : Op7} (hm : o ∈ l) : l.find? (hasId o.a o.b) = some o := by
  cases hf : l.find? (hasId o.a o.b) with
  | none =>
    have := List.find?_eq_none.1 hf o hm
    simp [hasId] at this
  | some p =>
    have h2 := List.find?_some hf
    have h3 : p.a = o.a ∧ p.b = o.b := by simpa [hasId] using h2
    rw [once_eq h1 (List.mem_of_find?_eq_some hf) hm h3.1 h3.2]
theorem nextO_find' (l : List Op7) (o : Op7) : nextO l o = l.find? (hasId o.c o.d) := by
  unfold nextO
  have : ∀ (l : List Op7) (p : Op7 → Bool), (match l.findIdx? p with | some i => l[i]? | none => none) = l.find? p := by
    intro l p
    induction l with
    | nil => rfl
    | cons a r ih =>
      rw [List.findIdx?_cons, List.find?_cons]
      cases h : p a
      · simp only [Bool.false_eq_true, if_false]
        rw [← ih]
        cases r.findIdx? p <;> simp
      · simp
  exact this _ _
theorem up_deep {l : List Op7} (hok : l.all okO = true) (h1 : OnceIds l) : ∀ (d n : Nat) (o : Op7), o ∈ l → Up l d (o.c, o.d) → deepF l n o = true → d + 1 ≤ n := by
  intro d
  induction d with
  | zero =>
    intro n o _ _ hd
    rcases n with _ | n
    · simp [deepF] at hd
    · omega
  | succ d ih =>
    intro n o _ hu hd
    rcases n with _ | n
    · simp [deepF] at hd
    · rcases up_inv hu with ⟨h0, _⟩ | ⟨e, p, he, hm, hk, hu', hx⟩
      · omega
      · obtain rfl : e = d := by omega
        have ha : o.c = p.a := congrArg Prod.fst hx
        have hb : o.d = p.b := congrArg Prod.snd hx
        have hp := op_pos hok hm
        have hno : noB o.c o.d = false := by unfold noB; exact decide_eq_false (by omega)
        unfold deepF at hd
        rw [hno, nextO_find', ha, hb, find_self h1 hm] at hd
        have := ih n p hm hu' (by simpa using hd)
        omega
theorem up_le {l : List Op7} (h : opsB l = true) {d : Nat} {x : Int × Int} (hu : Up l d x) : d ≤ l.length + 1 := by
  obtain ⟨hok, hord⟩ := opsParts h
  have hdeep : l.all (deepF l (l.length + 1)) = true := by
    unfold opsB at h
    simp only [Bool.and_eq_true] at h
    exact h.2.2.2
  rcases up_inv hu with ⟨rfl, _⟩ | ⟨e, o, rfl, hm, hk, hu', _⟩
  · omega
  · exact up_deep hok (once_of hok hord) e _ o hm hu' (List.all_eq_true.1 hdeep o hm)

/-- p stands beside x, or beside what does, j signs between. -/
def Desc (l : List Op7) : Nat → Int × Int × Int → Op7 → Prop
  | 0, x, p => p ∈ kidsL l x
  | j + 1, x, p => ∃ o s, o ∈ kidsL l x ∧ Desc l j (o.a, o.b, s) p
theorem desc_side {l : List Op7} (h1 : OnceIds l) : ∀ (j : Nat) {x x' : Int × Int × Int} {p : Op7}, Desc l j x p → Desc l j x' p → x = x' := by
  intro j
  induction j with
  | zero =>
    intro x x' p h h'
    rw [(mem_kids h).2.2, (mem_kids h').2.2]
  | succ j ih =>
    rintro x x' p ⟨o, s, ho, hd⟩ ⟨o', s', ho', hd'⟩
    have e := ih hd hd'
    have ha : o.a = o'.a := congrArg Prod.fst e
    have hb : o.b = o'.b := congrArg (fun y => y.2.1) e
    obtain rfl := once_eq h1 (mem_kids ho).1 (mem_kids ho').1 ha hb
    rw [(mem_kids ho).2.2, (mem_kids ho').2.2]
theorem desc_mem {l : List Op7} : ∀ (j : Nat) {x : Int × Int × Int} {p : Op7}, Desc l j x p → p ∈ l := by
  intro j
  induction j with
  | zero => intro x p h; exact (mem_kids h).1
  | succ j ih => rintro x p ⟨o, s, _, hd⟩; exact ih hd
theorem desc_up {l : List Op7} : ∀ (j : Nat) {x : Int × Int × Int} {p : Op7} {d : Nat}, Desc l j x p → Up l d (x.1, x.2.1) → Up l (d + j + 1) (p.a, p.b) := by
  intro j
  induction j with
  | zero => intro x p d h hu; exact up_kid h hu
  | succ j ih =>
    rintro x p d ⟨o, s, ho, hd⟩ hu
    have := ih hd (up_kid ho hu)
    rw [show d + (j + 1) + 1 = d + 1 + j + 1 by omega]
    exact this
theorem side_desc {l : List Op7} : ∀ (n : Nat) {x : Int × Int × Int} {p : Op7}, p ∈ sideO l n x → ∃ j, Desc l j x p := by
  intro n
  induction n with
  | zero => intro x p h; simp [sideO] at h
  | succ n ih =>
    intro x p h
    unfold sideO at h
    obtain ⟨o, ho, hp⟩ := List.mem_flatMap.1 h
    rcases List.mem_append.1 hp with hp | hp
    · obtain ⟨j, hj⟩ := ih hp
      exact ⟨j + 1, o, 0, ho, hj⟩
    · rcases List.mem_cons.1 hp with rfl | hp
      · exact ⟨0, ho⟩
      · obtain ⟨j, hj⟩ := ih hp
        exact ⟨j + 1, o, 1, ho, hj⟩
/-- What stands beside two places of one depth stands beside one of them alone. -/
theorem desc_apart {l : List Op7} (hok : l.all okO = true) (h1 : OnceIds l) {d i j : Nat} {x x' : Int × Int × Int} {p : Op7} (hx : Up l d (x.1, x.2.1)) (hx' : Up l d (x'.1, x'.2.1)) (h : Desc l i x p) (h' : Desc l j x' p) : x = x' := by
  have e := up_once hok h1 (desc_up i h hx) (desc_up j h' hx')
  obtain rfl : i = j := by omega
  exact desc_side h1 i h h'
theorem nodup_side {l : List Op7} (hok : l.all okO = true) (h1 : OnceIds l) (hl : l.Nodup) : ∀ (n d : Nat) (x : Int × Int × Int), Up l d (x.1, x.2.1) → (sideO l n x).Nodup := by
  intro n
  induction n with
  | zero => intro d x _; simp [sideO]
  | succ n ih =>
    intro d x hu
    unfold sideO
    have hk : (kidsL l x).Nodup := hl.filter _
    have hall : ∀ o ∈ kidsL l x, Up l (d + 1) (o.a, o.b) ∧ o ∈ l := fun o ho => ⟨up_kid ho hu, (mem_kids ho).1⟩
    revert hk hall
    generalize kidsL l x = K
    intro hk hall
    induction K with
    | nil => simp
    | cons o r ihr =>
      rw [List.flatMap_cons]
      obtain ⟨hor, hr⟩ := List.nodup_cons.1 hk
      obtain ⟨huo, hmo⟩ := hall o (by simp)
      have own : ∀ s p j, Desc l j (o.a, o.b, s) p → p ≠ o := fun s p j hd e => by
        subst e
        have := up_once hok h1 huo (desc_up j hd huo)
        omega
      refine List.nodup_append.2 ⟨?_, ihr hr (fun q hq => hall q (by simp [hq])), ?_⟩
      · refine List.nodup_append.2 ⟨ih _ _ huo, List.nodup_cons.2 ⟨fun hc => ?_, ih _ _ huo⟩, fun a ha b hb e => ?_⟩
        · obtain ⟨j, hj⟩ := side_desc n hc
          exact own _ _ _ hj rfl
        · subst e
          obtain ⟨i, hi⟩ := side_desc n ha
          rcases List.mem_cons.1 hb with rfl | hb
          · exact own _ _ _ hi rfl
          · obtain ⟨j, hj⟩ := side_desc n hb
            have := desc_apart hok h1 huo huo hi hj
            simp at this
      · intro a ha b hb e
        subst e
        obtain ⟨q, hq, hb⟩ := List.mem_flatMap.1 hb
        obtain ⟨huq, hmq⟩ := hall q (by simp [hq])
        have hne : q ≠ o := fun e => hor (e ▸ hq)
        have at' : ∀ (y : Op7), a ∈ sideO l n (y.a, y.b, 0) ++ y :: sideO l n (y.a, y.b, 1) → (a = y) ∨ ∃ s j, Desc l j (y.a, y.b, s) a := fun y hy => by
          rcases List.mem_append.1 hy with hy | hy
          · obtain ⟨j, hj⟩ := side_desc n hy; exact .inr ⟨0, j, hj⟩
          · rcases List.mem_cons.1 hy with rfl | hy
            · exact .inl rfl
            · obtain ⟨j, hj⟩ := side_desc n hy; exact .inr ⟨1, j, hj⟩
        rcases at' o ha with rfl | ⟨s, j, hj⟩ <;> rcases at' q hb with h2 | ⟨s', j', hj'⟩
        · exact hne h2.symm
        · have := up_once hok h1 huo (desc_up j' hj' huq); omega
        · subst h2; have := up_once hok h1 huq (desc_up j hj huo); omega
        · have e := desc_apart hok h1 huo huq hj hj'
          exact hne (once_eq h1 hmq hmo (congrArg Prod.fst e).symm (congrArg (fun y => y.2.1) e).symm)
open Classical in
theorem nodup_le {α : Type} : ∀ (a b : List α), a.Nodup → (∀ x ∈ a, x ∈ b) → a.length ≤ b.length
  | [], b, _, _ => Nat.zero_le _
  | x :: r, b, h, hs => by
    obtain ⟨hx, hr⟩ := List.nodup_cons.1 h
    have hb : x ∈ b := hs x (by simp)
    have := nodup_le r (b.erase x) hr (fun y hy => (List.mem_erase_of_ne (fun (e : y = x) => hx (by rw [← e]; exact hy))).2 (hs y (by simp [hy])))
    have hl := List.length_erase_of_mem hb
    have hpos : 0 < b.length := List.length_pos_of_mem hb
    simp only [List.length_cons]
    omega
theorem nodup_of_once {l : List Op7} (h1 : OnceIds l) : l.Nodup := by
  refine List.pairwise_iff_getElem.2 fun i j hi hj hij e => ?_
  have := h1 i j l[i] l[j] (by simp [hi]) (by simp [hj]) (by rw [e]) (by rw [e])
  omega
theorem side_len {l : List Op7} (h : opsB l = true) {n d : Nat} {x : Int × Int × Int} (hu : Up l d (x.1, x.2.1)) : (sideO l n x).length ≤ l.length := by
  obtain ⟨hok, hord⟩ := opsParts h
  have h1 := once_of hok hord
  exact nodup_le _ _ (nodup_side hok h1 (nodup_of_once h1) n d x hu) (fun p hp => by obtain ⟨j, hj⟩ := side_desc n hp; exact desc_mem j hj)
/-- All signs, as they stand. -/
def allO (l : List Op7) : List Op7 := sideO l (l.length + 2) (0, 0, 1)
end Go.Proofs.YtpkdadccapemcaaDoor
