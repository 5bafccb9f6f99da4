/- What the program asks of what was done, and what the specification asks, is the same: plain lists. -/
import Derived.Test.YtpkdadccapemcaaDoorThings
import Derived.Test.YtpkdadccapemcaaDoorRefs
namespace Go.Proofs.YtpkdadccapemcaaDoor

theorem rep_ascends {l : List Op7} (hord : ordB l = true) : ∀ (j : Nat) (hj : j < l.length) (i : Nat) (hi : i ≤ j), (l[i]'(by omega)).a ≤ l[j].a := by
  intro j
  induction j with
  | zero => intro hj i hi; obtain rfl : i = 0 := by omega
            exact Int.le_refl _
  | succ j ih =>
    intro hj i hi
    rcases Nat.lt_or_ge i (j + 1) with h | h
    · have h1 := ih (by omega) i (by omega)
      have h2 := ord_iff.1 hord (j + 1) hj
      rw [step_succ hj] at h2
      have h3 := of_decide_eq_true h2
      omega
    · obtain rfl : i = j + 1 := by omega
      exact Int.le_refl _

theorem cntTo_zero_of {l : List Op7} {r : Int} (k : Nat) (hk : k ≤ l.length) (h : ∀ i (hi : i < l.length), i < k → l[i].a ≠ r) : cntTo l k r = 0 := by
  induction k with
  | zero => exact cntTo_zero _ _
  | succ k ih =>
    rw [cntTo_other (by omega) (h k (by omega) (by omega))]
    exact ih (by omega) (fun i hi hik => h i hi (by omega))

/-- A thing's number is one more than how many of its Rep stand ahead. -/
theorem num_is {l : List Op7} (hok : l.all okO = true) (hord : ordB l = true) : ∀ (j : Nat) (hj : j < l.length), l[j].b = cntTo l j l[j].a + 1 := by
  intro j
  induction j with
  | zero =>
    intro hj
    have h1 := ord_iff.1 hord 0 hj
    rw [step_zero hj] at h1
    have h2 := of_decide_eq_true h1
    have h3 := okO_id (all_iff.1 hok 0 hj)
    rw [cntTo_zero]
    omega
  | succ j ih =>
    intro hj
    have h1 := ord_iff.1 hord (j + 1) hj
    rw [step_succ hj] at h1
    have h2 := of_decide_eq_true h1
    have h3 := ih (by omega)
    rcases h2 with ⟨h2, h4⟩ | ⟨h2, h4⟩
    · rw [cntTo_zero_of (j + 1) (by omega) (fun i hi hij => by have := rep_ascends hord j (by omega) i (by omega); omega)]
      omega
    · rw [h4, h3, h2, cntTo_same (by omega) h2]

/-- How many of the first k things are of a lesser Rep. -/
def lessTo (l : List Op7) (k : Nat) (r : Int) : Int := (if 1 < r then cntTo l k 1 else 0) + (if 2 < r then cntTo l k 2 else 0)

theorem all_three {l : List Op7} (hok : l.all okO = true) (k : Nat) (hk : k ≤ l.length) : cntTo l k 1 + cntTo l k 2 + cntTo l k 3 = k := by
  induction k with
  | zero => simp [cntTo_zero]
  | succ k ih =>
    have h := okO_id (all_iff.1 hok k (by omega))
    have := ih (by omega)
    obtain e | e | e : l[k].a = 1 ∨ l[k].a = 2 ∨ l[k].a = 3 := by omega
    · rw [cntTo_same (by omega) e, cntTo_other (r := 2) (by omega) (by omega), cntTo_other (r := 3) (by omega) (by omega)]; omega
    · rw [cntTo_same (by omega) e, cntTo_other (r := 1) (by omega) (by omega), cntTo_other (r := 3) (by omega) (by omega)]; omega
    · rw [cntTo_same (by omega) e, cntTo_other (r := 1) (by omega) (by omega), cntTo_other (r := 2) (by omega) (by omega)]; omega

/-- Behind a thing of a greater Rep none of a lesser one comes. -/
theorem cnt_stays {l : List Op7} (hord : ordB l = true) {j : Nat} (hj : j < l.length) {r : Int} (hr : r < l[j].a) : cnt l r = cntTo l j r := by
  rw [← cntTo_len]
  have h : ∀ k, j ≤ k → k ≤ l.length → cntTo l k r = cntTo l j r := by
    intro k
    induction k with
    | zero => intro h _; obtain rfl : j = 0 := by omega
              rfl
    | succ k ih =>
      intro h1 h2
      rcases Nat.lt_or_ge k j with h | h
      · obtain rfl : j = k + 1 := by omega
        rfl
      · have := rep_ascends hord k (by omega) j h
        rw [cntTo_other (by omega) (by omega)]
        exact ih h (by omega)
  exact h _ (by omega) (Nat.le_refl _)

theorem cnt_mono {l : List Op7} (r : Int) : ∀ (k j : Nat), j ≤ k → k ≤ l.length → cntTo l j r ≤ cntTo l k r := by
  intro k
  induction k with
  | zero => intro j h _; obtain rfl : j = 0 := by omega
            exact Int.le_refl _
  | succ k ih =>
    intro j h1 h2
    rcases Nat.lt_or_ge k j with h | h
    · obtain rfl : j = k + 1 := by omega
      exact Int.le_refl _
    · have h3 := ih j h (by omega)
      by_cases e : l[k].a = r
      · rw [cntTo_same (by omega) e]; omega
      · rw [cntTo_other (by omega) e]; exact h3

/-- The place of a thing that is there. -/
theorem place_of {l : List Op7} (hok : l.all okO = true) (hord : ordB l = true) {j : Nat} (hj : j < l.length) : placeI (cnt l 1) (cnt l 2) (cnt l 3) l[j].a l[j].b = j := by
  have hid := okO_id (all_iff.1 hok j hj)
  have hn := num_is hok hord j hj
  have h3 := all_three hok j (by omega)
  have hidB : idB l[j].a l[j].b = true := idB_true.2 hid
  have hle : cntTo l j l[j].a + 1 ≤ cnt l l[j].a := by
    rw [← cntTo_len, ← cntTo_same hj rfl]
    exact cnt_mono _ _ _ (by omega) (Nat.le_refl _)
  unfold placeI seenAt
  obtain e | e | e : l[j].a = 1 ∨ l[j].a = 2 ∨ l[j].a = 3 := by omega
  · rw [e] at hle hn
    have z2 := cntTo_zero_of (l := l) (r := 2) j (by omega) (fun i hi hij => by have := rep_ascends hord j hj i (by omega); omega)
    have z3 := cntTo_zero_of (l := l) (r := 3) j (by omega) (fun i hi hij => by have := rep_ascends hord j hj i (by omega); omega)
    rw [if_pos ⟨hidB, by rw [if_pos e]; omega⟩, if_pos e]
    omega
  · rw [e] at hle hn
    have z3 := cntTo_zero_of (l := l) (r := 3) j (by omega) (fun i hi hij => by have := rep_ascends hord j hj i (by omega); omega)
    have z1 := cnt_stays hord hj (r := 1) (by omega)
    rw [if_pos ⟨hidB, by rw [if_neg (by omega), if_pos e]; omega⟩, if_neg (by omega), if_pos e]
    omega
  · rw [e] at hle hn
    have z1 := cnt_stays hord hj (r := 1) (by omega)
    have z2 := cnt_stays hord hj (r := 2) (by omega)
    rw [if_pos ⟨hidB, by rw [if_neg (by omega), if_neg (by omega)]; omega⟩, if_neg (by omega), if_neg (by omega)]
    omega

/-- The n-th thing of somebody is there. -/
theorem there_is {l : List Op7} {r n : Int} (h1 : 1 ≤ n) : ∀ (k : Nat), k ≤ l.length → n ≤ cntTo l k r → ∃ j, ∃ hj : j < l.length, l[j].a = r ∧ cntTo l j r = n - 1 := by
  intro k
  induction k with
  | zero => intro _ h; rw [cntTo_zero] at h; omega
  | succ k ih =>
    intro hk h
    by_cases hc : n ≤ cntTo l k r
    · exact ih (by omega) hc
    · by_cases e : l[k].a = r
      · rw [cntTo_same (by omega) e] at h
        exact ⟨k, by omega, e, by omega⟩
      · rw [cntTo_other (by omega) e] at h
        omega

/-- What is found by an id is what its place tells. -/
theorem find_place {l : List Op7} (hok : l.all okO = true) (hord : ordB l = true) (r m : Int) : findI l r m = placeI (cnt l 1) (cnt l 2) (cnt l 3) r m := by
  unfold findI
  cases hf : l.findIdx? (hasId r m) with
  | some i =>
    obtain ⟨hi, h1, _⟩ := List.findIdx?_eq_some_iff_getElem.1 hf
    simp only [hasId, Bool.and_eq_true, beq_iff_eq] at h1
    have := place_of hok hord hi
    rw [h1.1, h1.2] at this
    exact this.symm
  | none =>
    simp only
    unfold placeI
    by_cases hc : idB r m = true ∧ m ≤ seenAt (cnt l 1) (cnt l 2) (cnt l 3) r
    · exfalso
      obtain ⟨hid, hle⟩ := hc
      have hid' := idB_true.1 hid
      have hcnt : m ≤ cnt l r := by
        unfold seenAt at hle
        obtain rfl | rfl | rfl : r = 1 ∨ r = 2 ∨ r = 3 := by omega
        · simpa using hle
        · simpa using hle
        · simpa using hle
      rw [← cntTo_len] at hcnt
      obtain ⟨j, hj, e1, e2⟩ := there_is (by omega) l.length (Nat.le_refl _) hcnt
      have hn := num_is hok hord j hj
      rw [e1, e2] at hn
      have := List.findIdx?_eq_none_iff.1 hf l[j] (List.getElem_mem hj)
      simp [hasId, e1, hn] at this
    · rw [if_neg hc]

theorem len_le {l : List Op7} (hok : l.all okO = true) (hord : ordB l = true) : l.length ≤ 36 := by
  have h := all_three hok l.length (Nat.le_refl _)
  have hb : ∀ r, cntTo l l.length r ≤ 12 := by
    intro r
    rcases Int.lt_or_le 12 (cntTo l l.length r) with h1 | h1
    · exfalso
      obtain ⟨j, hj, e1, e2⟩ := there_is (n := 13) (r := r) (by omega) l.length (Nat.le_refl _) (by omega)
      have hn := num_is hok hord j hj
      have := okO_id (all_iff.1 hok j hj)
      rw [e1, e2] at hn
      omega
    · exact h1
  have h1 := hb 1
  have h2 := hb 2
  have h3 := hb 3
  omega

theorem countP_lt {p q : Nat → Bool} : ∀ {l : List Nat}, (∀ x ∈ l, p x = true → q x = true) → (∃ x ∈ l, p x = false ∧ q x = true) → l.countP p < l.countP q := by
  intro l
  induction l with
  | nil => intro _ h; obtain ⟨x, hx, _⟩ := h; cases hx
  | cons y t ih =>
    intro h1 h2
    rw [List.countP_cons, List.countP_cons]
    have hle : t.countP p ≤ t.countP q := List.countP_mono_left (fun x hx => h1 x (List.mem_cons_of_mem _ hx))
    obtain ⟨x, hx, e1, e2⟩ := h2
    rcases List.mem_cons.1 hx with rfl | hx
    · simp [e1, e2]; omega
    · have := ih (fun x hx => h1 x (List.mem_cons_of_mem _ hx)) ⟨x, hx, e1, e2⟩
      have h3 := h1 y (by simp)
      cases hp : p y
      · cases hq : q y <;> simp <;> omega
      · rw [h3 hp]; simp; omega

theorem cnF_mono (xs : List Int) : ∀ (n : Nat) (p : Int), cnF xs n p = true → cnF xs (n + 1) p = true := by
  intro n
  induction n with
  | zero => intro p h; simp [cnF] at h
  | succ n ih =>
    intro p h
    rw [cnF] at h ⊢
    by_cases hx : xs.getD p.toNat 0 < 0
    · rw [if_pos hx]
    · rw [if_neg hx] at h ⊢
      exact ih _ h

theorem stable_next {xs : List Int} (hp : placesB xs) {n : Nat} (h : ∀ i : Nat, i < xs.length → cnF xs (n + 1) i = cnF xs n i) : ∀ i : Nat, i < xs.length → cnF xs (n + 2) i = cnF xs (n + 1) i := by
  intro i hi
  have hx : xs.getD (i : Int).toNat 0 = xs[i] := by simp [hi]
  have e : ∀ n, cnF xs (n + 1) (i : Int) = if xs[i] < 0 then true else cnF xs n xs[i] := fun n => by rw [cnF, hx]
  rw [e (n + 1), e n]
  obtain ⟨b0, b1⟩ := hp i hi
  by_cases hn : xs[i] < 0
  · rw [if_pos hn, if_pos hn]
  · rw [if_neg hn, if_neg hn]
    obtain ⟨k, hk⟩ := Int.eq_ofNat_of_zero_le (show 0 ≤ xs[i] by omega)
    rw [hk]
    exact h k (by omega)

theorem stable_on {xs : List Int} (hp : placesB xs) {m : Nat} (h : ∀ i : Nat, i < xs.length → cnF xs (m + 1) i = cnF xs m i) : ∀ n, m ≤ n → ∀ i : Nat, i < xs.length → cnF xs (n + 1) i = cnF xs n i := by
  intro n
  induction n with
  | zero => intro hm; obtain rfl : m = 0 := by omega
            exact h
  | succ n ih =>
    intro hm
    rcases Nat.lt_or_ge m (n + 1) with h1 | h1
    · exact stable_next hp (ih (by omega))
    · obtain rfl : m = n + 1 := by omega
      exact h

/-- A way that is longer than there are places comes to no more. -/
theorem stable_len {xs : List Int} (hp : placesB xs) : ∀ i : Nat, i < xs.length → cnF xs (xs.length + 1) i = cnF xs xs.length i := by
  have claim : ∀ n, (∃ m, m ≤ n ∧ ∀ i : Nat, i < xs.length → cnF xs (m + 1) i = cnF xs m i) ∨ n ≤ (List.range xs.length).countP (fun i : Nat => cnF xs n (i : Int)) := by
    intro n
    induction n with
    | zero => exact .inr (Nat.zero_le _)
    | succ n ih =>
      rcases ih with ⟨m, hm, h⟩ | h
      · exact .inl ⟨m, by omega, h⟩
      · by_cases hs : ∀ i : Nat, i < xs.length → cnF xs (n + 1) i = cnF xs n i
        · exact .inl ⟨n, by omega, hs⟩
        · refine .inr ?_
          have hex : ∃ i : Nat, i < xs.length ∧ cnF xs (n + 1) i ≠ cnF xs n i := by
            refine Classical.byContradiction fun hno => hs fun i hi => ?_
            exact Classical.byContradiction fun hne => hno ⟨i, hi, hne⟩
          obtain ⟨i, hi, hne⟩ := hex
          have h1 : cnF xs n (i : Int) = false := by
            cases hc : cnF xs n (i : Int)
            · rfl
            · exact absurd ((cnF_mono xs n i hc).trans hc.symm) hne
          have h2 : cnF xs (n + 1) (i : Int) = true := by
            cases hc : cnF xs (n + 1) (i : Int)
            · exact absurd (hc.trans h1.symm) hne
            · rfl
          have := countP_lt (p := fun i : Nat => cnF xs n (i : Int)) (q := fun i : Nat => cnF xs (n + 1) (i : Int)) (l := List.range xs.length) (fun x _ hx => cnF_mono xs n x hx) ⟨i, by simpa using hi, h1, h2⟩
          omega
  rcases claim xs.length with ⟨m, hm, h⟩ | h
  · exact stable_on hp h _ hm
  · intro i hi
    have hall : (List.range xs.length).countP (fun i : Nat => cnF xs xs.length (i : Int)) = (List.range xs.length).length := by
      have := List.countP_le_length (p := fun i => cnF xs xs.length ((i : Nat) : Int)) (l := List.range xs.length)
      simp at this ⊢
      omega
    have ht := List.countP_eq_length.1 hall i (by simpa using hi)
    rw [ht]
    exact cnF_mono _ _ _ ht

theorem plc_find {l : List Op7} (hok : l.all okO = true) (hord : ordB l = true) (o : Op7) : plc l o = findI l o.c o.d := (find_place hok hord _ _).symm

theorem find_zero {l : List Op7} (hok : l.all okO = true) : findI l 0 0 = -1 :=
  findI_none fun o ho => by
    obtain ⟨j, hj, rfl⟩ := List.getElem_of_mem ho
    have := okO_id (all_iff.1 hok j hj)
    simp [hasId]
    omega

theorem refs_same {l : List Op7} (hok : l.all okO = true) (hord : ordB l = true) (o : Op7) : refI l o = refsB l o := by
  unfold refI refsB
  rw [plc_find hok hord]
  cases hz : noB o.c o.d
  · cases hx : nextO l o with
    | none => rw [next_none hx]; simp
    | some p =>
      obtain ⟨i, hi, hf, hp⟩ := next_some hx
      rw [hf, if_neg (by omega)]
      simp [hi, hp]
  · have h := of_decide_eq_true hz
    rw [h.1, h.2, find_zero hok]
    simp

theorem deep_same {l : List Op7} (hok : l.all okO = true) (hord : ordB l = true) (hr : l.all (refsB l) = true) : ∀ (n i : Nat) (hi : i < l.length), deepF l n l[i] = cnF (l.map (plc l)) n i := by
  intro n
  induction n with
  | zero => intro i hi; rfl
  | succ n ih =>
    intro i hi
    have hx : (l.map (plc l)).getD (i : Int).toNat 0 = findI l l[i].c l[i].d := by
      rw [← plc_find hok hord]; simp [hi]
    rw [cnF, hx, deepF]
    cases hz : noB l[i].c l[i].d
    · have h := all_iff.1 hr i hi
      unfold refsB at h
      rw [hz] at h
      cases hn : nextO l l[i] with
      | none => rw [hn] at h; cases h
      | some p =>
        obtain ⟨j, hj, hf, hp⟩ := next_some hn
        rw [if_neg (by simp), hf, if_neg (by omega)]
        simp only
        rw [← hp]
        exact ih j hj
    · have h := of_decide_eq_true hz
      rw [h.1, h.2, find_zero hok]
      simp

/-- What the program asks is what the specification asks. -/
theorem th_same (l : List Op7) : thB l = opsB l := by
  unfold thB opsB
  cases hok : l.all okO
  · simp
  · cases hord : ordB l
    · simp
    · have hlen := len_le hok hord
      have hrefs : l.all (refI l) = l.all (refsB l) := by
        have : refI l = refsB l := funext fun o => refs_same hok hord o
        rw [this]
      rw [hrefs]
      cases hr : l.all (refsB l)
      · simp
      · have hd : l.all (deepF l (l.length + 1)) = (List.range l.length).all (fun i => cnF (l.map (plc l)) l.length i) := by
          have hst := stable_len (places_plc l)
          simp only [List.length_map] at hst
          rw [Bool.eq_iff_iff, all_iff, List.all_eq_true]
          constructor
          · intro h i hi
            have hi' : i < l.length := by simpa using hi
            have := h i hi'
            rw [deep_same hok hord hr, hst i hi'] at this
            exact this
          · intro h i hi
            rw [deep_same hok hord hr, hst i hi]
            exact h i (by simpa using hi)
        rw [hd]
        simp [hlen]
end Go.Proofs.YtpkdadccapemcaaDoor
