/- Who is under whom, by steps from a sign to what it was put beside. -/
import Derived.Test.YtpkdadccapemcaaDoorTreeInv
namespace Go.Proofs.YtpkdadccapemcaaDoor
open Go.RowKit
set_option linter.unusedSimpArgs false
set_option linter.unusedVariables false

/-- One comes from x to br, bm within n steps. -/
def underN (l : List Op7) : Nat → Int × Int → Int → Int → Bool
  | 0, _, _, _ => false
  | n + 1, x, br, bm => match putAt l x with | none => false | some o => if o.c = br ∧ o.d = bm then true else underN l n (o.c, o.d) br bm
/-- From x one comes to nothing within n steps. -/
def Dp (l : List Op7) (n : Nat) (x : Int × Int) : Prop := ∀ o, putAt l x = some o → deepF l n o = true

theorem findIdx_get {l : List Op7} {p : Op7 → Bool} : (match l.findIdx? p with | some i => l[i]? | none => none) = l.find? p := by
  induction l with
  | nil => rfl
  | cons a r ih =>
    rw [List.findIdx?_cons, List.find?_cons]
    cases h : p a
    · simp only [Bool.false_eq_true, if_false]
      rw [← ih]
      cases r.findIdx? p <;> simp
    · simp
theorem nextO_find (l : List Op7) (o : Op7) : nextO l o = l.find? (hasId o.c o.d) := by
  unfold nextO
  exact findIdx_get
theorem putAt_some {l : List Op7} {x : Int × Int} {o : Op7} (h : putAt l x = some o) : l.find? (hasId x.1 x.2) = some o ∧ o.k = 1 ∧ o ∈ l ∧ o.a = x.1 ∧ o.b = x.2 := by
  unfold putAt at h
  cases hf : l.find? (hasId x.1 x.2) with
  | none => rw [hf] at h; cases h
  | some p =>
    rw [hf] at h
    simp only at h
    split at h
    · rename_i hk
      obtain rfl := Option.some.inj h
      have h1 := List.find?_some hf
      have h2 : p.a = x.1 ∧ p.b = x.2 := by simpa [hasId] using h1
      exact ⟨rfl, hk, List.mem_of_find?_eq_some hf, h2.1, h2.2⟩
    · cases h
theorem opsDeep {l : List Op7} (h : opsB l = true) : l.all (deepF l (l.length + 1)) = true := by
  unfold opsB at h
  simp only [Bool.and_eq_true] at h
  exact h.2.2.2
theorem dp_start {l : List Op7} (h : opsB l = true) (x : Int × Int) : Dp l (l.length + 1) x := fun o ho =>
  List.all_eq_true.1 (opsDeep h) o (putAt_some ho).2.2.1
theorem dp_step {l : List Op7} (h : opsB l = true) {n : Nat} {x : Int × Int} (hd : Dp l n x) {o : Op7} (ho : putAt l x = some o) : ∃ m, n = m + 1 ∧ Dp l m (o.c, o.d) := by
  have h1 := hd o ho
  rcases n with _ | m
  · simp [deepF] at h1
  · refine ⟨m, rfl, fun q hq => ?_⟩
    obtain ⟨hf, _, hm, ha, hb⟩ := putAt_some hq
    have hid := okO_id (List.all_eq_true.1 (opsParts h).1 q hm)
    have hno : noB o.c o.d = false := by unfold noB; exact decide_eq_false (by omega)
    unfold deepF at h1
    rw [hno, nextO_find, hf] at h1
    simpa using h1
theorem under_hit {l : List Op7} {m : Nat} {x : Int × Int} {o : Op7} {br bm : Int} (ho : putAt l x = some o) (h : o.c = br ∧ o.d = bm) : underN l (m + 1) x br bm = true := by
  unfold underN; rw [ho]; simp [h]
theorem under_on {l : List Op7} {m : Nat} {x : Int × Int} {o : Op7} {br bm : Int} (ho : putAt l x = some o) (h : ¬ (o.c = br ∧ o.d = bm)) : underN l (m + 1) x br bm = underN l m (o.c, o.d) br bm := by
  rw [underN]; rw [ho]; simp only; rw [if_neg h]
theorem under_no {l : List Op7} {n : Nat} {x : Int × Int} {br bm : Int} (ho : putAt l x = none) : underN l n x br bm = false := by
  rcases n with _ | m
  · rfl
  · unfold underN; rw [ho]
theorem find_cases (l : List Op7) (x : Int × Int) : (findI l x.1 x.2 = -1 ∧ putAt l x = none) ∨ ∃ (i : Nat) (o : Op7), findI l x.1 x.2 = i ∧ i < l.length ∧ l[i]? = some o ∧ putAt l x = if o.k = 1 then some o else none := by
  have hf := findIdx_get (l := l) (p := hasId x.1 x.2)
  unfold findI putAt
  cases h : l.findIdx? (hasId x.1 x.2) with
  | none =>
    rw [h] at hf
    rw [← hf]
    exact .inl ⟨rfl, rfl⟩
  | some i =>
    rw [h] at hf
    have hi : i < l.length := (List.findIdx?_eq_some_iff_getElem.1 h).1
    rw [← hf]
    refine .inr ⟨i, l[i], rfl, hi, by simp [hi], ?_⟩
    simp [hi]
/-- Who is under whom, if what was done is ok. -/
def undB (l : List Op7) (ar am br bm : Int) : Bool := if opsB l = true then underN l (l.length + 1) (ar, am) br bm else false
end Go.Proofs.YtpkdadccapemcaaDoor
