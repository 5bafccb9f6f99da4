/- The tree of what was done, as plain functions: signs by their ids, kids by their places, how often a sign was taken away; and how a map in memory comes to hold them. -/
import Derived.Test.YtpkdadccapemcaaDoorSame
import Derived.Test.YtpkdadccapemcaaDoorMapFn
namespace Go.Proofs.YtpkdadccapemcaaDoor
open Go.RowKit
set_option linter.unusedSimpArgs false
set_option linter.unusedVariables false

def encId (x : Int × Int) : Value := .agg #[.int .i64 x.1, .int .i64 x.2]
def encSpot (x : Int × Int × Int) : Value := .agg #[.int .i64 x.1, .int .i64 x.2.1, .int .i64 x.2.2]
theorem encId_inj : ∀ a a', encId a = encId a' → a = a' := by
  rintro ⟨a, b⟩ ⟨c, d⟩ h
  simp [encId] at h
  simp [h]
theorem encSpot_inj : ∀ a a', encSpot a = encSpot a' → a = a' := by
  rintro ⟨a, b, c⟩ ⟨d, e, f⟩ h
  simp [encSpot] at h
  simp [h]

/-- A sign that was put, as the program keeps it. -/
def putV (o : Op7) : Value := .agg #[.int .i64 o.a, .int .i64 o.b, .int .i64 o.c, .int .i64 o.d, .int .i64 o.s, .int .i64 o.g]
/-- The sign of an id. -/
def putAt (l : List Op7) (x : Int × Int) : Option Op7 := match l.find? (hasId x.1 x.2) with | some o => if o.k = 1 then some o else none | none => none
def signF (l : List Op7) : Int × Int → Option Value := l.foldl (fun f o => if o.k = 1 then upd f (o.a, o.b) (putV o) else f) (fun _ => none)
theorem signF_put {l : List Op7} {o : Op7} (h : o.k = 1) : signF (l ++ [o]) = upd (signF l) (o.a, o.b) (putV o) := by simp [signF, h]
theorem signF_take {l : List Op7} {o : Op7} (h : o.k ≠ 1) : signF (l ++ [o]) = signF l := by simp [signF, h]

/-- Each stands once. -/
def OnceIds (l : List Op7) : Prop := ∀ (i j : Nat) (o p : Op7), l[i]? = some o → l[j]? = some p → o.a = p.a → o.b = p.b → i = j
theorem once_of {l : List Op7} (hok : l.all okO = true) (hord : ordB l = true) : OnceIds l := by
  intro i j o p ho hp ha hb
  obtain ⟨hi, rfl⟩ := List.getElem?_eq_some_iff.1 ho
  obtain ⟨hj, rfl⟩ := List.getElem?_eq_some_iff.1 hp
  have h1 := place_of hok hord hi
  have h2 := place_of hok hord hj
  rw [ha, hb, h2] at h1
  omega
theorem OnceIds.init {l : List Op7} {o : Op7} (h : OnceIds (l ++ [o])) : OnceIds l ∧ ∀ p ∈ l, ¬ (p.a = o.a ∧ p.b = o.b) := by
  have hl : ∀ (i : Nat) (p : Op7), l[i]? = some p → i < l.length ∧ (l ++ [o])[i]? = some p := fun i p hp => by
    have hi := (List.getElem?_eq_some_iff.1 hp).1
    exact ⟨hi, by rw [List.getElem?_append_left hi]; exact hp⟩
  refine ⟨fun i j p q hp hq ha hb => h i j p q (hl i p hp).2 (hl j q hq).2 ha hb, fun p hp hx => ?_⟩
  obtain ⟨i, hi⟩ := List.mem_iff_getElem?.1 hp
  have := h i l.length p o (hl i p hi).2 (by simp) hx.1 hx.2
  have := (hl i p hi).1
  omega
theorem signF_is : ∀ (l : List Op7), OnceIds l → ∀ x, signF l x = (putAt l x).map putV := by
  intro l
  induction hn : l.length generalizing l with
  | zero =>
    intro _ x
    obtain rfl := List.length_eq_zero_iff.1 hn
    simp [signF, putAt]
  | succ n ih =>
    intro h x
    have hne : l ≠ [] := by intro e; subst e; simp at hn
    obtain ⟨l', o, rfl⟩ : ∃ l' o, l = l' ++ [o] := ⟨l.dropLast, l.getLast hne, (List.dropLast_concat_getLast hne).symm⟩
    obtain ⟨h1, h2⟩ := h.init
    have ih' := ih l' (by simpa using hn) h1
    by_cases hx : hasId x.1 x.2 o = true
    · have hx' : o.a = x.1 ∧ o.b = x.2 := by simpa [hasId] using hx
      have hnone : l'.find? (hasId x.1 x.2) = none := by
        rw [List.find?_eq_none]
        intro p hp hc
        have hc' : p.a = x.1 ∧ p.b = x.2 := by simpa [hasId] using hc
        exact h2 p hp ⟨by omega, by omega⟩
      have hfind : (l' ++ [o]).find? (hasId x.1 x.2) = some o := by rw [List.find?_append, hnone]; simp [hx]
      have hold : signF l' x = none := by rw [ih']; simp [putAt, hnone]
      have hxe : x = (o.a, o.b) := by rw [hx'.1, hx'.2]
      by_cases hk : o.k = 1
      · rw [signF_put hk]; unfold putAt; rw [hfind]; simp [upd, hk, hxe]
      · rw [signF_take hk, hold]; unfold putAt; rw [hfind]; simp [hk]
    · have hne' : x ≠ (o.a, o.b) := fun e => hx (by rw [e]; simp [hasId])
      have hfind : (l' ++ [o]).find? (hasId x.1 x.2) = l'.find? (hasId x.1 x.2) := by
        rw [List.find?_append]; simp [hx]
      have hold : (putAt (l' ++ [o]) x) = putAt l' x := by unfold putAt; rw [hfind]
      rw [hold, ← ih' x]
      by_cases hk : o.k = 1
      · rw [signF_put hk]; simp [upd, hne']
      · rw [signF_take hk]

/-- How often a sign was taken away. -/
def takesN (l : List Op7) (x : Int × Int) : Nat := l.countP (fun o => !(o.k == 1) && (o.c == x.1 && o.d == x.2))
def takeF (l : List Op7) (x : Int × Int) : Option Value := if takesN l x = 0 then none else some (.int .i64 (takesN l x : Nat))
theorem takeF_put {l : List Op7} {o : Op7} (h : o.k = 1) : takeF (l ++ [o]) = takeF l := by
  funext x; simp [takeF, takesN, List.countP_append, h]
theorem takeF_take {l : List Op7} {o : Op7} (h : o.k ≠ 1) : takeF (l ++ [o]) = upd (takeF l) (o.c, o.d) (.int .i64 ((takesN l (o.c, o.d) : Int) + 1)) := by
  funext x
  by_cases hx : x = (o.c, o.d)
  · subst hx
    have : takesN (l ++ [o]) (o.c, o.d) = takesN l (o.c, o.d) + 1 := by simp [takesN, List.countP_append, h]
    simp [takeF, upd, this]
  · have hxx : ¬ (o.c = x.1 ∧ o.d = x.2) := fun e => hx (by rw [e.1, e.2])
    have : takesN (l ++ [o]) x = takesN l x := by
      have hf : (!(o.k == 1) && (o.c == x.1 && o.d == x.2)) = false := by
        cases hc : (o.c == x.1 && o.d == x.2)
        · simp
        · exact absurd (by simpa using hc) hxx
      simp [takesN, List.countP_append, hf]
    simp [takeF, upd, hx, this]
theorem takeF_get (l : List Op7) (x : Int × Int) : (takeF l x).getD (.int .i64 0) = .int .i64 (takesN l x : Nat) := by
  unfold takeF; split
  · rename_i h; simp [h]
  · simp
theorem takesN_le (l : List Op7) (x : Int × Int) : takesN l x ≤ l.length := List.countP_le_length

def isKid (x : Int × Int × Int) (o : Op7) : Bool := o.k == 1 && (o.c == x.1 && (o.d == x.2.1 && o.s == x.2.2))
/-- Which signs were put beside one, on a side. -/
def kidsL (l : List Op7) (x : Int × Int × Int) : List Op7 := l.filter (isKid x)
/-- The cells of signs, one behind the other. -/
def putCells (L : List Op7) : List Value := L.flatMap fun o => [.int .i64 o.a, .int .i64 o.b, .int .i64 o.c, .int .i64 o.d, .int .i64 o.s, .int .i64 o.g]
theorem putCells_len : ∀ L : List Op7, (putCells L).length = L.length * 6
  | [] => rfl
  | o :: r => by have := putCells_len r; simp [putCells] at this ⊢; omega
theorem kids_same {l : List Op7} {o : Op7} {x : Int × Int × Int} (h : isKid x o = false) : kidsL (l ++ [o]) x = kidsL l x := by simp [kidsL, List.filter_append, h]
theorem kids_more {l : List Op7} {o : Op7} {x : Int × Int × Int} (h : isKid x o = true) : kidsL (l ++ [o]) x = kidsL l x ++ [o] := by simp [kidsL, List.filter_append, h]

/-- Block b holds kids by their places, each list in a row of its own. -/
def KidsFn (w : World) (b base : Nat) (l : List Op7) (f : Int × Int × Int → Option Value) : Prop :=
  MapFn Tryd.prog 73 w b encSpot f ∧ b < base ∧
  (∀ x, (f x = none ∧ kidsL l x = []) ∨ ∃ v, f x = some v ∧ w.ownsRow base 77 6 v (kidsL l x).length (putCells (kidsL l x))) ∧
  ∀ x y v v', x ≠ y → f x = some v → f y = some v' → v.ownBlock = none ∨ v.ownBlock ≠ v'.ownBlock
theorem KidsFn.at {w : World} {b base : Nat} {l : List Op7} {f : Int × Int × Int → Option Value} (h : KidsFn w b base l f) (x : Int × Int × Int) :
    w.ownsRow base 77 6 ((f x).getD (.slice none 0 0)) (kidsL l x).length (putCells (kidsL l x)) := by
  rcases h.2.2.1 x with ⟨h1, h2⟩ | ⟨v, h1, h2⟩
  · rw [h1, h2]; exact World.ownsRow_nil _ _ _ _
  · rw [h1]; exact h2
theorem KidsFn.kept {w w' : World} {b base : Nat} {row : Option Nat} {l : List Op7} {f : Int × Int × Int → Option Value} (h : KidsFn w b base l f) (hg : w.grownBy w' row) (hr : ∀ j, row = some j → j < base ∧ j ≠ b) : KidsFn w' b base l f := by
  refine ⟨h.1.kept hg (fun e => (hr b e.symm).2 rfl), h.2.1, fun x => ?_, h.2.2.2⟩
  rcases h.2.2.1 x with h1 | ⟨v, h1, h2⟩
  · exact .inl h1
  · refine .inr ⟨v, h1, h2.kept hg ?_⟩
    cases hv : v.ownBlock with
    | none => exact .inl rfl
    | some j =>
      refine .inr fun e => ?_
      have h3 := (h2.lt j hv).1
      have h4 := (hr j e.symm).1
      omega
/-- An entry, made where there is none. -/
theorem KidsFn.entry {w w' : World} {b base : Nat} {l : List Op7} {f : Int × Int × Int → Option Value} (h : KidsFn w b base l f) (x : Int × Int × Int) (hg : w.grownBy w' (some b)) (hM : MapFn Tryd.prog 73 w' b encSpot (upd f x ((f x).getD (.slice none 0 0)))) : KidsFn w' b base l (upd f x ((f x).getD (.slice none 0 0))) := by
  have keep : ∀ {v : Value} {n : Nat} {xs : List Value}, w.ownsRow base 77 6 v n xs → w'.ownsRow base 77 6 v n xs := fun {v n xs} hv => by
    refine hv.kept hg ?_
    cases hb : v.ownBlock with
    | none => exact .inl rfl
    | some j =>
      refine .inr fun e => ?_
      have h1 := (hv.lt j hb).1
      have h2 := Option.some.inj e
      have h3 := h.2.1
      omega
  refine ⟨hM, h.2.1, fun y => ?_, fun y z v v' hyz hy hz => ?_⟩
  · by_cases hy : y = x
    · subst hy
      exact .inr ⟨_, by simp [upd], keep (h.at y)⟩
    · rcases h.2.2.1 y with ⟨h1, h2⟩ | ⟨v, h1, h2⟩
      · exact .inl ⟨by simp [upd, hy, h1], h2⟩
      · exact .inr ⟨v, by simp [upd, hy, h1], keep h2⟩
  · by_cases hy1 : y = x
    · have hz1 : z ≠ x := fun e => hyz (hy1.trans e.symm)
      simp only [upd, hy1, if_true, Option.some.injEq] at hy
      simp only [upd, hz1, if_false] at hz
      cases hf : f x with
      | none => rw [hf] at hy; left; rw [← hy]; rfl
      | some u => rw [hf] at hy; exact h.2.2.2 x z v v' (Ne.symm hz1) (by rw [hf]; simpa using hy) hz
    · simp only [upd, hy1, if_false] at hy
      by_cases hz1 : z = x
      · simp only [upd, hz1, if_true, Option.some.injEq] at hz
        cases hf : f x with
        | none =>
          rw [hf] at hz
          rw [← hz]
          cases hv : v.ownBlock with
          | none => exact .inl rfl
          | some j => exact .inr (by simp [Value.ownBlock])
        | some u => rw [hf] at hz; exact h.2.2.2 y x v v' hy1 hy (by rw [hf]; simpa using hz)
      · simp only [upd, hz1, if_false] at hz
        exact h.2.2.2 y z v v' hyz hy hz
theorem KidsFn.mapKept {w w' : World} {b base : Nat} {l : List Op7} {f : Int × Int × Int → Option Value} (h : KidsFn w b base l f) {x : Int × Int × Int} (hg : w.grownBy w' ((f x).getD (.slice none 0 0)).ownBlock) : MapFn Tryd.prog 73 w' b encSpot f :=
  h.1.kept hg (fun e => by
    have h1 := ((h.at x).lt b e.symm).1
    have h2 := h.2.1
    omega)
/-- With one more. -/
theorem KidsFn.back {w w' w'' : World} {b base : Nat} {l : List Op7} {f : Int × Int × Int → Option Value} (h : KidsFn w b base l f) (hbs : base ≤ w.heap.size) {o : Op7} (hk : o.k = 1) {v' : Value}
    (hg : w.grownBy w' ((f (o.c, o.d, o.s)).getD (.slice none 0 0)).ownBlock)
    (hown : w'.ownsRow base 77 6 v' ((kidsL l (o.c, o.d, o.s)).length + 1) (putCells (kidsL l (o.c, o.d, o.s)) ++ [.int .i64 o.a, .int .i64 o.b, .int .i64 o.c, .int .i64 o.d, .int .i64 o.s, .int .i64 o.g]))
    (hloc : v'.ownBlock = ((f (o.c, o.d, o.s)).getD (.slice none 0 0)).ownBlock ∨ ∃ j, v'.ownBlock = some j ∧ w.heap.size ≤ j)
    (hM : MapFn Tryd.prog 73 w'' b encSpot (upd f (o.c, o.d, o.s) v')) (hg2 : w'.grownBy w'' (some b)) : KidsFn w'' b base (l ++ [o]) (upd f (o.c, o.d, o.s) v') := by
  have hx0 : isKid (o.c, o.d, o.s) o = true := by simp [isKid, hk]
  have hoth : ∀ y, y ≠ (o.c, o.d, o.s) → isKid y o = false := fun y hy => by
    cases hc : isKid y o
    · rfl
    · simp [isKid] at hc
      exact absurd (by rw [hc.2.1, hc.2.2.1, hc.2.2.2]) hy
  have keep2 : ∀ {v : Value} {n : Nat} {xs : List Value}, w'.ownsRow base 77 6 v n xs → w''.ownsRow base 77 6 v n xs := fun {v n xs} hv => by
    refine hv.kept hg2 ?_
    cases hb : v.ownBlock with
    | none => exact .inl rfl
    | some j =>
      refine .inr fun e => ?_
      have h1 := (hv.lt j hb).1
      have h2 := Option.some.inj e
      have h3 := h.2.1
      omega
  refine ⟨hM, h.2.1, fun y => ?_, fun x y v v1 hxy hx hy => ?_⟩
  · by_cases hy : y = (o.c, o.d, o.s)
    · subst hy
      refine .inr ⟨v', by simp [upd], ?_⟩
      rw [kids_more hx0]
      have e1 : putCells (kidsL l (o.c, o.d, o.s) ++ [o]) = putCells (kidsL l (o.c, o.d, o.s)) ++ [.int .i64 o.a, .int .i64 o.b, .int .i64 o.c, .int .i64 o.d, .int .i64 o.s, .int .i64 o.g] := by simp [putCells]
      rw [e1, List.length_append]
      exact keep2 hown
    · rw [kids_same (hoth y hy)]
      rcases h.2.2.1 y with ⟨h1, h2⟩ | ⟨v, h1, h2⟩
      · exact .inl ⟨by simp [upd, hy, h1], h2⟩
      · refine .inr ⟨v, by simp [upd, hy, h1], keep2 (h2.kept hg ?_)⟩
        cases hf : f (o.c, o.d, o.s) with
        | none =>
          cases hv : v.ownBlock with
          | none => exact .inl rfl
          | some j => exact .inr (by simp [Value.ownBlock])
        | some v0 => exact h.2.2.2 y _ v v0 hy h1 hf
  · have old : ∀ y v, y ≠ (o.c, o.d, o.s) → f y = some v → v'.ownBlock = none ∨ (v.ownBlock = none ∨ v.ownBlock ≠ v'.ownBlock) := fun y v hy hv => by
      rcases hloc with hl | ⟨j, hl, hj⟩
      · cases hf : f (o.c, o.d, o.s) with
        | none => left; rw [hl, hf]; rfl
        | some v0 => right; rw [hl, hf]; exact h.2.2.2 y _ v v0 hy hv hf
      · right
        cases hb : v.ownBlock with
        | none => exact .inl rfl
        | some i =>
          right; rw [hl]; intro e
          rcases h.2.2.1 y with ⟨h1, _⟩ | ⟨u, h1, h2⟩
          · rw [h1] at hv; cases hv
          · rw [h1] at hv; obtain rfl := Option.some.inj hv
            have h3 := (h2.lt i hb).2
            have h4 := Option.some.inj e
            omega
    by_cases h1 : x = (o.c, o.d, o.s)
    · have h2 : y ≠ (o.c, o.d, o.s) := fun e => hxy (h1.trans e.symm)
      simp only [upd, h1, if_true, Option.some.injEq] at hx
      simp only [upd, h2, if_false] at hy
      subst hx
      rcases old y v1 h2 hy with e | e | e
      · exact .inl e
      · exact .inr (fun e' => by
          have e2 := e'.trans e
          have := (keep2 hown)
          rcases hown.2 with ⟨_, h0⟩ | ⟨g, cap, cur, hv, _⟩
          · omega
          · rw [hv] at e2; simp [Value.ownBlock] at e2)
      · exact .inr (Ne.symm e)
    · simp only [upd, h1, if_false] at hx
      by_cases h2 : y = (o.c, o.d, o.s)
      · simp only [upd, h2, if_true, Option.some.injEq] at hy
        subst hy
        rcases old x v h1 hx with e | e | e
        · cases hb : v.ownBlock with
          | none => exact .inl rfl
          | some j => exact .inr (by rw [e]; simp)
        · exact .inl e
        · exact .inr e
      · simp only [upd, h2, if_false] at hy
        exact h.2.2.2 x y v v1 hxy hx hy

/-- The tree of what was done lies in three maps. -/
def TreeAt (w : World) (b1 b2 b3 base : Nat) (l : List Op7) : Prop :=
  MapFn Tryd.prog 38 w b1 encId (signF l) ∧ (∃ f, KidsFn w b2 base l f) ∧ MapFn Tryd.prog 38 w b3 encId (takeF l)
theorem TreeAt.below {w w' : World} {b1 b2 b3 base : Nat} {l : List Op7} (h : TreeAt w b1 b2 b3 base l) (hb : Below w.heap.size w w') : TreeAt w' b1 b2 b3 base l := by
  obtain ⟨h1, ⟨f, h2⟩, h3⟩ := h
  have hg : w.grownBy w' none := ⟨hb.os, hb.tape, hb.output, hb.size, fun i hi _ => hb.block i hi⟩
  exact ⟨h1.below hb h1.lt, ⟨f, h2.kept hg (fun j e => by cases e)⟩, h3.below hb h3.lt⟩
end Go.Proofs.YtpkdadccapemcaaDoor
