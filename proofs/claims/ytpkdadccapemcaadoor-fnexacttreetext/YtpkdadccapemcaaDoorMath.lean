/- Plain lists of things: no Go in sight. -/
import Derived.Test.YtpkdadccapemcaaDoorBase
namespace Go.Proofs.YtpkdadccapemcaaDoor

theorem hideIt {p : Prop} (h : p) : RowKit.Hid p := h

/-- A thing, by its seven numbers. -/
structure Op7 where
  a : Int
  b : Int
  k : Int
  c : Int
  d : Int
  s : Int
  g : Int

/-- A thing is in form. -/
def okO (o : Op7) : Bool := opB o.a o.b o.k o.c o.d o.s o.g
def hasId (r m : Int) (o : Op7) : Bool := o.a == r && o.b == m
/-- Where a thing of that id stands first. -/
def findI (l : List Op7) (r m : Int) : Int := match l.findIdx? (hasId r m) with | some i => i | none => -1

theorem findI_none {l : List Op7} {r m : Int} (h : ∀ o ∈ l, hasId r m o = false) : findI l r m = -1 := by
  unfold findI
  rw [List.findIdx?_eq_none_iff.2 (by simpa using h)]
theorem findI_some {l : List Op7} {r m : Int} {k : Nat} (hk : k < l.length) (h : hasId r m l[k] = true) (hb : ∀ j (hj : j < k), hasId r m (l[j]'(by omega)) = false) : findI l r m = k := by
  unfold findI
  rw [List.findIdx?_eq_some_iff_getElem.2 ⟨hk, h, fun j hj => by simp [hb j hj]⟩]

/-- The cells of things in a block, one behind the other. -/
def OpsAt (w : World) (g : Nat) (l : List Op7) : Prop := g < w.heap.size ∧ ∀ (i : Nat) (o : Op7), l[i]? = some o →
  w.cell? ⟨g, i * 7, none⟩ = some (.int .i64 o.a) ∧ w.cell? ⟨g, i * 7 + 1, none⟩ = some (.int .i64 o.b) ∧ w.cell? ⟨g, i * 7 + 2, none⟩ = some (.int .i64 o.k) ∧ w.cell? ⟨g, i * 7 + 3, none⟩ = some (.int .i64 o.c) ∧
  w.cell? ⟨g, i * 7 + 4, none⟩ = some (.int .i64 o.d) ∧ w.cell? ⟨g, i * 7 + 5, none⟩ = some (.int .i64 o.s) ∧ w.cell? ⟨g, i * 7 + 6, none⟩ = some (.int .i64 o.g)
open RowKit in
theorem OpsAt.below {w w' : World} {g B : Nat} {l : List Op7} (h : OpsAt w g l) (hb : Below B w w') (hB : g < B) : OpsAt w' g l := by
  refine ⟨Nat.lt_of_lt_of_le h.1 hb.size, fun i o ho => ?_⟩
  obtain ⟨h0, h1, h2, h3, h4, h5, h6⟩ := h.2 i o ho
  exact ⟨(hb.cell (p := ⟨g, _, none⟩) hB).trans h0, (hb.cell (p := ⟨g, _, none⟩) hB).trans h1, (hb.cell (p := ⟨g, _, none⟩) hB).trans h2, (hb.cell (p := ⟨g, _, none⟩) hB).trans h3, (hb.cell (p := ⟨g, _, none⟩) hB).trans h4, (hb.cell (p := ⟨g, _, none⟩) hB).trans h5, (hb.cell (p := ⟨g, _, none⟩) hB).trans h6⟩

/-- The next thing behind pr, pn, in order. -/
def stepB (pr pn r m : Int) : Bool := decide ((pr < r ∧ m = 1) ∨ (pr = r ∧ m = pn + 1))
theorem stepB_true {pr pn r m : Int} (h : (pr < r ∧ m = 1) ∨ (pr = r ∧ m = pn + 1)) : stepB pr pn r m = true := decide_eq_true h
theorem stepB_false {pr pn r m : Int} (h : ¬ ((pr < r ∧ m = 1) ∨ (pr = r ∧ m = pn + 1))) : stepB pr pn r m = false := decide_eq_false h
def prevA (l : List Op7) : Nat → Int
  | 0 => 0
  | j + 1 => match l[j]? with | some o => o.a | none => 0
def prevB (l : List Op7) : Nat → Int
  | 0 => 0
  | j + 1 => match l[j]? with | some o => o.b | none => 0
def stepAt (l : List Op7) (j : Nat) : Bool := match l[j]? with | some o => stepB (prevA l j) (prevB l j) o.a o.b | none => true
/-- They stand in order, each one's from 1 on. -/
def ordB (l : List Op7) : Bool := (List.range l.length).all (stepAt l)
/-- What a thing refers to, if it is there. -/
def nextO (l : List Op7) (o : Op7) : Option Op7 := match l.findIdx? (hasId o.c o.d) with | some i => l[i]? | none => none
/-- What a thing refers to is nothing, or was put. -/
def refsB (l : List Op7) (o : Op7) : Bool := noB o.c o.d || (match nextO l o with | some p => p.k == 1 | none => false)
/-- One comes to nothing within n steps. -/
def deepF (l : List Op7) : Nat → Op7 → Bool
  | 0, _ => false
  | n + 1, o => if noB o.c o.d then true else match nextO l o with | some p => deepF l n p | none => false
/-- What was done is ok. -/
def opsB (l : List Op7) : Bool := l.all okO && (ordB l && (l.all (refsB l) && l.all (deepF l (l.length + 1))))

theorem all_iff {l : List Op7} {p : Op7 → Bool} : l.all p = true ↔ ∀ j (hj : j < l.length), p l[j] = true := by
  rw [List.all_eq_true]
  exact ⟨fun h j hj => h _ (List.getElem_mem hj), fun h o ho => by obtain ⟨j, hj, rfl⟩ := List.getElem_of_mem ho; exact h j hj⟩
theorem all_false {l : List Op7} {p : Op7 → Bool} {j : Nat} (hj : j < l.length) (h : p l[j] = false) : l.all p = false := by
  cases ha : l.all p
  · rfl
  · rw [all_iff.1 ha j hj] at h; cases h
theorem ord_iff {l : List Op7} : ordB l = true ↔ ∀ j, j < l.length → stepAt l j = true := by
  unfold ordB
  rw [List.all_eq_true]
  simp
theorem ord_false {l : List Op7} {j : Nat} (hj : j < l.length) (h : stepAt l j = false) : ordB l = false := by
  cases ha : ordB l
  · rfl
  · rw [ord_iff.1 ha j hj] at h; cases h
theorem step_zero {l : List Op7} (h : 0 < l.length) : stepAt l 0 = stepB 0 0 l[0].a l[0].b := by
  simp [stepAt, h, prevA, prevB]
theorem step_succ {l : List Op7} {j : Nat} (h : j + 1 < l.length) : stepAt l (j + 1) = stepB l[j].a l[j].b l[j + 1].a l[j + 1].b := by
  have h' : j < l.length := by omega
  simp [stepAt, h, prevA, prevB, h']
theorem okO_id {o : Op7} (h : okO o = true) : 1 ≤ o.a ∧ o.a ≤ 3 ∧ 1 ≤ o.b ∧ o.b ≤ 12 := by
  unfold okO at h; rw [opB_true] at h; exact h.1

/-- A thing as the program keeps it. -/
def thV (o : Op7) : Value := if o.k = 1 then .iface 77 (.agg #[.int .i64 o.a, .int .i64 o.b, .int .i64 o.c, .int .i64 o.d, .int .i64 o.s, .int .i64 o.g]) else .iface 89 (.agg #[.int .i64 o.a, .int .i64 o.b, .int .i64 o.c, .int .i64 o.d])
/-- The cells of things as the program keeps them. -/
def ThingsAt (w : World) (g : Nat) (l : List Op7) : Prop := g < w.heap.size ∧ ∀ (i : Nat) (o : Op7), l[i]? = some o → w.cell? ⟨g, i, none⟩ = some (thV o)
open RowKit in
theorem ThingsAt.below {w w' : World} {g B : Nat} {l : List Op7} (h : ThingsAt w g l) (hb : Below B w w') (hB : g < B) : ThingsAt w' g l :=
  ⟨Nat.lt_of_lt_of_le h.1 hb.size, fun i o ho => (hb.cell (p := ⟨g, _, none⟩) hB).trans (h.2 i o ho)⟩
theorem thV_cases {o : Op7} (h : okO o = true) : (thV o = .iface 77 (.agg #[.int .i64 o.a, .int .i64 o.b, .int .i64 o.c, .int .i64 o.d, .int .i64 o.s, .int .i64 o.g]) ∧ o.k = 1) ∨ (thV o = .iface 89 (.agg #[.int .i64 o.a, .int .i64 o.b, .int .i64 o.c, .int .i64 o.d]) ∧ o.k = 2) := by
  unfold okO at h; rw [opB_true] at h
  rcases h.2.2 with h | h
  · exact .inl ⟨by unfold thV; rw [if_pos h.1], h.1⟩
  · exact .inr ⟨by unfold thV; rw [if_neg (by omega)], h.1⟩
theorem prevA_le {l : List Op7} (h : l.all okO = true) (k : Nat) (hk : k ≤ l.length) : 0 ≤ prevA l k ∧ prevA l k ≤ 3 ∧ 0 ≤ prevB l k ∧ prevB l k ≤ 12 := by
  rcases k with _ | k
  · simp [prevA, prevB]
  · have hk' : k < l.length := by omega
    have := okO_id (all_iff.1 h k hk')
    simp only [prevA, prevB, List.getElem?_eq_getElem hk']
    omega
theorem prev_succ {l : List Op7} {k : Nat} (hk : k < l.length) : prevA l (k + 1) = l[k].a ∧ prevB l (k + 1) = l[k].b := by
  simp [prevA, prevB, hk]
theorem step_at {l : List Op7} {k : Nat} (hk : k < l.length) : stepAt l k = stepB (prevA l k) (prevB l k) l[k].a l[k].b := by
  simp [stepAt, hk]

/-- The cells of numbers. -/
def IntsAt (w : World) (g : Nat) (xs : List Int) : Prop := g < w.heap.size ∧ ∀ (i : Nat) (x : Int), xs[i]? = some x → w.cell? ⟨g, i, none⟩ = some (.int .i64 x)
open RowKit in
theorem IntsAt.below {w w' : World} {g B : Nat} {xs : List Int} (h : IntsAt w g xs) (hb : Below B w w') (hB : g < B) : IntsAt w' g xs :=
  ⟨Nat.lt_of_lt_of_le h.1 hb.size, fun i o ho => (hb.cell (p := ⟨g, _, none⟩) hB).trans (h.2 i o ho)⟩
def isRep (r : Int) (o : Op7) : Bool := o.a == r
/-- How many of the first k things are r's. -/
def cntTo (l : List Op7) (k : Nat) (r : Int) : Int := ((l.take k).countP (isRep r) : Nat)
/-- How many things are r's. -/
def cnt (l : List Op7) (r : Int) : Int := (l.countP (isRep r) : Nat)
theorem cntTo_zero (l : List Op7) (r : Int) : cntTo l 0 r = 0 := by simp [cntTo]
theorem cntTo_len (l : List Op7) (r : Int) : cntTo l l.length r = cnt l r := by simp [cntTo, cnt]
theorem cntTo_same {l : List Op7} {k : Nat} {r : Int} (hk : k < l.length) (h : l[k].a = r) : cntTo l (k + 1) r = cntTo l k r + 1 := by
  unfold cntTo
  rw [List.take_succ_eq_append_getElem hk, List.countP_append]
  simp [isRep, h]
theorem cntTo_other {l : List Op7} {k : Nat} {r : Int} (hk : k < l.length) (h : l[k].a ≠ r) : cntTo l (k + 1) r = cntTo l k r := by
  unfold cntTo
  rw [List.take_succ_eq_append_getElem hk, List.countP_append]
  simp [isRep, h]
theorem cntTo_le (l : List Op7) (k : Nat) (r : Int) : 0 ≤ cntTo l k r ∧ cntTo l k r ≤ k := by
  unfold cntTo
  have h1 := List.countP_le_length (p := isRep r) (l := l.take k)
  have h2 : (l.take k).length ≤ k := List.length_take_le _ _
  omega
end Go.Proofs.YtpkdadccapemcaaDoor
