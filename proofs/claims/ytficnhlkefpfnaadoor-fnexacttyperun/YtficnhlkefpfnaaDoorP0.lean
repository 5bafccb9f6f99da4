/- Contracts of the specification's l2Kids and TreeKids. -/
import Derived.Test.YtficnhlkefpfnaaDoorChecked
import Derived.WalkKit
import Derived.LaidEql
import Derived.Stop.Asserts
import Derived.RowKitTokens
import Derived.Below
import Derived.Handy
import Derived.Outline
import Derived.BigQuiet
import Derived.WalkSmall
import Derived.Deep.RegionHeld3
import Derived.Deep.DrawnRows
import Derived.Deep.RegionWith
import Derived.OwnWalk
import Derived.Maps.OwnOps
import Derived.Maps.AppendAt
import Derived.DeepKeys4
import Derived.WalkArith
namespace Go.Proofs.YtficnhlkefpfnaaDoor
open Go.RowKit Go.Extern.Stop Go.Stop Go.Extern

theorem Tryd.isTypeOf (v : Value) (w : World) : (Extern.ReflectliteType.typeOf #[.iface 200 v]).run Tryd.prog w = .ok (.iface 174 (.agg #[.pointer (some ⟨1, 200, none⟩)])) w := by kernel_rfl
theorem Tryd.isComparable (w : World) : (callFunc 174 #[.agg #[.pointer (some ⟨1, 200, none⟩)]]).run Tryd.prog w = .ok (.value (.bool true)) w := by
  rw [@run_callFunc_extern Tryd.prog 174 _ (Extern.ReflectliteType.method fun t => do Extern.Rtype.noPackHeld "Comparable" t; pure (.bool (← typeInfo t).comparable)) Tryd.func174 (by kernel_rfl) (by kernel_rfl) (by kernel_rfl) (by kernel_rfl)]
  kernel_rfl
theorem Tryd.isMethodComparable (v : Value) (w : World) : (Go.method 338 174 v "Comparable").run Tryd.prog w = .ok (174, v) w := by kernel_rfl
theorem Tryd.isComp : (Tryd.prog.info? 200).map (·.comparable) = some true := by kernel_rfl
theorem Tryd.isSize : (Tryd.prog.info? 226).map (·.size) = some 1 := by kernel_rfl

/-- errors.Is(x, x), x a pointer to an errors.errorString. -/
theorem is_same (a : Addr) (w : World) :
    Calls Tryd.prog 98 #[.iface 200 (.pointer (some a)), .iface 200 (.pointer (some a))] w fun e w' => e = .returned (.bool true) ∧ w' = w := by
  obtain ⟨i, hi, hcmp⟩ := Option.map_eq_some_iff.1 Tryd.isComp
  obtain ⟨j, hj, hjs⟩ := Option.map_eq_some_iff.1 Tryd.isSize
  have h8 := @run_callFunc_extern Tryd.prog 123 _ Extern.ReflectliteType.typeOf Tryd.func123 (by kernel_rfl) (by kernel_rfl) (by kernel_rfl) (by kernel_rfl)
  have tT := Tryd.isTypeOf
  have cT := Tryd.isComparable
  have mR := Tryd.isMethodComparable
  have heq := run_eql_iface_ptr_same (P := Tryd.prog) w a Tryd.underlying120 Tryd.underlying200 hi hcmp hj
  go_enter Tryd.func98, Tryd.ntmps98
  go_wp2
  refine wp_loop_rounds 1 ?_
  rw [rounds_succ]
  go_wp2
  go_ret
  exact ⟨rfl, rfl⟩

/-- errors.Is(nil, x). -/
theorem is_nil (b : Addr) (w : World) :
    Calls Tryd.prog 98 #[.nilIface, .iface 200 (.pointer (some b))] w fun e w' => e = .returned (.bool false) ∧ w' = w := by
  have hn := run_eql_iface_nil_left (P := Tryd.prog) w 200 (.pointer (some b)) Tryd.underlying120
  go_enter Tryd.func98, Tryd.ntmps98
  go_wp2
  go_ret
  exact ⟨rfl, rfl⟩
end Go.Proofs.YtficnhlkefpfnaaDoor

namespace Go.Proofs.YtficnhlkefpfnaaDoor
open Go.RowKit
set_option linter.unusedSimpArgs false
set_option linter.unusedVariables false

theorem ret_bool {x y : Bool} (h : x = y) : Ending.returned (.bool x) = .returned (.bool y) := by rw [h]
theorem bcell {W w1 : World} (hb : Below W.heap.size W w1) : (∀ b o, b < W.heap.size → w1.cell? ⟨b, o, none⟩ = W.cell? ⟨b, o, none⟩) ∧ (∀ b o, b < W.heap.size → w1.frozen? ⟨b, o, none⟩ = W.frozen? ⟨b, o, none⟩) :=
  ⟨fun b o h => hb.cell (p := ⟨b, o, none⟩) h, fun b o h => hb.frozen (p := ⟨b, o, none⟩) h⟩

theorem Bstep {w W w' : World} (h : Below w.heap.size w W) (hb : Below W.heap.size W w') : Below w.heap.size w w' := h.trans (hb.mono h.size)

/-- An id is one. -/
def idB (r n : Int) : Bool := decide (1 ≤ r ∧ r ≤ 3 ∧ 1 ≤ n ∧ n ≤ 12)
/-- What is put is in form. -/
def putB (c d s g : Int) : Bool := decide (97 ≤ g ∧ g ≤ 122 ∧ ((c = 0 ∧ d = 0 ∧ s = 1) ∨ (1 ≤ c ∧ c ≤ 3 ∧ 1 ≤ d ∧ d ≤ 12 ∧ (s = 0 ∨ s = 1))))
/-- What takes away is in form. -/
def takeB (c d s g : Int) : Bool := decide (1 ≤ c ∧ c ≤ 3 ∧ 1 ≤ d ∧ d ≤ 12 ∧ s = 0 ∧ g = 0)
/-- A thing is in form. -/
def opB (a b k c d s g : Int) : Bool := decide ((1 ≤ a ∧ a ≤ 3 ∧ 1 ≤ b ∧ b ≤ 12) ∧ ¬ (c = a ∧ d = b) ∧
  ((k = 1 ∧ 97 ≤ g ∧ g ≤ 122 ∧ ((c = 0 ∧ d = 0 ∧ s = 1) ∨ (1 ≤ c ∧ c ≤ 3 ∧ 1 ≤ d ∧ d ≤ 12 ∧ (s = 0 ∨ s = 1)))) ∨ (k = 2 ∧ 1 ≤ c ∧ c ≤ 3 ∧ 1 ≤ d ∧ d ≤ 12 ∧ s = 0 ∧ g = 0)))

theorem toId_any (a b : Int) (w : World) :
    Calls Tryd.prog 85 #[.agg #[.int .i64 a, .int .i64 b]] w fun e w' => e = .returned (.agg #[.int .i64 a, .int .i64 b]) ∧ Below w.heap.size w w' := by
  go_enter Tryd.func85, Tryd.ntmps85
  go_wp2
  exact bodyPost_ret (v := .agg #[.int .i64 a, .int .i64 b]) (by simp [results, Tryd.results85, go_sem]) rfl ⟨rfl, by go_grown⟩

theorem idOk_any (r n : Int) (w : World) :
    Calls Tryd.prog 134 #[.agg #[.int .i64 r, .int .i64 n]] w fun e w' => e = .returned (.bool (idB r n)) ∧ Below w.heap.size w w' := by
  go_enter Tryd.func134, Tryd.ntmps134
  go_wp2
  all_goals
    go_ret
    exact ⟨ret_bool (by unfold idB; first | exact decide_eq_decide.2 (by omega) | exact (decide_eq_true (by omega)).symm | exact (decide_eq_false (by omega)).symm), by go_grown⟩

theorem isNothing_any (r n : Int) (w : World) :
    Calls Tryd.prog 137 #[.agg #[.int .i64 r, .int .i64 n]] w fun e w' => e = .returned (.bool (decide (r = 0 ∧ n = 0))) ∧ Below w.heap.size w w' := by
  go_enter Tryd.func137, Tryd.ntmps137
  go_wp2
  all_goals
    go_ret
    exact ⟨ret_bool (by first | exact (decide_eq_true (by omega)).symm | exact (decide_eq_false (by omega)).symm), by go_grown⟩

theorem idB_true {r n : Int} : idB r n = true ↔ (1 ≤ r ∧ r ≤ 3 ∧ 1 ≤ n ∧ n ≤ 12) := by simp [idB]
theorem idB_false {r n : Int} : idB r n = false ↔ ¬ (1 ≤ r ∧ r ≤ 3 ∧ 1 ≤ n ∧ n ≤ 12) := by simp [idB]
theorem opB_true {a b k c d s g : Int} : opB a b k c d s g = true ↔ ((1 ≤ a ∧ a ≤ 3 ∧ 1 ≤ b ∧ b ≤ 12) ∧ ¬ (c = a ∧ d = b) ∧
  ((k = 1 ∧ 97 ≤ g ∧ g ≤ 122 ∧ ((c = 0 ∧ d = 0 ∧ s = 1) ∨ (1 ≤ c ∧ c ≤ 3 ∧ 1 ≤ d ∧ d ≤ 12 ∧ (s = 0 ∨ s = 1)))) ∨ (k = 2 ∧ 1 ≤ c ∧ c ≤ 3 ∧ 1 ≤ d ∧ d ≤ 12 ∧ s = 0 ∧ g = 0))) := by unfold opB; exact decide_eq_true_iff

/-- n lies from l to h. -/
def inB (n l h : Int) : Bool := decide (l ≤ n ∧ n ≤ h)
/-- The id 0, 0. -/
def noB (r n : Int) : Bool := decide (r = 0 ∧ n = 0)
theorem nothing_any (r n : Int) (w : World) :
    Calls Tryd.prog 137 #[.agg #[.int .i64 r, .int .i64 n]] w fun e w' => e = .returned (.bool (noB r n)) ∧ Below w.heap.size w w' := isNothing_any r n w

theorem putOk_any (a b k c d s g : Int) (w : World) :
    Calls Tryd.prog 135 #[.agg #[.int .i64 a, .int .i64 b, .int .i64 k, .int .i64 c, .int .i64 d, .int .i64 s, .int .i64 g]] w fun e w' => e = .returned (.bool (putB c d s g)) ∧ Below w.heap.size w w' := by
  by_cases hg : 97 ≤ g ∧ g ≤ 122
  · obtain ⟨hg1, hg2⟩ := hg
    go_enter Tryd.func135, Tryd.ntmps135
    go_wp2_with fail
    refine (nothing_any _ _ _).mono ?_
    rintro e w1 ⟨rfl, hb1⟩
    obtain ⟨hc1, hf1⟩ := bcell hb1
    simp at hc1
    have hz1 := hb1.size
    simp at hz1
    have hB1 : Below w.heap.size w w1 := ((Below.refl _ _).alloc (Nat.le_refl _) _).trans (hb1.mono (by simp))
    clear hf1
    go_wp2_with fail
    · go_ret
      exact ⟨ret_bool (by (try simp only [noB, putB, Bool.not_eq_true, decide_eq_true_eq, decide_eq_false_iff_not, bne_iff_ne, beq_iff_eq, beq_eq_false_iff_ne, ne_eq] at *); first | (apply decide_eq_decide.2; omega) | (symm; apply decide_eq_true; omega) | (symm; apply decide_eq_false; omega) | (rw [Bool.eq_iff_iff]; simp only [Bool.and_eq_true, Bool.or_eq_true, decide_eq_true_eq, beq_iff_eq, bne_iff_ne, Bool.not_eq_true, ne_eq]; omega)), hB1⟩
    · refine (idOk_any _ _ _).mono ?_
      rintro e w2 ⟨rfl, hb2⟩
      have hc2 : ∀ o, w2.cell? ⟨w.heap.size, o, none⟩ = w1.cell? ⟨w.heap.size, o, none⟩ := fun o => (bcell hb2).1 _ _ (by omega)
      have hB2 : Below w.heap.size w w2 := hB1.trans (hb2.mono (by omega))
      go_wp2
      all_goals
        go_ret
        exact ⟨ret_bool (by (try simp only [noB, idB, putB, Bool.not_eq_true, decide_eq_true_eq, decide_eq_false_iff_not, bne_iff_ne, beq_iff_eq, beq_eq_false_iff_ne, ne_eq] at *); first | (apply decide_eq_decide.2; omega) | (symm; apply decide_eq_true; omega) | (symm; apply decide_eq_false; omega) | (rw [Bool.eq_iff_iff]; simp only [Bool.and_eq_true, Bool.or_eq_true, decide_eq_true_eq, beq_iff_eq, bne_iff_ne, Bool.not_eq_true, ne_eq]; omega)), hB2⟩
  · have hg' : putB c d s g = false := decide_eq_false (by omega)
    rw [hg']
    clear hg'
    by_cases h2 : g < 97
    · go_enter Tryd.func135, Tryd.ntmps135
      go_wp2
      go_ret
      exact ⟨rfl, by go_grown⟩
    · have h3 : 122 < g := by omega
      go_enter Tryd.func135, Tryd.ntmps135
      go_wp2
      go_ret
      exact ⟨rfl, by go_grown⟩
theorem takeOk_any (a b k c d s g : Int) (w : World) :
    Calls Tryd.prog 136 #[.agg #[.int .i64 a, .int .i64 b, .int .i64 k, .int .i64 c, .int .i64 d, .int .i64 s, .int .i64 g]] w fun e w' => e = .returned (.bool (takeB c d s g)) ∧ Below w.heap.size w w' := by
  go_enter Tryd.func136, Tryd.ntmps136
  go_wp2_with (first | (go_at_call 134; refine (idOk_any _ _ _).mono ?_; rintro e w' ⟨rfl, hb⟩; obtain ⟨hc, hf⟩ := bcell hb; simp at hc))
  all_goals
    go_ret
    exact ⟨ret_bool (by (try simp only [idB, takeB, Bool.not_eq_true, decide_eq_true_eq, decide_eq_false_iff_not, bne_iff_ne, beq_iff_eq, beq_eq_false_iff_ne, ne_eq] at *); first | (apply decide_eq_decide.2; omega) | (symm; apply decide_eq_true; omega) | (symm; apply decide_eq_false; omega) | (rw [Bool.eq_iff_iff]; simp only [Bool.and_eq_true, Bool.or_eq_true, decide_eq_true_eq, beq_iff_eq, bne_iff_ne, Bool.not_eq_true, ne_eq]; omega)), ((Below.refl _ _).alloc (Nat.le_refl _) _).trans (hb.mono (by simp))⟩
theorem l6In_any (n l h : Int) (w : World) :
    Calls Tryd.prog 62 #[.int .i64 n, .int .i64 l, .int .i64 h] w fun e w' => e = .returned (.bool (inB n l h)) ∧ w' = w := by
  go_enter Tryd.func62, Tryd.ntmps62
  go_wp2
  all_goals
    go_ret
    exact ⟨ret_bool (by (try simp only [inB, Bool.not_eq_true, decide_eq_true_eq, decide_eq_false_iff_not, bne_iff_ne, beq_iff_eq, beq_eq_false_iff_ne, ne_eq] at *); first | (apply decide_eq_decide.2; omega) | (symm; apply decide_eq_true; omega) | (symm; apply decide_eq_false; omega) | (rw [Bool.eq_iff_iff]; simp only [Bool.and_eq_true, Bool.or_eq_true, decide_eq_true_eq, beq_iff_eq, bne_iff_ne, Bool.not_eq_true, ne_eq]; omega)), rfl⟩
theorem l1Id_any (r n : Int) (w : World) :
    Calls Tryd.prog 108 #[.agg #[.int .i64 r, .int .i64 n]] w fun e w' => e = .returned (.bool (idB r n)) ∧ Below w.heap.size w w' := by
  go_enter Tryd.func108, Tryd.ntmps108
  go_wp2_with (first | (go_at_call 62; refine (l6In_any _ _ _ _).mono ?_; rintro e w' ⟨rfl, rfl⟩))
  all_goals
    go_ret
    exact ⟨ret_bool (by (try simp only [inB, idB, Bool.not_eq_true, decide_eq_true_eq, decide_eq_false_iff_not, bne_iff_ne, beq_iff_eq, beq_eq_false_iff_ne, ne_eq] at *); first | (apply decide_eq_decide.2; omega) | (symm; apply decide_eq_true; omega) | (symm; apply decide_eq_false; omega) | (rw [Bool.eq_iff_iff]; simp only [Bool.and_eq_true, Bool.or_eq_true, decide_eq_true_eq, beq_iff_eq, bne_iff_ne, Bool.not_eq_true, ne_eq]; omega)), by go_grown⟩
end Go.Proofs.YtficnhlkefpfnaaDoor

namespace Go.Proofs.YtficnhlkefpfnaaDoor

theorem hideIt {p : Prop} (h : p) : RowKit.Hid p := h

/-- A thing, by its seven numbers. -/
structure Op7 where
  a : Int
  b : Int
  k : Int
  c : Int
  d : Int
  s : Int
  g : Int

/-- A thing is in form. -/
def okO (o : Op7) : Bool := opB o.a o.b o.k o.c o.d o.s o.g
def hasId (r m : Int) (o : Op7) : Bool := o.a == r && o.b == m
/-- Where a thing of that id stands first. -/
def findI (l : List Op7) (r m : Int) : Int := match l.findIdx? (hasId r m) with | some i => i | none => -1

theorem findI_none {l : List Op7} {r m : Int} (h : ∀ o ∈ l, hasId r m o = false) : findI l r m = -1 := by
  unfold findI
  rw [List.findIdx?_eq_none_iff.2 (by simpa using h)]
theorem findI_some {l : List Op7} {r m : Int} {k : Nat} (hk : k < l.length) (h : hasId r m l[k] = true) (hb : ∀ j (hj : j < k), hasId r m (l[j]'(by omega)) = false) : findI l r m = k := by
  unfold findI
  rw [List.findIdx?_eq_some_iff_getElem.2 ⟨hk, h, fun j hj => by simp [hb j hj]⟩]

/-- The cells of things in a block, one behind the other. -/
def OpsAt (w : World) (g : Nat) (l : List Op7) : Prop := g < w.heap.size ∧ ∀ (i : Nat) (o : Op7), l[i]? = some o →
  w.cell? ⟨g, i * 7, none⟩ = some (.int .i64 o.a) ∧ w.cell? ⟨g, i * 7 + 1, none⟩ = some (.int .i64 o.b) ∧ w.cell? ⟨g, i * 7 + 2, none⟩ = some (.int .i64 o.k) ∧ w.cell? ⟨g, i * 7 + 3, none⟩ = some (.int .i64 o.c) ∧
  w.cell? ⟨g, i * 7 + 4, none⟩ = some (.int .i64 o.d) ∧ w.cell? ⟨g, i * 7 + 5, none⟩ = some (.int .i64 o.s) ∧ w.cell? ⟨g, i * 7 + 6, none⟩ = some (.int .i64 o.g)
open RowKit in
theorem OpsAt.below {w w' : World} {g B : Nat} {l : List Op7} (h : OpsAt w g l) (hb : Below B w w') (hB : g < B) : OpsAt w' g l := by
  refine ⟨Nat.lt_of_lt_of_le h.1 hb.size, fun i o ho => ?_⟩
  obtain ⟨h0, h1, h2, h3, h4, h5, h6⟩ := h.2 i o ho
  exact ⟨(hb.cell (p := ⟨g, _, none⟩) hB).trans h0, (hb.cell (p := ⟨g, _, none⟩) hB).trans h1, (hb.cell (p := ⟨g, _, none⟩) hB).trans h2, (hb.cell (p := ⟨g, _, none⟩) hB).trans h3, (hb.cell (p := ⟨g, _, none⟩) hB).trans h4, (hb.cell (p := ⟨g, _, none⟩) hB).trans h5, (hb.cell (p := ⟨g, _, none⟩) hB).trans h6⟩

/-- The next thing behind pr, pn, in order. -/
def stepB (pr pn r m : Int) : Bool := decide ((pr < r ∧ m = 1) ∨ (pr = r ∧ m = pn + 1))
theorem stepB_true {pr pn r m : Int} (h : (pr < r ∧ m = 1) ∨ (pr = r ∧ m = pn + 1)) : stepB pr pn r m = true := decide_eq_true h
theorem stepB_false {pr pn r m : Int} (h : ¬ ((pr < r ∧ m = 1) ∨ (pr = r ∧ m = pn + 1))) : stepB pr pn r m = false := decide_eq_false h
def prevA (l : List Op7) : Nat → Int
  | 0 => 0
  | j + 1 => match l[j]? with | some o => o.a | none => 0
def prevB (l : List Op7) : Nat → Int
  | 0 => 0
  | j + 1 => match l[j]? with | some o => o.b | none => 0
def stepAt (l : List Op7) (j : Nat) : Bool := match l[j]? with | some o => stepB (prevA l j) (prevB l j) o.a o.b | none => true
/-- They stand in order, each one's from 1 on. -/
def ordB (l : List Op7) : Bool := (List.range l.length).all (stepAt l)
/-- What a thing refers to, if it is there. -/
def nextO (l : List Op7) (o : Op7) : Option Op7 := match l.findIdx? (hasId o.c o.d) with | some i => l[i]? | none => none
/-- What a thing refers to is nothing, or was put. -/
def refsB (l : List Op7) (o : Op7) : Bool := noB o.c o.d || (match nextO l o with | some p => p.k == 1 | none => false)
/-- One comes to nothing within n steps. -/
def deepF (l : List Op7) : Nat → Op7 → Bool
  | 0, _ => false
  | n + 1, o => if noB o.c o.d then true else match nextO l o with | some p => deepF l n p | none => false
/-- What was done is ok. -/
def opsB (l : List Op7) : Bool := l.all okO && (ordB l && (l.all (refsB l) && l.all (deepF l (l.length + 1))))

theorem all_iff {l : List Op7} {p : Op7 → Bool} : l.all p = true ↔ ∀ j (hj : j < l.length), p l[j] = true := by
  rw [List.all_eq_true]
  exact ⟨fun h j hj => h _ (List.getElem_mem hj), fun h o ho => by obtain ⟨j, hj, rfl⟩ := List.getElem_of_mem ho; exact h j hj⟩
theorem all_false {l : List Op7} {p : Op7 → Bool} {j : Nat} (hj : j < l.length) (h : p l[j] = false) : l.all p = false := by
  cases ha : l.all p
  · rfl
  · rw [all_iff.1 ha j hj] at h; cases h
theorem ord_iff {l : List Op7} : ordB l = true ↔ ∀ j, j < l.length → stepAt l j = true := by
  unfold ordB
  rw [List.all_eq_true]
  simp
theorem ord_false {l : List Op7} {j : Nat} (hj : j < l.length) (h : stepAt l j = false) : ordB l = false := by
  cases ha : ordB l
  · rfl
  · rw [ord_iff.1 ha j hj] at h; cases h
theorem step_zero {l : List Op7} (h : 0 < l.length) : stepAt l 0 = stepB 0 0 l[0].a l[0].b := by
  simp [stepAt, h, prevA, prevB]
theorem step_succ {l : List Op7} {j : Nat} (h : j + 1 < l.length) : stepAt l (j + 1) = stepB l[j].a l[j].b l[j + 1].a l[j + 1].b := by
  have h' : j < l.length := by omega
  simp [stepAt, h, prevA, prevB, h']
theorem okO_id {o : Op7} (h : okO o = true) : 1 ≤ o.a ∧ o.a ≤ 3 ∧ 1 ≤ o.b ∧ o.b ≤ 12 := by
  unfold okO at h; rw [opB_true] at h; exact h.1

/-- A thing as the program keeps it. -/
def thV (o : Op7) : Value := if o.k = 1 then .iface 168 (.agg #[.int .i64 o.a, .int .i64 o.b, .int .i64 o.c, .int .i64 o.d, .int .i64 o.s, .int .i64 o.g]) else .iface 170 (.agg #[.int .i64 o.a, .int .i64 o.b, .int .i64 o.c, .int .i64 o.d])
/-- The cells of things as the program keeps them. -/
def ThingsAt (w : World) (g : Nat) (l : List Op7) : Prop := g < w.heap.size ∧ ∀ (i : Nat) (o : Op7), l[i]? = some o → w.cell? ⟨g, i, none⟩ = some (thV o)
open RowKit in
theorem ThingsAt.below {w w' : World} {g B : Nat} {l : List Op7} (h : ThingsAt w g l) (hb : Below B w w') (hB : g < B) : ThingsAt w' g l :=
  ⟨Nat.lt_of_lt_of_le h.1 hb.size, fun i o ho => (hb.cell (p := ⟨g, _, none⟩) hB).trans (h.2 i o ho)⟩
theorem thV_cases {o : Op7} (h : okO o = true) : (thV o = .iface 168 (.agg #[.int .i64 o.a, .int .i64 o.b, .int .i64 o.c, .int .i64 o.d, .int .i64 o.s, .int .i64 o.g]) ∧ o.k = 1) ∨ (thV o = .iface 170 (.agg #[.int .i64 o.a, .int .i64 o.b, .int .i64 o.c, .int .i64 o.d]) ∧ o.k = 2) := by
  unfold okO at h; rw [opB_true] at h
  rcases h.2.2 with h | h
  · exact .inl ⟨by unfold thV; rw [if_pos h.1], h.1⟩
  · exact .inr ⟨by unfold thV; rw [if_neg (by omega)], h.1⟩
theorem prevA_le {l : List Op7} (h : l.all okO = true) (k : Nat) (hk : k ≤ l.length) : 0 ≤ prevA l k ∧ prevA l k ≤ 3 ∧ 0 ≤ prevB l k ∧ prevB l k ≤ 12 := by
  rcases k with _ | k
  · simp [prevA, prevB]
  · have hk' : k < l.length := by omega
    have := okO_id (all_iff.1 h k hk')
    simp only [prevA, prevB, List.getElem?_eq_getElem hk']
    omega
theorem prev_succ {l : List Op7} {k : Nat} (hk : k < l.length) : prevA l (k + 1) = l[k].a ∧ prevB l (k + 1) = l[k].b := by
  simp [prevA, prevB, hk]
theorem step_at {l : List Op7} {k : Nat} (hk : k < l.length) : stepAt l k = stepB (prevA l k) (prevB l k) l[k].a l[k].b := by
  simp [stepAt, hk]

/-- The cells of numbers. -/
def IntsAt (w : World) (g : Nat) (xs : List Int) : Prop := g < w.heap.size ∧ ∀ (i : Nat) (x : Int), xs[i]? = some x → w.cell? ⟨g, i, none⟩ = some (.int .i64 x)
open RowKit in
theorem IntsAt.below {w w' : World} {g B : Nat} {xs : List Int} (h : IntsAt w g xs) (hb : Below B w w') (hB : g < B) : IntsAt w' g xs :=
  ⟨Nat.lt_of_lt_of_le h.1 hb.size, fun i o ho => (hb.cell (p := ⟨g, _, none⟩) hB).trans (h.2 i o ho)⟩
def isRep (r : Int) (o : Op7) : Bool := o.a == r
/-- How many of the first k things are r's. -/
def cntTo (l : List Op7) (k : Nat) (r : Int) : Int := ((l.take k).countP (isRep r) : Nat)
/-- How many things are r's. -/
def cnt (l : List Op7) (r : Int) : Int := (l.countP (isRep r) : Nat)
theorem cntTo_zero (l : List Op7) (r : Int) : cntTo l 0 r = 0 := by simp [cntTo]
theorem cntTo_len (l : List Op7) (r : Int) : cntTo l l.length r = cnt l r := by simp [cntTo, cnt]
theorem cntTo_same {l : List Op7} {k : Nat} {r : Int} (hk : k < l.length) (h : l[k].a = r) : cntTo l (k + 1) r = cntTo l k r + 1 := by
  unfold cntTo
  rw [List.take_succ_eq_append_getElem hk, List.countP_append]
  simp [isRep, h]
theorem cntTo_other {l : List Op7} {k : Nat} {r : Int} (hk : k < l.length) (h : l[k].a ≠ r) : cntTo l (k + 1) r = cntTo l k r := by
  unfold cntTo
  rw [List.take_succ_eq_append_getElem hk, List.countP_append]
  simp [isRep, h]
theorem cntTo_le (l : List Op7) (k : Nat) (r : Int) : 0 ≤ cntTo l k r ∧ cntTo l k r ≤ k := by
  unfold cntTo
  have h1 := List.countP_le_length (p := isRep r) (l := l.take k)
  have h2 : (l.take k).length ≤ k := List.length_take_le _ _
  omega
end Go.Proofs.YtficnhlkefpfnaaDoor

namespace Go.Proofs.YtficnhlkefpfnaaDoor
open Go.RowKit
set_option linter.unusedSimpArgs false
set_option linter.unusedVariables false
attribute [local go_sem ↓] Go.wp_at_zero Go.wp_at_succ

theorem ret_int {k : IntKind} {a b : Int} (h : a = b) : Ending.returned (.int k a) = .returned (.int k b) := by rw [h]

set_option maxHeartbeats 400000 in
theorem l1Find_any (l : List Op7) (g cap : Nat) (r m : Int) (w : World) (hl : OpsAt w g l) (hn : l.length ≤ 1048576) (hcap : l.length ≤ cap) :
    Calls Tryd.prog 75 #[.slice (some ⟨g, 0, none⟩) l.length cap, .agg #[.int .i64 r, .int .i64 m]] w fun e w' => e = .returned (.int .i64 (findI l r m)) ∧ Below w.heap.size w w' := by
  go_enter Tryd.func75, Tryd.ntmps75
  go_wp2
  go_loopw [5] (fun i wr => ∃ k : Nat, k ≤ l.length ∧ i = .int .i64 k ∧ (∀ j (hj : j < l.length), j < k → hasId r m l[j] = false) ∧ wr.cell? ⟨w.heap.size, 0, none⟩ = some (.int .i64 r) ∧ wr.cell? ⟨w.heap.size, 1, none⟩ = some (.int .i64 m) ∧ Below w.heap.size w wr)
    (fun i _ => l.length - (intOf i).toNat)
  case atStart => exact ⟨0, Nat.zero_le _, rfl, fun j hj h => by omega, by simp [go_sem], by simp [go_sem], by go_grown⟩
  case round =>
    obtain ⟨k, hk, rfl, hno, hr, hm, hB⟩ := hrel
    have HN : Hid (∀ j (hj : j < l.length), j < k → hasId r m l[j] = false) := hno
    have HB : Hid (Below w.heap.size w wr) := hB
    by_cases hlt : k < l.length
    · obtain ⟨h0, h1, _⟩ := (hl.below hB hl.1).2 k l[k] (by simp [hlt])
      have HX : Hid (hasId r m l[k] = (l[k].a == r && l[k].b == m)) := rfl
      generalize l[k].a = xa at h0 HX
      generalize l[k].b = xb at h1 HX
      have hlt' : (k : Int) < (l.length : Int) := by omega
      have hk0 : (0 : Int) ≤ (k : Int) := by omega
      clear hno hB hl
      have hnext : Hid (hasId r m l[k] = false → ∀ j (hj : j < l.length), j < k + 1 → hasId r m l[j] = false) := fun hf j hj hj1 => by
        rcases Nat.lt_or_ge j k with h | h
        · exact HN.out j hj h
        · obtain rfl : j = k := by omega
          exact hf
      by_cases hxa : xa = r
      · subst hxa
        by_cases hxb : xb = m
        · subst hxb
          have hfin : Hid (findI l xa xb = k) := findI_some hlt (by rw [HX.out]; simp) (fun j hj => HN.out j (by omega) hj)
          go_wp2
          go_quiet (fail)
          go_wp2
          go_ret
          exact ⟨ret_int hfin.out.symm, below_drewN HB.out _⟩
        · have hf : Hid (hasId xa m l[k] = false) := by show hasId xa m l[k] = false; rw [HX.out]; simp [hxb]
          go_wp2
          go_quiet (fail)
          go_wp2
          exact ⟨⟨k + 1, by omega, by go_num, hnext.out hf.out, by simpa using hr, by simpa using hm, below_drewN HB.out _⟩, by simp [intOf]; omega⟩
      · have hf : Hid (hasId r m l[k] = false) := by show hasId r m l[k] = false; rw [HX.out]; simp [hxa]
        go_wp2
        go_quiet (fail)
        go_wp2
        exact ⟨⟨k + 1, by omega, by go_num, hnext.out hf.out, by simpa using hr, by simpa using hm, below_drewN HB.out _⟩, by simp [intOf]; omega⟩
    · clear hno hB hl
      go_wp2
      go_ret
      exact ⟨ret_int (by rw [findI_none]; intro o ho; obtain ⟨j, hj, rfl⟩ := List.getElem_of_mem ho; exact HN.out j hj (by omega)), HB.out⟩
end Go.Proofs.YtficnhlkefpfnaaDoor

namespace Go.Proofs.YtficnhlkefpfnaaDoor
open Go.RowKit
set_option linter.unusedSimpArgs false
set_option linter.unusedVariables false
attribute [local go_sem ↓] Go.wp_at_zero Go.wp_at_succ

def seenAt (n1 n2 n3 r : Int) : Int := if r = 1 then n1 else if r = 2 then n2 else n3
/-- Where the thing of an id stands, by how much each did. -/
def placeI (n1 n2 n3 r m : Int) : Int := if idB r m = true ∧ m ≤ seenAt n1 n2 n3 r then m - 1 + (if r = 1 then 0 else if r = 2 then n1 else n1 + n2) else -1

theorem ints3 {w : World} {g : Nat} {n1 n2 n3 : Int} (h : IntsAt w g [n1, n2, n3]) : w.cell? ⟨g, 0, none⟩ = some (.int .i64 n1) ∧ w.cell? ⟨g, 1, none⟩ = some (.int .i64 n2) ∧ w.cell? ⟨g, 2, none⟩ = some (.int .i64 n3) :=
  ⟨h.2 0 _ rfl, h.2 1 _ rfl, h.2 2 _ rfl⟩

theorem wpAny_skipU {P : Program} {md : Region.Mode} {ops : Array Oper} {Q : Exit → Act → World → Prop} {i : Nat} {oi : Oper} {fuel : Nat} {listed : Array Bool} {a : Act} {w : World} (hi : ops[i]? = some oi)
    (hs : Region.noSelect ops = true) (hf : Region.free md ops listed i = true) (hr : (Region.ready md ops listed).contains i = true)
    (d : Tmp) (hd : oi.dst = some d) (hQ : ∀ c (a : Act) w, Q (.panic c) (a.put (some d) undef) w → Q (.panic c) a w) (hw : Region.wanted oi (yielded ops a.tmps) = false) (he : a.put (some d) undef = a)
    (h : wpAny P md ops Q fuel (listed.setIfInBounds i true) a w) : wpAny P md ops Q (fuel + 1) listed a w :=
  wpAny_take hi hs hf hr (v := undef) (by rw [hd]; exact hQ) (Or.inr ⟨hw, rfl⟩) (by rw [hd, he]; exact h)

theorem keepP {w w1 w2 : World} {g o : Nat} {u v x : Value} (hb : Below w1.heap.size w1 w2) (hg : g < w.heap.size)
    (h : w1.cell? ⟨w.heap.size, 0, none⟩ = some u ∧ w1.cell? ⟨w.heap.size, 1, none⟩ = some v ∧ w1.cell? ⟨g, o, none⟩ = some x ∧ w.heap.size < w1.heap.size ∧ Below w.heap.size w w1) :
    w2.cell? ⟨w.heap.size, 0, none⟩ = some u ∧ w2.cell? ⟨w.heap.size, 1, none⟩ = some v ∧ w2.cell? ⟨g, o, none⟩ = some x ∧ w.heap.size < w2.heap.size ∧ Below w.heap.size w w2 := by
  obtain ⟨h1, h2, h3, h4, h5⟩ := h
  obtain ⟨hc, _⟩ := bcell hb
  exact ⟨(hc _ _ h4).trans h1, (hc _ _ h4).trans h2, (hc _ _ (by omega)).trans h3, Nat.lt_of_lt_of_le h4 hb.size, Bstep h5 hb⟩
theorem keepP0 {w : World} {g o : Nat} {u v x : Value} {t : TypeId} (hg : g < w.heap.size) (hc : w.cell? ⟨g, o, none⟩ = some x) :
    (w.alloc (.cells #[u, v] t)).drew.cell? ⟨w.heap.size, 0, none⟩ = some u ∧ (w.alloc (.cells #[u, v] t)).drew.cell? ⟨w.heap.size, 1, none⟩ = some v ∧ (w.alloc (.cells #[u, v] t)).drew.cell? ⟨g, o, none⟩ = some x ∧ w.heap.size < (w.alloc (.cells #[u, v] t)).drew.heap.size ∧ Below w.heap.size w (w.alloc (.cells #[u, v] t)).drew := by
  have hb : Below w.heap.size w (w.alloc (.cells #[u, v] t)).drew := ((Below.refl _ _).alloc (Nat.le_refl _) _).drew
  exact ⟨by simp [go_sem], by simp [go_sem], ((bcell hb).1 _ _ hg).trans hc, by simp, hb⟩

set_option maxRecDepth 100000 in
set_option maxHeartbeats 2000000 in
theorem place_no (n1 n2 n3 r m : Int) (g : Nat) (w : World) (hl : IntsAt w g [n1, n2, n3]) (hid : idB r m = false) :
    Calls Tryd.prog 129 #[.slice (some ⟨g, 0, none⟩) 3 3, .agg #[.int .i64 r, .int .i64 m]] w fun e w' => e = .returned (.int .i64 (-1)) ∧ Below w.heap.size w w' := by
  obtain ⟨c0, c1, c2⟩ := ints3 hl
  have hgw := hl.1
  clear hl
  go_enter Tryd.func129, Tryd.ntmps129
  go_wp2
  refine wp_region_any (by kernel_rfl) ?_
  change wpAny _ _ _ _ _ _ _ (World.drew _)
  refine wpAny_ready (rs := [0]) (by kernel_rfl) (by simp) ?_
  refine AllReady.cons rfl (fun K hK => ?_) AllReady.nil
  go_simp
  refine hK _ _ ?_
  clear hK K
  refine wpAny_ready (rs := [1]) (by kernel_rfl) (by simp) ?_
  refine AllReady.cons rfl (fun K hK => ?_) AllReady.nil
  go_simp
  go_wp2_with (first | (go_at_call 134; refine (idOk_any _ _ _).mono ?_; rintro e w2 ⟨rfl, hb2⟩; rw [hid]; have HB2 : Hid (Below w.heap.size w w2) := Bstep (by go_grown) hb2; clear hb2))
  refine wpAny_ready (rs := [2]) (by kernel_rfl) (by simp) ?_
  refine AllReady.cons rfl (fun K hK => ?_) AllReady.nil
  go_simp
  refine hK _ _ ?_
  clear hK K
  refine wpAny_ready (rs := [3]) (by kernel_rfl) (by simp) ?_
  refine AllReady.cons rfl (fun K hK => ?_) AllReady.nil
  go_simp
  refine hK _ _ ?_
  clear hK K
  refine wpAny_skipU (i := 4) rfl (by kernel_rfl) (by kernel_rfl) (by kernel_rfl) 12 rfl (fun _ _ _ h => h) (by rfl) (by rfl) ?_
  refine wpAny_skipU (i := 5) rfl (by kernel_rfl) (by kernel_rfl) (by kernel_rfl) 13 rfl (fun _ _ _ h => h) (by rfl) (by rfl) ?_
  refine wpAny_skipU (i := 6) rfl (by kernel_rfl) (by kernel_rfl) (by kernel_rfl) 14 rfl (fun _ _ _ h => h) (by rfl) (by rfl) ?_
  refine wpAny_skipU (i := 7) rfl (by kernel_rfl) (by kernel_rfl) (by kernel_rfl) 15 rfl (fun _ _ _ h => h) (by rfl) (by rfl) ?_
  refine wpAny_skipU (i := 8) rfl (by kernel_rfl) (by kernel_rfl) (by kernel_rfl) 16 rfl (fun _ _ _ h => h) (by rfl) (by rfl) ?_
  refine wpAny_skipU (i := 9) rfl (by kernel_rfl) (by kernel_rfl) (by kernel_rfl) 17 rfl (fun _ _ _ h => h) (by rfl) (by rfl) ?_
  refine wpAny_skipU (i := 10) rfl (by kernel_rfl) (by kernel_rfl) (by kernel_rfl) 18 rfl (fun _ _ _ h => h) (by rfl) (by rfl) ?_
  refine wpAny_skipU (i := 11) rfl (by kernel_rfl) (by kernel_rfl) (by kernel_rfl) 19 rfl (fun _ _ _ h => h) (by rfl) (by rfl) ?_
  refine wpAny_skipU (i := 12) rfl (by kernel_rfl) (by kernel_rfl) (by kernel_rfl) 20 rfl (fun _ _ _ h => h) (by rfl) (by rfl) ?_
  refine wpAny_ready (rs := [13]) (by kernel_rfl) (by simp) ?_
  refine AllReady.cons rfl (fun K hK => ?_) AllReady.nil
  go_simp
  refine hK _ _ ?_
  clear hK K
  refine wpAny_done (by kernel_rfl) ?_ _
  go_wp2
  go_ret
  exact ⟨rfl, HB2.out⟩

set_option maxRecDepth 100000 in
set_option maxHeartbeats 2000000 in
theorem place_1 (n1 n2 n3 m : Int) (g : Nat) (w : World) (hl : IntsAt w g [n1, n2, n3]) (hid : idB 1 m = true) (hn1 : 0 ≤ n1 ∧ n1 ≤ 1048576) (hn2 : 0 ≤ n2 ∧ n2 ≤ 1048576) :
    Calls Tryd.prog 129 #[.slice (some ⟨g, 0, none⟩) 3 3, .agg #[.int .i64 1, .int .i64 m]] w fun e w' => e = .returned (.int .i64 (placeI n1 n2 n3 1 m)) ∧ Below w.heap.size w w' := by
  obtain ⟨c0, c1, c2⟩ := ints3 hl
  have hgw := hl.1
  have hm := (idB_true.1 hid).2.2
  have hw0 : IntKind.i64.wrap 0 = 0 := by decide
  have hw1 : IntKind.i64.wrap 1 = 1 := by decide
  have hw2 : IntKind.i64.wrap 2 = 2 := by decide
  have hpl : Hid (placeI n1 n2 n3 1 m = if m ≤ n1 then m - 1 + (0) else -1) := by
    show placeI n1 n2 n3 1 m = _
    unfold placeI seenAt
    by_cases h : m ≤ n1 <;> simp [hid, h]
  clear hl
  by_cases hle : m ≤ n1
  · go_enter Tryd.func129, Tryd.ntmps129
    go_wp2
    go_region_held3 (fun w' => w'.cell? ⟨w.heap.size, 0, none⟩ = some (.int .i64 1) ∧ w'.cell? ⟨w.heap.size, 1, none⟩ = some (.int .i64 m) ∧ w'.cell? ⟨g, 0, none⟩ = some (.int .i64 n1) ∧ w.heap.size < w'.heap.size ∧ Below w.heap.size w w')
      (first | assumption | exact keepP hb2 hgw (by assumption) | exact keepP0 hgw c0)
      (first | (go_at_call 134; refine (idOk_any _ _ _).mono ?_; rintro e w2 ⟨rfl, hb2⟩; rw [hid]))
    rename_i hS
    have HB2 := hideIt hS.2.2.2.2
    have k0 := hS.1
    have k1 := hS.2.1
    have hcb : ∀ o, w2.cell? ⟨g, o, none⟩ = w.cell? ⟨g, o, none⟩ := fun o => (bcell HB2.out).1 _ _ hgw
    clear hS hb2
    go_wp2
    go_rounds 1
    all_goals
      go_ret
      exact ⟨ret_int (by rw [hpl.out, if_pos (by omega)]; try omega), HB2.out⟩
  · go_enter Tryd.func129, Tryd.ntmps129
    go_wp2
    go_region_held3 (fun w' => w'.cell? ⟨w.heap.size, 0, none⟩ = some (.int .i64 1) ∧ w'.cell? ⟨w.heap.size, 1, none⟩ = some (.int .i64 m) ∧ w'.cell? ⟨g, 0, none⟩ = some (.int .i64 n1) ∧ w.heap.size < w'.heap.size ∧ Below w.heap.size w w')
      (first | assumption | exact keepP hb2 hgw (by assumption) | exact keepP0 hgw c0)
      (first | (go_at_call 134; refine (idOk_any _ _ _).mono ?_; rintro e w2 ⟨rfl, hb2⟩; rw [hid]))
    rename_i hS
    have HB2 := hideIt hS.2.2.2.2
    have k0 := hS.1
    have k1 := hS.2.1
    have hcb : ∀ o, w2.cell? ⟨g, o, none⟩ = w.cell? ⟨g, o, none⟩ := fun o => (bcell HB2.out).1 _ _ hgw
    clear hS hb2
    go_wp2
    go_ret
    exact ⟨ret_int (by rw [hpl.out, if_neg (by omega)]), HB2.out⟩

set_option maxRecDepth 100000 in
set_option maxHeartbeats 2000000 in
theorem place_2 (n1 n2 n3 m : Int) (g : Nat) (w : World) (hl : IntsAt w g [n1, n2, n3]) (hid : idB 2 m = true) (hn1 : 0 ≤ n1 ∧ n1 ≤ 1048576) (hn2 : 0 ≤ n2 ∧ n2 ≤ 1048576) :
    Calls Tryd.prog 129 #[.slice (some ⟨g, 0, none⟩) 3 3, .agg #[.int .i64 2, .int .i64 m]] w fun e w' => e = .returned (.int .i64 (placeI n1 n2 n3 2 m)) ∧ Below w.heap.size w w' := by
  obtain ⟨c0, c1, c2⟩ := ints3 hl
  have hgw := hl.1
  have hm := (idB_true.1 hid).2.2
  have hw0 : IntKind.i64.wrap 0 = 0 := by decide
  have hw1 : IntKind.i64.wrap 1 = 1 := by decide
  have hw2 : IntKind.i64.wrap 2 = 2 := by decide
  have hpl : Hid (placeI n1 n2 n3 2 m = if m ≤ n2 then m - 1 + (n1) else -1) := by
    show placeI n1 n2 n3 2 m = _
    unfold placeI seenAt
    by_cases h : m ≤ n2 <;> simp [hid, h]
  clear hl
  by_cases hle : m ≤ n2
  · go_enter Tryd.func129, Tryd.ntmps129
    go_wp2
    go_region_held3 (fun w' => w'.cell? ⟨w.heap.size, 0, none⟩ = some (.int .i64 2) ∧ w'.cell? ⟨w.heap.size, 1, none⟩ = some (.int .i64 m) ∧ w'.cell? ⟨g, 1, none⟩ = some (.int .i64 n2) ∧ w.heap.size < w'.heap.size ∧ Below w.heap.size w w')
      (first | assumption | exact keepP hb2 hgw (by assumption) | exact keepP0 hgw c1)
      (first | (go_at_call 134; refine (idOk_any _ _ _).mono ?_; rintro e w2 ⟨rfl, hb2⟩; rw [hid]))
    rename_i hS
    have HB2 := hideIt hS.2.2.2.2
    have k0 := hS.1
    have k1 := hS.2.1
    have hcb : ∀ o, w2.cell? ⟨g, o, none⟩ = w.cell? ⟨g, o, none⟩ := fun o => (bcell HB2.out).1 _ _ hgw
    clear hS hb2
    go_wp2
    go_rounds 2
    all_goals
      go_ret
      exact ⟨ret_int (by rw [hpl.out, if_pos (by omega)]; try omega), HB2.out⟩
  · go_enter Tryd.func129, Tryd.ntmps129
    go_wp2
    go_region_held3 (fun w' => w'.cell? ⟨w.heap.size, 0, none⟩ = some (.int .i64 2) ∧ w'.cell? ⟨w.heap.size, 1, none⟩ = some (.int .i64 m) ∧ w'.cell? ⟨g, 1, none⟩ = some (.int .i64 n2) ∧ w.heap.size < w'.heap.size ∧ Below w.heap.size w w')
      (first | assumption | exact keepP hb2 hgw (by assumption) | exact keepP0 hgw c1)
      (first | (go_at_call 134; refine (idOk_any _ _ _).mono ?_; rintro e w2 ⟨rfl, hb2⟩; rw [hid]))
    rename_i hS
    have HB2 := hideIt hS.2.2.2.2
    have k0 := hS.1
    have k1 := hS.2.1
    have hcb : ∀ o, w2.cell? ⟨g, o, none⟩ = w.cell? ⟨g, o, none⟩ := fun o => (bcell HB2.out).1 _ _ hgw
    clear hS hb2
    go_wp2
    go_ret
    exact ⟨ret_int (by rw [hpl.out, if_neg (by omega)]), HB2.out⟩

set_option maxRecDepth 100000 in
set_option maxHeartbeats 2000000 in
theorem place_3 (n1 n2 n3 m : Int) (g : Nat) (w : World) (hl : IntsAt w g [n1, n2, n3]) (hid : idB 3 m = true) (hn1 : 0 ≤ n1 ∧ n1 ≤ 1048576) (hn2 : 0 ≤ n2 ∧ n2 ≤ 1048576) :
    Calls Tryd.prog 129 #[.slice (some ⟨g, 0, none⟩) 3 3, .agg #[.int .i64 3, .int .i64 m]] w fun e w' => e = .returned (.int .i64 (placeI n1 n2 n3 3 m)) ∧ Below w.heap.size w w' := by
  obtain ⟨c0, c1, c2⟩ := ints3 hl
  have hgw := hl.1
  have hm := (idB_true.1 hid).2.2
  have hw0 : IntKind.i64.wrap 0 = 0 := by decide
  have hw1 : IntKind.i64.wrap 1 = 1 := by decide
  have hw2 : IntKind.i64.wrap 2 = 2 := by decide
  have hpl : Hid (placeI n1 n2 n3 3 m = if m ≤ n3 then m - 1 + (n1 + n2) else -1) := by
    show placeI n1 n2 n3 3 m = _
    unfold placeI seenAt
    by_cases h : m ≤ n3 <;> simp [hid, h]
  clear hl
  by_cases hle : m ≤ n3
  · go_enter Tryd.func129, Tryd.ntmps129
    go_wp2
    go_region_held3 (fun w' => w'.cell? ⟨w.heap.size, 0, none⟩ = some (.int .i64 3) ∧ w'.cell? ⟨w.heap.size, 1, none⟩ = some (.int .i64 m) ∧ w'.cell? ⟨g, 2, none⟩ = some (.int .i64 n3) ∧ w.heap.size < w'.heap.size ∧ Below w.heap.size w w')
      (first | assumption | exact keepP hb2 hgw (by assumption) | exact keepP0 hgw c2)
      (first | (go_at_call 134; refine (idOk_any _ _ _).mono ?_; rintro e w2 ⟨rfl, hb2⟩; rw [hid]))
    rename_i hS
    have HB2 := hideIt hS.2.2.2.2
    have k0 := hS.1
    have k1 := hS.2.1
    have hcb : ∀ o, w2.cell? ⟨g, o, none⟩ = w.cell? ⟨g, o, none⟩ := fun o => (bcell HB2.out).1 _ _ hgw
    clear hS hb2
    go_wp2
    go_rounds 3
    all_goals
      go_ret
      exact ⟨ret_int (by rw [hpl.out, if_pos (by omega)]; try omega), HB2.out⟩
  · go_enter Tryd.func129, Tryd.ntmps129
    go_wp2
    go_region_held3 (fun w' => w'.cell? ⟨w.heap.size, 0, none⟩ = some (.int .i64 3) ∧ w'.cell? ⟨w.heap.size, 1, none⟩ = some (.int .i64 m) ∧ w'.cell? ⟨g, 2, none⟩ = some (.int .i64 n3) ∧ w.heap.size < w'.heap.size ∧ Below w.heap.size w w')
      (first | assumption | exact keepP hb2 hgw (by assumption) | exact keepP0 hgw c2)
      (first | (go_at_call 134; refine (idOk_any _ _ _).mono ?_; rintro e w2 ⟨rfl, hb2⟩; rw [hid]))
    rename_i hS
    have HB2 := hideIt hS.2.2.2.2
    have k0 := hS.1
    have k1 := hS.2.1
    have hcb : ∀ o, w2.cell? ⟨g, o, none⟩ = w.cell? ⟨g, o, none⟩ := fun o => (bcell HB2.out).1 _ _ hgw
    clear hS hb2
    go_wp2
    go_ret
    exact ⟨ret_int (by rw [hpl.out, if_neg (by omega)]), HB2.out⟩

theorem place_any (n1 n2 n3 r m : Int) (g : Nat) (w : World) (hl : IntsAt w g [n1, n2, n3]) (hn1 : 0 ≤ n1 ∧ n1 ≤ 1048576) (hn2 : 0 ≤ n2 ∧ n2 ≤ 1048576) :
    Calls Tryd.prog 129 #[.slice (some ⟨g, 0, none⟩) 3 3, .agg #[.int .i64 r, .int .i64 m]] w fun e w' => e = .returned (.int .i64 (placeI n1 n2 n3 r m)) ∧ Below w.heap.size w w' := by
  cases hid : idB r m
  · have e : placeI n1 n2 n3 r m = -1 := by unfold placeI; rw [if_neg (by rw [hid]; simp)]
    rw [e]
    exact place_no n1 n2 n3 r m g w hl hid
  · have hr := idB_true.1 hid
    obtain rfl | rfl | rfl : r = 1 ∨ r = 2 ∨ r = 3 := by omega
    · exact place_1 n1 n2 n3 m g w hl hid hn1 hn2
    · exact place_2 n1 n2 n3 m g w hl hid hn1 hn2
    · exact place_3 n1 n2 n3 m g w hl hid hn1 hn2
end Go.Proofs.YtficnhlkefpfnaaDoor

namespace Go.Proofs.YtficnhlkefpfnaaDoor
open Go.RowKit
set_option linter.unusedSimpArgs false
set_option linter.unusedVariables false
theorem Tryd.asPut (a b c d s g : Int) (w : World) : (Instr.typeAssert (.iface 168 (.agg #[.int .i64 a, .int .i64 b, .int .i64 c, .int .i64 d, .int .i64 s, .int .i64 g])) 137 168 true).run Tryd.prog w = .ok (.tuple #[.agg #[.int .i64 a, .int .i64 b, .int .i64 c, .int .i64 d, .int .i64 s, .int .i64 g], .bool true]) w := by kernel_rfl
theorem Tryd.asNoPut (a b c d : Int) (w : World) : (Instr.typeAssert (.iface 170 (.agg #[.int .i64 a, .int .i64 b, .int .i64 c, .int .i64 d])) 137 168 true).run Tryd.prog w = .ok (.tuple #[.agg #[.int .i64 0, .int .i64 0, .int .i64 0, .int .i64 0, .int .i64 0, .int .i64 0], .bool false]) w := by kernel_rfl
set_option maxRecDepth 100000 in
theorem isPut_put (a b c d s g : Int) (w : World) :
    Calls Tryd.prog 138 #[.iface 168 (.agg #[.int .i64 a, .int .i64 b, .int .i64 c, .int .i64 d, .int .i64 s, .int .i64 g])] w fun e w' => e = .returned (.bool true) ∧ w' = w := by
  have as1 := Tryd.asPut
  have as2 := Tryd.asNoPut
  go_enter Tryd.func138, Tryd.ntmps138
  go_wp2
  go_ret
  exact ⟨rfl, rfl⟩
set_option maxRecDepth 100000 in
theorem isPut_take (a b c d : Int) (w : World) :
    Calls Tryd.prog 138 #[.iface 170 (.agg #[.int .i64 a, .int .i64 b, .int .i64 c, .int .i64 d])] w fun e w' => e = .returned (.bool false) ∧ w' = w := by
  have as1 := Tryd.asPut
  have as2 := Tryd.asNoPut
  go_enter Tryd.func138, Tryd.ntmps138
  go_wp2
  go_ret
  exact ⟨rfl, rfl⟩
theorem isPut_any (o : Op7) (h : okO o = true) (w : World) :
    Calls Tryd.prog 138 #[thV o] w fun e w' => e = .returned (.bool (o.k == 1)) ∧ w' = w := by
  rcases thV_cases h with ⟨h1, h2⟩ | ⟨h1, h2⟩
  · rw [h1, h2]; exact isPut_put _ _ _ _ _ _ _
  · rw [h1, h2]; exact isPut_take _ _ _ _ _
end Go.Proofs.YtficnhlkefpfnaaDoor

namespace Go.Proofs.YtficnhlkefpfnaaDoor
open Go.RowKit
theorem Tryd.ownPut (a b c d s g : Int) (w : World) : (Go.method 338 168 (.agg #[.int .i64 a, .int .i64 b, .int .i64 c, .int .i64 d, .int .i64 s, .int .i64 g]) "loop.example/tatting/impl.own").run Tryd.prog w = .ok (170, .agg #[.int .i64 a, .int .i64 b, .int .i64 c, .int .i64 d]) w := by kernel_rfl
theorem Tryd.ownTake (a b c d : Int) (w : World) : (Go.method 338 170 (.agg #[.int .i64 a, .int .i64 b, .int .i64 c, .int .i64 d]) "loop.example/tatting/impl.own").run Tryd.prog w = .ok (170, .agg #[.int .i64 a, .int .i64 b, .int .i64 c, .int .i64 d]) w := by kernel_rfl
theorem Tryd.aboutPut (a b c d s g : Int) (w : World) : (Go.method 338 168 (.agg #[.int .i64 a, .int .i64 b, .int .i64 c, .int .i64 d, .int .i64 s, .int .i64 g]) "loop.example/tatting/impl.about").run Tryd.prog w = .ok (169, .agg #[.int .i64 a, .int .i64 b, .int .i64 c, .int .i64 d]) w := by kernel_rfl
theorem Tryd.aboutTake (a b c d : Int) (w : World) : (Go.method 338 170 (.agg #[.int .i64 a, .int .i64 b, .int .i64 c, .int .i64 d]) "loop.example/tatting/impl.about").run Tryd.prog w = .ok (169, .agg #[.int .i64 a, .int .i64 b, .int .i64 c, .int .i64 d]) w := by kernel_rfl
theorem Tryd.fld0 (a b : Int) (w : World) : (Instr.field 69 (.agg #[.int .i64 a, .int .i64 b]) 0).run Tryd.prog w = .ok (.int .i64 a) w := by kernel_rfl
theorem own_any (a b c d : Int) (w : World) :
    Calls Tryd.prog 170 #[.agg #[.int .i64 a, .int .i64 b, .int .i64 c, .int .i64 d]] w fun e w' => e = .returned (.agg #[.int .i64 a, .int .i64 b]) ∧ Below w.heap.size w w' := by
  go_enter Tryd.func170, Tryd.ntmps170
  go_wp2
  exact bodyPost_ret (v := .agg #[.int .i64 a, .int .i64 b]) (by simp [results, Tryd.results170, go_sem]) rfl ⟨rfl, by go_grown⟩
theorem about_any (a b c d : Int) (w : World) :
    Calls Tryd.prog 169 #[.agg #[.int .i64 a, .int .i64 b, .int .i64 c, .int .i64 d]] w fun e w' => e = .returned (.agg #[.int .i64 c, .int .i64 d]) ∧ Below w.heap.size w w' := by
  go_enter Tryd.func169, Tryd.ntmps169
  go_wp2
  exact bodyPost_ret (v := .agg #[.int .i64 c, .int .i64 d]) (by simp [results, Tryd.results169, go_sem]) rfl ⟨rfl, by go_grown⟩
end Go.Proofs.YtficnhlkefpfnaaDoor

namespace Go.Proofs.YtficnhlkefpfnaaDoor
open Go.RowKit
set_option linter.unusedSimpArgs false
set_option linter.unusedVariables false

theorem infoInt : (Tryd.prog.info? 3).map (fun i => (i.zero, i.size, i.bytes)) = some (some (.int .i64 0), 1, 8) := by kernel_rfl
theorem made3 : (madeCells (Value.int .i64 0).cells (3 * 1)).toList = [.int .i64 0, .int .i64 0, .int .i64 0] := by
  have := toList_madeCells_one (.int .i64 0) 3
  simpa [Value.cells, List.replicate] using this

set_option maxRecDepth 100000 in
set_option maxHeartbeats 2000000 in
theorem count_any (l : List Op7) (g cap : Nat) (w : World) (hl : ThingsAt w g l) (hn : l.length ≤ 1048576) (hcap : l.length ≤ cap) (hok : l.all okO = true) :
    Calls Tryd.prog 104 #[.slice (some ⟨g, 0, none⟩) l.length cap] w fun e w' => e = .returned (.slice (some ⟨w.heap.size, 0, none⟩) 3 3) ∧ IntsAt w' w.heap.size [cnt l 1, cnt l 2, cnt l 3] ∧ (∀ j, w'.frozen? ⟨w.heap.size, j, none⟩ = false) ∧ Below w.heap.size w w' := by
  have hgw : g < w.heap.size := hl.1
  have HL0 : Hid (ThingsAt w g l) := hl
  have HO : Hid (l.all okO = true) := hok
  clear hl hok
  go_enter Tryd.func104, Tryd.ntmps104
  obtain ⟨i0, hi, hz0, hz1, hz2⟩ := info_parts infoInt
  go_wp2_with (first
    | (at_make; refine wpList_make_full _ rfl _ _ 33 rfl w.heap.size 3 i0 _ 1 Tryd.underlying33 hi hz0 hz1 .i64 .i64 _ _ 3 rfl rfl rfl rfl (by rw [hz2]; omega) (by unfold maxLen; omega) (Nat.le_refl _) ?_; intro w1 hown hgrow))
  clear hi hz0 hz1 hz2
  rw [made3] at hown
  have hB1 : Below w.heap.size w w1 := (Below.refl _ _).grown hgrow (Nat.le_refl _) (fun k h => by cases h)
  have c0 : w1.cell? ⟨w.heap.size, 0, none⟩ = some (.int .i64 0) := hown.cellAt 0 (by omega)
  have c1 : w1.cell? ⟨w.heap.size, 1, none⟩ = some (.int .i64 0) := hown.cellAt 1 (by omega)
  have c2 : w1.cell? ⟨w.heap.size, 2, none⟩ = some (.int .i64 0) := hown.cellAt 2 (by omega)
  have f0 : ∀ j, w1.frozen? ⟨w.heap.size, j, none⟩ = false := fun j => hown.frozenAt j
  have z0 : w.heap.size < w1.heap.size := (hown.lt _ rfl).2
  clear hown hgrow
  go_loopw [9] (fun i wr => ∃ k : Nat, k ≤ l.length ∧ i = .int .i64 k ∧ wr.cell? ⟨w.heap.size, 0, none⟩ = some (.int .i64 (cntTo l k 1)) ∧ wr.cell? ⟨w.heap.size, 1, none⟩ = some (.int .i64 (cntTo l k 2)) ∧ wr.cell? ⟨w.heap.size, 2, none⟩ = some (.int .i64 (cntTo l k 3)) ∧ (∀ j, wr.frozen? ⟨w.heap.size, j, none⟩ = false) ∧ w.heap.size < wr.heap.size ∧ Below w.heap.size w wr)
    (fun i _ => l.length - (intOf i).toNat)
  case atStart => exact ⟨0, Nat.zero_le _, rfl, by rw [cntTo_zero]; exact c0, by rw [cntTo_zero]; exact c1, by rw [cntTo_zero]; exact c2, f0, z0, hB1⟩
  case round =>
    obtain ⟨k, hk, rfl, q0, q1, q2, hfz, hws, hB⟩ := hrel
    have HB : Hid (Below w.heap.size w wr) := hB
    have HL : Hid (ThingsAt wr g l) := HL0.out.below hB hgw
    have hgr : g < wr.heap.size := HL.out.1
    clear hB hB1 c0 c1 c2 f0 z0
    by_cases hlt : k < l.length
    · have h0 := HL.out.2 k l[k] (by simp [hlt])
      obtain ⟨ha1, ha3, hb1, hb12⟩ := okO_id (all_iff.1 HO.out k hlt)
      have hcs := thV_cases (all_iff.1 HO.out k hlt)
      have s1 : Hid (∀ r, l[k].a = r → cntTo l (k + 1) r = cntTo l k r + 1) := fun r h => cntTo_same hlt h
      have s2 : Hid (∀ r, l[k].a ≠ r → cntTo l (k + 1) r = cntTo l k r) := fun r h => cntTo_other hlt h
      have b1 := cntTo_le l k 1
      have b2 := cntTo_le l k 2
      have b3 := cntTo_le l k 3
      generalize l[k] = o at *
      obtain ⟨xa, xb, xk, xc, xd, xs, xg⟩ := o
      simp only at *
      have hlt' : (k : Int) < (l.length : Int) := by omega
      have hk0 : (0 : Int) ≤ (k : Int) := by omega
      obtain rfl | rfl | rfl : xa = 1 ∨ xa = 2 ∨ xa = 3 := by omega
      all_goals
        have e1 := s1.out _ rfl
        have e2 : Hid (∀ r, _ → cntTo l (k + 1) r = cntTo l k r) := s2
        clear s1 s2
        have E1 := hideIt e1
        clear e1
        generalize hc1 : cntTo l k 1 = n1 at *
        generalize hc2 : cntTo l k 2 = n2 at *
        generalize hc3 : cntTo l k 3 = n3 at *
        have C1 := hideIt hc1
        have C2 := hideIt hc2
        have C3 := hideIt hc3
        clear hc1 hc2 hc3
        rcases hcs with ⟨hth, _⟩ | ⟨hth, _⟩
        all_goals
          rw [hth] at h0
          clear hth
          have mO := Tryd.ownPut
          have mT := Tryd.ownTake
          have mF := Tryd.fld0
          go_wp2_with (first | (go_at_call 170; refine (own_any _ _ _ _ _).mono ?_; rintro e w2 ⟨rfl, hb2⟩; have HB2 : Hid (Below w.heap.size w w2) := Bstep HB.out hb2; have hcb : ∀ o, w2.cell? ⟨w.heap.size, o, none⟩ = wr.cell? ⟨w.heap.size, o, none⟩ := (fun o => (bcell hb2).1 _ _ hws); have hfb : ∀ o, w2.frozen? ⟨w.heap.size, o, none⟩ = wr.frozen? ⟨w.heap.size, o, none⟩ := (fun o => (bcell hb2).2 _ _ hws); have hws2 : w.heap.size < w2.heap.size := Nat.lt_of_lt_of_le hws hb2.size; clear hb2))
      all_goals
        refine ⟨⟨k + 1, by omega, by go_num, ?_, ?_, ?_, fun j => by simp [hfb, hfz], by simpa using hws2, HB2.out.setCell (Nat.le_refl _) _⟩, by simp [intOf]; omega⟩
        · first | (rw [E1.out]; simp [hcb, q0, q1, q2, go_sem]; done) | (rw [e2.out 1 (by decide), C1.out]; simp [hcb, q0, q1, q2, go_sem]; done)
        · first | (rw [E1.out]; simp [hcb, q0, q1, q2, go_sem]; done) | (rw [e2.out 2 (by decide), C2.out]; simp [hcb, q0, q1, q2, go_sem]; done)
        · first | (rw [E1.out]; simp [hcb, q0, q1, q2, go_sem]; done) | (rw [e2.out 3 (by decide), C3.out]; simp [hcb, q0, q1, q2, go_sem]; done)
    · obtain rfl : k = l.length := by omega
      rw [cntTo_len] at q0 q1 q2
      go_wp2
      go_ret
      exact ⟨rfl, ⟨hws, fun i x hx => by
        match i, hx with
        | 0, hx => simp at hx; subst hx; exact q0
        | 1, hx => simp at hx; subst hx; exact q1
        | 2, hx => simp at hx; subst hx; exact q2⟩, hfz, HB.out⟩
end Go.Proofs.YtficnhlkefpfnaaDoor

namespace Go.Proofs.YtficnhlkefpfnaaDoor
open Go.RowKit
set_option linter.unusedSimpArgs false
set_option linter.unusedVariables false

set_option maxHeartbeats 1000000 in
theorem toOp_any (a b k c d s g : Int) (w : World) :
    Calls Tryd.prog 46 #[.agg #[.int .i64 a, .int .i64 b, .int .i64 k, .int .i64 c, .int .i64 d, .int .i64 s, .int .i64 g]] w fun e w' => e = .returned (.agg #[.int .i64 a, .int .i64 b, .int .i64 k, .int .i64 c, .int .i64 d, .int .i64 s, .int .i64 g]) ∧ Below w.heap.size w w' := by
  go_enter Tryd.func46, Tryd.ntmps46
  go_wp2
  exact bodyPost_ret (v := .agg #[.int .i64 a, .int .i64 b, .int .i64 k, .int .i64 c, .int .i64 d, .int .i64 s, .int .i64 g]) (by simp [results, Tryd.results46, go_sem]) rfl ⟨rfl, by go_grown⟩

set_option maxHeartbeats 1000000 in
theorem specOp_any (a b k c d s g : Int) (w : World) :
    Calls Tryd.prog 78 #[.agg #[.int .i64 a, .int .i64 b, .int .i64 k, .int .i64 c, .int .i64 d, .int .i64 s, .int .i64 g]] w fun e w' => e = .returned (.bool (opB a b k c d s g)) ∧ Below w.heap.size w w' := by
  go_enter Tryd.func78, Tryd.ntmps78
  go_wp2_with (first
    | (go_at_call 108; refine (l1Id_any _ _ _).mono ?_; rintro e w' ⟨rfl, hb⟩; have hB : Below w.heap.size w w' := Bstep (by go_grown) hb; have hlt : w.heap.size < w'.heap.size := (by have := hb.size; (try simp at this); omega); have hp0 : 0 < w'.heap.size := (by omega); obtain ⟨hc, hf⟩ := bcell hb; clear hb)
    | (go_at_call 62; refine (l6In_any _ _ _ _).mono ?_; rintro e w' ⟨rfl, rfl⟩))
  all_goals
    go_ret
    exact ⟨ret_bool (by (try simp only [idB, inB, opB, Bool.not_eq_true, decide_eq_true_eq, decide_eq_false_iff_not, bne_iff_ne, beq_iff_eq, beq_eq_false_iff_ne, ne_eq] at *); first | (apply decide_eq_decide.2; omega) | (symm; apply decide_eq_true; omega) | (symm; apply decide_eq_false; omega) | (rw [Bool.eq_iff_iff]; simp only [Bool.and_eq_true, Bool.or_eq_true, decide_eq_true_eq, beq_iff_eq, bne_iff_ne, Bool.not_eq_true, ne_eq]; omega)), by first | assumption | go_grown⟩


theorem ret_two {u v u' v' : Value} (h : u = u') (h2 : v = v') : Ending.returned (.tuple #[u, v]) = .returned (.tuple #[u', v']) := by rw [h, h2]

set_option maxHeartbeats 1000000 in
theorem thingOf_put (a b c d s g : Int) (w : World) (hid : idB a b = true) (hne : ¬ (c = a ∧ d = b)) (hp : putB c d s g = true) :
    Calls Tryd.prog 119 #[.agg #[.int .i64 a, .int .i64 b, .int .i64 1, .int .i64 c, .int .i64 d, .int .i64 s, .int .i64 g]] w fun e w' => e = .returned (.tuple #[.iface 168 (.agg #[.int .i64 a, .int .i64 b, .int .i64 c, .int .i64 d, .int .i64 s, .int .i64 g]), .nilIface]) ∧ Below w.heap.size w w' := by
  by_cases hca : c = a
  · subst hca
    have hdb : ¬ d = b := by omega
    clear hne
    go_enter Tryd.func119, Tryd.ntmps119
    go_wp2_with (first
      | (go_at_call 134; refine (idOk_any _ _ _).mono ?_; rintro e w' ⟨rfl, hb⟩; have hB : Below w.heap.size w w' := Bstep (by go_grown) hb; have hlt : w.heap.size < w'.heap.size := (by have := hb.size; (try simp at this); omega); have hp0 : 0 < w'.heap.size := (by omega); obtain ⟨hc, hf⟩ := bcell hb; clear hb)
      | (go_at_call 135; refine (putOk_any _ _ _ _ _ _ _ _).mono ?_; rintro e w' ⟨rfl, hb⟩; have hB : Below w.heap.size w w' := Bstep (by go_grown) hb; have hlt : w.heap.size < w'.heap.size := (by have := hb.size; (try simp at this); omega); have hp0 : 0 < w'.heap.size := (by omega); obtain ⟨hc, hf⟩ := bcell hb; clear hb))
    go_ret2
    exact ⟨rfl, by first | assumption | go_grown⟩
  · clear hne
    go_enter Tryd.func119, Tryd.ntmps119
    go_wp2_with (first
      | (go_at_call 134; refine (idOk_any _ _ _).mono ?_; rintro e w' ⟨rfl, hb⟩; have hB : Below w.heap.size w w' := Bstep (by go_grown) hb; have hlt : w.heap.size < w'.heap.size := (by have := hb.size; (try simp at this); omega); have hp0 : 0 < w'.heap.size := (by omega); obtain ⟨hc, hf⟩ := bcell hb; clear hb)
      | (go_at_call 135; refine (putOk_any _ _ _ _ _ _ _ _).mono ?_; rintro e w' ⟨rfl, hb⟩; have hB : Below w.heap.size w w' := Bstep (by go_grown) hb; have hlt : w.heap.size < w'.heap.size := (by have := hb.size; (try simp at this); omega); have hp0 : 0 < w'.heap.size := (by omega); obtain ⟨hc, hf⟩ := bcell hb; clear hb))
    go_ret2
    exact ⟨rfl, by first | assumption | go_grown⟩

set_option maxHeartbeats 1000000 in
theorem thingOf_take (a b c d s g : Int) (w : World) (hid : idB a b = true) (hne : ¬ (c = a ∧ d = b)) (hp : takeB c d s g = true) :
    Calls Tryd.prog 119 #[.agg #[.int .i64 a, .int .i64 b, .int .i64 2, .int .i64 c, .int .i64 d, .int .i64 s, .int .i64 g]] w fun e w' => e = .returned (.tuple #[.iface 170 (.agg #[.int .i64 a, .int .i64 b, .int .i64 c, .int .i64 d]), .nilIface]) ∧ Below w.heap.size w w' := by
  by_cases hca : c = a
  · subst hca
    have hdb : ¬ d = b := by omega
    clear hne
    go_enter Tryd.func119, Tryd.ntmps119
    go_wp2_with (first
      | (go_at_call 134; refine (idOk_any _ _ _).mono ?_; rintro e w' ⟨rfl, hb⟩; have hB : Below w.heap.size w w' := Bstep (by go_grown) hb; have hlt : w.heap.size < w'.heap.size := (by have := hb.size; (try simp at this); omega); have hp0 : 0 < w'.heap.size := (by omega); obtain ⟨hc, hf⟩ := bcell hb; clear hb)
      | (go_at_call 136; refine (takeOk_any _ _ _ _ _ _ _ _).mono ?_; rintro e w' ⟨rfl, hb⟩; have hB : Below w.heap.size w w' := Bstep (by go_grown) hb; have hlt : w.heap.size < w'.heap.size := (by have := hb.size; (try simp at this); omega); have hp0 : 0 < w'.heap.size := (by omega); obtain ⟨hc, hf⟩ := bcell hb; clear hb))
    go_ret2
    exact ⟨rfl, by first | assumption | go_grown⟩
  · clear hne
    go_enter Tryd.func119, Tryd.ntmps119
    go_wp2_with (first
      | (go_at_call 134; refine (idOk_any _ _ _).mono ?_; rintro e w' ⟨rfl, hb⟩; have hB : Below w.heap.size w w' := Bstep (by go_grown) hb; have hlt : w.heap.size < w'.heap.size := (by have := hb.size; (try simp at this); omega); have hp0 : 0 < w'.heap.size := (by omega); obtain ⟨hc, hf⟩ := bcell hb; clear hb)
      | (go_at_call 136; refine (takeOk_any _ _ _ _ _ _ _ _).mono ?_; rintro e w' ⟨rfl, hb⟩; have hB : Below w.heap.size w w' := Bstep (by go_grown) hb; have hlt : w.heap.size < w'.heap.size := (by have := hb.size; (try simp at this); omega); have hp0 : 0 < w'.heap.size := (by omega); obtain ⟨hc, hf⟩ := bcell hb; clear hb))
    go_ret2
    exact ⟨rfl, by first | assumption | go_grown⟩

end Go.Proofs.YtficnhlkefpfnaaDoor

namespace Go.Proofs.YtficnhlkefpfnaaDoor
open Go.RowKit
set_option linter.unusedSimpArgs false
set_option linter.unusedVariables false

set_option maxHeartbeats 1000000 in
theorem thingOf_no (a b k c d s g : Int) (x : Addr) (w : World) (he : w.cell? ⟨0, 0, none⟩ = some (.iface 200 (.pointer (some x)))) (h0 : 0 < w.heap.size) (hno : opB a b k c d s g = false) :
    Calls Tryd.prog 119 #[.agg #[.int .i64 a, .int .i64 b, .int .i64 k, .int .i64 c, .int .i64 d, .int .i64 s, .int .i64 g]] w fun e w' => e = .returned (.tuple #[.nilIface, .iface 200 (.pointer (some x))]) ∧ Below w.heap.size w w' := by
  have HN : Hid (opB a b k c d s g = false) := hno
  clear hno
  go_enter Tryd.func119, Tryd.ntmps119
  go_wp2_with (first
    | (go_at_call 134; refine (idOk_any _ _ _).mono ?_; rintro e w' ⟨rfl, hb⟩; have hB : Below w.heap.size w w' := Bstep (by go_grown) hb; have hlt : w.heap.size < w'.heap.size := (by have := hb.size; (try simp at this); omega); have hp0 : 0 < w'.heap.size := (by omega); obtain ⟨hc, hf⟩ := bcell hb; clear hb)
    | (go_at_call 135; refine (putOk_any _ _ _ _ _ _ _ _).mono ?_; rintro e w' ⟨rfl, hb⟩; have hB : Below w.heap.size w w' := Bstep (by go_grown) hb; have hlt : w.heap.size < w'.heap.size := (by have := hb.size; (try simp at this); omega); have hp0 : 0 < w'.heap.size := (by omega); obtain ⟨hc, hf⟩ := bcell hb; clear hb)
    | (go_at_call 136; refine (takeOk_any _ _ _ _ _ _ _ _).mono ?_; rintro e w' ⟨rfl, hb⟩; have hB : Below w.heap.size w w' := Bstep (by go_grown) hb; have hlt : w.heap.size < w'.heap.size := (by have := hb.size; (try simp at this); omega); have hp0 : 0 < w'.heap.size := (by omega); obtain ⟨hc, hf⟩ := bcell hb; clear hb))
  all_goals first
    | (go_region; go_wp2; go_ret2; exact ⟨rfl, by first | assumption | go_grown⟩)
    | (exfalso; have hno := HN.out; simp only [opB, idB, putB, takeB, Bool.not_eq_true, decide_eq_true_eq, decide_eq_false_iff_not] at *; omega)
end Go.Proofs.YtficnhlkefpfnaaDoor

namespace Go.Proofs.YtficnhlkefpfnaaDoor
open Go.RowKit
set_option linter.unusedSimpArgs false
set_option linter.unusedVariables false

theorem errB {w W : World} {v : Value} (h : Below w.heap.size w W) (h0 : 0 < w.heap.size) (he : w.cell? ⟨0, 0, none⟩ = some v) : W.cell? ⟨0, 0, none⟩ = some v := by
  rw [(bcell h).1 _ _ h0]; exact he
theorem posB {w W : World} (h : Below w.heap.size w W) (h0 : 0 < w.heap.size) : 0 < W.heap.size := Nat.lt_of_lt_of_le h0 h.size

set_option maxHeartbeats 1000000 in
theorem implOp_any (a b k c d s g : Int) (x : Addr) (w : World) (he : w.cell? ⟨0, 0, none⟩ = some (.iface 200 (.pointer (some x)))) (h0 : 0 < w.heap.size) :
    Calls Tryd.prog 110 #[.agg #[.int .i64 a, .int .i64 b, .int .i64 k, .int .i64 c, .int .i64 d, .int .i64 s, .int .i64 g]] w fun e w' => e = .returned (.bool (opB a b k c d s g)) ∧ Below w.heap.size w w' := by
  cases ho : opB a b k c d s g
  · have HO : Hid (opB a b k c d s g = false) := ho
    clear ho
    go_enter Tryd.func110, Tryd.ntmps110
    go_wp2_with (first
      | (go_at_call 119; refine (thingOf_no _ _ _ _ _ _ _ x _ ?_ ?_ HO.out).mono ?_; (exact errB (by go_grown) h0 he); (exact posB (by go_grown) h0); rintro e w' ⟨rfl, hb⟩; have hB : Below w.heap.size w w' := Bstep (by go_grown) hb; have hlt : w.heap.size < w'.heap.size := (by have := hb.size; (try simp at this); omega); have hp0 : 0 < w'.heap.size := (by omega); obtain ⟨hc, hf⟩ := bcell hb; clear hb)
      | (go_at_call 98; refine (is_same x _).mono ?_; rintro e w'' ⟨rfl, rfl⟩))
    go_ret
    exact ⟨rfl, by first | assumption | go_grown⟩
  · rw [opB_true] at ho
    obtain ⟨h1, h2, h3⟩ := ho
    have hid : Hid (idB a b = true) := idB_true.2 h1
    have hne : Hid (¬ (c = a ∧ d = b)) := h2
    rcases h3 with ⟨rfl, h3⟩ | ⟨rfl, h3⟩
    · have hp : Hid (putB c d s g = true) := decide_eq_true h3
      clear h1 h2 h3
      go_enter Tryd.func110, Tryd.ntmps110
      go_wp2_with (first
        | (go_at_call 119; refine (thingOf_put _ _ _ _ _ _ _ hid.out hne.out hp.out).mono ?_; rintro e w' ⟨rfl, hb⟩; have hB : Below w.heap.size w w' := Bstep (by go_grown) hb; have hlt : w.heap.size < w'.heap.size := (by have := hb.size; (try simp at this); omega); have hp0 : 0 < w'.heap.size := (by omega); obtain ⟨hc, hf⟩ := bcell hb; clear hb)
        | (go_at_call 98; refine (is_nil x _).mono ?_; rintro e w'' ⟨rfl, rfl⟩))
      go_ret
      exact ⟨rfl, by first | assumption | go_grown⟩
    · have hp : Hid (takeB c d s g = true) := decide_eq_true h3
      clear h1 h2 h3
      go_enter Tryd.func110, Tryd.ntmps110
      go_wp2_with (first
        | (go_at_call 119; refine (thingOf_take _ _ _ _ _ _ _ hid.out hne.out hp.out).mono ?_; rintro e w' ⟨rfl, hb⟩; have hB : Below w.heap.size w w' := Bstep (by go_grown) hb; have hlt : w.heap.size < w'.heap.size := (by have := hb.size; (try simp at this); omega); have hp0 : 0 < w'.heap.size := (by omega); obtain ⟨hc, hf⟩ := bcell hb; clear hb)
        | (go_at_call 98; refine (is_nil x _).mono ?_; rintro e w'' ⟨rfl, rfl⟩))
      go_ret
      exact ⟨rfl, by first | assumption | go_grown⟩
end Go.Proofs.YtficnhlkefpfnaaDoor

namespace Go.Proofs.YtficnhlkefpfnaaDoor
open Go.RowKit
set_option linter.unusedSimpArgs false
set_option linter.unusedVariables false

/-- Where what a thing refers to stands, by how much each did. -/
def plc (l : List Op7) (o : Op7) : Int := placeI (cnt l 1) (cnt l 2) (cnt l 3) o.c o.d
/-- What a thing refers to is nothing, or was put, by its place. -/
def refI (l : List Op7) (o : Op7) : Bool := if plc l o < 0 then noB o.c o.d else (match l[(plc l o).toNat]? with | some p => p.k == 1 | none => false)
theorem cnt_sum (l : List Op7) : cnt l 1 + cnt l 2 + cnt l 3 ≤ l.length := by
  unfold cnt
  induction l with
  | nil => simp
  | cons o t ih =>
    simp only [List.countP_cons, List.length_cons, isRep]
    by_cases h1 : o.a = 1
    · simp [h1]; omega
    · by_cases h2 : o.a = 2
      · simp [h2]; omega
      · by_cases h3 : o.a = 3
        · simp [h3]; omega
        · simp [h1, h2, h3]; omega
theorem cnt_nonneg (l : List Op7) (r : Int) : 0 ≤ cnt l r := by unfold cnt; omega
theorem plc_lt (l : List Op7) (o : Op7) : -1 ≤ plc l o ∧ plc l o < l.length := by
  have h := cnt_sum l
  have h1 := cnt_nonneg l 1
  have h2 := cnt_nonneg l 2
  have h3 := cnt_nonneg l 3
  unfold plc placeI seenAt
  by_cases hc : idB o.c o.d = true ∧ o.d ≤ (if o.c = 1 then cnt l 1 else if o.c = 2 then cnt l 2 else cnt l 3)
  · rw [if_pos hc]
    obtain ⟨hid, hle⟩ := hc
    have := idB_true.1 hid
    by_cases e1 : o.c = 1
    · rw [if_pos e1] at hle ⊢; omega
    · by_cases e2 : o.c = 2
      · rw [if_neg e1, if_pos e2] at hle ⊢; omega
      · rw [if_neg e1, if_neg e2] at hle ⊢; omega
  · rw [if_neg hc]; omega
theorem ownsRow_below {w w' : World} {B base : Nat} {e : TypeId} {size : Nat} {v : Value} {n : Nat} {xs : List Value} (h : w.ownsRow base e size v n xs) (hb : Below B w w') (hv : ∀ k, v.ownBlock = some k → k < B) : w'.ownsRow base e size v n xs := by
  obtain ⟨h1, h2⟩ := h
  refine ⟨h1, ?_⟩
  rcases h2 with h2 | ⟨g, cap, cur, rfl, h3, h4, h5, h6, h7, h8⟩
  · exact .inl h2
  · exact .inr ⟨g, cap, cur, rfl, h3, (hb.block g (hv g rfl)).trans h4, h5, h6, h7, h8⟩
theorem ints_of_owns {w : World} {base M n cap : Nat} {xs : List Int} (hn : n = xs.length) (h : w.ownsRow base 3 1 (.slice (some ⟨M, 0, none⟩) n cap) n (xs.map (Value.int .i64))) : IntsAt w M xs := by
  subst hn
  refine ⟨(h.lt M rfl).2, fun i x hx => ?_⟩
  have hi : i < xs.length := (List.getElem?_eq_some_iff.1 hx).1
  rw [h.cellAt i (by omega)]
  simp [hx]

/-- Where the block of a slice of the call's own lies. -/
theorem own_lt {M n cap B : Nat} (h : M < B) : ∀ k, (Value.slice (some ⟨M, 0, none⟩) n cap).ownBlock = some k → k < B := fun k hk => by
  simp [Value.ownBlock] at hk; omega

set_option maxRecDepth 100000 in
set_option maxHeartbeats 4000000 in
theorem refs_any (l : List Op7) (g cap : Nat) (x : Addr) (w : World) (hl : ThingsAt w g l) (hn : l.length ≤ 36) (hcap : l.length ≤ cap) (hok : l.all okO = true)
    (he : w.cell? ⟨0, 0, none⟩ = some (.iface 200 (.pointer (some x)))) (h0 : 0 < w.heap.size) :
    Calls Tryd.prog 121 #[.slice (some ⟨g, 0, none⟩) l.length cap] w fun e w' =>
      ((l.all (refI l) = true ∧ ∃ M, e = .returned (.tuple #[.slice (some ⟨M, 0, none⟩) l.length l.length, .nilIface]) ∧ IntsAt w' M (l.map (plc l))) ∨
       (l.all (refI l) = false ∧ e = .returned (.tuple #[.slice none 0 0, .iface 200 (.pointer (some x))]))) ∧ Below w.heap.size w w' := by
  have hgw : g < w.heap.size := hl.1
  have HL0 : Hid (ThingsAt w g l) := hl
  have HO : Hid (l.all okO = true) := hok
  have HS := hideIt (cnt_sum l)
  have HP1 := cnt_nonneg l 1
  have HP2 := cnt_nonneg l 2
  have HP3 := cnt_nonneg l 3
  have b1 : Hid ((0 ≤ cnt l 1 ∧ cnt l 1 ≤ 1048576) ∧ (0 ≤ cnt l 2 ∧ cnt l 2 ≤ 1048576)) := by
    have := HS.out
    exact ⟨⟨by omega, by omega⟩, ⟨by omega, by omega⟩⟩
  clear hl hok HP1 HP2 HP3
  obtain ⟨i0, hi, hz0, hz1, hz2⟩ := info_parts infoInt
  have HI := hideIt hi
  have HZ0 := hideIt hz0
  have HZ1 := hideIt hz1
  have HZ2 := hideIt hz2
  clear hi hz0 hz1 hz2
  go_enter Tryd.func121, Tryd.ntmps121
  go_wp2_with (first
    | (go_at_call 104; refine (count_any l g cap _ HL0.out (by omega) hcap HO.out).mono ?_; rintro e w1 ⟨rfl, hseen, hfz1, hb1⟩; have HSE := hideIt hseen; have HB1 := hideIt hb1; have hz1 : w.heap.size < w1.heap.size := hseen.1; clear hseen hfz1 hb1)
    | (at_make; refine wpList_make_own _ rfl _ _ 33 rfl w1.heap.size 3 i0 _ 1 Tryd.underlying33 HI.out HZ0.out HZ1.out .i64 .i64 _ l.length rfl rfl rfl (by rw [HZ2.out]; omega) (by unfold maxLen; omega) (Nat.le_refl _) ?_; intro w2 hown hgrow))
  have hB2 : Below w1.heap.size w1 w2 := (Below.refl _ _).grown hgrow (Nat.le_refl _) (fun k h => by cases h)
  have hM : w1.heap.size < w2.heap.size := (hown.lt _ rfl).2
  have HS2 := hideIt (HSE.out.below hB2 hz1)
  have HB2 := hideIt (Bstep HB1.out hB2)
  generalize hMM : w1.heap.size = M at *
  have hMw : w.heap.size < M := hz1
  clear hgrow HSE HB1 hB2 hMM hz1
  go_loopw [5, 16] (fun v i wr => ∃ k : Nat, k ≤ l.length ∧ i = .int .i64 k ∧ v = .slice (some ⟨M, 0, none⟩) k l.length ∧ (∀ j (hj : j < l.length), j < k → refI l l[j] = true) ∧ wr.ownsRow M 3 1 (.slice (some ⟨M, 0, none⟩) k l.length) k (((l.take k).map (plc l)).map (Value.int .i64)) ∧ IntsAt wr w.heap.size [cnt l 1, cnt l 2, cnt l 3] ∧ Below w.heap.size w wr)
    (fun _ i _ => l.length - (intOf i).toNat)
  case atStart => exact ⟨0, Nat.zero_le _, rfl, rfl, fun j hj h => by omega, by simpa using hown, HS2.out, HB2.out⟩
  case round =>
    obtain ⟨k, hk, rfl, rfl, hno, hown', hse, hB⟩ := hrel
    have HN := hideIt hno
    have HW := hideIt hown'
    have HSE := hideIt hse
    have HB := hideIt hB
    have hMr : M < wr.heap.size := (hown'.lt _ rfl).2
    have hsr : w.heap.size < wr.heap.size := hse.1
    have HL := hideIt (HL0.out.below hB hgw)
    have hgr : g < wr.heap.size := HL.out.1
    clear hno hown' hse hB hown HS2 HB2
    by_cases hlt : k < l.length
    · have hth := HL.out.2 k l[k] (by simp [hlt])
      have hp0 : 0 < wr.heap.size := by omega
      have herr : wr.cell? ⟨0, 0, none⟩ = some (.iface 200 (.pointer (some x))) := by rw [(bcell HB.out).1 _ _ h0]; exact he
      have HC : Hid (Below wr.heap.size wr wr) := Below.refl _ _
      have hmap : Hid (((l.take (k + 1)).map (plc l)).map (Value.int .i64) = ((l.take k).map (plc l)).map (Value.int .i64) ++ [.int .i64 (plc l l[k])]) := by
        show ((l.take (k + 1)).map (plc l)).map (Value.int .i64) = _
        rw [List.take_succ_eq_append_getElem hlt, List.map_append, List.map_append]; rfl
      have hnext : Hid (refI l l[k] = true → ∀ j (hj : j < l.length), j < k + 1 → refI l l[j] = true) := fun hf j hj hj1 => by
        rcases Nat.lt_or_ge j k with h | h
        · exact HN.out j hj h
        · obtain rfl : j = k := by omega
          exact hf
      have hbadr : Hid (refI l l[k] = false → l.all (refI l) = false) := fun h => all_false hlt h
      obtain ⟨pv0, pv1⟩ := plc_lt l l[k]
      have HPV : Hid (placeI (cnt l 1) (cnt l 2) (cnt l 3) l[k].c l[k].d = plc l l[k]) := rfl
      have HRF : Hid (refI l l[k] = if plc l l[k] < 0 then noB l[k].c l[k].d else (match l[(plc l l[k]).toNat]? with | some p => p.k == 1 | none => false)) := rfl
      have hcs := thV_cases (all_iff.1 HO.out k hlt)
      generalize plc l l[k] = pv at *
      generalize l[k] = o at *
      obtain ⟨xa, xb, xk, xc, xd, xs, xg⟩ := o
      simp only at *
      have hlt' : (k : Int) < (l.length : Int) := by omega
      have hk0 : (0 : Int) ≤ (k : Int) := by omega
      have mA := Tryd.aboutPut
      have mB := Tryd.aboutTake
      by_cases hpn : pv < 0
      · have hge : decide (pv < 0) = true := decide_eq_true hpn
        cases hnb : noB xc xd
        · have HNB := hideIt hnb
          have HRI : Hid (refI l ⟨xa, xb, xk, xc, xd, xs, xg⟩ = false) := by show refI l _ = false; rw [HRF.out, if_pos hpn, HNB.out]
          clear hnb HRF
          rcases hcs with ⟨hc1, _⟩ | ⟨hc1, _⟩
          all_goals
            rw [hc1] at hth
            clear hc1
            go_wp2_with (first
              | (go_at_call 169; refine (about_any _ _ _ _ _).mono ?_; rintro e w' ⟨rfl, hb⟩; have HC := hideIt (Bstep HC.out hb); have hcg : ∀ o, w'.cell? ⟨g, o, none⟩ = wr.cell? ⟨g, o, none⟩ := (fun o => (bcell HC.out).1 _ _ hgr); have hcE : ∀ o, w'.cell? ⟨0, o, none⟩ = wr.cell? ⟨0, o, none⟩ := (fun o => (bcell HC.out).1 _ _ hp0); clear hb)
              | (go_at_call 129; refine (place_any _ _ _ _ _ _ _ (HSE.out.below HC.out hsr) b1.out.1 b1.out.2).mono ?_; rintro e w' ⟨rfl, hb⟩; rw [HPV.out]; have HC := hideIt (Bstep HC.out hb); have hcg : ∀ o, w'.cell? ⟨g, o, none⟩ = wr.cell? ⟨g, o, none⟩ := (fun o => (bcell HC.out).1 _ _ hgr); have hcE : ∀ o, w'.cell? ⟨0, o, none⟩ = wr.cell? ⟨0, o, none⟩ := (fun o => (bcell HC.out).1 _ _ hp0); clear hb)
              | (go_at_call 137; refine (nothing_any _ _ _).mono ?_; rintro e w' ⟨rfl, hb⟩; rw [HNB.out]; have HC := hideIt (Bstep HC.out hb); have hcg : ∀ o, w'.cell? ⟨g, o, none⟩ = wr.cell? ⟨g, o, none⟩ := (fun o => (bcell HC.out).1 _ _ hgr); have hcE : ∀ o, w'.cell? ⟨0, o, none⟩ = wr.cell? ⟨0, o, none⟩ := (fun o => (bcell HC.out).1 _ _ hp0); clear hb)
              | (go_at_call 138; refine (isPut_any _ HOP.out _).mono ?_; rintro e w' ⟨rfl, rfl⟩; rw [HNB.out])
              | (at_builtin; refine wpList_append_fits _ rfl _ _ 33 rfl M 3 i0 1 Tryd.underlying33 HI.out HZ1.out M k l.length (((l.take k).map (plc l)).map (Value.int .i64)) rfl (ownsRow_below HW.out (HC.out.trans ((Below.refl _ _).alloc HC.out.size _)) (own_lt hMr)) _ 1 1 [.int .i64 pv] rfl rfl (by rintro (_ | j) u hu <;> simp at hu; subst hu; simp [Addr.add, go_sem]) (by simp [Value.oneCell']) (by omega) ?_; intro w4 hown4 hgrow4))
            go_region
            go_wp2
            go_ret2
            exact ⟨.inr ⟨hbadr.out HRI.out, rfl⟩, by have := Bstep HB.out HC.out; go_grown⟩
        · have HNB := hideIt hnb
          have HRI : Hid (refI l ⟨xa, xb, xk, xc, xd, xs, xg⟩ = true) := by show refI l _ = true; rw [HRF.out, if_pos hpn, HNB.out]
          clear hnb HRF
          rcases hcs with ⟨hc1, _⟩ | ⟨hc1, _⟩
          all_goals
            rw [hc1] at hth
            clear hc1
            go_wp2_with (first
              | (go_at_call 169; refine (about_any _ _ _ _ _).mono ?_; rintro e w' ⟨rfl, hb⟩; have HC := hideIt (Bstep HC.out hb); have hcg : ∀ o, w'.cell? ⟨g, o, none⟩ = wr.cell? ⟨g, o, none⟩ := (fun o => (bcell HC.out).1 _ _ hgr); have hcE : ∀ o, w'.cell? ⟨0, o, none⟩ = wr.cell? ⟨0, o, none⟩ := (fun o => (bcell HC.out).1 _ _ hp0); clear hb)
              | (go_at_call 129; refine (place_any _ _ _ _ _ _ _ (HSE.out.below HC.out hsr) b1.out.1 b1.out.2).mono ?_; rintro e w' ⟨rfl, hb⟩; rw [HPV.out]; have HC := hideIt (Bstep HC.out hb); have hcg : ∀ o, w'.cell? ⟨g, o, none⟩ = wr.cell? ⟨g, o, none⟩ := (fun o => (bcell HC.out).1 _ _ hgr); have hcE : ∀ o, w'.cell? ⟨0, o, none⟩ = wr.cell? ⟨0, o, none⟩ := (fun o => (bcell HC.out).1 _ _ hp0); clear hb)
              | (go_at_call 137; refine (nothing_any _ _ _).mono ?_; rintro e w' ⟨rfl, hb⟩; rw [HNB.out]; have HC := hideIt (Bstep HC.out hb); have hcg : ∀ o, w'.cell? ⟨g, o, none⟩ = wr.cell? ⟨g, o, none⟩ := (fun o => (bcell HC.out).1 _ _ hgr); have hcE : ∀ o, w'.cell? ⟨0, o, none⟩ = wr.cell? ⟨0, o, none⟩ := (fun o => (bcell HC.out).1 _ _ hp0); clear hb)
              | (go_at_call 138; refine (isPut_any _ HOP.out _).mono ?_; rintro e w' ⟨rfl, rfl⟩; rw [HNB.out])
              | (at_builtin; refine wpList_append_fits _ rfl _ _ 33 rfl M 3 i0 1 Tryd.underlying33 HI.out HZ1.out M k l.length (((l.take k).map (plc l)).map (Value.int .i64)) rfl (ownsRow_below HW.out (HC.out.trans ((Below.refl _ _).alloc HC.out.size _)) (own_lt hMr)) _ 1 1 [.int .i64 pv] rfl rfl (by rintro (_ | j) u hu <;> simp at hu; subst hu; simp [Addr.add, go_sem]) (by simp [Value.oneCell']) (by omega) ?_; intro w4 hown4 hgrow4))
            have hB4 : Below w.heap.size w w4 := ((Bstep HB.out HC.out).alloc (by have := HC.out.size; omega) _).grown hgrow4 (by have := HC.out.size; simp; omega) (fun k h => by cases h; omega)
            have hS4 : IntsAt w4 w.heap.size [cnt l 1, cnt l 2, cnt l 3] := by
              refine (HSE.out.below (B := M) ?_ hMw)
              exact ((HC.out.mono (by omega)).alloc (by have := HC.out.size; omega) _).grown hgrow4 (by have := HC.out.size; simp; omega) (fun k h => by cases h; omega)
            exact ⟨⟨k + 1, by omega, by go_num, rfl, hnext.out HRI.out, by rw [hmap.out]; exact hown4, hS4, hB4⟩, by simp [intOf]; omega⟩
      · obtain ⟨n, rfl⟩ := Int.eq_ofNat_of_zero_le (show 0 ≤ pv by omega)
        have hn1 : n < l.length := by omega
        have hn2 : (n : Int) < (l.length : Int) := by omega
        have hn0 : (0 : Int) ≤ (n : Int) := by omega
        have hpt := HL.out.2 n l[n] (by simp [hn1])
        have HOP := hideIt (all_iff.1 HO.out n hn1)
        have HRF2 : Hid (refI l ⟨xa, xb, xk, xc, xd, xs, xg⟩ = (l[n].k == 1)) := by show refI l _ = _; rw [HRF.out, if_neg hpn]; simp [hn1]
        generalize l[n] = p at *
        cases hnb : (p.k == 1)
        · have HNB := hideIt hnb
          have HRI : Hid (refI l ⟨xa, xb, xk, xc, xd, xs, xg⟩ = false) := by show refI l _ = false; rw [HRF2.out, HNB.out]
          clear hnb HRF HRF2
          rcases hcs with ⟨hc1, _⟩ | ⟨hc1, _⟩
          all_goals
            rw [hc1] at hth
            clear hc1
            go_wp2_with (first
              | (go_at_call 169; refine (about_any _ _ _ _ _).mono ?_; rintro e w' ⟨rfl, hb⟩; have HC := hideIt (Bstep HC.out hb); have hcg : ∀ o, w'.cell? ⟨g, o, none⟩ = wr.cell? ⟨g, o, none⟩ := (fun o => (bcell HC.out).1 _ _ hgr); have hcE : ∀ o, w'.cell? ⟨0, o, none⟩ = wr.cell? ⟨0, o, none⟩ := (fun o => (bcell HC.out).1 _ _ hp0); clear hb)
              | (go_at_call 129; refine (place_any _ _ _ _ _ _ _ (HSE.out.below HC.out hsr) b1.out.1 b1.out.2).mono ?_; rintro e w' ⟨rfl, hb⟩; rw [HPV.out]; have HC := hideIt (Bstep HC.out hb); have hcg : ∀ o, w'.cell? ⟨g, o, none⟩ = wr.cell? ⟨g, o, none⟩ := (fun o => (bcell HC.out).1 _ _ hgr); have hcE : ∀ o, w'.cell? ⟨0, o, none⟩ = wr.cell? ⟨0, o, none⟩ := (fun o => (bcell HC.out).1 _ _ hp0); clear hb)
              | (go_at_call 137; refine (nothing_any _ _ _).mono ?_; rintro e w' ⟨rfl, hb⟩; rw [HNB.out]; have HC := hideIt (Bstep HC.out hb); have hcg : ∀ o, w'.cell? ⟨g, o, none⟩ = wr.cell? ⟨g, o, none⟩ := (fun o => (bcell HC.out).1 _ _ hgr); have hcE : ∀ o, w'.cell? ⟨0, o, none⟩ = wr.cell? ⟨0, o, none⟩ := (fun o => (bcell HC.out).1 _ _ hp0); clear hb)
              | (go_at_call 138; refine (isPut_any _ HOP.out _).mono ?_; rintro e w' ⟨rfl, rfl⟩; rw [HNB.out])
              | (at_builtin; refine wpList_append_fits _ rfl _ _ 33 rfl M 3 i0 1 Tryd.underlying33 HI.out HZ1.out M k l.length (((l.take k).map (plc l)).map (Value.int .i64)) rfl (ownsRow_below HW.out (HC.out.trans ((Below.refl _ _).alloc HC.out.size _)) (own_lt hMr)) _ 1 1 [.int .i64 (n : Int)] rfl rfl (by rintro (_ | j) u hu <;> simp at hu; subst hu; simp [Addr.add, go_sem]) (by simp [Value.oneCell']) (by omega) ?_; intro w4 hown4 hgrow4))
            go_region
            go_wp2
            go_ret2
            exact ⟨.inr ⟨hbadr.out HRI.out, rfl⟩, by have := Bstep HB.out HC.out; go_grown⟩
        · have HNB := hideIt hnb
          have HRI : Hid (refI l ⟨xa, xb, xk, xc, xd, xs, xg⟩ = true) := by show refI l _ = true; rw [HRF2.out, HNB.out]
          clear hnb HRF HRF2
          rcases hcs with ⟨hc1, _⟩ | ⟨hc1, _⟩
          all_goals
            rw [hc1] at hth
            clear hc1
            go_wp2_with (first
              | (go_at_call 169; refine (about_any _ _ _ _ _).mono ?_; rintro e w' ⟨rfl, hb⟩; have HC := hideIt (Bstep HC.out hb); have hcg : ∀ o, w'.cell? ⟨g, o, none⟩ = wr.cell? ⟨g, o, none⟩ := (fun o => (bcell HC.out).1 _ _ hgr); have hcE : ∀ o, w'.cell? ⟨0, o, none⟩ = wr.cell? ⟨0, o, none⟩ := (fun o => (bcell HC.out).1 _ _ hp0); clear hb)
              | (go_at_call 129; refine (place_any _ _ _ _ _ _ _ (HSE.out.below HC.out hsr) b1.out.1 b1.out.2).mono ?_; rintro e w' ⟨rfl, hb⟩; rw [HPV.out]; have HC := hideIt (Bstep HC.out hb); have hcg : ∀ o, w'.cell? ⟨g, o, none⟩ = wr.cell? ⟨g, o, none⟩ := (fun o => (bcell HC.out).1 _ _ hgr); have hcE : ∀ o, w'.cell? ⟨0, o, none⟩ = wr.cell? ⟨0, o, none⟩ := (fun o => (bcell HC.out).1 _ _ hp0); clear hb)
              | (go_at_call 137; refine (nothing_any _ _ _).mono ?_; rintro e w' ⟨rfl, hb⟩; rw [HNB.out]; have HC := hideIt (Bstep HC.out hb); have hcg : ∀ o, w'.cell? ⟨g, o, none⟩ = wr.cell? ⟨g, o, none⟩ := (fun o => (bcell HC.out).1 _ _ hgr); have hcE : ∀ o, w'.cell? ⟨0, o, none⟩ = wr.cell? ⟨0, o, none⟩ := (fun o => (bcell HC.out).1 _ _ hp0); clear hb)
              | (go_at_call 138; refine (isPut_any _ HOP.out _).mono ?_; rintro e w' ⟨rfl, rfl⟩; rw [HNB.out])
              | (at_builtin; refine wpList_append_fits _ rfl _ _ 33 rfl M 3 i0 1 Tryd.underlying33 HI.out HZ1.out M k l.length (((l.take k).map (plc l)).map (Value.int .i64)) rfl (ownsRow_below HW.out (HC.out.trans ((Below.refl _ _).alloc HC.out.size _)) (own_lt hMr)) _ 1 1 [.int .i64 (n : Int)] rfl rfl (by rintro (_ | j) u hu <;> simp at hu; subst hu; simp [Addr.add, go_sem]) (by simp [Value.oneCell']) (by omega) ?_; intro w4 hown4 hgrow4))
            have hB4 : Below w.heap.size w w4 := ((Bstep HB.out HC.out).alloc (by have := HC.out.size; omega) _).grown hgrow4 (by have := HC.out.size; simp; omega) (fun k h => by cases h; omega)
            have hS4 : IntsAt w4 w.heap.size [cnt l 1, cnt l 2, cnt l 3] := by
              refine (HSE.out.below (B := M) ?_ hMw)
              exact ((HC.out.mono (by omega)).alloc (by have := HC.out.size; omega) _).grown hgrow4 (by have := HC.out.size; simp; omega) (fun k h => by cases h; omega)
            exact ⟨⟨k + 1, by omega, by go_num, rfl, hnext.out HRI.out, by rw [hmap.out]; exact hown4, hS4, hB4⟩, by simp [intOf]; omega⟩
    · obtain rfl : k = l.length := by omega
      go_wp2
      go_ret2
      exact ⟨.inl ⟨all_iff.2 fun j hj => HN.out j hj hj, M, rfl, ints_of_owns (base := M) (n := l.length) (cap := l.length) (by simp) (by have h := HW.out; rw [List.take_length] at h; exact h)⟩, HB.out⟩
end Go.Proofs.YtficnhlkefpfnaaDoor

namespace Go.Proofs.YtficnhlkefpfnaaDoor
open Go.RowKit
set_option linter.unusedSimpArgs false
set_option linter.unusedVariables false

set_option maxRecDepth 100000 in
set_option maxHeartbeats 1000000 in
theorem inOrder_any (l : List Op7) (g cap : Nat) (w : World) (hl : ThingsAt w g l) (hn : l.length ≤ 1048576) (hcap : l.length ≤ cap) (hok : l.all okO = true) :
    Calls Tryd.prog 120 #[.slice (some ⟨g, 0, none⟩) l.length cap] w fun e w' => e = .returned (.bool (ordB l)) ∧ Below w.heap.size w w' := by
  have hgw : g < w.heap.size := hl.1
  have HL0 : Hid (ThingsAt w g l) := hl
  have HO : Hid (l.all okO = true) := hok
  clear hl hok
  go_enter Tryd.func120, Tryd.ntmps120
  go_wp2
  go_loopw [11] (fun i wr => ∃ k : Nat, k ≤ l.length ∧ i = .int .i64 k ∧ (∀ j, j < k → stepAt l j = true) ∧ wr.cell? ⟨w.heap.size, 0, none⟩ = some (.int .i64 (prevA l k)) ∧ wr.cell? ⟨w.heap.size, 1, none⟩ = some (.int .i64 (prevB l k)) ∧ (∀ j, wr.frozen? ⟨w.heap.size, j, none⟩ = false) ∧ w.heap.size < wr.heap.size ∧ Below w.heap.size w wr)
    (fun i _ => l.length - (intOf i).toNat)
  case atStart => exact ⟨0, Nat.zero_le _, rfl, fun j h => by omega, by simp [go_sem, prevA], by simp [go_sem, prevB], fun j => by simp [go_sem], by simp, by go_grown⟩
  case round =>
    obtain ⟨k, hk, rfl, hno, q0, q1, hfz, hws, hB⟩ := hrel
    have HN : Hid (∀ j, j < k → stepAt l j = true) := hno
    have HB : Hid (Below w.heap.size w wr) := hB
    have HL : Hid (ThingsAt wr g l) := HL0.out.below hB hgw
    have hgr : g < wr.heap.size := HL.out.1
    clear hno hB
    by_cases hlt : k < l.length
    · have hnext : Hid (stepAt l k = true → ∀ j, j < k + 1 → stepAt l j = true) := fun hf j hj1 => by
        rcases Nat.lt_or_ge j k with h | h
        · exact HN.out j h
        · obtain rfl : j = k := by omega
          exact hf
      have hbad : Hid (stepAt l k = false → ordB l = false) := ord_false hlt
      have h0 := HL.out.2 k l[k] (by simp [hlt])
      obtain ⟨ha1, ha3, hb1, hb12⟩ := okO_id (all_iff.1 HO.out k hlt)
      obtain ⟨pa0, pa3, pb0, pb12⟩ := prevA_le HO.out k hk
      have hpv : Hid (prevA l (k + 1) = l[k].a ∧ prevB l (k + 1) = l[k].b) := prev_succ hlt
      have hst : Hid (stepAt l k = stepB (prevA l k) (prevB l k) l[k].a l[k].b) := step_at hlt
      have hcs := thV_cases (all_iff.1 HO.out k hlt)
      generalize l[k] = o at *
      obtain ⟨xa, xb, xk, xc, xd, xs, xg⟩ := o
      simp only at *
      generalize prevA l k = pa at *
      generalize prevB l k = pb at *
      have hlt' : (k : Int) < (l.length : Int) := by omega
      have hk0 : (0 : Int) ≤ (k : Int) := by omega
      rcases hcs with ⟨hth, _⟩ | ⟨hth, _⟩
      · rw [hth] at h0
        clear hth
        have mO := Tryd.ownPut
        go_wp2_with (first | (go_at_call 170; refine (own_any _ _ _ _ _).mono ?_; rintro e w2 ⟨rfl, hb2⟩; have HB2 : Hid (Below w.heap.size w w2) := Bstep HB.out hb2; have hcb : ∀ o, w2.cell? ⟨w.heap.size, o, none⟩ = wr.cell? ⟨w.heap.size, o, none⟩ := (fun o => (bcell hb2).1 _ _ hws); have hfb : ∀ o, w2.frozen? ⟨w.heap.size, o, none⟩ = wr.frozen? ⟨w.heap.size, o, none⟩ := (fun o => (bcell hb2).2 _ _ hws); have hws2 : w.heap.size < w2.heap.size := Nat.lt_of_lt_of_le hws hb2.size; have hne2 : ¬ w.heap.size = w2.heap.size := (by omega); have hne3 : ¬ w.heap.size = w2.heap.size + 1 := (by omega); clear hb2))
        all_goals
          have hbel := HB2.out
          obtain ⟨hpv1, hpv2⟩ := hpv.out
        all_goals first
          | (go_ret; exact ⟨ret_bool (hbad.out (hst.out.trans (stepB_false (by omega)))).symm, by go_grown⟩)
          | (refine ⟨⟨k + 1, by omega, by go_num, hnext.out (hst.out.trans (stepB_true (by omega))), ?_, ?_, ?_, ?_, ?_⟩, by simp [intOf]; omega⟩
             · rw [hpv1]; simp [hcb, q0, q1, go_sem, hne2, hne3, *]
             · rw [hpv2]; simp [hcb, q0, q1, go_sem, hne2, hne3, *]
             · intro j; simp [frozen?_alloc_cells, hfb, hfz]
             · simp; omega
             · go_grown)
      · rw [hth] at h0
        clear hth
        have mO := Tryd.ownTake
        go_wp2_with (first | (go_at_call 170; refine (own_any _ _ _ _ _).mono ?_; rintro e w2 ⟨rfl, hb2⟩; have HB2 : Hid (Below w.heap.size w w2) := Bstep HB.out hb2; have hcb : ∀ o, w2.cell? ⟨w.heap.size, o, none⟩ = wr.cell? ⟨w.heap.size, o, none⟩ := (fun o => (bcell hb2).1 _ _ hws); have hfb : ∀ o, w2.frozen? ⟨w.heap.size, o, none⟩ = wr.frozen? ⟨w.heap.size, o, none⟩ := (fun o => (bcell hb2).2 _ _ hws); have hws2 : w.heap.size < w2.heap.size := Nat.lt_of_lt_of_le hws hb2.size; have hne2 : ¬ w.heap.size = w2.heap.size := (by omega); have hne3 : ¬ w.heap.size = w2.heap.size + 1 := (by omega); clear hb2))
        all_goals
          have hbel := HB2.out
          obtain ⟨hpv1, hpv2⟩ := hpv.out
        all_goals first
          | (go_ret; exact ⟨ret_bool (hbad.out (hst.out.trans (stepB_false (by omega)))).symm, by go_grown⟩)
          | (refine ⟨⟨k + 1, by omega, by go_num, hnext.out (hst.out.trans (stepB_true (by omega))), ?_, ?_, ?_, ?_, ?_⟩, by simp [intOf]; omega⟩
             · rw [hpv1]; simp [hcb, q0, q1, go_sem, hne2, hne3, *]
             · rw [hpv2]; simp [hcb, q0, q1, go_sem, hne2, hne3, *]
             · intro j; simp [frozen?_alloc_cells, hfb, hfz]
             · simp; omega
             · go_grown)
    · obtain rfl : k = l.length := by omega
      go_wp2
      go_ret
      exact ⟨ret_bool (by rw [ord_iff.2 (fun j hj => HN.out j (by omega))]), HB.out⟩
end Go.Proofs.YtficnhlkefpfnaaDoor

namespace Go.Proofs.YtficnhlkefpfnaaDoor
open Go.RowKit
set_option linter.unusedSimpArgs false
set_option linter.unusedVariables false

/-- One comes below 0 within n steps. -/
def cnF (xs : List Int) : Nat → Int → Bool
  | 0, _ => false
  | n + 1, p => if xs.getD p.toNat 0 < 0 then true else cnF xs n (xs.getD p.toNat 0)
/-- Each number is below 0, or a place. -/
def placesB (xs : List Int) : Prop := ∀ (i : Nat) (hi : i < xs.length), -1 ≤ xs[i] ∧ xs[i] < xs.length

set_option maxHeartbeats 1000000 in
theorem comes_any (xs : List Int) (g cap : Nat) (p : Int) (w : World) (hl : IntsAt w g xs) (hn : xs.length ≤ 1048576) (hcap : xs.length ≤ cap) (hxs : placesB xs) (hp0 : 0 ≤ p) (hp1 : p < xs.length) :
    Calls Tryd.prog 139 #[.slice (some ⟨g, 0, none⟩) xs.length cap, .int .i64 p] w fun e w' => e = .returned (.bool (cnF xs xs.length p)) ∧ w' = w := by
  generalize hres : cnF xs xs.length p = res
  have HX : Hid (placesB xs) := hxs
  have HL : Hid (IntsAt w g xs) := hl
  clear hl hxs
  go_enter Tryd.func139, Tryd.ntmps139
  go_wp2
  go_loop [1, 7] (fun q i => ∃ (k : Nat) (p : Int), k ≤ xs.length ∧ i = .int .i64 k ∧ q = .int .i64 p ∧ 0 ≤ p ∧ p < xs.length ∧ cnF xs (xs.length - k) p = res) (fun _ i => xs.length - (intOf i).toNat)
  case atStart => exact ⟨0, p, Nat.zero_le _, rfl, rfl, hp0, hp1, hres⟩
  case round =>
    obtain ⟨k, p, hk, rfl, rfl, q0, q1, hq⟩ := hrel
    have HQ : Hid (cnF xs (xs.length - k) p = res) := hq
    clear hq hres
    by_cases hlt : k < xs.length
    · obtain ⟨n, rfl⟩ := Int.eq_ofNat_of_zero_le q0
      have hn' : n < xs.length := by omega
      have h0 := HL.out.2 n xs[n] (by simp [hn'])
      obtain ⟨b0, b1⟩ := HX.out n hn'
      have hstep : Hid (cnF xs (xs.length - k) (n : Int) = if xs[n] < 0 then true else cnF xs (xs.length - (k + 1)) xs[n]) := by
        show cnF xs (xs.length - k) (n : Int) = _
        rw [show xs.length - k = (xs.length - (k + 1)) + 1 from by omega]
        simp [cnF, hn']
      generalize xs[n] = x at *
      have hlt' : (k : Int) < (xs.length : Int) := by omega
      have hk0 : (0 : Int) ≤ (k : Int) := by omega
      by_cases hx : x < 0
      · have hfin : Hid (res = true) := by show res = true; rw [← HQ.out, hstep.out, if_pos hx]
        go_wp2
        go_ret
        exact ⟨ret_bool hfin.out.symm, rfl⟩
      · have hfin : Hid (cnF xs (xs.length - (k + 1)) x = res) := by show cnF xs (xs.length - (k + 1)) x = res; rw [← HQ.out, hstep.out, if_neg hx]
        have hx0 : 0 ≤ x := by omega
        go_wp2
        go_round
        case rel => exact ⟨k + 1, x, by omega, by go_num, rfl, hx0, b1, hfin.out⟩
        case measure => simp [intOf]; omega
    · obtain rfl : k = xs.length := by omega
      have hfin : Hid (res = false) := by show res = false; rw [← HQ.out]; simp [cnF]
      go_wp2
      go_ret
      exact ⟨ret_bool hfin.out.symm, rfl⟩

set_option maxHeartbeats 1000000 in
theorem circle_any (xs : List Int) (g cap : Nat) (w : World) (hl : IntsAt w g xs) (hn : xs.length ≤ 1048576) (hcap : xs.length ≤ cap) (hxs : placesB xs) :
    Calls Tryd.prog 122 #[.slice (some ⟨g, 0, none⟩) xs.length cap] w fun e w' => e = .returned (.bool (!(List.range xs.length).all (fun i => cnF xs xs.length i))) ∧ w' = w := by
  generalize hres : (!(List.range xs.length).all (fun i => cnF xs xs.length i)) = res
  have HR : Hid ((!(List.range xs.length).all (fun i => cnF xs xs.length i)) = res) := hres
  have HX : Hid (placesB xs) := hxs
  have HL : Hid (IntsAt w g xs) := hl
  clear hl hxs hres
  go_enter Tryd.func122, Tryd.ntmps122
  go_wp2
  go_loop [6] (fun i => ∃ (k : Nat), k ≤ xs.length ∧ i = .int .i64 k ∧ ∀ j : Nat, j < k → cnF xs xs.length j = true) (fun i => xs.length - (intOf i).toNat)
  case atStart => exact ⟨0, Nat.zero_le _, rfl, fun j h => by omega⟩
  case round =>
    obtain ⟨k, hk, rfl, hq⟩ := hrel
    have HQ : Hid (∀ j : Nat, j < k → cnF xs xs.length j = true) := hq
    clear hq
    by_cases hlt : k < xs.length
    · have hlt' : (k : Int) < (xs.length : Int) := by omega
      have hk0 : (0 : Int) ≤ (k : Int) := by omega
      cases hc : cnF xs xs.length (k : Int)
      all_goals
        have HC := hideIt hc
        clear hc
        go_wp2_with (first | (go_at_call 139; refine (comes_any xs g cap _ _ HL.out hn hcap HX.out hk0 hlt').mono ?_; rintro e w' ⟨rfl, rfl⟩; rw [HC.out]))
      · go_ret
        refine ⟨ret_bool ?_, rfl⟩
        rw [← HR.out]
        cases ha : (List.range xs.length).all (fun i => cnF xs xs.length i)
        · rfl
        · have := (List.all_eq_true.1 ha) k (by simpa using hlt)
          rw [HC.out] at this
          cases this
      · go_round
        case rel => exact ⟨k + 1, by omega, by go_num, fun j hj => by
          rcases Nat.lt_or_ge j k with h | h
          · exact HQ.out j h
          · obtain rfl : j = k := by omega
            exact HC.out⟩
        case measure => simp [intOf]; omega
    · obtain rfl : k = xs.length := by omega
      go_wp2
      go_ret
      refine ⟨ret_bool ?_, rfl⟩
      rw [← HR.out, List.all_eq_true.2 (fun j hj => HQ.out j (by simpa using hj))]
      rfl
end Go.Proofs.YtficnhlkefpfnaaDoor

namespace Go.Proofs.YtficnhlkefpfnaaDoor
open Go.RowKit
set_option linter.unusedSimpArgs false
set_option linter.unusedVariables false

/-- What was done is ok, as the program asks it. -/
def thB (l : List Op7) : Bool := decide (l.length ≤ 36) && (l.all okO && (ordB l && (l.all (refI l) && (List.range l.length).all (fun i => cnF (l.map (plc l)) l.length i))))

theorem places_plc (l : List Op7) : placesB (l.map (plc l)) := fun i hi => by
  have := plc_lt l (l[i]'(by simpa using hi))
  simpa using this

theorem infoThing : (Tryd.prog.info? 137).map (fun i => (i.zero, i.size, i.bytes)) = some (some .nilIface, 1, 16) := by kernel_rfl
theorem things_of_owns {w : World} {base M n cap : Nat} {l : List Op7} (hn : n = l.length) (h : w.ownsRow base 137 1 (.slice (some ⟨M, 0, none⟩) n cap) n (l.map thV)) : ThingsAt w M l := by
  subst hn
  refine ⟨(h.lt M rfl).2, fun i x hx => ?_⟩
  have hi : i < l.length := (List.getElem?_eq_some_iff.1 hx).1
  rw [h.cellAt i (by omega)]
  simp [hx]
theorem thV_one (o : Op7) : (thV o).oneCell' = true := by
  unfold thV; split <;> rfl

/-- thingOf at a thing in form. -/
theorem thingOf_yes (o : Op7) (h : okO o = true) (w : World) :
    Calls Tryd.prog 119 #[.agg #[.int .i64 o.a, .int .i64 o.b, .int .i64 o.k, .int .i64 o.c, .int .i64 o.d, .int .i64 o.s, .int .i64 o.g]] w fun e w' => e = .returned (.tuple #[thV o, .nilIface]) ∧ Below w.heap.size w w' := by
  have h' := h
  unfold okO at h'
  rw [opB_true] at h'
  obtain ⟨h1, h2, h3⟩ := h'
  rcases thV_cases h with ⟨e1, e2⟩ | ⟨e1, e2⟩
  · rcases h3 with h3 | h3
    · rw [e1, e2]; exact thingOf_put _ _ _ _ _ _ _ (idB_true.2 h1) h2 (decide_eq_true h3.2)
    · omega
  · rcases h3 with h3 | h3
    · omega
    · rw [e1, e2]; exact thingOf_take _ _ _ _ _ _ _ (idB_true.2 h1) h2 (decide_eq_true h3.2)

theorem cir_any (l : List Op7) (M : Nat) (w : World) (hl : IntsAt w M (l.map (plc l))) (hn : l.length ≤ 1048576) :
    Calls Tryd.prog 122 #[.slice (some ⟨M, 0, none⟩) l.length l.length] w fun e w' => e = .returned (.bool (!(List.range l.length).all (fun i => cnF (l.map (plc l)) l.length i))) ∧ w' = w := by
  have h := circle_any (l.map (plc l)) M l.length w hl (by simpa using hn) (by simp) (places_plc l)
  simp only [List.length_map] at h
  exact h

set_option maxRecDepth 100000 in
set_option maxHeartbeats 4000000 in
theorem things_any (l : List Op7) (g cap : Nat) (x : Addr) (w : World) (hl : OpsAt w g l) (hn : l.length ≤ 1048576) (hcap : l.length ≤ cap)
    (he : w.cell? ⟨0, 0, none⟩ = some (.iface 200 (.pointer (some x)))) (h0 : 0 < w.heap.size) :
    Calls Tryd.prog 97 #[.slice (some ⟨g, 0, none⟩) l.length cap] w fun e w' =>
      ((thB l = true ∧ ∃ M, w.heap.size ≤ M ∧ e = .returned (.tuple #[.slice (some ⟨M, 0, none⟩) l.length l.length, .nilIface]) ∧ ThingsAt w' M l) ∨
       (thB l = false ∧ e = .returned (.tuple #[.slice none 0 0, .iface 200 (.pointer (some x))]))) ∧ Below w.heap.size w w' := by
  have hgw : g < w.heap.size := hl.1
  have HL0 : Hid (OpsAt w g l) := hl
  clear hl
  by_cases h36 : l.length ≤ 36
  · obtain ⟨i0, hi, hz0, hz1, hz2⟩ := info_parts infoThing
    have HI := hideIt hi
    have HZ0 := hideIt hz0
    have HZ1 := hideIt hz1
    have HZ2 := hideIt hz2
    clear hi hz0 hz1 hz2
    go_enter Tryd.func97, Tryd.ntmps97
    go_wp2_with (first
      | (at_make; refine wpList_make_own _ rfl _ _ 118 rfl w.heap.size 137 i0 _ 1 Tryd.underlying118 HI.out HZ0.out HZ1.out .i64 .i64 _ l.length rfl rfl rfl (by rw [HZ2.out]; omega) (by unfold maxLen; omega) (Nat.le_refl _) ?_; intro w2 hown hgrow))
    have hB2 : Below w.heap.size w w2 := (Below.refl _ _).grown hgrow (Nat.le_refl _) (fun k h => by cases h)
    have hM : w.heap.size < w2.heap.size := (hown.lt _ rfl).2
    clear hgrow
    go_loopw [4, 20] (fun v i wr => ∃ k : Nat, k ≤ l.length ∧ i = .int .i64 k ∧ v = .slice (some ⟨w.heap.size, 0, none⟩) k l.length ∧ (∀ j (hj : j < l.length), j < k → okO l[j] = true) ∧ wr.ownsRow w.heap.size 137 1 (.slice (some ⟨w.heap.size, 0, none⟩) k l.length) k ((l.take k).map thV) ∧ Below w.heap.size w wr)
      (fun _ i _ => l.length - (intOf i).toNat)
    case atStart => exact ⟨0, Nat.zero_le _, rfl, rfl, fun j hj h => by omega, by simpa using hown, hB2⟩
    case round =>
      obtain ⟨k, hk, rfl, rfl, hno, hown', hB⟩ := hrel
      have HN := hideIt hno
      have HW := hideIt hown'
      have HB := hideIt hB
      have hMr : w.heap.size < wr.heap.size := (hown'.lt _ rfl).2
      have HL := hideIt (HL0.out.below hB hgw)
      have hgr : g < wr.heap.size := HL.out.1
      have hp0 : 0 < wr.heap.size := by omega
      have herr : wr.cell? ⟨0, 0, none⟩ = some (.iface 200 (.pointer (some x))) := by rw [(bcell HB.out).1 _ _ h0]; exact he
      clear hno hown' hB hown hB2
      by_cases hlt : k < l.length
      · obtain ⟨c0, c1, c2, c3, c4, c5, c6⟩ := HL.out.2 k l[k] (by simp [hlt])
        have hmap : Hid ((l.take (k + 1)).map thV = (l.take k).map thV ++ [thV l[k]]) := by
          show (l.take (k + 1)).map thV = _
          rw [List.take_succ_eq_append_getElem hlt, List.map_append]; rfl
        have hnext : Hid (okO l[k] = true → ∀ j (hj : j < l.length), j < k + 1 → okO l[j] = true) := fun hf j hj hj1 => by
          rcases Nat.lt_or_ge j k with h | h
          · exact HN.out j hj h
          · obtain rfl : j = k := by omega
            exact hf
        have hbadr : Hid (okO l[k] = false → thB l = false) := fun h => by unfold thB; rw [all_false hlt h]; simp
        generalize l[k] = o at *
        have hlt' : (k : Int) < (l.length : Int) := by omega
        have hk0 : (0 : Int) ≤ (k : Int) := by omega
        cases hoo : okO o
        · have HO := hideIt hoo
          clear hoo
          go_wp2_with (first
            | (go_at_call 119; refine (thingOf_no _ _ _ _ _ _ _ x _ ?_ ?_ HO.out).mono ?_; (rw [World.cell?_alloc_lt _ _ _ hp0]; exact herr); (simp); rintro e w3 ⟨rfl, hb3⟩; have HC := hideIt hb3; clear hb3))
          have hB3 : Below wr.heap.size wr w3 := ((Below.refl _ _).alloc (Nat.le_refl _) _).trans (HC.out.mono (by simp))
          go_ret2
          exact ⟨.inr ⟨hbadr.out HO.out, rfl⟩, Bstep HB.out hB3⟩
        · have HO := hideIt hoo
          clear hoo
          rcases thV_cases HO.out with ⟨hc1, -⟩ | ⟨hc1, -⟩
          all_goals
            have HC1 := hideIt hc1
            clear hc1
            go_wp2_with (first
              | (go_at_call 119; refine (thingOf_yes o HO.out _).mono ?_; rintro e w3 ⟨rfl, hb3⟩; rw [HC1.out]; have HC : Hid (Below wr.heap.size wr w3) := ((Below.refl _ _).alloc (Nat.le_refl _) _).trans (hb3.mono (by simp)); clear hb3)
              | (at_builtin; refine wpList_append_fits _ rfl _ _ 118 rfl w.heap.size 137 i0 1 Tryd.underlying118 HI.out HZ1.out w.heap.size k l.length ((l.take k).map thV) rfl (ownsRow_below HW.out (HC.out.trans ((Below.refl _ _).alloc HC.out.size _)) (own_lt hMr)) _ 1 1 [thV o] rfl rfl (by rintro (_ | j) u hu <;> simp at hu; subst hu; rw [HC1.out]; simp [Addr.add, go_sem]) (by simp [thV_one]) (by omega) ?_; intro w4 hown4 hgrow4))
            have hB4 : Below w.heap.size w w4 := ((Bstep HB.out HC.out).alloc (by have := HC.out.size; omega) _).grown hgrow4 (by have := HC.out.size; simp; omega) (fun k h => by cases h; exact Nat.le_refl _)
            exact ⟨⟨k + 1, by omega, by go_num, rfl, hnext.out HO.out, by rw [hmap.out]; exact hown4, hB4⟩, by simp [intOf]; omega⟩
      · obtain rfl : k = l.length := by omega
        have HOK : Hid (l.all okO = true) := all_iff.2 fun j hj => HN.out j hj hj
        have HT : Hid (ThingsAt wr w.heap.size l) := things_of_owns (base := w.heap.size) (n := l.length) (cap := l.length) rfl (by have h := HW.out; rw [List.take_length] at h; exact h)
        clear HN HW hk hlt
        go_wp2_with fail
        refine (inOrder_any l w.heap.size l.length _ HT.out hn (Nat.le_refl _) HOK.out).mono ?_
        rintro e w3 ⟨rfl, hb3⟩
        have HB3 : Hid (Below w.heap.size w w3) := Bstep HB.out hb3
        have HT3 : Hid (ThingsAt w3 w.heap.size l) := HT.out.below hb3 hMr
        have hz3 : w.heap.size < w3.heap.size := HT3.out.1
        have hp3 : 0 < w3.heap.size := by omega
        have herr3 : w3.cell? ⟨0, 0, none⟩ = some (.iface 200 (.pointer (some x))) := by rw [(bcell HB3.out).1 _ _ h0]; exact he
        clear hb3 HT HB HL hgr herr hp0 hMr
        cases hord : ordB l
        · have HR := hideIt hord
          clear hord
          go_wp2
          go_region
          go_wp2
          go_ret2
          exact ⟨.inr ⟨by unfold thB; rw [HR.out]; simp, rfl⟩, by have := HB3.out; go_grown⟩
        · have HR := hideIt hord
          clear hord
          go_wp2_with fail
          refine (refs_any l w.heap.size l.length x _ HT3.out h36 (Nat.le_refl _) HOK.out herr3 hp3).mono ?_
          rintro e w4 ⟨(⟨hrf, M2, rfl, hI⟩ | ⟨hrf, rfl⟩), hb4⟩
          · have HRF := hideIt hrf
            have HI4 := hideIt hI
            have HB4 : Hid (Below w.heap.size w w4) := Bstep HB3.out hb4
            have HT4 : Hid (ThingsAt w4 w.heap.size l) := HT3.out.below hb4 hz3
            have hp4 : 0 < w4.heap.size := by have := HT4.out.1; omega
            have herr4 : w4.cell? ⟨0, 0, none⟩ = some (.iface 200 (.pointer (some x))) := by rw [(bcell HB4.out).1 _ _ h0]; exact he
            clear hrf hI hb4 HB3 HT3 herr3 hp3 hz3
            cases hcy : (List.range l.length).all (fun i => cnF (l.map (plc l)) l.length i)
            · have HCY := hideIt hcy
              clear hcy
              go_wp2_with (first
                | (go_at_call 122; refine (cir_any l M2 _ HI4.out hn).mono ?_; rintro e w5 ⟨rfl, rfl⟩; rw [HCY.out]))
              go_region
              go_wp2
              go_ret2
              exact ⟨.inr ⟨by unfold thB; rw [HCY.out]; simp, rfl⟩, by have := HB4.out; go_grown⟩
            · have HCY := hideIt hcy
              clear hcy
              go_wp2_with (first
                | (go_at_call 122; refine (cir_any l M2 _ HI4.out hn).mono ?_; rintro e w5 ⟨rfl, rfl⟩; rw [HCY.out]))
              go_ret2
              exact ⟨.inl ⟨by unfold thB; rw [HOK.out, HR.out, HRF.out, HCY.out]; simp [h36], w.heap.size, Nat.le_refl _, rfl, HT4.out⟩, HB4.out⟩
          · have HRF := hideIt hrf
            have HB4 : Hid (Below w.heap.size w w4) := Bstep HB3.out hb4
            clear hrf hb4
            go_wp2
            go_ret2
            exact ⟨.inr ⟨by unfold thB; rw [HRF.out]; simp, rfl⟩, HB4.out⟩
  · go_enter Tryd.func97, Tryd.ntmps97
    have h36' : (36 : Int) < (l.length : Int) := by omega
    go_wp2
    go_region
    go_wp2
    go_ret2
    exact ⟨.inr ⟨by unfold thB; rw [decide_eq_false h36]; rfl, rfl⟩, by go_grown⟩
end Go.Proofs.YtficnhlkefpfnaaDoor

namespace Go.Proofs.YtficnhlkefpfnaaDoor
open Go.RowKit
set_option linter.unusedSimpArgs false
set_option linter.unusedVariables false

/-- Where what a thing refers to stands, if it is there. -/
theorem next_some {l : List Op7} {o p : Op7} (h : nextO l o = some p) : ∃ i : Nat, ∃ hi : i < l.length, findI l o.c o.d = i ∧ l[i] = p := by
  unfold nextO at h
  unfold findI
  cases hf : l.findIdx? (hasId o.c o.d) with
  | none => rw [hf] at h; cases h
  | some i =>
    rw [hf] at h
    simp only at h
    obtain ⟨hi, he⟩ := List.getElem?_eq_some_iff.1 h
    exact ⟨i, hi, rfl, he⟩
theorem next_none {l : List Op7} {o : Op7} (h : nextO l o = none) : findI l o.c o.d = -1 := by
  unfold nextO at h
  unfold findI
  cases hf : l.findIdx? (hasId o.c o.d) with
  | none => rfl
  | some i =>
    rw [hf] at h
    simp only at h
    obtain ⟨hi, _⟩ := List.findIdx?_eq_some_iff_getElem.1 hf
    rw [List.getElem?_eq_getElem hi] at h
    cases h

set_option maxHeartbeats 1000000 in
theorem l1Refs_any (l : List Op7) (g cap : Nat) (o : Op7) (w : World) (hl : OpsAt w g l) (hn : l.length ≤ 1048576) (hcap : l.length ≤ cap) :
    Calls Tryd.prog 91 #[.slice (some ⟨g, 0, none⟩) l.length cap, .agg #[.int .i64 o.a, .int .i64 o.b, .int .i64 o.k, .int .i64 o.c, .int .i64 o.d, .int .i64 o.s, .int .i64 o.g]] w fun e w' => e = .returned (.bool (refsB l o)) ∧ Below w.heap.size w w' := by
  have HL : Hid (OpsAt w g l) := hl
  have hgw : g < w.heap.size := hl.1
  have Hres : Hid (refsB l o = (noB o.c o.d || (match nextO l o with | some p => p.k == 1 | none => false))) := rfl
  cases hx : nextO l o with
  | none =>
    have hfi : Hid (findI l o.c o.d = -1) := next_none hx
    rw [hx] at Hres
    clear hx hl
    obtain ⟨oa, ob, ok, oc, od, os', og⟩ := o
    simp only at *
    by_cases hz : oc = 0 ∧ od = 0
    · obtain ⟨rfl, rfl⟩ := hz
      go_enter Tryd.func91, Tryd.ntmps91
      go_wp2_with (first
        | (go_at_call 75; refine (l1Find_any l g cap _ _ _ ?_ hn hcap).mono ?_; (exact HL.out.below ((Below.refl _ _).alloc (Nat.le_refl _) _) hgw); rintro e w' ⟨rfl, hb⟩; rw [hfi.out]; have hB : Below w.heap.size w w' := Bstep (by go_grown) hb; have hlt : w.heap.size < w'.heap.size := (by have := hb.size; (try simp at this); omega); obtain ⟨hc, hf⟩ := bcell hb; clear hb))
      go_ret
      exact ⟨ret_bool (by rw [Hres.out]; simp [noB]), by first | assumption | go_grown⟩
    · have hzz : ¬ oc = 0 ∨ ¬ od = 0 := by omega
      by_cases hz1 : oc = 0
      · subst hz1
        have hz2 : ¬ od = 0 := by omega
        clear hz hzz
        go_enter Tryd.func91, Tryd.ntmps91
        go_wp2_with (first
          | (go_at_call 75; refine (l1Find_any l g cap _ _ _ ?_ hn hcap).mono ?_; (exact HL.out.below ((Below.refl _ _).alloc (Nat.le_refl _) _) hgw); rintro e w' ⟨rfl, hb⟩; rw [hfi.out]; have hB : Below w.heap.size w w' := Bstep (by go_grown) hb; have hlt : w.heap.size < w'.heap.size := (by have := hb.size; (try simp at this); omega); obtain ⟨hc, hf⟩ := bcell hb; clear hb))
        go_ret
        exact ⟨ret_bool (by rw [Hres.out]; simp [noB, hz2]), by first | assumption | go_grown⟩
      · clear hz hzz
        go_enter Tryd.func91, Tryd.ntmps91
        go_wp2_with (first
          | (go_at_call 75; refine (l1Find_any l g cap _ _ _ ?_ hn hcap).mono ?_; (exact HL.out.below ((Below.refl _ _).alloc (Nat.le_refl _) _) hgw); rintro e w' ⟨rfl, hb⟩; rw [hfi.out]; have hB : Below w.heap.size w w' := Bstep (by go_grown) hb; have hlt : w.heap.size < w'.heap.size := (by have := hb.size; (try simp at this); omega); obtain ⟨hc, hf⟩ := bcell hb; clear hb))
        go_ret
        exact ⟨ret_bool (by rw [Hres.out]; simp [noB, hz1]), by first | assumption | go_grown⟩
  | some p =>
    obtain ⟨i, hi, hfi', hp⟩ := next_some hx
    have hfi : Hid (findI l o.c o.d = i) := hfi'
    have hget : Hid (l[i]? = some p) := by show l[i]? = some p; rw [List.getElem?_eq_getElem hi, hp]
    rw [hx] at Hres
    clear hx hl hfi' hp
    obtain ⟨oa, ob, ok, oc, od, os', og⟩ := o
    obtain ⟨pa, pb, pk, pc, pd, ps, pg⟩ := p
    simp only at *
    have hi1 : (i : Int) < (l.length : Int) := by omega
    have hi0 : (0 : Int) ≤ (i : Int) := by omega
    by_cases hz : oc = 0 ∧ od = 0
    · obtain ⟨rfl, rfl⟩ := hz
      go_enter Tryd.func91, Tryd.ntmps91
      go_wp2_with (first
        | (go_at_call 75; refine (l1Find_any l g cap _ _ _ ?_ hn hcap).mono ?_; (exact HL.out.below ((Below.refl _ _).alloc (Nat.le_refl _) _) hgw); rintro e w' ⟨rfl, hb⟩; rw [hfi.out]; have hB : Below w.heap.size w w' := Bstep (by go_grown) hb; have hkc : w'.cell? ⟨g, i * 7 + 2, none⟩ = some (.int .i64 pk) := ((HL.out.below hB hgw).2 i _ hget.out).2.2.1; have hlt : w.heap.size < w'.heap.size := (by have := hb.size; (try simp at this); omega); obtain ⟨hc, hf⟩ := bcell hb; clear hb))
      go_ret
      exact ⟨ret_bool (by rw [Hres.out]; simp [noB]), by first | assumption | go_grown⟩
    · by_cases hz1 : oc = 0
      · subst hz1
        have hz2 : ¬ od = 0 := by omega
        clear hz
        go_enter Tryd.func91, Tryd.ntmps91
        go_wp2_with (first
          | (go_at_call 75; refine (l1Find_any l g cap _ _ _ ?_ hn hcap).mono ?_; (exact HL.out.below ((Below.refl _ _).alloc (Nat.le_refl _) _) hgw); rintro e w' ⟨rfl, hb⟩; rw [hfi.out]; have hB : Below w.heap.size w w' := Bstep (by go_grown) hb; have hkc : w'.cell? ⟨g, i * 7 + 2, none⟩ = some (.int .i64 pk) := ((HL.out.below hB hgw).2 i _ hget.out).2.2.1; have hlt : w.heap.size < w'.heap.size := (by have := hb.size; (try simp at this); omega); obtain ⟨hc, hf⟩ := bcell hb; clear hb))
        go_ret
        exact ⟨ret_bool (by rw [Hres.out]; simp [noB, hz2]), by first | assumption | go_grown⟩
      · clear hz
        go_enter Tryd.func91, Tryd.ntmps91
        go_wp2_with (first
          | (go_at_call 75; refine (l1Find_any l g cap _ _ _ ?_ hn hcap).mono ?_; (exact HL.out.below ((Below.refl _ _).alloc (Nat.le_refl _) _) hgw); rintro e w' ⟨rfl, hb⟩; rw [hfi.out]; have hB : Below w.heap.size w w' := Bstep (by go_grown) hb; have hkc : w'.cell? ⟨g, i * 7 + 2, none⟩ = some (.int .i64 pk) := ((HL.out.below hB hgw).2 i _ hget.out).2.2.1; have hlt : w.heap.size < w'.heap.size := (by have := hb.size; (try simp at this); omega); obtain ⟨hc, hf⟩ := bcell hb; clear hb))
        go_ret
        exact ⟨ret_bool (by rw [Hres.out]; simp [noB, hz1]), by first | assumption | go_grown⟩

set_option maxHeartbeats 1000000 in
theorem l1Deep_any (l : List Op7) (g cap : Nat) (o : Op7) (w : World) (hl : OpsAt w g l) (hn : l.length ≤ 1048576) (hcap : l.length ≤ cap) (ho : refsB l o = true) (hall : l.all (refsB l) = true) :
    Calls Tryd.prog 92 #[.slice (some ⟨g, 0, none⟩) l.length cap, .agg #[.int .i64 o.a, .int .i64 o.b, .int .i64 o.k, .int .i64 o.c, .int .i64 o.d, .int .i64 o.s, .int .i64 o.g]] w fun e w' => e = .returned (.bool (deepF l (l.length + 1) o)) ∧ Below w.heap.size w w' := by
  have hgw : g < w.heap.size := hl.1
  generalize hres : deepF l (l.length + 1) o = res
  go_enter Tryd.func92, Tryd.ntmps92
  go_wp2
  go_loopw [5] (fun i wr => ∃ (k : Nat) (q : Op7), k ≤ l.length + 1 ∧ i = .int .i64 k ∧ deepF l (l.length + 1 - k) q = res ∧ refsB l q = true ∧ w.heap.size < wr.heap.size ∧ (∀ j, wr.frozen? ⟨w.heap.size, j, none⟩ = false) ∧
      wr.cell? ⟨w.heap.size, 0, none⟩ = some (.int .i64 q.a) ∧ wr.cell? ⟨w.heap.size, 1, none⟩ = some (.int .i64 q.b) ∧ wr.cell? ⟨w.heap.size, 2, none⟩ = some (.int .i64 q.k) ∧ wr.cell? ⟨w.heap.size, 3, none⟩ = some (.int .i64 q.c) ∧ wr.cell? ⟨w.heap.size, 4, none⟩ = some (.int .i64 q.d) ∧ wr.cell? ⟨w.heap.size, 5, none⟩ = some (.int .i64 q.s) ∧ wr.cell? ⟨w.heap.size, 6, none⟩ = some (.int .i64 q.g) ∧ Below w.heap.size w wr)
    (fun i _ => l.length + 1 - (intOf i).toNat)
  case atStart => exact ⟨0, o, Nat.zero_le _, rfl, hres, ho, by simp, fun j => by simp [go_sem], by simp [go_sem], by simp [go_sem], by simp [go_sem], by simp [go_sem], by simp [go_sem], by simp [go_sem], by simp [go_sem], by go_grown⟩
  case round =>
    obtain ⟨k, q, hk, rfl, hq, hrq, hws, hfz, c0, c1, c2, c3, c4, c5, c6, hB⟩ := hrel
    have HL : Hid (OpsAt wr g l) := hl.below hB hgw
    have hgr : g < wr.heap.size := HL.out.1
    have HB : Hid (Below w.heap.size w wr) := hB
    have HA : Hid (l.all (refsB l) = true) := hall
    have HQ : Hid (deepF l (l.length + 1 - k) q = res) := hq
    have HR : Hid (refsB l q = true) := hrq
    clear hB hl hall ho hres hq hrq
    by_cases hlt : k < l.length + 1
    · obtain ⟨f, hf⟩ : ∃ f, l.length + 1 - k = f + 1 := ⟨l.length - k, by omega⟩
      have hle : (k : Int) ≤ (l.length : Int) := by omega
      by_cases hz : q.c = 0 ∧ q.d = 0
      · have hfin : Hid (res = true) := by
          show res = true
          have := HQ.out; rw [hf] at this; rw [← this]; simp [deepF, noB, hz.1, hz.2]
        obtain ⟨hz1, hz2⟩ := hz
        rw [hz1] at c3
        rw [hz2] at c4
        clear hz1 hz2
        go_wp2
        go_ret
        exact ⟨ret_bool hfin.out.symm, by first | exact HB.out | go_grown⟩
      · have hzb : noB q.c q.d = false := decide_eq_false hz
        have hnx : ∃ p, nextO l q = some p := by
          have := HR.out
          unfold refsB at this
          rw [hzb] at this
          cases hx : nextO l q with
          | none => rw [hx] at this; cases this
          | some p => exact ⟨p, rfl⟩
        obtain ⟨p, hp⟩ := hnx
        obtain ⟨i, hi, hfi', hpi⟩ := next_some hp
        have hfi : Hid (findI l q.c q.d = i) := hfi'
        have hget : Hid (l[i]? = some p) := by show l[i]? = some p; rw [List.getElem?_eq_getElem hi, hpi]
        have hnext : Hid (deepF l (l.length + 1 - (k + 1)) p = res) := by
          show deepF l (l.length + 1 - (k + 1)) p = res
          have := HQ.out; rw [hf] at this
          rw [show l.length + 1 - (k + 1) = f from by omega, ← this]
          simp [deepF, hzb, hp]
        have hrp : Hid (refsB l p = true) := by show refsB l p = true; rw [← hpi]; exact all_iff.1 HA.out i hi
        clear hzb hp hfi' hpi HQ HR hf
        have hi1 : (i : Int) < (l.length : Int) := by omega
        have hi0 : (0 : Int) ≤ (i : Int) := by omega
        obtain ⟨qa, qb, qk, qc, qd, qs, qg⟩ := q
        simp only at *
        by_cases hz1 : qc = 0
        · subst hz1
          have hz2 : ¬ qd = 0 := by omega
          clear hz
          go_wp2_with (first
            | (go_at_call 75; refine (l1Find_any l g cap _ _ _ HL.out hn hcap).mono ?_; rintro e w2 ⟨rfl, hb⟩; rw [hfi.out]; have HB2 : Hid (Below wr.heap.size wr w2) := hb; obtain ⟨e0, e1, e2, e3, e4, e5, e6⟩ := (HL.out.below hb hgr).2 i _ hget.out; have hcb : ∀ o, w2.cell? ⟨w.heap.size, o, none⟩ = wr.cell? ⟨w.heap.size, o, none⟩ := (fun o => (bcell hb).1 _ _ hws); have hfb : ∀ o, w2.frozen? ⟨w.heap.size, o, none⟩ = wr.frozen? ⟨w.heap.size, o, none⟩ := (fun o => (bcell hb).2 _ _ hws); clear hb))
          have hw2 : w.heap.size < w2.heap.size := Nat.lt_of_lt_of_le hws HB2.out.size
          refine ⟨⟨k + 1, p, by omega, by go_num, hnext.out, hrp.out, by simpa using hw2, fun j => by simp [hfb, hfz], by simp [hcb, c0, c1, c2, c3, c4, c5, c6, go_sem], by simp [hcb, c0, c1, c2, c3, c4, c5, c6, go_sem], by simp [hcb, c0, c1, c2, c3, c4, c5, c6, go_sem], by simp [hcb, c0, c1, c2, c3, c4, c5, c6, go_sem], by simp [hcb, c0, c1, c2, c3, c4, c5, c6, go_sem], by simp [hcb, c0, c1, c2, c3, c4, c5, c6, go_sem], by simp [hcb, c0, c1, c2, c3, c4, c5, c6, go_sem], ?_⟩, by simp [intOf]; omega⟩
          exact (((((((Bstep HB.out HB2.out).setCell (Nat.le_refl _) _).setCell (Nat.le_refl _) _).setCell (Nat.le_refl _) _).setCell (Nat.le_refl _) _).setCell (Nat.le_refl _) _).setCell (Nat.le_refl _) _).setCell (Nat.le_refl _) _
        · clear hz
          go_wp2_with (first
            | (go_at_call 75; refine (l1Find_any l g cap _ _ _ HL.out hn hcap).mono ?_; rintro e w2 ⟨rfl, hb⟩; rw [hfi.out]; have HB2 : Hid (Below wr.heap.size wr w2) := hb; obtain ⟨e0, e1, e2, e3, e4, e5, e6⟩ := (HL.out.below hb hgr).2 i _ hget.out; have hcb : ∀ o, w2.cell? ⟨w.heap.size, o, none⟩ = wr.cell? ⟨w.heap.size, o, none⟩ := (fun o => (bcell hb).1 _ _ hws); have hfb : ∀ o, w2.frozen? ⟨w.heap.size, o, none⟩ = wr.frozen? ⟨w.heap.size, o, none⟩ := (fun o => (bcell hb).2 _ _ hws); clear hb))
          have hw2 : w.heap.size < w2.heap.size := Nat.lt_of_lt_of_le hws HB2.out.size
          refine ⟨⟨k + 1, p, by omega, by go_num, hnext.out, hrp.out, by simpa using hw2, fun j => by simp [hfb, hfz], by simp [hcb, c0, c1, c2, c3, c4, c5, c6, go_sem], by simp [hcb, c0, c1, c2, c3, c4, c5, c6, go_sem], by simp [hcb, c0, c1, c2, c3, c4, c5, c6, go_sem], by simp [hcb, c0, c1, c2, c3, c4, c5, c6, go_sem], by simp [hcb, c0, c1, c2, c3, c4, c5, c6, go_sem], by simp [hcb, c0, c1, c2, c3, c4, c5, c6, go_sem], by simp [hcb, c0, c1, c2, c3, c4, c5, c6, go_sem], ?_⟩, by simp [intOf]; omega⟩
          exact (((((((Bstep HB.out HB2.out).setCell (Nat.le_refl _) _).setCell (Nat.le_refl _) _).setCell (Nat.le_refl _) _).setCell (Nat.le_refl _) _).setCell (Nat.le_refl _) _).setCell (Nat.le_refl _) _).setCell (Nat.le_refl _) _
    · have hk' : k = l.length + 1 := by omega
      subst hk'
      have hfin : Hid (res = false) := by
        show res = false
        have := HQ.out; rw [← this]; simp [deepF]
      clear HQ HR
      go_wp2
      go_ret
      exact ⟨ret_bool hfin.out.symm, by first | exact HB.out | go_grown⟩
end Go.Proofs.YtficnhlkefpfnaaDoor

namespace Go.Proofs.YtficnhlkefpfnaaDoor

theorem rep_ascends {l : List Op7} (hord : ordB l = true) : ∀ (j : Nat) (hj : j < l.length) (i : Nat) (hi : i ≤ j), (l[i]'(by omega)).a ≤ l[j].a := by
  intro j
  induction j with
  | zero => intro hj i hi; obtain rfl : i = 0 := by omega
            exact Int.le_refl _
  | succ j ih =>
    intro hj i hi
    rcases Nat.lt_or_ge i (j + 1) with h | h
    · have h1 := ih (by omega) i (by omega)
      have h2 := ord_iff.1 hord (j + 1) hj
      rw [step_succ hj] at h2
      have h3 := of_decide_eq_true h2
      omega
    · obtain rfl : i = j + 1 := by omega
      exact Int.le_refl _

theorem cntTo_zero_of {l : List Op7} {r : Int} (k : Nat) (hk : k ≤ l.length) (h : ∀ i (hi : i < l.length), i < k → l[i].a ≠ r) : cntTo l k r = 0 := by
  induction k with
  | zero => exact cntTo_zero _ _
  | succ k ih =>
    rw [cntTo_other (by omega) (h k (by omega) (by omega))]
    exact ih (by omega) (fun i hi hik => h i hi (by omega))

/-- A thing's number is one more than how many of its Rep stand ahead. -/
theorem num_is {l : List Op7} (hok : l.all okO = true) (hord : ordB l = true) : ∀ (j : Nat) (hj : j < l.length), l[j].b = cntTo l j l[j].a + 1 := by
  intro j
  induction j with
  | zero =>
    intro hj
    have h1 := ord_iff.1 hord 0 hj
    rw [step_zero hj] at h1
    have h2 := of_decide_eq_true h1
    have h3 := okO_id (all_iff.1 hok 0 hj)
    rw [cntTo_zero]
    omega
  | succ j ih =>
    intro hj
    have h1 := ord_iff.1 hord (j + 1) hj
    rw [step_succ hj] at h1
    have h2 := of_decide_eq_true h1
    have h3 := ih (by omega)
    rcases h2 with ⟨h2, h4⟩ | ⟨h2, h4⟩
    · rw [cntTo_zero_of (j + 1) (by omega) (fun i hi hij => by have := rep_ascends hord j (by omega) i (by omega); omega)]
      omega
    · rw [h4, h3, h2, cntTo_same (by omega) h2]

/-- How many of the first k things are of a lesser Rep. -/
def lessTo (l : List Op7) (k : Nat) (r : Int) : Int := (if 1 < r then cntTo l k 1 else 0) + (if 2 < r then cntTo l k 2 else 0)

theorem all_three {l : List Op7} (hok : l.all okO = true) (k : Nat) (hk : k ≤ l.length) : cntTo l k 1 + cntTo l k 2 + cntTo l k 3 = k := by
  induction k with
  | zero => simp [cntTo_zero]
  | succ k ih =>
    have h := okO_id (all_iff.1 hok k (by omega))
    have := ih (by omega)
    obtain e | e | e : l[k].a = 1 ∨ l[k].a = 2 ∨ l[k].a = 3 := by omega
    · rw [cntTo_same (by omega) e, cntTo_other (r := 2) (by omega) (by omega), cntTo_other (r := 3) (by omega) (by omega)]; omega
    · rw [cntTo_same (by omega) e, cntTo_other (r := 1) (by omega) (by omega), cntTo_other (r := 3) (by omega) (by omega)]; omega
    · rw [cntTo_same (by omega) e, cntTo_other (r := 1) (by omega) (by omega), cntTo_other (r := 2) (by omega) (by omega)]; omega

/-- Behind a thing of a greater Rep none of a lesser one comes. -/
theorem cnt_stays {l : List Op7} (hord : ordB l = true) {j : Nat} (hj : j < l.length) {r : Int} (hr : r < l[j].a) : cnt l r = cntTo l j r := by
  rw [← cntTo_len]
  have h : ∀ k, j ≤ k → k ≤ l.length → cntTo l k r = cntTo l j r := by
    intro k
    induction k with
    | zero => intro h _; obtain rfl : j = 0 := by omega
              rfl
    | succ k ih =>
      intro h1 h2
      rcases Nat.lt_or_ge k j with h | h
      · obtain rfl : j = k + 1 := by omega
        rfl
      · have := rep_ascends hord k (by omega) j h
        rw [cntTo_other (by omega) (by omega)]
        exact ih h (by omega)
  exact h _ (by omega) (Nat.le_refl _)

theorem cnt_mono {l : List Op7} (r : Int) : ∀ (k j : Nat), j ≤ k → k ≤ l.length → cntTo l j r ≤ cntTo l k r := by
  intro k
  induction k with
  | zero => intro j h _; obtain rfl : j = 0 := by omega
            exact Int.le_refl _
  | succ k ih =>
    intro j h1 h2
    rcases Nat.lt_or_ge k j with h | h
    · obtain rfl : j = k + 1 := by omega
      exact Int.le_refl _
    · have h3 := ih j h (by omega)
      by_cases e : l[k].a = r
      · rw [cntTo_same (by omega) e]; omega
      · rw [cntTo_other (by omega) e]; exact h3

/-- The place of a thing that is there. -/
theorem place_of {l : List Op7} (hok : l.all okO = true) (hord : ordB l = true) {j : Nat} (hj : j < l.length) : placeI (cnt l 1) (cnt l 2) (cnt l 3) l[j].a l[j].b = j := by
  have hid := okO_id (all_iff.1 hok j hj)
  have hn := num_is hok hord j hj
  have h3 := all_three hok j (by omega)
  have hidB : idB l[j].a l[j].b = true := idB_true.2 hid
  have hle : cntTo l j l[j].a + 1 ≤ cnt l l[j].a := by
    rw [← cntTo_len, ← cntTo_same hj rfl]
    exact cnt_mono _ _ _ (by omega) (Nat.le_refl _)
  unfold placeI seenAt
  obtain e | e | e : l[j].a = 1 ∨ l[j].a = 2 ∨ l[j].a = 3 := by omega
  · rw [e] at hle hn
    have z2 := cntTo_zero_of (l := l) (r := 2) j (by omega) (fun i hi hij => by have := rep_ascends hord j hj i (by omega); omega)
    have z3 := cntTo_zero_of (l := l) (r := 3) j (by omega) (fun i hi hij => by have := rep_ascends hord j hj i (by omega); omega)
    rw [if_pos ⟨hidB, by rw [if_pos e]; omega⟩, if_pos e]
    omega
  · rw [e] at hle hn
    have z3 := cntTo_zero_of (l := l) (r := 3) j (by omega) (fun i hi hij => by have := rep_ascends hord j hj i (by omega); omega)
    have z1 := cnt_stays hord hj (r := 1) (by omega)
    rw [if_pos ⟨hidB, by rw [if_neg (by omega), if_pos e]; omega⟩, if_neg (by omega), if_pos e]
    omega
  · rw [e] at hle hn
    have z1 := cnt_stays hord hj (r := 1) (by omega)
    have z2 := cnt_stays hord hj (r := 2) (by omega)
    rw [if_pos ⟨hidB, by rw [if_neg (by omega), if_neg (by omega)]; omega⟩, if_neg (by omega), if_neg (by omega)]
    omega

/-- The n-th thing of somebody is there. -/
theorem there_is {l : List Op7} {r n : Int} (h1 : 1 ≤ n) : ∀ (k : Nat), k ≤ l.length → n ≤ cntTo l k r → ∃ j, ∃ hj : j < l.length, l[j].a = r ∧ cntTo l j r = n - 1 := by
  intro k
  induction k with
  | zero => intro _ h; rw [cntTo_zero] at h; omega
  | succ k ih =>
    intro hk h
    by_cases hc : n ≤ cntTo l k r
    · exact ih (by omega) hc
    · by_cases e : l[k].a = r
      · rw [cntTo_same (by omega) e] at h
        exact ⟨k, by omega, e, by omega⟩
      · rw [cntTo_other (by omega) e] at h
        omega

/-- What is found by an id is what its place tells. -/
theorem find_place {l : List Op7} (hok : l.all okO = true) (hord : ordB l = true) (r m : Int) : findI l r m = placeI (cnt l 1) (cnt l 2) (cnt l 3) r m := by
  unfold findI
  cases hf : l.findIdx? (hasId r m) with
  | some i =>
    obtain ⟨hi, h1, _⟩ := List.findIdx?_eq_some_iff_getElem.1 hf
    simp only [hasId, Bool.and_eq_true, beq_iff_eq] at h1
    have := place_of hok hord hi
    rw [h1.1, h1.2] at this
    exact this.symm
  | none =>
    simp only
    unfold placeI
    by_cases hc : idB r m = true ∧ m ≤ seenAt (cnt l 1) (cnt l 2) (cnt l 3) r
    · exfalso
      obtain ⟨hid, hle⟩ := hc
      have hid' := idB_true.1 hid
      have hcnt : m ≤ cnt l r := by
        unfold seenAt at hle
        obtain rfl | rfl | rfl : r = 1 ∨ r = 2 ∨ r = 3 := by omega
        · simpa using hle
        · simpa using hle
        · simpa using hle
      rw [← cntTo_len] at hcnt
      obtain ⟨j, hj, e1, e2⟩ := there_is (by omega) l.length (Nat.le_refl _) hcnt
      have hn := num_is hok hord j hj
      rw [e1, e2] at hn
      have := List.findIdx?_eq_none_iff.1 hf l[j] (List.getElem_mem hj)
      simp [hasId, e1, hn] at this
    · rw [if_neg hc]

theorem len_le {l : List Op7} (hok : l.all okO = true) (hord : ordB l = true) : l.length ≤ 36 := by
  have h := all_three hok l.length (Nat.le_refl _)
  have hb : ∀ r, cntTo l l.length r ≤ 12 := by
    intro r
    rcases Int.lt_or_le 12 (cntTo l l.length r) with h1 | h1
    · exfalso
      obtain ⟨j, hj, e1, e2⟩ := there_is (n := 13) (r := r) (by omega) l.length (Nat.le_refl _) (by omega)
      have hn := num_is hok hord j hj
      have := okO_id (all_iff.1 hok j hj)
      rw [e1, e2] at hn
      omega
    · exact h1
  have h1 := hb 1
  have h2 := hb 2
  have h3 := hb 3
  omega

theorem countP_lt {p q : Nat → Bool} : ∀ {l : List Nat}, (∀ x ∈ l, p x = true → q x = true) → (∃ x ∈ l, p x = false ∧ q x = true) → l.countP p < l.countP q := by
  intro l
  induction l with
  | nil => intro _ h; obtain ⟨x, hx, _⟩ := h; cases hx
  | cons y t ih =>
    intro h1 h2
    rw [List.countP_cons, List.countP_cons]
    have hle : t.countP p ≤ t.countP q := List.countP_mono_left (fun x hx => h1 x (List.mem_cons_of_mem _ hx))
    obtain ⟨x, hx, e1, e2⟩ := h2
    rcases List.mem_cons.1 hx with rfl | hx
    · simp [e1, e2]; omega
    · have := ih (fun x hx => h1 x (List.mem_cons_of_mem _ hx)) ⟨x, hx, e1, e2⟩
      have h3 := h1 y (by simp)
      cases hp : p y
      · cases hq : q y <;> simp <;> omega
      · rw [h3 hp]; simp; omega

theorem cnF_mono (xs : List Int) : ∀ (n : Nat) (p : Int), cnF xs n p = true → cnF xs (n + 1) p = true := by
  intro n
  induction n with
  | zero => intro p h; simp [cnF] at h
  | succ n ih =>
    intro p h
    rw [cnF] at h ⊢
    by_cases hx : xs.getD p.toNat 0 < 0
    · rw [if_pos hx]
    · rw [if_neg hx] at h ⊢
      exact ih _ h

theorem stable_next {xs : List Int} (hp : placesB xs) {n : Nat} (h : ∀ i : Nat, i < xs.length → cnF xs (n + 1) i = cnF xs n i) : ∀ i : Nat, i < xs.length → cnF xs (n + 2) i = cnF xs (n + 1) i := by
  intro i hi
  have hx : xs.getD (i : Int).toNat 0 = xs[i] := by simp [hi]
  have e : ∀ n, cnF xs (n + 1) (i : Int) = if xs[i] < 0 then true else cnF xs n xs[i] := fun n => by rw [cnF, hx]
  rw [e (n + 1), e n]
  obtain ⟨b0, b1⟩ := hp i hi
  by_cases hn : xs[i] < 0
  · rw [if_pos hn, if_pos hn]
  · rw [if_neg hn, if_neg hn]
    obtain ⟨k, hk⟩ := Int.eq_ofNat_of_zero_le (show 0 ≤ xs[i] by omega)
    rw [hk]
    exact h k (by omega)

theorem stable_on {xs : List Int} (hp : placesB xs) {m : Nat} (h : ∀ i : Nat, i < xs.length → cnF xs (m + 1) i = cnF xs m i) : ∀ n, m ≤ n → ∀ i : Nat, i < xs.length → cnF xs (n + 1) i = cnF xs n i := by
  intro n
  induction n with
  | zero => intro hm; obtain rfl : m = 0 := by omega
            exact h
  | succ n ih =>
    intro hm
    rcases Nat.lt_or_ge m (n + 1) with h1 | h1
    · exact stable_next hp (ih (by omega))
    · obtain rfl : m = n + 1 := by omega
      exact h

/-- A way that is longer than there are places comes to no more. -/
theorem stable_len {xs : List Int} (hp : placesB xs) : ∀ i : Nat, i < xs.length → cnF xs (xs.length + 1) i = cnF xs xs.length i := by
  have claim : ∀ n, (∃ m, m ≤ n ∧ ∀ i : Nat, i < xs.length → cnF xs (m + 1) i = cnF xs m i) ∨ n ≤ (List.range xs.length).countP (fun i : Nat => cnF xs n (i : Int)) := by
    intro n
    induction n with
    | zero => exact .inr (Nat.zero_le _)
    | succ n ih =>
      rcases ih with ⟨m, hm, h⟩ | h
      · exact .inl ⟨m, by omega, h⟩
      · by_cases hs : ∀ i : Nat, i < xs.length → cnF xs (n + 1) i = cnF xs n i
        · exact .inl ⟨n, by omega, hs⟩
        · refine .inr ?_
          have hex : ∃ i : Nat, i < xs.length ∧ cnF xs (n + 1) i ≠ cnF xs n i := by
            refine Classical.byContradiction fun hno => hs fun i hi => ?_
            exact Classical.byContradiction fun hne => hno ⟨i, hi, hne⟩
          obtain ⟨i, hi, hne⟩ := hex
          have h1 : cnF xs n (i : Int) = false := by
            cases hc : cnF xs n (i : Int)
            · rfl
            · exact absurd ((cnF_mono xs n i hc).trans hc.symm) hne
          have h2 : cnF xs (n + 1) (i : Int) = true := by
            cases hc : cnF xs (n + 1) (i : Int)
            · exact absurd (hc.trans h1.symm) hne
            · rfl
          have := countP_lt (p := fun i : Nat => cnF xs n (i : Int)) (q := fun i : Nat => cnF xs (n + 1) (i : Int)) (l := List.range xs.length) (fun x _ hx => cnF_mono xs n x hx) ⟨i, by simpa using hi, h1, h2⟩
          omega
  rcases claim xs.length with ⟨m, hm, h⟩ | h
  · exact stable_on hp h _ hm
  · intro i hi
    have hall : (List.range xs.length).countP (fun i : Nat => cnF xs xs.length (i : Int)) = (List.range xs.length).length := by
      have := List.countP_le_length (p := fun i => cnF xs xs.length ((i : Nat) : Int)) (l := List.range xs.length)
      simp at this ⊢
      omega
    have ht := List.countP_eq_length.1 hall i (by simpa using hi)
    rw [ht]
    exact cnF_mono _ _ _ ht

theorem plc_find {l : List Op7} (hok : l.all okO = true) (hord : ordB l = true) (o : Op7) : plc l o = findI l o.c o.d := (find_place hok hord _ _).symm

theorem find_zero {l : List Op7} (hok : l.all okO = true) : findI l 0 0 = -1 :=
  findI_none fun o ho => by
    obtain ⟨j, hj, rfl⟩ := List.getElem_of_mem ho
    have := okO_id (all_iff.1 hok j hj)
    simp [hasId]
    omega

theorem refs_same {l : List Op7} (hok : l.all okO = true) (hord : ordB l = true) (o : Op7) : refI l o = refsB l o := by
  unfold refI refsB
  rw [plc_find hok hord]
  cases hz : noB o.c o.d
  · cases hx : nextO l o with
    | none => rw [next_none hx]; simp
    | some p =>
      obtain ⟨i, hi, hf, hp⟩ := next_some hx
      rw [hf, if_neg (by omega)]
      simp [hi, hp]
  · have h := of_decide_eq_true hz
    rw [h.1, h.2, find_zero hok]
    simp

theorem deep_same {l : List Op7} (hok : l.all okO = true) (hord : ordB l = true) (hr : l.all (refsB l) = true) : ∀ (n i : Nat) (hi : i < l.length), deepF l n l[i] = cnF (l.map (plc l)) n i := by
  intro n
  induction n with
  | zero => intro i hi; rfl
  | succ n ih =>
    intro i hi
    have hx : (l.map (plc l)).getD (i : Int).toNat 0 = findI l l[i].c l[i].d := by
      rw [← plc_find hok hord]; simp [hi]
    rw [cnF, hx, deepF]
    cases hz : noB l[i].c l[i].d
    · have h := all_iff.1 hr i hi
      unfold refsB at h
      rw [hz] at h
      cases hn : nextO l l[i] with
      | none => rw [hn] at h; cases h
      | some p =>
        obtain ⟨j, hj, hf, hp⟩ := next_some hn
        rw [if_neg (by simp), hf, if_neg (by omega)]
        simp only
        rw [← hp]
        exact ih j hj
    · have h := of_decide_eq_true hz
      rw [h.1, h.2, find_zero hok]
      simp

/-- What the program asks is what the specification asks. -/
theorem th_same (l : List Op7) : thB l = opsB l := by
  unfold thB opsB
  cases hok : l.all okO
  · simp
  · cases hord : ordB l
    · simp
    · have hlen := len_le hok hord
      have hrefs : l.all (refI l) = l.all (refsB l) := by
        have : refI l = refsB l := funext fun o => refs_same hok hord o
        rw [this]
      rw [hrefs]
      cases hr : l.all (refsB l)
      · simp
      · have hd : l.all (deepF l (l.length + 1)) = (List.range l.length).all (fun i => cnF (l.map (plc l)) l.length i) := by
          have hst := stable_len (places_plc l)
          simp only [List.length_map] at hst
          rw [Bool.eq_iff_iff, all_iff, List.all_eq_true]
          constructor
          · intro h i hi
            have hi' : i < l.length := by simpa using hi
            have := h i hi'
            rw [deep_same hok hord hr, hst i hi'] at this
            exact this
          · intro h i hi
            rw [deep_same hok hord hr, hst i hi]
            exact h i (by simpa using hi)
        rw [hd]
        simp [hlen]
end Go.Proofs.YtficnhlkefpfnaaDoor

namespace Go.Proofs.YtficnhlkefpfnaaDoor
open Go.RowKit
open Go.Maps (Keyed)
set_option linter.unusedSimpArgs false

/-- f, but v at a. -/
def upd {α : Type} [DecidableEq α] (f : α → Option Value) (a : α) (v : Value) : α → Option Value := fun x => if x = a then some v else f x

/-- These entries are f. -/
structure GoodMap {α : Type} (P : Program) (k : TypeId) (es : Array MapEntry) (clock : Nat) (enc : α → Value) (f : α → Option Value) : Prop where
  keys : ∀ e ∈ es.toList, ∃ l, keyOf P k e.key = some l
  vals : ∀ e ∈ es.toList, ∃ a, e.key = enc a ∧ f a = some e.val
  all : ∀ a v, f a = some v → ∃ e ∈ es.toList, e.key = enc a
  once : ∀ (i j : Nat) (e e' : MapEntry), es.toList[i]? = some e → es.toList[j]? = some e' → e.key = e'.key → i = j
  born : ∀ e ∈ es.toList, e.born < clock
  stamp : ∀ (i j : Nat) (e e' : MapEntry), es.toList[i]? = some e → es.toList[j]? = some e' → e.born = e'.born → i = j

/-- Block b is a map that holds f. -/
def MapFn {α : Type} (P : Program) (k : TypeId) (w : World) (b : Nat) (enc : α → Value) (f : α → Option Value) : Prop :=
  ∃ es clock, w.heap[b]? = some (.map es clock) ∧ GoodMap P k es clock enc f
/-- .. and s is the stamp of the entry at a. -/
def MapSt {α : Type} (P : Program) (k : TypeId) (w : World) (b : Nat) (enc : α → Value) (f : α → Option Value) (a : α) (s : Nat) : Prop :=
  ∃ es clock, w.heap[b]? = some (.map es clock) ∧ GoodMap P k es clock enc f ∧ ∃ (i : Nat) (e : MapEntry), es.toList[i]? = some e ∧ e.key = enc a ∧ e.born = s

section
variable {α : Type} [DecidableEq α] {P : Program} {k t e : TypeId} {w : World} {b : Nat} {enc : α → Value} {f : α → Option Value} {es : Array MapEntry} {clock : Nat}

omit [DecidableEq α] in
theorem MapFn.lt (h : MapFn P k w b enc f) : b < w.heap.size := by
  obtain ⟨es, clock, hb, _⟩ := h
  exact (Array.getElem?_eq_some_iff.1 hb).1
omit [DecidableEq α] in
theorem MapFn.kept {w' : World} {row : Option Nat} (h : MapFn P k w b enc f) (hg : w.grownBy w' row) (hne : some b ≠ row) : MapFn P k w' b enc f := by
  have hlt := h.lt
  obtain ⟨es, clock, hb, F⟩ := h
  exact ⟨es, clock, (hg.block b hlt hne).trans hb, F⟩
omit [DecidableEq α] in
theorem MapFn.below {w' : World} {B : Nat} (h : MapFn P k w b enc f) (hb : Below B w w') (hB : b < B) : MapFn P k w' b enc f := by
  obtain ⟨es, clock, hh, F⟩ := h
  exact ⟨es, clock, (hb.block b hB).trans hh, F⟩
omit [DecidableEq α] in
theorem MapSt.fn {a : α} {s : Nat} (h : MapSt P k w b enc f a s) : MapFn P k w b enc f := by
  obtain ⟨es, clock, hb, F, _⟩ := h
  exact ⟨es, clock, hb, F⟩
omit [DecidableEq α] in
theorem MapSt.kept {w' : World} {row : Option Nat} {a : α} {s : Nat} (h : MapSt P k w b enc f a s) (hg : w.grownBy w' row) (hne : some b ≠ row) : MapSt P k w' b enc f a s := by
  have hlt := h.fn.lt
  obtain ⟨es, clock, hb, F⟩ := h
  exact ⟨es, clock, (hg.block b hlt hne).trans hb, F⟩
omit [DecidableEq α] in
theorem mapFn_made (w : World) (P : Program) (k : TypeId) (enc : α → Value) : MapFn P k (w.alloc (.map #[] 0)) w.heap.size enc (fun _ => none) :=
  ⟨#[], 0, (MapKept.heap_alloc w _).1, by simp, by simp, by simp, by simp, by simp, by simp⟩

theorem GoodMap.push (h : GoodMap P k es clock enc f) {a : α} {kl : Lit} (hkey : keyOf P k (enc a) = some kl) (hno : ∀ e ∈ es.toList, e.key ≠ enc a) (v : Value) : GoodMap P k (es.push ⟨enc a, v, clock⟩) (clock + 1) enc (upd f a v) := by
  have mem : ∀ x, x ∈ (es.push ⟨enc a, v, clock⟩).toList → x ∈ es.toList ∨ x = ⟨enc a, v, clock⟩ := fun x hx => by simpa using hx
  have split : ∀ (i : Nat) (x : MapEntry), (es.push ⟨enc a, v, clock⟩).toList[i]? = some x → (i < es.size ∧ es.toList[i]? = some x) ∨ (i = es.size ∧ x = ⟨enc a, v, clock⟩) := by
    have hlen : es.toList.length = es.size := by simp
    intro i x hx
    rw [Array.toList_push] at hx
    rcases Nat.lt_or_ge i es.size with hi | hi
    · rw [List.getElem?_append_left (by omega)] at hx
      exact .inl ⟨hi, hx⟩
    · rw [List.getElem?_append_right (by omega)] at hx
      rcases Nat.eq_or_lt_of_le hi with hi | hi
      · subst hi
        simp at hx
        exact .inr ⟨rfl, hx.symm⟩
      · rw [List.getElem?_eq_none (by simp; omega)] at hx
        cases hx
  refine ⟨fun x hx => ?_, fun x hx => ?_, fun a' v' hf => ?_, fun i j x y hx hy hxy => ?_, fun x hx => ?_, fun i j x y hx hy hxy => ?_⟩
  · rcases mem x hx with hx | rfl
    · exact h.keys x hx
    · exact ⟨_, hkey⟩
  · rcases mem x hx with hx | rfl
    · obtain ⟨a', ha', hf⟩ := h.vals x hx
      have : a' ≠ a := fun e1 => hno x hx (by rw [ha', e1])
      exact ⟨a', ha', by simp [upd, this, hf]⟩
    · exact ⟨a, rfl, by simp [upd]⟩
  · simp only [Array.toList_push, List.mem_append, List.mem_singleton]
    by_cases e1 : a' = a
    · exact ⟨_, .inr rfl, by rw [e1]⟩
    · simp only [upd, e1, if_false] at hf
      obtain ⟨x, hx, hxk⟩ := h.all a' v' hf
      exact ⟨x, .inl hx, hxk⟩
  · rcases split i x hx with ⟨hi, hx'⟩ | ⟨rfl, rfl⟩ <;> rcases split j y hy with ⟨hj, hy'⟩ | ⟨rfl, rfl⟩
    · exact h.once i j x y hx' hy' hxy
    · exact absurd hxy (hno x (List.mem_of_getElem? hx'))
    · exact absurd hxy.symm (hno y (List.mem_of_getElem? hy'))
    · rfl
  · rcases mem x hx with hx | rfl
    · exact Nat.lt_succ_of_lt (h.born x hx)
    · exact Nat.lt_succ_self _
  · rcases split i x hx with ⟨hi, hx'⟩ | ⟨rfl, rfl⟩ <;> rcases split j y hy with ⟨hj, hy'⟩ | ⟨rfl, rfl⟩
    · exact h.stamp i j x y hx' hy' hxy
    · have := h.born x (List.mem_of_getElem? hx')
      dsimp only at hxy
      omega
    · have := h.born y (List.mem_of_getElem? hy')
      dsimp only at hxy
      omega
    · rfl

theorem GoodMap.set (h : GoodMap P k es clock enc f) (hinj : ∀ a a', enc a = enc a' → a = a') {a : α} {kl : Lit} (hkey : keyOf P k (enc a) = some kl) {j : Nat} {e0 : MapEntry} (r2 : es.toList[j]? = some e0) (r3 : e0.key = enc a) (v : Value) {es' : Array MapEntry}
    (hlist : es'.toList = es.toList.set j ⟨enc a, v, e0.born⟩) : GoodMap P k es' clock enc (upd f a v) := by
  have hjl : j < es.toList.length := (List.getElem?_eq_some_iff.1 r2).1
  have who : ∀ (i : Nat) (x : MapEntry), es'.toList[i]? = some x → (i = j ∧ x = ⟨enc a, v, e0.born⟩) ∨ (i ≠ j ∧ es.toList[i]? = some x) := by
    intro i x hx
    rw [hlist] at hx
    by_cases hij : j = i
    · subst hij
      rw [List.getElem?_set_self hjl] at hx
      exact .inl ⟨rfl, (Option.some.inj hx).symm⟩
    · rw [List.getElem?_set_ne hij] at hx
      exact .inr ⟨fun e1 => hij e1.symm, hx⟩
  have mem : ∀ x ∈ es'.toList, x = ⟨enc a, v, e0.born⟩ ∨ (x ∈ es.toList ∧ x.key ≠ enc a) := by
    intro x hx
    obtain ⟨i, hi⟩ := List.mem_iff_getElem?.1 hx
    rcases who i x hi with ⟨_, h'⟩ | ⟨h', h''⟩
    · exact .inl h'
    · exact .inr ⟨List.mem_of_getElem? h'', fun e1 => h' (h.once i j x e0 h'' r2 (by rw [e1, r3]))⟩
  refine ⟨fun x hx => ?_, fun x hx => ?_, fun a' v' hf => ?_, fun i1 i2 x y hx hy hxy => ?_, fun x hx => ?_, fun i1 i2 x y hx hy hxy => ?_⟩
  · rcases mem x hx with rfl | ⟨hx', _⟩
    · exact ⟨_, hkey⟩
    · exact h.keys x hx'
  · rcases mem x hx with rfl | ⟨hx', hne⟩
    · exact ⟨a, rfl, by simp [upd]⟩
    · obtain ⟨a', ha', hf⟩ := h.vals x hx'
      have : a' ≠ a := fun e1 => hne (by rw [ha', e1])
      exact ⟨a', ha', by simp [upd, this, hf]⟩
  · rw [hlist]
    by_cases e1 : a' = a
    · exact ⟨⟨enc a, v, e0.born⟩, List.mem_iff_getElem?.2 ⟨j, List.getElem?_set_self hjl⟩, by rw [e1]⟩
    · simp only [upd, e1, if_false] at hf
      obtain ⟨x, hx, hxk⟩ := h.all a' v' hf
      obtain ⟨i, hi⟩ := List.mem_iff_getElem?.1 hx
      have hij : j ≠ i := fun e2 => by
        subst e2
        rw [r2] at hi
        obtain rfl := Option.some.inj hi
        exact e1 (hinj _ _ (hxk.symm.trans r3))
      exact ⟨x, List.mem_iff_getElem?.2 ⟨i, by rw [List.getElem?_set_ne hij]; exact hi⟩, hxk⟩
  · rcases who i1 x hx with ⟨rfl, rfl⟩ | ⟨hi, hx'⟩ <;> rcases who i2 y hy with ⟨rfl, rfl⟩ | ⟨hj', hy'⟩
    · rfl
    · exact absurd (h.once _ _ _ _ r2 hy' (by rw [r3]; exact hxy)) (Ne.symm hj')
    · exact absurd (h.once _ _ _ _ hx' r2 (by rw [r3]; exact hxy)) hi
    · exact h.once _ _ _ _ hx' hy' hxy
  · rcases mem x hx with rfl | ⟨hx', _⟩
    · exact h.born e0 (List.mem_of_getElem? r2)
    · exact h.born x hx'
  · rcases who i1 x hx with ⟨rfl, rfl⟩ | ⟨hi, hx'⟩ <;> rcases who i2 y hy with ⟨rfl, rfl⟩ | ⟨hj', hy'⟩
    · rfl
    · exact absurd (h.stamp _ _ _ _ r2 hy' hxy) (Ne.symm hj')
    · exact absurd (h.stamp _ _ _ _ hx' r2 hxy) hi
    · exact h.stamp _ _ _ _ hx' hy' hxy

omit [DecidableEq α] in
/-- 'm[a]' and 'v, ok := m[a]'. -/
theorem MapFn.look (c : Bool) (h : MapFn P k w b enc f) (K : Keyed P k) (ht : P.underlying t = some (.map k e)) {z : Value} (hz : (zeroValue e).run P w = .ok z w)
    (hinj : ∀ a a', enc a = enc a' → a = a') (a : α) {kl : Lit} (hkey : keyOf P k (enc a) = some kl) :
    (Instr.lookup t (.map (some b)) (enc a) c).run P w = .ok (if c then .tuple #[(f a).getD z, .bool (f a).isSome] else (f a).getD z) w := by
  obtain ⟨es, clock, hb, G⟩ := h
  rcases K.find w hkey es.toList G.keys with ⟨r1, r2⟩ | ⟨j, e0, r1, r2, r3⟩
  · have hf : f a = none := by
      cases hf : f a
      · rfl
      · obtain ⟨e', he', hke⟩ := G.all a _ hf
        exact absurd hke (r2 e' he')
    simp [Instr.lookup, run_underlying ht, MapKept.run_getObj_map hb, K.check w _ hkey, r1, hz, Result.andThen, hf]
  · obtain ⟨a', ha', hf⟩ := G.vals e0 (List.mem_of_getElem? r2)
    obtain rfl : a' = a := hinj _ _ (ha'.symm.trans r3)
    simp [Instr.lookup, run_underlying ht, MapKept.run_getObj_map hb, K.check w _ hkey, r1, Result.andThen, hf]

open Go.ChangeMaps in
theorem set_grown (hb : w.heap[b]? = some (.map es clock)) (o : Obj) : w.grownBy (setBlock w b o) (some b) :=
  ⟨rfl, rfl, rfl, by simp [setBlock], fun i _ hi => heap_setBlock_other hb _ (fun e => hi (by rw [e]))⟩

open Go.ChangeMaps in
/-- 'm[a] = v'. -/
theorem MapFn.store (h : MapFn P k w b enc f) (K : Keyed P k) (ht : P.underlying t = some (.map k e)) (hinj : ∀ a a', enc a = enc a' → a = a') (a : α) (v : Value) {kl : Lit} (hkey : keyOf P k (enc a) = some kl) :
    ∃ w', (Instr.mapUpdate t (.map (some b)) (enc a) v).run P w = .ok () w' ∧ MapFn P k w' b enc (upd f a v) ∧ w.grownBy w' (some b) := by
  obtain ⟨es, clock, hb, G⟩ := h
  rcases K.find w hkey es.toList G.keys with ⟨r1, r2⟩ | ⟨j, e0, r1, r2, r3⟩
  · refine ⟨setBlock w b (.map (es.push ⟨enc a, v, clock⟩) (clock + 1)), ?_, ⟨_, _, heap_setBlock_same hb _, G.push hkey r2 v⟩, set_grown hb _⟩
    simp [Instr.mapUpdate, run_underlying ht, MapKept.run_getObj_map hb, K.check w false hkey, r1, MapKept.run_setObj_map _ hb, Result.andThen, setBlock]
  · have hj : es[j]? = some e0 := by simpa using r2
    refine ⟨setBlock w b (.map (es.modify j (fun e' => { e' with key := enc a, val := v })) clock), ?_, ⟨_, clock, heap_setBlock_same hb _, G.set hinj hkey r2 r3 v ?_⟩, set_grown hb _⟩
    · simp [Instr.mapUpdate, run_underlying ht, MapKept.run_getObj_map hb, K.check w false hkey, r1, hj, r3, K.stays w hkey, MapKept.run_setObj_map _ hb, Result.andThen, setBlock]
    · rw [Array.toList_modify, modify_eq_set _ _ _ _ r2]

open Go.ChangeMaps in
/-- The entry at a, made where there is none. -/
theorem MapFn.entry (h : MapFn P k w b enc f) (K : Keyed P k) (ht : P.underlying t = some (.map k e)) {z : Value} (hz : (zeroValue e).run P w = .ok z w) (hinj : ∀ a a', enc a = enc a' → a = a') (a : α) {kl : Lit} (hkey : keyOf P k (enc a) = some kl) :
    ∃ w' s, (Instr.mapEntry t (.map (some b)) (enc a)).run P w = .ok (.tuple #[(f a).getD z, goInt (s : Nat)]) w' ∧ MapSt P k w' b enc (upd f a ((f a).getD z)) a s ∧ w.grownBy w' (some b) := by
  obtain ⟨es, clock, hb, G⟩ := h
  rcases K.find w hkey es.toList G.keys with ⟨r1, r2⟩ | ⟨j, e0, r1, r2, r3⟩
  · have hf : f a = none := by
      cases hf : f a
      · rfl
      · obtain ⟨e', he', hke⟩ := G.all a _ hf
        exact absurd hke (r2 e' he')
    refine ⟨setBlock w b (.map (es.push ⟨enc a, z, clock⟩) (clock + 1)), clock, ?_, ⟨_, _, heap_setBlock_same hb _, by rw [hf]; exact G.push hkey r2 z, es.size, ⟨enc a, z, clock⟩, by simp, rfl, rfl⟩, set_grown hb _⟩
    simp [Instr.mapEntry, run_underlying ht, MapKept.run_getObj_map hb, K.check w false hkey, r1, hz, MapKept.run_setObj_map _ hb, Result.andThen, setBlock, hf]
  · have hj : es[j]? = some e0 := by simpa using r2
    obtain ⟨a', ha', hf⟩ := G.vals e0 (List.mem_of_getElem? r2)
    obtain rfl : a' = a := hinj _ _ (ha'.symm.trans r3)
    have hlist : (es.modify j (fun e' => { e' with key := enc a' })).toList = es.toList.set j ⟨enc a', e0.val, e0.born⟩ := by rw [Array.toList_modify, modify_eq_set _ _ _ _ r2]
    have hjl : j < es.toList.length := (List.getElem?_eq_some_iff.1 r2).1
    refine ⟨setBlock w b (.map (es.modify j (fun e' => { e' with key := enc a' })) clock), e0.born, ?_, ⟨_, clock, heap_setBlock_same hb _, by rw [hf]; exact G.set hinj hkey r2 r3 e0.val hlist, j, ⟨enc a', e0.val, e0.born⟩, by rw [hlist]; exact List.getElem?_set_self hjl, rfl, rfl⟩, set_grown hb _⟩
    simp [Instr.mapEntry, run_underlying ht, MapKept.run_getObj_map hb, K.check w false hkey, r1, hj, r3, K.stays w hkey, MapKept.run_setObj_map _ hb, Result.andThen, setBlock, hf]

open Go.ChangeMaps in
/-- The store through an entry. -/
theorem MapSt.write {a : α} {s : Nat} (h : MapSt P k w b enc f a s) (hinj : ∀ a a', enc a = enc a' → a = a') {kl : Lit} (hkey : keyOf P k (enc a) = some kl) (v : Value) :
    ∃ w', (Instr.entryStore t (.map (some b)) (goInt (s : Nat)) v).run P w = .ok () w' ∧ MapFn P k w' b enc (upd f a v) ∧ w.grownBy w' (some b) := by
  obtain ⟨es, clock, hb, G, i, e0, r2, r3, r4⟩ := h
  have hi : es[i]? = some e0 := by simpa using r2
  obtain ⟨hil, hie⟩ := Array.getElem?_eq_some_iff.1 hi
  have hfind : es.findIdx? (fun e => (e.born : Int) == (s : Int)) = some i := by
    rw [Array.findIdx?_eq_some_iff_getElem]
    refine ⟨hil, by rw [hie, r4]; simp, fun j hj => ?_⟩
    cases hc : ((es[j].born : Int) == (s : Int))
    · simp [hc]
    · have h0 : (es[j].born : Int) = (s : Int) := by simpa using hc
      have h1 : es[j].born = s := by omega
      have h2 := G.stamp j i es[j] e0 (by simp) r2 (by rw [h1, r4])
      omega
  refine ⟨setBlock w b (.map (es.modify i (fun e' => { e' with val := v })) clock), ?_, ⟨_, clock, heap_setBlock_same hb _, G.set hinj hkey r2 r3 v ?_⟩, set_grown hb _⟩
  · simp [Instr.entryStore, MapKept.run_getObj_map hb, goInt, asInt, asIntOf, hfind, MapKept.run_setObj_map _ hb, Result.andThen, setBlock]
  · rw [Array.toList_modify, modify_eq_set _ _ _ _ r2, r3]

omit [DecidableEq α] in
/-- The look-up, at the operation. -/
theorem wpList_look_fn (c : Bool) {ops : Array Oper} {rest : List Oper} {o : Oper} {A : Act} {Q : Exit → Act → World → Prop}
    (hg : o.guard = none) (m x : Operand) (hop : o.op = Op.lookup t m x c) (K : Keyed P k) (ht : P.underlying t = some (.map k e)) (z : Value) (hz : (zeroValue e).run P w = .ok z w)
    (hinj : ∀ a a', enc a = enc a' → a = a') (hm : A.eval m = .map (some b)) (hown : MapFn P k w b enc f) (a : α) (hx : A.eval x = enc a) (kl : Lit) (hkey : keyOf P k (enc a) = some kl)
    (hK : wpList P ops Q rest (A.put o.dst (if c then .tuple #[(f a).getD z, .bool (f a).isSome] else (f a).getD z)) w) :
    wpList P ops Q (o :: rest) A w := by
  refine wpList_plain hg fun K' hK' => ?_
  have hrun := hown.look c K ht hz hinj a hkey
  unfold Oper.wp
  simp only [execOp, hop, hm, hx, hrun, Result.andThen, Sem.run_bind, Sem.run_pure]
  exact hK' _ _ hK

omit [DecidableEq α] in
/-- The look-up without 'ok', at the operation. -/
theorem wpList_look0 {ops : Array Oper} {rest : List Oper} {o : Oper} {A : Act} {Q : Exit → Act → World → Prop}
    (hg : o.guard = none) (m x : Operand) (hop : o.op = Op.lookup t m x false) (K : Keyed P k) (ht : P.underlying t = some (.map k e)) (z : Value) (hz : (zeroValue e).run P w = .ok z w)
    (hinj : ∀ a a', enc a = enc a' → a = a') (hm : A.eval m = .map (some b)) (hown : MapFn P k w b enc f) (a : α) (hx : A.eval x = enc a) (kl : Lit) (hkey : keyOf P k (enc a) = some kl) (v : Value) (hv : (f a).getD z = v)
    (hK : wpList P ops Q rest (A.put o.dst v) w) :
    wpList P ops Q (o :: rest) A w := by
  subst hv
  exact wpList_look_fn false hg m x hop K ht z hz hinj hm hown a hx kl hkey hK
omit [DecidableEq α] in
/-- The look-up with 'ok', at the operation. -/
theorem wpList_look1 {ops : Array Oper} {rest : List Oper} {o : Oper} {A : Act} {Q : Exit → Act → World → Prop}
    (hg : o.guard = none) (m x : Operand) (hop : o.op = Op.lookup t m x true) (K : Keyed P k) (ht : P.underlying t = some (.map k e)) (z : Value) (hz : (zeroValue e).run P w = .ok z w)
    (hinj : ∀ a a', enc a = enc a' → a = a') (hm : A.eval m = .map (some b)) (hown : MapFn P k w b enc f) (a : α) (hx : A.eval x = enc a) (kl : Lit) (hkey : keyOf P k (enc a) = some kl) (v : Value) (hv : (f a).getD z = v) (q : Bool) (hq : (f a).isSome = q)
    (hK : wpList P ops Q rest (A.put o.dst (.tuple #[v, .bool q])) w) :
    wpList P ops Q (o :: rest) A w := by
  subst hv hq
  exact wpList_look_fn true hg m x hop K ht z hz hinj hm hown a hx kl hkey hK

/-- The store, at the operation. -/
theorem wpList_store_fn {ops : Array Oper} {rest : List Oper} {o : Oper} {A : Act} {Q : Exit → Act → World → Prop}
    (hg : o.guard = none) (m x v : Operand) (hop : o.op = Op.mapUpdate t m x v) (K : Keyed P k) (ht : P.underlying t = some (.map k e))
    (hinj : ∀ a a', enc a = enc a' → a = a') (hm : A.eval m = .map (some b)) (hown : MapFn P k w b enc f) (a : α) (hx : A.eval x = enc a) (kl : Lit) (hkey : keyOf P k (enc a) = some kl) (val : Value) (hv : A.eval v = val)
    (hK : ∀ w', MapFn P k w' b enc (upd f a val) → w.grownBy w' (some b) → wpList P ops Q rest (A.put o.dst undef) w') :
    wpList P ops Q (o :: rest) A w := by
  refine wpList_plain hg fun K' hK' => ?_
  obtain ⟨w', hrun, r1, r2⟩ := hown.store K ht hinj a val hkey
  unfold Oper.wp
  simp [execOp, hop, hm, hx, hv, hrun, Result.andThen]
  exact hK' _ _ (hK w' r1 r2)
/-- The entry, at the operation. -/
theorem wpList_entry_fn {ops : Array Oper} {rest : List Oper} {o : Oper} {A : Act} {Q : Exit → Act → World → Prop}
    (hg : o.guard = none) (m x : Operand) (hop : o.op = Op.mapEntry t m x) (K : Keyed P k) (ht : P.underlying t = some (.map k e)) (z : Value) (hz : (zeroValue e).run P w = .ok z w)
    (hinj : ∀ a a', enc a = enc a' → a = a') (hm : A.eval m = .map (some b)) (hown : MapFn P k w b enc f) (a : α) (hx : A.eval x = enc a) (kl : Lit) (hkey : keyOf P k (enc a) = some kl) (v : Value) (hv : (f a).getD z = v)
    (hK : ∀ w' (s : Nat), MapSt P k w' b enc (upd f a v) a s → w.grownBy w' (some b) → wpList P ops Q rest (A.put o.dst (.tuple #[v, goInt (s : Nat)])) w') :
    wpList P ops Q (o :: rest) A w := by
  subst hv
  refine wpList_plain hg fun K' hK' => ?_
  obtain ⟨w', s, hrun, r1, r2⟩ := hown.entry K ht hz hinj a hkey
  unfold Oper.wp
  simp only [execOp, hop, hm, hx, hrun, Result.andThen, Sem.run_bind, Sem.run_pure]
  exact hK' _ _ (hK w' s r1 r2)
/-- The store through an entry, at the operation. -/
theorem wpList_write_fn {ops : Array Oper} {rest : List Oper} {o : Oper} {A : Act} {Q : Exit → Act → World → Prop} {a : α} {s : Nat}
    (hg : o.guard = none) (m x v : Operand) (hop : o.op = Op.entryStore t m x v)
    (hinj : ∀ a a', enc a = enc a' → a = a') (hm : A.eval m = .map (some b)) (hown : MapSt P k w b enc f a s) (hx : A.eval x = goInt (s : Nat)) (kl : Lit) (hkey : keyOf P k (enc a) = some kl) (val : Value) (hv : A.eval v = val)
    (hK : ∀ w', MapFn P k w' b enc (upd f a val) → w.grownBy w' (some b) → wpList P ops Q rest (A.put o.dst undef) w') :
    wpList P ops Q (o :: rest) A w := by
  refine wpList_plain hg fun K' hK' => ?_
  obtain ⟨w', hrun, r1, r2⟩ := hown.write (t := t) hinj hkey val
  unfold Oper.wp
  simp [execOp, hop, hm, hx, hv, hrun, Result.andThen]
  exact hK' _ _ (hK w' r1 r2)
end
end Go.Proofs.YtficnhlkefpfnaaDoor

namespace Go.Proofs.YtficnhlkefpfnaaDoor
open Go.RowKit
set_option linter.unusedSimpArgs false
set_option linter.unusedVariables false

def encId (x : Int × Int) : Value := .agg #[.int .i64 x.1, .int .i64 x.2]
def encSpot (x : Int × Int × Int) : Value := .agg #[.int .i64 x.1, .int .i64 x.2.1, .int .i64 x.2.2]
theorem encId_inj : ∀ a a', encId a = encId a' → a = a' := by
  rintro ⟨a, b⟩ ⟨c, d⟩ h
  simp [encId] at h
  simp [h]
theorem encSpot_inj : ∀ a a', encSpot a = encSpot a' → a = a' := by
  rintro ⟨a, b, c⟩ ⟨d, e, f⟩ h
  simp [encSpot] at h
  simp [h]

/-- A sign that was put, as the program keeps it. -/
def putV (o : Op7) : Value := .agg #[.int .i64 o.a, .int .i64 o.b, .int .i64 o.c, .int .i64 o.d, .int .i64 o.s, .int .i64 o.g]
/-- The sign of an id. -/
def putAt (l : List Op7) (x : Int × Int) : Option Op7 := match l.find? (hasId x.1 x.2) with | some o => if o.k = 1 then some o else none | none => none
def signF (l : List Op7) : Int × Int → Option Value := l.foldl (fun f o => if o.k = 1 then upd f (o.a, o.b) (putV o) else f) (fun _ => none)
theorem signF_put {l : List Op7} {o : Op7} (h : o.k = 1) : signF (l ++ [o]) = upd (signF l) (o.a, o.b) (putV o) := by simp [signF, h]
theorem signF_take {l : List Op7} {o : Op7} (h : o.k ≠ 1) : signF (l ++ [o]) = signF l := by simp [signF, h]

/-- Each stands once. -/
def OnceIds (l : List Op7) : Prop := ∀ (i j : Nat) (o p : Op7), l[i]? = some o → l[j]? = some p → o.a = p.a → o.b = p.b → i = j
theorem once_of {l : List Op7} (hok : l.all okO = true) (hord : ordB l = true) : OnceIds l := by
  intro i j o p ho hp ha hb
  obtain ⟨hi, rfl⟩ := List.getElem?_eq_some_iff.1 ho
  obtain ⟨hj, rfl⟩ := List.getElem?_eq_some_iff.1 hp
  have h1 := place_of hok hord hi
  have h2 := place_of hok hord hj
  rw [ha, hb, h2] at h1
  omega
theorem OnceIds.init {l : List Op7} {o : Op7} (h : OnceIds (l ++ [o])) : OnceIds l ∧ ∀ p ∈ l, ¬ (p.a = o.a ∧ p.b = o.b) := by
  have hl : ∀ (i : Nat) (p : Op7), l[i]? = some p → i < l.length ∧ (l ++ [o])[i]? = some p := fun i p hp => by
    have hi := (List.getElem?_eq_some_iff.1 hp).1
    exact ⟨hi, by rw [List.getElem?_append_left hi]; exact hp⟩
  refine ⟨fun i j p q hp hq ha hb => h i j p q (hl i p hp).2 (hl j q hq).2 ha hb, fun p hp hx => ?_⟩
  obtain ⟨i, hi⟩ := List.mem_iff_getElem?.1 hp
  have := h i l.length p o (hl i p hi).2 (by simp) hx.1 hx.2
  have := (hl i p hi).1
  omega
theorem signF_is : ∀ (l : List Op7), OnceIds l → ∀ x, signF l x = (putAt l x).map putV := by
  intro l
  induction hn : l.length generalizing l with
  | zero =>
    intro _ x
    obtain rfl := List.length_eq_zero_iff.1 hn
    simp [signF, putAt]
  | succ n ih =>
    intro h x
    have hne : l ≠ [] := by intro e; subst e; simp at hn
    obtain ⟨l', o, rfl⟩ : ∃ l' o, l = l' ++ [o] := ⟨l.dropLast, l.getLast hne, (List.dropLast_concat_getLast hne).symm⟩
    obtain ⟨h1, h2⟩ := h.init
    have ih' := ih l' (by simpa using hn) h1
    by_cases hx : hasId x.1 x.2 o = true
    · have hx' : o.a = x.1 ∧ o.b = x.2 := by simpa [hasId] using hx
      have hnone : l'.find? (hasId x.1 x.2) = none := by
        rw [List.find?_eq_none]
        intro p hp hc
        have hc' : p.a = x.1 ∧ p.b = x.2 := by simpa [hasId] using hc
        exact h2 p hp ⟨by omega, by omega⟩
      have hfind : (l' ++ [o]).find? (hasId x.1 x.2) = some o := by rw [List.find?_append, hnone]; simp [hx]
      have hold : signF l' x = none := by rw [ih']; simp [putAt, hnone]
      have hxe : x = (o.a, o.b) := by rw [hx'.1, hx'.2]
      by_cases hk : o.k = 1
      · rw [signF_put hk]; unfold putAt; rw [hfind]; simp [upd, hk, hxe]
      · rw [signF_take hk, hold]; unfold putAt; rw [hfind]; simp [hk]
    · have hne' : x ≠ (o.a, o.b) := fun e => hx (by rw [e]; simp [hasId])
      have hfind : (l' ++ [o]).find? (hasId x.1 x.2) = l'.find? (hasId x.1 x.2) := by
        rw [List.find?_append]; simp [hx]
      have hold : (putAt (l' ++ [o]) x) = putAt l' x := by unfold putAt; rw [hfind]
      rw [hold, ← ih' x]
      by_cases hk : o.k = 1
      · rw [signF_put hk]; simp [upd, hne']
      · rw [signF_take hk]

/-- How often a sign was taken away. -/
def takesN (l : List Op7) (x : Int × Int) : Nat := l.countP (fun o => !(o.k == 1) && (o.c == x.1 && o.d == x.2))
def takeF (l : List Op7) (x : Int × Int) : Option Value := if takesN l x = 0 then none else some (.int .i64 (takesN l x : Nat))
theorem takeF_put {l : List Op7} {o : Op7} (h : o.k = 1) : takeF (l ++ [o]) = takeF l := by
  funext x; simp [takeF, takesN, List.countP_append, h]
theorem takeF_take {l : List Op7} {o : Op7} (h : o.k ≠ 1) : takeF (l ++ [o]) = upd (takeF l) (o.c, o.d) (.int .i64 ((takesN l (o.c, o.d) : Int) + 1)) := by
  funext x
  by_cases hx : x = (o.c, o.d)
  · subst hx
    have : takesN (l ++ [o]) (o.c, o.d) = takesN l (o.c, o.d) + 1 := by simp [takesN, List.countP_append, h]
    simp [takeF, upd, this]
  · have hxx : ¬ (o.c = x.1 ∧ o.d = x.2) := fun e => hx (by rw [e.1, e.2])
    have : takesN (l ++ [o]) x = takesN l x := by
      have hf : (!(o.k == 1) && (o.c == x.1 && o.d == x.2)) = false := by
        cases hc : (o.c == x.1 && o.d == x.2)
        · simp
        · exact absurd (by simpa using hc) hxx
      simp [takesN, List.countP_append, hf]
    simp [takeF, upd, hx, this]
theorem takeF_get (l : List Op7) (x : Int × Int) : (takeF l x).getD (.int .i64 0) = .int .i64 (takesN l x : Nat) := by
  unfold takeF; split
  · rename_i h; simp [h]
  · simp
theorem takesN_le (l : List Op7) (x : Int × Int) : takesN l x ≤ l.length := List.countP_le_length

def isKid (x : Int × Int × Int) (o : Op7) : Bool := o.k == 1 && (o.c == x.1 && (o.d == x.2.1 && o.s == x.2.2))
/-- Which signs were put beside one, on a side. -/
def kidsL (l : List Op7) (x : Int × Int × Int) : List Op7 := l.filter (isKid x)
/-- The cells of signs, one behind the other. -/
def putCells (L : List Op7) : List Value := L.flatMap fun o => [.int .i64 o.a, .int .i64 o.b, .int .i64 o.c, .int .i64 o.d, .int .i64 o.s, .int .i64 o.g]
theorem putCells_len : ∀ L : List Op7, (putCells L).length = L.length * 6
  | [] => rfl
  | o :: r => by have := putCells_len r; simp [putCells] at this ⊢; omega
theorem kids_same {l : List Op7} {o : Op7} {x : Int × Int × Int} (h : isKid x o = false) : kidsL (l ++ [o]) x = kidsL l x := by simp [kidsL, List.filter_append, h]
theorem kids_more {l : List Op7} {o : Op7} {x : Int × Int × Int} (h : isKid x o = true) : kidsL (l ++ [o]) x = kidsL l x ++ [o] := by simp [kidsL, List.filter_append, h]

/-- Block b holds kids by their places, each list in a row of its own. -/
def KidsFn (w : World) (b base : Nat) (l : List Op7) (f : Int × Int × Int → Option Value) : Prop :=
  MapFn Tryd.prog 156 w b encSpot f ∧ b < base ∧
  (∀ x, (f x = none ∧ kidsL l x = []) ∨ ∃ v, f x = some v ∧ w.ownsRow base 168 6 v (kidsL l x).length (putCells (kidsL l x))) ∧
  ∀ x y v v', x ≠ y → f x = some v → f y = some v' → v.ownBlock = none ∨ v.ownBlock ≠ v'.ownBlock
theorem KidsFn.at {w : World} {b base : Nat} {l : List Op7} {f : Int × Int × Int → Option Value} (h : KidsFn w b base l f) (x : Int × Int × Int) :
    w.ownsRow base 168 6 ((f x).getD (.slice none 0 0)) (kidsL l x).length (putCells (kidsL l x)) := by
  rcases h.2.2.1 x with ⟨h1, h2⟩ | ⟨v, h1, h2⟩
  · rw [h1, h2]; exact World.ownsRow_nil _ _ _ _
  · rw [h1]; exact h2
theorem KidsFn.kept {w w' : World} {b base : Nat} {row : Option Nat} {l : List Op7} {f : Int × Int × Int → Option Value} (h : KidsFn w b base l f) (hg : w.grownBy w' row) (hr : ∀ j, row = some j → j < base ∧ j ≠ b) : KidsFn w' b base l f := by
  refine ⟨h.1.kept hg (fun e => (hr b e.symm).2 rfl), h.2.1, fun x => ?_, h.2.2.2⟩
  rcases h.2.2.1 x with h1 | ⟨v, h1, h2⟩
  · exact .inl h1
  · refine .inr ⟨v, h1, h2.kept hg ?_⟩
    cases hv : v.ownBlock with
    | none => exact .inl rfl
    | some j =>
      refine .inr fun e => ?_
      have h3 := (h2.lt j hv).1
      have h4 := (hr j e.symm).1
      omega
/-- An entry, made where there is none. -/
theorem KidsFn.entry {w w' : World} {b base : Nat} {l : List Op7} {f : Int × Int × Int → Option Value} (h : KidsFn w b base l f) (x : Int × Int × Int) (hg : w.grownBy w' (some b)) (hM : MapFn Tryd.prog 156 w' b encSpot (upd f x ((f x).getD (.slice none 0 0)))) : KidsFn w' b base l (upd f x ((f x).getD (.slice none 0 0))) := by
  have keep : ∀ {v : Value} {n : Nat} {xs : List Value}, w.ownsRow base 168 6 v n xs → w'.ownsRow base 168 6 v n xs := fun {v n xs} hv => by
    refine hv.kept hg ?_
    cases hb : v.ownBlock with
    | none => exact .inl rfl
    | some j =>
      refine .inr fun e => ?_
      have h1 := (hv.lt j hb).1
      have h2 := Option.some.inj e
      have h3 := h.2.1
      omega
  refine ⟨hM, h.2.1, fun y => ?_, fun y z v v' hyz hy hz => ?_⟩
  · by_cases hy : y = x
    · subst hy
      exact .inr ⟨_, by simp [upd], keep (h.at y)⟩
    · rcases h.2.2.1 y with ⟨h1, h2⟩ | ⟨v, h1, h2⟩
      · exact .inl ⟨by simp [upd, hy, h1], h2⟩
      · exact .inr ⟨v, by simp [upd, hy, h1], keep h2⟩
  · by_cases hy1 : y = x
    · have hz1 : z ≠ x := fun e => hyz (hy1.trans e.symm)
      simp only [upd, hy1, if_true, Option.some.injEq] at hy
      simp only [upd, hz1, if_false] at hz
      cases hf : f x with
      | none => rw [hf] at hy; left; rw [← hy]; rfl
      | some u => rw [hf] at hy; exact h.2.2.2 x z v v' (Ne.symm hz1) (by rw [hf]; simpa using hy) hz
    · simp only [upd, hy1, if_false] at hy
      by_cases hz1 : z = x
      · simp only [upd, hz1, if_true, Option.some.injEq] at hz
        cases hf : f x with
        | none =>
          rw [hf] at hz
          rw [← hz]
          cases hv : v.ownBlock with
          | none => exact .inl rfl
          | some j => exact .inr (by simp [Value.ownBlock])
        | some u => rw [hf] at hz; exact h.2.2.2 y x v v' hy1 hy (by rw [hf]; simpa using hz)
      · simp only [upd, hz1, if_false] at hz
        exact h.2.2.2 y z v v' hyz hy hz
theorem KidsFn.mapKept {w w' : World} {b base : Nat} {l : List Op7} {f : Int × Int × Int → Option Value} (h : KidsFn w b base l f) {x : Int × Int × Int} (hg : w.grownBy w' ((f x).getD (.slice none 0 0)).ownBlock) : MapFn Tryd.prog 156 w' b encSpot f :=
  h.1.kept hg (fun e => by
    have h1 := ((h.at x).lt b e.symm).1
    have h2 := h.2.1
    omega)
/-- With one more. -/
theorem KidsFn.back {w w' w'' : World} {b base : Nat} {l : List Op7} {f : Int × Int × Int → Option Value} (h : KidsFn w b base l f) (hbs : base ≤ w.heap.size) {o : Op7} (hk : o.k = 1) {v' : Value}
    (hg : w.grownBy w' ((f (o.c, o.d, o.s)).getD (.slice none 0 0)).ownBlock)
    (hown : w'.ownsRow base 168 6 v' ((kidsL l (o.c, o.d, o.s)).length + 1) (putCells (kidsL l (o.c, o.d, o.s)) ++ [.int .i64 o.a, .int .i64 o.b, .int .i64 o.c, .int .i64 o.d, .int .i64 o.s, .int .i64 o.g]))
    (hloc : v'.ownBlock = ((f (o.c, o.d, o.s)).getD (.slice none 0 0)).ownBlock ∨ ∃ j, v'.ownBlock = some j ∧ w.heap.size ≤ j)
    (hM : MapFn Tryd.prog 156 w'' b encSpot (upd f (o.c, o.d, o.s) v')) (hg2 : w'.grownBy w'' (some b)) : KidsFn w'' b base (l ++ [o]) (upd f (o.c, o.d, o.s) v') := by
  have hx0 : isKid (o.c, o.d, o.s) o = true := by simp [isKid, hk]
  have hoth : ∀ y, y ≠ (o.c, o.d, o.s) → isKid y o = false := fun y hy => by
    cases hc : isKid y o
    · rfl
    · simp [isKid] at hc
      exact absurd (by rw [hc.2.1, hc.2.2.1, hc.2.2.2]) hy
  have keep2 : ∀ {v : Value} {n : Nat} {xs : List Value}, w'.ownsRow base 168 6 v n xs → w''.ownsRow base 168 6 v n xs := fun {v n xs} hv => by
    refine hv.kept hg2 ?_
    cases hb : v.ownBlock with
    | none => exact .inl rfl
    | some j =>
      refine .inr fun e => ?_
      have h1 := (hv.lt j hb).1
      have h2 := Option.some.inj e
      have h3 := h.2.1
      omega
  refine ⟨hM, h.2.1, fun y => ?_, fun x y v v1 hxy hx hy => ?_⟩
  · by_cases hy : y = (o.c, o.d, o.s)
    · subst hy
      refine .inr ⟨v', by simp [upd], ?_⟩
      rw [kids_more hx0]
      have e1 : putCells (kidsL l (o.c, o.d, o.s) ++ [o]) = putCells (kidsL l (o.c, o.d, o.s)) ++ [.int .i64 o.a, .int .i64 o.b, .int .i64 o.c, .int .i64 o.d, .int .i64 o.s, .int .i64 o.g] := by simp [putCells]
      rw [e1, List.length_append]
      exact keep2 hown
    · rw [kids_same (hoth y hy)]
      rcases h.2.2.1 y with ⟨h1, h2⟩ | ⟨v, h1, h2⟩
      · exact .inl ⟨by simp [upd, hy, h1], h2⟩
      · refine .inr ⟨v, by simp [upd, hy, h1], keep2 (h2.kept hg ?_)⟩
        cases hf : f (o.c, o.d, o.s) with
        | none =>
          cases hv : v.ownBlock with
          | none => exact .inl rfl
          | some j => exact .inr (by simp [Value.ownBlock])
        | some v0 => exact h.2.2.2 y _ v v0 hy h1 hf
  · have old : ∀ y v, y ≠ (o.c, o.d, o.s) → f y = some v → v'.ownBlock = none ∨ (v.ownBlock = none ∨ v.ownBlock ≠ v'.ownBlock) := fun y v hy hv => by
      rcases hloc with hl | ⟨j, hl, hj⟩
      · cases hf : f (o.c, o.d, o.s) with
        | none => left; rw [hl, hf]; rfl
        | some v0 => right; rw [hl, hf]; exact h.2.2.2 y _ v v0 hy hv hf
      · right
        cases hb : v.ownBlock with
        | none => exact .inl rfl
        | some i =>
          right; rw [hl]; intro e
          rcases h.2.2.1 y with ⟨h1, _⟩ | ⟨u, h1, h2⟩
          · rw [h1] at hv; cases hv
          · rw [h1] at hv; obtain rfl := Option.some.inj hv
            have h3 := (h2.lt i hb).2
            have h4 := Option.some.inj e
            omega
    by_cases h1 : x = (o.c, o.d, o.s)
    · have h2 : y ≠ (o.c, o.d, o.s) := fun e => hxy (h1.trans e.symm)
      simp only [upd, h1, if_true, Option.some.injEq] at hx
      simp only [upd, h2, if_false] at hy
      subst hx
      rcases old y v1 h2 hy with e | e | e
      · exact .inl e
      · exact .inr (fun e' => by
          have e2 := e'.trans e
          have := (keep2 hown)
          rcases hown.2 with ⟨_, h0⟩ | ⟨g, cap, cur, hv, _⟩
          · omega
          · rw [hv] at e2; simp [Value.ownBlock] at e2)
      · exact .inr (Ne.symm e)
    · simp only [upd, h1, if_false] at hx
      by_cases h2 : y = (o.c, o.d, o.s)
      · simp only [upd, h2, if_true, Option.some.injEq] at hy
        subst hy
        rcases old x v h1 hx with e | e | e
        · cases hb : v.ownBlock with
          | none => exact .inl rfl
          | some j => exact .inr (by rw [e]; simp)
        · exact .inl e
        · exact .inr e
      · simp only [upd, h2, if_false] at hy
        exact h.2.2.2 x y v v1 hxy hx hy

/-- The tree of what was done lies in three maps. -/
def TreeAt (w : World) (b1 b2 b3 base : Nat) (l : List Op7) : Prop :=
  MapFn Tryd.prog 69 w b1 encId (signF l) ∧ (∃ f, KidsFn w b2 base l f) ∧ MapFn Tryd.prog 69 w b3 encId (takeF l)
theorem TreeAt.below {w w' : World} {b1 b2 b3 base : Nat} {l : List Op7} (h : TreeAt w b1 b2 b3 base l) (hb : Below w.heap.size w w') : TreeAt w' b1 b2 b3 base l := by
  obtain ⟨h1, ⟨f, h2⟩, h3⟩ := h
  have hg : w.grownBy w' none := ⟨hb.os, hb.tape, hb.output, hb.size, fun i hi _ => hb.block i hi⟩
  exact ⟨h1.below hb h1.lt, ⟨f, h2.kept hg (fun j e => by cases e)⟩, h3.below hb h3.lt⟩
end Go.Proofs.YtficnhlkefpfnaaDoor

namespace Go.Proofs.YtficnhlkefpfnaaDoor
open Go.RowKit
open Go.Maps (Keyed)
set_option linter.unusedSimpArgs false

theorem laidOutT : laidOutB Tryd.prog = true := by kernel_rfl
theorem rowId : (69 : TypeId) < Tryd.prog.types.size := of_decide_eq_true (by kernel_rfl)
theorem wideId : (match Tryd.prog.underlying 69 with | some (.array _ _) | some (.struct _) => true | _ => false) = true := by kernel_rfl
set_option maxRecDepth 100000 in
theorem keyedId : Keyed Tryd.prog 69 := Keyed.of_law (deep_law_laid laidOutT (m := 3) (by omega) rowId (by kernel_rfl) wideId)
theorem rowSpot : (156 : TypeId) < Tryd.prog.types.size := of_decide_eq_true (by kernel_rfl)
theorem wideSpot : (match Tryd.prog.underlying 156 with | some (.array _ _) | some (.struct _) => true | _ => false) = true := by kernel_rfl
set_option maxRecDepth 100000 in
theorem keyedSpot : Keyed Tryd.prog 156 := Keyed.of_law (deep_law_laid laidOutT (m := 4) (by omega) rowSpot (by kernel_rfl) wideSpot)

theorem typeSize : Tryd.prog.types.size = 238 := by kernel_rfl
theorem cellsId' : Tryd.prog.cellsOf 69 = 2 := by kernel_rfl
theorem cellsSpot' : Tryd.prog.cellsOf 156 = 3 := by kernel_rfl
theorem cellsInt' : Tryd.prog.cellsOf 3 = 1 := by kernel_rfl
theorem keyTId : Tryd.prog.keyType 69 = true := by kernel_rfl
theorem keyTSpot : Tryd.prog.keyType 156 = true := by kernel_rfl
/-- A number that an int holds. -/
def wf64 (n : Int) : Prop := (Lit.int .i64 n).wf = true
theorem wf_small {n : Int} (h : -9223372036854775808 ≤ n ∧ n ≤ 9223372036854775807) : wf64 n := WalkArith.wf_i64 h
theorem litsInt (d : Nat) {n : Int} (h : wf64 n) : Tryd.prog.keyLits (d + 1) 3 [.int .i64 n] = some [.int .i64 n] := by
  unfold wf64 at h
  simp [Program.keyLits, Tryd.underlying3, h]
theorem litsId (d : Nat) {r m : Int} (h1 : wf64 r) (h2 : wf64 m) : Tryd.prog.keyLits (d + 2) 69 [.int .i64 r, .int .i64 m] = some [.int .i64 r, .int .i64 m] := by
  unfold wf64 at h1 h2
  simp [Program.keyLits, Tryd.underlying69, Tryd.underlying3, cellsId', cellsInt', h1, h2]
theorem key_id {r m : Int} (h1 : wf64 r) (h2 : wf64 m) : ∃ kl, keyOf Tryd.prog 69 (encId (r, m)) = some kl := by
  unfold keyOf
  rw [Tryd.underlying69]
  simp [keyTId, encId, Value.formed, Tryd.underlying69, cellsId', Value.cells, typeSize, litsId _ h1 h2]
theorem litsSpot (d : Nat) {r m s : Int} (h1 : wf64 r) (h2 : wf64 m) (h3 : wf64 s) : Tryd.prog.keyLits (d + 3) 156 [.int .i64 r, .int .i64 m, .int .i64 s] = some [.int .i64 r, .int .i64 m, .int .i64 s] := by
  rw [Program.keyLits.eq_def]
  simp only [Tryd.underlying156]
  simp [cellsSpot', cellsId', cellsInt', litsId d h1 h2, litsInt (d + 1) h3]
theorem key_spot {r m s : Int} (h1 : wf64 r) (h2 : wf64 m) (h3 : wf64 s) : ∃ kl, keyOf Tryd.prog 156 (encSpot (r, m, s)) = some kl := by
  unfold keyOf
  rw [Tryd.underlying156]
  simp [keyTSpot, encSpot, Value.formed, Tryd.underlying156, cellsSpot', Value.cells, typeSize, litsSpot _ h1 h2 h3]
theorem zeroSlice (w : World) : (zeroValue 189).run Tryd.prog w = .ok (.slice none 0 0) w := by kernel_rfl
theorem zeroPut (w : World) : (zeroValue 168).run Tryd.prog w = .ok (.agg #[.int .i64 0, .int .i64 0, .int .i64 0, .int .i64 0, .int .i64 0, .int .i64 0]) w := by kernel_rfl
theorem zeroInt (w : World) : (zeroValue 3).run Tryd.prog w = .ok (.int .i64 0) w := by kernel_rfl
theorem infoPut : (Tryd.prog.info? 168).map (fun i => (i.zero, i.size, i.bytes)) = some (some (.agg #[.int .i64 0, .int .i64 0, .int .i64 0, .int .i64 0, .int .i64 0, .int .i64 0]), 6, 48) := by kernel_rfl

end Go.Proofs.YtficnhlkefpfnaaDoor

namespace Go.Proofs.YtficnhlkefpfnaaDoor
open Go.RowKit
open Go.Maps (Keyed)
set_option linter.unusedSimpArgs false
set_option linter.unusedVariables false

theorem Tryd.asTake (a b c d : Int) (w : World) : (Instr.typeAssert (.iface 170 (.agg #[.int .i64 a, .int .i64 b, .int .i64 c, .int .i64 d])) 137 170 true).run Tryd.prog w = .ok (.tuple #[.agg #[.int .i64 a, .int .i64 b, .int .i64 c, .int .i64 d], .bool true]) w := by kernel_rfl

/-- How far the tree is built. -/
structure TI (w w1 wr : World) (F : Int × Int → Option Value) (L : List Op7) (T : Int × Int → Option Value) : Prop where
  bel : Below w.heap.size w wr
  old : Below w1.heap.size w1 wr
  t0 : wr.cell? ⟨w1.heap.size + 1 + 1 + 1, 0, none⟩ = some (.map (some w1.heap.size))
  t1 : wr.cell? ⟨w1.heap.size + 1 + 1 + 1, 1, none⟩ = some (.map (some (w1.heap.size + 1)))
  t2 : wr.cell? ⟨w1.heap.size + 1 + 1 + 1, 2, none⟩ = some (.map (some (w1.heap.size + 1 + 1)))
  sg : MapFn Tryd.prog 69 wr w1.heap.size encId F
  kd : ∃ f, KidsFn wr (w1.heap.size + 1) (w1.heap.size + 4) L f
  tk : MapFn Tryd.prog 69 wr (w1.heap.size + 1 + 1) encId T
  sz : w1.heap.size + 4 ≤ wr.heap.size
def TInv (w w1 wr : World) (k : Nat) (l : List Op7) : Prop := TI w w1 wr (signF (l.take k)) (l.take k) (takeF (l.take k))
theorem some_ne {i j : Nat} (h : i ≠ j) : some i ≠ some j := fun e => h (Option.some.inj e)
theorem grown_cell {w w' : World} {row : Option Nat} (hg : w.grownBy w' row) {b : Nat} (hb : b < w.heap.size) (hne : some b ≠ row) (o : Nat) : w'.cell? ⟨b, o, none⟩ = w.cell? ⟨b, o, none⟩ := by
  simp [World.cell?, hg.block b hb hne]
theorem below_grown {B : Nat} {w w1 w' : World} {row : Option Nat} (h : Below B w w1) (hg : w1.grownBy w' row) (hB : B ≤ w1.heap.size) (hr : ∀ j, row = some j → B ≤ j) : Below B w w' :=
  ⟨hg.os.trans h.os, hg.tape.trans h.tape, hg.output.trans h.output, Nat.le_trans h.size hg.size, fun i hi => (hg.block i (by omega) (fun e => by have := hr i e.symm; omega)).trans (h.block i hi)⟩

theorem TI.grown {w w1 wr w' : World} {F T : Int × Int → Option Value} {L : List Op7} (h : TI w w1 wr F L T) (hB : w.heap.size ≤ w1.heap.size) (hg : wr.grownBy w' none) : TI w w1 w' F L T := by
  have hs := h.sz
  obtain ⟨f, hf⟩ := h.kd
  exact ⟨below_grown h.bel hg (by omega) (fun j e => by cases e), below_grown h.old hg (by omega) (fun j e => by cases e),
    (grown_cell hg (by omega) (by simp) _).trans h.t0, (grown_cell hg (by omega) (by simp) _).trans h.t1, (grown_cell hg (by omega) (by simp) _).trans h.t2,
    h.sg.kept hg (by simp), ⟨f, hf.kept hg (fun j e => by cases e)⟩, h.tk.kept hg (by simp), Nat.le_trans h.sz hg.size⟩
theorem tinv_put1 {w w1 wr : World} {k : Nat} {l : List Op7} (h : TInv w w1 wr k l) (hB : w.heap.size ≤ w1.heap.size) (o1 o2 : Obj) : TInv w w1 ((wr.alloc o1).alloc o2) k l :=
  TI.grown h hB ((World.grownBy_alloc _ _ none).trans (World.grownBy_alloc _ _ none))
theorem TI.sign {w w1 wr w' : World} {F F' T : Int × Int → Option Value} {L : List Op7} (h : TI w w1 wr F L T) (hB : w.heap.size ≤ w1.heap.size) (hg : wr.grownBy w' (some w1.heap.size)) (hM : MapFn Tryd.prog 69 w' w1.heap.size encId F') : TI w w1 w' F' L T := by
  have hs := h.sz
  obtain ⟨f, hf⟩ := h.kd
  exact ⟨below_grown h.bel hg (by omega) (fun j e => by cases e; omega), below_grown h.old hg (by omega) (fun j e => by cases e; omega),
    (grown_cell hg (by omega) (some_ne (by omega)) _).trans h.t0, (grown_cell hg (by omega) (some_ne (by omega)) _).trans h.t1, (grown_cell hg (by omega) (some_ne (by omega)) _).trans h.t2,
    hM, ⟨f, hf.kept hg (fun j e => by cases e; omega)⟩, h.tk.kept hg (some_ne (by omega)), Nat.le_trans h.sz hg.size⟩
theorem TI.take {w w1 wr w' : World} {F T T' : Int × Int → Option Value} {L : List Op7} (h : TI w w1 wr F L T) (hB : w.heap.size ≤ w1.heap.size) (hg : wr.grownBy w' (some (w1.heap.size + 1 + 1))) (hM : MapFn Tryd.prog 69 w' (w1.heap.size + 1 + 1) encId T') : TI w w1 w' F L T' := by
  have hs := h.sz
  obtain ⟨f, hf⟩ := h.kd
  exact ⟨below_grown h.bel hg (by omega) (fun j e => by cases e; omega), below_grown h.old hg (by omega) (fun j e => by cases e; omega),
    (grown_cell hg (by omega) (some_ne (by omega)) _).trans h.t0, (grown_cell hg (by omega) (some_ne (by omega)) _).trans h.t1, (grown_cell hg (by omega) (some_ne (by omega)) _).trans h.t2,
    h.sg.kept hg (some_ne (by omega)), ⟨f, hf.kept hg (fun j e => by cases e; omega)⟩, hM, Nat.le_trans h.sz hg.size⟩
theorem TI.kids {w w1 w2 w3 w4 : World} {F T : Int × Int → Option Value} {L : List Op7} (h : TI w w1 w2 F L T) (hB : w.heap.size ≤ w1.heap.size) {f : Int × Int × Int → Option Value} (hf : KidsFn w2 (w1.heap.size + 1) (w1.heap.size + 4) L f) {o : Op7} (hk : o.k = 1) {v' : Value}
    (hg : w2.grownBy w3 ((f (o.c, o.d, o.s)).getD (.slice none 0 0)).ownBlock)
    (hown : w3.ownsRow (w1.heap.size + 4) 168 6 v' ((kidsL L (o.c, o.d, o.s)).length + 1) (putCells (kidsL L (o.c, o.d, o.s)) ++ [.int .i64 o.a, .int .i64 o.b, .int .i64 o.c, .int .i64 o.d, .int .i64 o.s, .int .i64 o.g]))
    (hloc : v'.ownBlock = ((f (o.c, o.d, o.s)).getD (.slice none 0 0)).ownBlock ∨ ∃ j, v'.ownBlock = some j ∧ w2.heap.size ≤ j)
    (hM : MapFn Tryd.prog 156 w4 (w1.heap.size + 1) encSpot (upd f (o.c, o.d, o.s) v')) (hg4 : w3.grownBy w4 (some (w1.heap.size + 1))) : TI w w1 w4 F (L ++ [o]) T := by
  have hs := h.sz
  have hs3 := hg.size
  have row : ∀ j, ((f (o.c, o.d, o.s)).getD (.slice none 0 0)).ownBlock = some j → w1.heap.size + 4 ≤ j := fun j e => ((hf.at _).lt j e).1
  have ne : ∀ j, j < w1.heap.size + 4 → some j ≠ ((f (o.c, o.d, o.s)).getD (.slice none 0 0)).ownBlock := fun j hj e => by have := row j e.symm; omega
  have b1 := below_grown h.bel hg (by omega) (fun j e => by have := row j e; omega)
  have b2 := below_grown h.old hg (by omega) (fun j e => by have := row j e; omega)
  have tc : ∀ j, w4.cell? ⟨w1.heap.size + 1 + 1 + 1, j, none⟩ = w2.cell? ⟨w1.heap.size + 1 + 1 + 1, j, none⟩ := fun j =>
    (grown_cell hg4 (by omega) (some_ne (by omega)) j).trans (grown_cell hg (by omega) (ne _ (by omega)) j)
  exact ⟨below_grown b1 hg4 (by omega) (fun j e => by cases e; omega), below_grown b2 hg4 (by omega) (fun j e => by cases e; omega), (tc _).trans h.t0, (tc _).trans h.t1, (tc _).trans h.t2,
    (h.sg.kept hg (ne _ (by omega))).kept hg4 (some_ne (by omega)), ⟨_, hf.back (by omega) hk hg hown hloc hM hg4⟩, (h.tk.kept hg (ne _ (by omega))).kept hg4 (some_ne (by omega)), Nat.le_trans hs (Nat.le_trans hs3 hg4.size)⟩
theorem TI.entry {w w1 wr w' : World} {F T : Int × Int → Option Value} {L : List Op7} (h : TI w w1 wr F L T) (hB : w.heap.size ≤ w1.heap.size) {f : Int × Int × Int → Option Value} (hf : KidsFn wr (w1.heap.size + 1) (w1.heap.size + 4) L f) (x : Int × Int × Int) (hg : wr.grownBy w' (some (w1.heap.size + 1)))
    (hM : MapFn Tryd.prog 156 w' (w1.heap.size + 1) encSpot (upd f x ((f x).getD (.slice none 0 0)))) : TI w w1 w' F L T := by
  have hs := h.sz
  exact ⟨below_grown h.bel hg (by omega) (fun j e => by cases e; omega), below_grown h.old hg (by omega) (fun j e => by cases e; omega),
    (grown_cell hg (by omega) (some_ne (by omega)) _).trans h.t0, (grown_cell hg (by omega) (some_ne (by omega)) _).trans h.t1, (grown_cell hg (by omega) (some_ne (by omega)) _).trans h.t2,
    h.sg.kept hg (some_ne (by omega)), ⟨_, hf.entry x hg hM⟩, h.tk.kept hg (some_ne (by omega)), Nat.le_trans h.sz hg.size⟩
theorem upd_same {α : Type} [DecidableEq α] (f : α → Option Value) (a : α) (v : Value) : upd f a v a = some v := by simp [upd]
theorem ints_one : ∀ {a b c d s g : Int}, ∀ u ∈ [Value.int .i64 a, .int .i64 b, .int .i64 c, .int .i64 d, .int .i64 s, .int .i64 g], u.oneCell' = true := by
  intro a b c d s g u hu
  simp at hu
  rcases hu with rfl | rfl | rfl | rfl | rfl | rfl <;> rfl
/-- The round of a sign that was put, behind its last store. -/
theorem TI.put_end {w w1 w3 w4 w5 : World} {k : Nat} {l : List Op7} {o : Op7} {v0 v' : Value} {f : Int × Int × Int → Option Value} (hB : w.heap.size ≤ w1.heap.size)
    (h3 : TI w w1 w3 (upd (signF (l.take k)) (o.a, o.b) (putV o)) (l.take k) (takeF (l.take k))) (hk3 : KidsFn w3 (w1.heap.size + 1) (w1.heap.size + 4) (l.take k) (upd f (o.c, o.d, o.s) v0)) (hk : o.k = 1) (htk : l.take (k + 1) = l.take k ++ [o])
    (hown : w4.ownsRow (w1.heap.size + 4) 168 6 v' ((kidsL (l.take k) (o.c, o.d, o.s)).length + 1) (putCells (kidsL (l.take k) (o.c, o.d, o.s)) ++ [.int .i64 o.a, .int .i64 o.b, .int .i64 o.c, .int .i64 o.d, .int .i64 o.s, .int .i64 o.g]))
    (hg : w3.grownBy w4 v0.ownBlock) (hloc : v'.ownBlock = v0.ownBlock ∨ v'.ownBlock = some w3.heap.size)
    (hM : MapFn Tryd.prog 156 w5 (w1.heap.size + 1) encSpot (upd (upd f (o.c, o.d, o.s) v0) (o.c, o.d, o.s) v')) (hg5 : w4.grownBy w5 (some (w1.heap.size + 1))) : TInv w w1 w5 (k + 1) l := by
  unfold TInv
  rw [htk, signF_put hk, takeF_put hk]
  refine TI.kids h3 hB hk3 hk (by rw [upd_same]; exact hg) hown ?_ hM hg5
  rw [upd_same]
  exact hloc.imp id (fun e => ⟨_, e, Nat.le_refl _⟩)
/-- The round of a taking: what its operations come to, in either order. -/
theorem take_runs {w w1 W : World} {k : Nat} {l : List Op7} {o : Op7} (hB : w.heap.size ≤ w1.heap.size) (h : TI w w1 W (signF (l.take k)) (l.take k) (takeF (l.take k))) (hk : o.k ≠ 1) (htk : l.take (k + 1) = l.take k ++ [o]) {kl : Lit} (hkl : keyOf Tryd.prog 69 (encId (o.c, o.d)) = some kl) {n : Nat} (hn : takesN (l.take k) (o.c, o.d) = n) :
    ∃ w2 w3 s, (Instr.lookup 150 (.map (some (w1.heap.size + 1 + 1))) (.agg #[.int .i64 o.c, .int .i64 o.d]) false).run Tryd.prog W = .ok (.int .i64 n) W ∧
      (Instr.mapEntry 150 (.map (some (w1.heap.size + 1 + 1))) (.agg #[.int .i64 o.c, .int .i64 o.d])).run Tryd.prog W = .ok (.tuple #[.int .i64 n, .int .i64 (s : Nat)]) w2 ∧
      (Instr.lookup 150 (.map (some (w1.heap.size + 1 + 1))) (.agg #[.int .i64 o.c, .int .i64 o.d]) false).run Tryd.prog w2 = .ok (.int .i64 n) w2 ∧
      (Instr.entryStore 150 (.map (some (w1.heap.size + 1 + 1))) (.int .i64 (s : Nat)) (.int .i64 ((n : Int) + 1))).run Tryd.prog w2 = .ok () w3 ∧
      W.grownBy w2 (some (w1.heap.size + 1 + 1)) ∧ w2.grownBy w3 (some (w1.heap.size + 1 + 1)) ∧ TInv w w1 w3 (k + 1) l := by
  have hg0 : (takeF (l.take k) (o.c, o.d)).getD (.int .i64 0) = .int .i64 (n : Nat) := by rw [takeF_get, hn]
  have hl0 := h.tk.look false keyedId Tryd.underlying150 (zeroInt W) encId_inj (o.c, o.d) hkl
  obtain ⟨w2, s, he, hst, hg2⟩ := h.tk.entry keyedId Tryd.underlying150 (zeroInt W) encId_inj (o.c, o.d) hkl
  rw [hg0] at hl0 he hst
  have hl2 := hst.fn.look false keyedId Tryd.underlying150 (zeroInt w2) encId_inj (o.c, o.d) hkl
  rw [upd_same] at hl2
  obtain ⟨w3, hw, hM3, hg3⟩ := hst.write (t := 150) encId_inj hkl (.int .i64 ((n : Int) + 1))
  refine ⟨w2, w3, s, hl0, he, hl2, hw, hg2, hg3, ?_⟩
  unfold TInv
  rw [htk, signF_take hk, takeF_take hk, hn]
  have h2 := h.take hB hg2 hst.fn
  have h3 := h2.take hB hg3 hM3
  have hupd : upd (upd (takeF (l.take k)) (o.c, o.d) (.int .i64 (n : Nat))) (o.c, o.d) (.int .i64 ((n : Int) + 1)) = upd (takeF (l.take k)) (o.c, o.d) (.int .i64 ((n : Int) + 1)) := by
    funext x; simp only [upd]; split <;> simp
  rw [hupd] at h3
  obtain ⟨f, hf⟩ := h3.kd
  exact ⟨h3.bel, h3.old, h3.t0, h3.t1, h3.t2, h3.sg, ⟨f, hf.1, hf.2.1, fun x => by rw [kids_same (by simp [isKid, hk])]; exact hf.2.2.1 x, hf.2.2.2⟩, h3.tk, h3.sz⟩
theorem TI.drew {w w1 W : World} {F T : Int × Int → Option Value} {L : List Op7} (h : TI w w1 W F L T) : TI w w1 W.drew F L T := by
  obtain ⟨f, hf⟩ := h.kd
  exact ⟨h.bel.drew, h.old.drew, h.t0, h.t1, h.t2, h.sg, ⟨f, hf⟩, h.tk, h.sz⟩
theorem set_cell_grown (w : World) (p : Addr) (v : Value) : w.grownBy (w.setCell p v) (some p.block) :=
  ⟨rfl, rfl, rfl, by simp, fun i hi hne => heap_setCell_other w p i v (fun e => hne (by rw [e]))⟩
theorem cells_new (w : World) (xs : List Value) (t : TypeId) : ∀ j u, xs[j]? = some u → (w.alloc (.cells xs.toArray t)).cell? ((⟨w.heap.size, 0, none⟩ : Addr).add j) = some u := by
  intro j u hj
  rw [Addr.add_lit]
  simp [hj]
theorem kids_le (l : List Op7) (x : Int × Int × Int) : (kidsL l x).length ≤ l.length := List.length_filter_le _ _
theorem okO_num {o : Op7} (h : okO o = true) : (1 ≤ o.a ∧ o.a ≤ 3) ∧ (1 ≤ o.b ∧ o.b ≤ 12) ∧ (0 ≤ o.c ∧ o.c ≤ 3) ∧ (0 ≤ o.d ∧ o.d ≤ 12) ∧ (0 ≤ o.s ∧ o.s ≤ 1) := by
  unfold okO at h; rw [opB_true] at h; omega
theorem opsParts {l : List Op7} (h : opsB l = true) : l.all okO = true ∧ ordB l = true := by
  unfold opsB at h
  simp only [Bool.and_eq_true] at h
  exact ⟨h.1, h.2.1⟩
theorem tinv_start {w w1 : World} {l : List Op7} {T : TypeId} (hB : Below w.heap.size w w1) :
    TInv w w1 ((((w1.alloc (.map #[] 0)).alloc (.map #[] 0)).alloc (.map #[] 0)).alloc (.cells #[.map (some w1.heap.size), .map (some (w1.heap.size + 1)), .map (some (w1.heap.size + 1 + 1))] T)) 0 l := by
  have g1 := World.grownBy_alloc w1 (.map #[] 0) none
  have g2 := World.grownBy_alloc (w1.alloc (.map #[] 0)) (.map #[] 0) none
  have g3 := World.grownBy_alloc ((w1.alloc (.map #[] 0)).alloc (.map #[] 0)) (.map #[] 0) none
  have g4 := World.grownBy_alloc (((w1.alloc (.map #[] 0)).alloc (.map #[] 0)).alloc (.map #[] 0)) (.cells #[.map (some w1.heap.size), .map (some (w1.heap.size + 1)), .map (some (w1.heap.size + 1 + 1))] T) none
  have s1 : (w1.alloc (.map #[] 0)).heap.size = w1.heap.size + 1 := by simp
  have s2 : ((w1.alloc (.map #[] 0)).alloc (.map #[] 0)).heap.size = w1.heap.size + 1 + 1 := by simp
  have g234 := (g2.trans g3).trans g4
  refine ⟨hB.trans ?_, ?_, by simp [go_sem], by simp [go_sem], by simp [go_sem], ?_, ?_, ?_, by simp⟩
  · exact below_grown (Below.refl _ _) (g1.trans g234) (hB.size) (fun j e => by cases e)
  · exact below_grown (Below.refl _ _) (g1.trans g234) (Nat.le_refl _) (fun j e => by cases e)
  · exact (mapFn_made w1 _ _ _).kept g234 (by simp)
  · have h := (mapFn_made (w1.alloc (.map #[] 0)) Tryd.prog 156 encSpot).kept (g3.trans g4) (by simp)
    rw [s1] at h
    exact ⟨_, h, by omega, fun x => .inl ⟨rfl, by simp [kidsL]⟩, fun _ _ _ _ _ h => by cases h⟩
  · have h := (mapFn_made ((w1.alloc (.map #[] 0)).alloc (.map #[] 0)) Tryd.prog 69 encId).kept g4 (by simp)
    rw [s2] at h
    exact h

end Go.Proofs.YtficnhlkefpfnaaDoor

namespace Go.Proofs.YtficnhlkefpfnaaDoor
open Go.RowKit
set_option linter.unusedSimpArgs false
set_option linter.unusedVariables false

/-- All signs on a side of one, n levels deep. -/
def sideO (l : List Op7) : Nat → Int × Int × Int → List Op7
  | 0, _ => []
  | n + 1, x => (kidsL l x).flatMap fun o => sideO l n (o.a, o.b, 0) ++ o :: sideO l n (o.a, o.b, 1)
/-- An id to which one comes from nothing in d steps. -/
inductive Up (l : List Op7) : Nat → Int × Int → Prop
  | zero : Up l 0 (0, 0)
  | step {d : Nat} {o : Op7} (hm : o ∈ l) (hk : o.k = 1) (h : Up l d (o.c, o.d)) : Up l (d + 1) (o.a, o.b)
theorem mem_kids {l : List Op7} {x : Int × Int × Int} {o : Op7} (h : o ∈ kidsL l x) : o ∈ l ∧ o.k = 1 ∧ x = (o.c, o.d, o.s) := by
  unfold kidsL at h
  obtain ⟨h1, h2⟩ := List.mem_filter.1 h
  simp [isKid] at h2
  exact ⟨h1, h2.1, by rw [h2.2.1, h2.2.2.1, h2.2.2.2]⟩
theorem up_kid {l : List Op7} {x : Int × Int × Int} {o : Op7} {d : Nat} (h : o ∈ kidsL l x) (hu : Up l d (x.1, x.2.1)) : Up l (d + 1) (o.a, o.b) := by
  obtain ⟨h1, h2, rfl⟩ := mem_kids h
  exact Up.step h1 h2 hu
theorem once_eq {l : List Op7} (h1 : OnceIds l) {o p : Op7} (ho : o ∈ l) (hp : p ∈ l) (ha : o.a = p.a) (hb : o.b = p.b) : o = p := by
  obtain ⟨i, hi⟩ := List.mem_iff_getElem?.1 ho
  obtain ⟨j, hj⟩ := List.mem_iff_getElem?.1 hp
  obtain rfl := h1 i j o p hi hj ha hb
  exact Option.some.inj (hi.symm.trans hj)
theorem up_inv {l : List Op7} {d : Nat} {x : Int × Int} (h : Up l d x) : (d = 0 ∧ x = (0, 0)) ∨ ∃ e o, d = e + 1 ∧ o ∈ l ∧ o.k = 1 ∧ Up l e (o.c, o.d) ∧ x = (o.a, o.b) := by
  cases h with
  | zero => exact .inl ⟨rfl, rfl⟩
  | step hm hk h => exact .inr ⟨_, _, rfl, hm, hk, h, rfl⟩
theorem op_pos {l : List Op7} (hok : l.all okO = true) {o : Op7} (h : o ∈ l) : 1 ≤ o.a := (okO_id (List.all_eq_true.1 hok o h)).1
theorem up_once {l : List Op7} (hok : l.all okO = true) (h1 : OnceIds l) : ∀ {d d' : Nat} {x : Int × Int}, Up l d x → Up l d' x → d = d' := by
  intro d
  induction d with
  | zero =>
    intro d' x h h'
    rcases up_inv h with ⟨_, rfl⟩ | ⟨e, o, he, _⟩
    · rcases up_inv h' with ⟨rfl, _⟩ | ⟨e', o', _, hm, _, _, hx⟩
      · rfl
      · have := op_pos hok hm
        have := congrArg Prod.fst hx
        simp at this
        omega
    · omega
  | succ d ih =>
    intro d' x h h'
    rcases up_inv h with ⟨h0, _⟩ | ⟨e, o, he, hm, hk, hu, rfl⟩
    · omega
    · obtain rfl : e = d := by omega
      rcases up_inv h' with ⟨_, hx⟩ | ⟨e', o', rfl, hm', _, hu', hx⟩
      · have := op_pos hok hm
        have := congrArg Prod.fst hx
        simp at this
        omega
      · obtain rfl := once_eq h1 hm hm' (congrArg Prod.fst hx) (congrArg Prod.snd hx)
        rw [ih hu hu']
theorem find_self {l : List Op7} (h1 : OnceIds l) {o : Op7} (hm : o ∈ l) : l.find? (hasId o.a o.b) = some o := by
  cases hf : l.find? (hasId o.a o.b) with
  | none =>
    have := List.find?_eq_none.1 hf o hm
    simp [hasId] at this
  | some p =>
    have h2 := List.find?_some hf
    have h3 : p.a = o.a ∧ p.b = o.b := by simpa [hasId] using h2
    rw [once_eq h1 (List.mem_of_find?_eq_some hf) hm h3.1 h3.2]
theorem nextO_find' (l : List Op7) (o : Op7) : nextO l o = l.find? (hasId o.c o.d) := by
  unfold nextO
  have : ∀ (l : List Op7) (p : Op7 → Bool), (match l.findIdx? p with | some i => l[i]? | none => none) = l.find? p := by
    intro l p
    induction l with
    | nil => rfl
    | cons a r ih =>
      rw [List.findIdx?_cons, List.find?_cons]
      cases h : p a
      · simp only [Bool.false_eq_true, if_false]
        rw [← ih]
        cases r.findIdx? p <;> simp
      · simp
  exact this _ _
theorem up_deep {l : List Op7} (hok : l.all okO = true) (h1 : OnceIds l) : ∀ (d n : Nat) (o : Op7), o ∈ l → Up l d (o.c, o.d) → deepF l n o = true → d + 1 ≤ n := by
  intro d
  induction d with
  | zero =>
    intro n o _ _ hd
    rcases n with _ | n
    · simp [deepF] at hd
    · omega
  | succ d ih =>
    intro n o _ hu hd
    rcases n with _ | n
    · simp [deepF] at hd
    · rcases up_inv hu with ⟨h0, _⟩ | ⟨e, p, he, hm, hk, hu', hx⟩
      · omega
      · obtain rfl : e = d := by omega
        have ha : o.c = p.a := congrArg Prod.fst hx
        have hb : o.d = p.b := congrArg Prod.snd hx
        have hp := op_pos hok hm
        have hno : noB o.c o.d = false := by unfold noB; exact decide_eq_false (by omega)
        unfold deepF at hd
        rw [hno, nextO_find', ha, hb, find_self h1 hm] at hd
        have := ih n p hm hu' (by simpa using hd)
        omega
theorem up_le {l : List Op7} (h : opsB l = true) {d : Nat} {x : Int × Int} (hu : Up l d x) : d ≤ l.length + 1 := by
  obtain ⟨hok, hord⟩ := opsParts h
  have hdeep : l.all (deepF l (l.length + 1)) = true := by
    unfold opsB at h
    simp only [Bool.and_eq_true] at h
    exact h.2.2.2
  rcases up_inv hu with ⟨rfl, _⟩ | ⟨e, o, rfl, hm, hk, hu', _⟩
  · omega
  · exact up_deep hok (once_of hok hord) e _ o hm hu' (List.all_eq_true.1 hdeep o hm)

/-- p stands beside x, or beside what does, j signs between. -/
def Desc (l : List Op7) : Nat → Int × Int × Int → Op7 → Prop
  | 0, x, p => p ∈ kidsL l x
  | j + 1, x, p => ∃ o s, o ∈ kidsL l x ∧ Desc l j (o.a, o.b, s) p
theorem desc_side {l : List Op7} (h1 : OnceIds l) : ∀ (j : Nat) {x x' : Int × Int × Int} {p : Op7}, Desc l j x p → Desc l j x' p → x = x' := by
  intro j
  induction j with
  | zero =>
    intro x x' p h h'
    rw [(mem_kids h).2.2, (mem_kids h').2.2]
  | succ j ih =>
    rintro x x' p ⟨o, s, ho, hd⟩ ⟨o', s', ho', hd'⟩
    have e := ih hd hd'
    have ha : o.a = o'.a := congrArg Prod.fst e
    have hb : o.b = o'.b := congrArg (fun y => y.2.1) e
    obtain rfl := once_eq h1 (mem_kids ho).1 (mem_kids ho').1 ha hb
    rw [(mem_kids ho).2.2, (mem_kids ho').2.2]
theorem desc_mem {l : List Op7} : ∀ (j : Nat) {x : Int × Int × Int} {p : Op7}, Desc l j x p → p ∈ l := by
  intro j
  induction j with
  | zero => intro x p h; exact (mem_kids h).1
  | succ j ih => rintro x p ⟨o, s, _, hd⟩; exact ih hd
theorem desc_up {l : List Op7} : ∀ (j : Nat) {x : Int × Int × Int} {p : Op7} {d : Nat}, Desc l j x p → Up l d (x.1, x.2.1) → Up l (d + j + 1) (p.a, p.b) := by
  intro j
  induction j with
  | zero => intro x p d h hu; exact up_kid h hu
  | succ j ih =>
    rintro x p d ⟨o, s, ho, hd⟩ hu
    have := ih hd (up_kid ho hu)
    rw [show d + (j + 1) + 1 = d + 1 + j + 1 by omega]
    exact this
theorem side_desc {l : List Op7} : ∀ (n : Nat) {x : Int × Int × Int} {p : Op7}, p ∈ sideO l n x → ∃ j, Desc l j x p := by
  intro n
  induction n with
  | zero => intro x p h; simp [sideO] at h
  | succ n ih =>
    intro x p h
    unfold sideO at h
    obtain ⟨o, ho, hp⟩ := List.mem_flatMap.1 h
    rcases List.mem_append.1 hp with hp | hp
    · obtain ⟨j, hj⟩ := ih hp
      exact ⟨j + 1, o, 0, ho, hj⟩
    · rcases List.mem_cons.1 hp with rfl | hp
      · exact ⟨0, ho⟩
      · obtain ⟨j, hj⟩ := ih hp
        exact ⟨j + 1, o, 1, ho, hj⟩
/-- What stands beside two places of one depth stands beside one of them alone. -/
theorem desc_apart {l : List Op7} (hok : l.all okO = true) (h1 : OnceIds l) {d i j : Nat} {x x' : Int × Int × Int} {p : Op7} (hx : Up l d (x.1, x.2.1)) (hx' : Up l d (x'.1, x'.2.1)) (h : Desc l i x p) (h' : Desc l j x' p) : x = x' := by
  have e := up_once hok h1 (desc_up i h hx) (desc_up j h' hx')
  obtain rfl : i = j := by omega
  exact desc_side h1 i h h'
theorem nodup_side {l : List Op7} (hok : l.all okO = true) (h1 : OnceIds l) (hl : l.Nodup) : ∀ (n d : Nat) (x : Int × Int × Int), Up l d (x.1, x.2.1) → (sideO l n x).Nodup := by
  intro n
  induction n with
  | zero => intro d x _; simp [sideO]
  | succ n ih =>
    intro d x hu
    unfold sideO
    have hk : (kidsL l x).Nodup := hl.filter _
    have hall : ∀ o ∈ kidsL l x, Up l (d + 1) (o.a, o.b) ∧ o ∈ l := fun o ho => ⟨up_kid ho hu, (mem_kids ho).1⟩
    revert hk hall
    generalize kidsL l x = K
    intro hk hall
    induction K with
    | nil => simp
    | cons o r ihr =>
      rw [List.flatMap_cons]
      obtain ⟨hor, hr⟩ := List.nodup_cons.1 hk
      obtain ⟨huo, hmo⟩ := hall o (by simp)
      have own : ∀ s p j, Desc l j (o.a, o.b, s) p → p ≠ o := fun s p j hd e => by
        subst e
        have := up_once hok h1 huo (desc_up j hd huo)
        omega
      refine List.nodup_append.2 ⟨?_, ihr hr (fun q hq => hall q (by simp [hq])), ?_⟩
      · refine List.nodup_append.2 ⟨ih _ _ huo, List.nodup_cons.2 ⟨fun hc => ?_, ih _ _ huo⟩, fun a ha b hb e => ?_⟩
        · obtain ⟨j, hj⟩ := side_desc n hc
          exact own _ _ _ hj rfl
        · subst e
          obtain ⟨i, hi⟩ := side_desc n ha
          rcases List.mem_cons.1 hb with rfl | hb
          · exact own _ _ _ hi rfl
          · obtain ⟨j, hj⟩ := side_desc n hb
            have := desc_apart hok h1 huo huo hi hj
            simp at this
      · intro a ha b hb e
        subst e
        obtain ⟨q, hq, hb⟩ := List.mem_flatMap.1 hb
        obtain ⟨huq, hmq⟩ := hall q (by simp [hq])
        have hne : q ≠ o := fun e => hor (e ▸ hq)
        have at' : ∀ (y : Op7), a ∈ sideO l n (y.a, y.b, 0) ++ y :: sideO l n (y.a, y.b, 1) → (a = y) ∨ ∃ s j, Desc l j (y.a, y.b, s) a := fun y hy => by
          rcases List.mem_append.1 hy with hy | hy
          · obtain ⟨j, hj⟩ := side_desc n hy; exact .inr ⟨0, j, hj⟩
          · rcases List.mem_cons.1 hy with rfl | hy
            · exact .inl rfl
            · obtain ⟨j, hj⟩ := side_desc n hy; exact .inr ⟨1, j, hj⟩
        rcases at' o ha with rfl | ⟨s, j, hj⟩ <;> rcases at' q hb with h2 | ⟨s', j', hj'⟩
        · exact hne h2.symm
        · have := up_once hok h1 huo (desc_up j' hj' huq); omega
        · subst h2; have := up_once hok h1 huq (desc_up j hj huo); omega
        · have e := desc_apart hok h1 huo huq hj hj'
          exact hne (once_eq h1 hmq hmo (congrArg Prod.fst e).symm (congrArg (fun y => y.2.1) e).symm)
open Classical in
theorem nodup_le {α : Type} : ∀ (a b : List α), a.Nodup → (∀ x ∈ a, x ∈ b) → a.length ≤ b.length
  | [], b, _, _ => Nat.zero_le _
  | x :: r, b, h, hs => by
    obtain ⟨hx, hr⟩ := List.nodup_cons.1 h
    have hb : x ∈ b := hs x (by simp)
    have := nodup_le r (b.erase x) hr (fun y hy => (List.mem_erase_of_ne (fun (e : y = x) => hx (by rw [← e]; exact hy))).2 (hs y (by simp [hy])))
    have hl := List.length_erase_of_mem hb
    have hpos : 0 < b.length := List.length_pos_of_mem hb
    simp only [List.length_cons]
    omega
theorem nodup_of_once {l : List Op7} (h1 : OnceIds l) : l.Nodup := by
  refine List.pairwise_iff_getElem.2 fun i j hi hj hij e => ?_
  have := h1 i j l[i] l[j] (by simp [hi]) (by simp [hj]) (by rw [e]) (by rw [e])
  omega
theorem side_len {l : List Op7} (h : opsB l = true) {n d : Nat} {x : Int × Int × Int} (hu : Up l d (x.1, x.2.1)) : (sideO l n x).length ≤ l.length := by
  obtain ⟨hok, hord⟩ := opsParts h
  have h1 := once_of hok hord
  exact nodup_le _ _ (nodup_side hok h1 (nodup_of_once h1) n d x hu) (fun p hp => by obtain ⟨j, hj⟩ := side_desc n hp; exact desc_mem j hj)
/-- All signs, as they stand. -/
def allO (l : List Op7) : List Op7 := sideO l (l.length + 2) (0, 0, 1)
end Go.Proofs.YtficnhlkefpfnaaDoor

namespace Go.Proofs.YtficnhlkefpfnaaDoor
open Go.RowKit
open Go.Maps (Keyed)
set_option linter.unusedSimpArgs false
set_option linter.unusedVariables false
attribute [local go_sem ↓] Go.wp_at_zero Go.wp_at_succ

set_option maxRecDepth 100000 in
set_option maxHeartbeats 4000000 in
theorem treeOf_low (l : List Op7) (g cap : Nat) (x : Addr) (w : World) (hl : OpsAt w g l) (hn : l.length ≤ 1048576) (hcap : l.length ≤ cap)
    (he : w.cell? ⟨0, 0, none⟩ = some (.iface 200 (.pointer (some x)))) (h0 : 0 < w.heap.size) :
    Calls Tryd.prog 140 #[.slice (some ⟨g, 0, none⟩) l.length cap] w fun e w' =>
      ((opsB l = true ∧ ∃ b1 b2 b3 base, e = .returned (.tuple #[.agg #[.map (some b1), .map (some b2), .map (some b3)], .nilIface]) ∧ TreeAt w' b1 b2 b3 base l ∧ w.heap.size < b1 ∧ w.heap.size < b2 ∧ w.heap.size < b3 ∧ w.heap.size < base) ∨
       (opsB l = false ∧ e = .returned (.tuple #[.agg #[.map none, .map none, .map none], .iface 200 (.pointer (some x))]))) ∧ Below w.heap.size w w' := by
  have HL := hideIt hl
  clear hl
  have hmm := @run_makeMap Tryd.prog
  go_enter Tryd.func140, Tryd.ntmps140
  go_wp2_with fail
  have HB0 : Hid (Below w.heap.size w (w.alloc (.cells #[.map none, .map none, .map none] 152))) := (Below.refl _ _).alloc (Nat.le_refl _) _
  refine (things_any l g cap x _ (HL.out.below HB0.out HL.out.1) hn hcap (errB HB0.out h0 he) (posB HB0.out h0)).mono ?_
  rintro e w1 ⟨(⟨ht, M, hMM, rfl, hT⟩ | ⟨ht, rfl⟩), hb1⟩
  all_goals
    rw [th_same] at ht
    have HT := hideIt ht
    have HB1 := hideIt (Bstep HB0.out hb1)
    have r0 : w1.cell? ⟨w.heap.size, 0, none⟩ = some (.map none) := by rw [(bcell hb1).1 _ _ (by simp)]; simp [go_sem]
    have r1 : w1.cell? ⟨w.heap.size, 1, none⟩ = some (.map none) := by rw [(bcell hb1).1 _ _ (by simp)]; simp [go_sem]
    have r2 : w1.cell? ⟨w.heap.size, 2, none⟩ = some (.map none) := by rw [(bcell hb1).1 _ _ (by simp)]; simp [go_sem]
    have rf : ∀ j, w1.frozen? ⟨w.heap.size, j, none⟩ = false := fun j => by rw [(bcell hb1).2 _ _ (by simp)]; simp [go_sem]
    have hz1 : w.heap.size < w1.heap.size := by have := hb1.size; simp at this; omega
    clear ht hb1
  · have HTT := hideIt hT
    have hM1 := hT.1
    clear hT
    obtain ⟨hok, hord⟩ := opsParts HT.out
    have HOK := hideIt hok
    have HI0 : Hid (TInv w w1 ((((w1.alloc (.map #[] 0)).alloc (.map #[] 0)).alloc (.map #[] 0)).alloc (.cells #[.map (some w1.heap.size), .map (some (w1.heap.size + 1)), .map (some (w1.heap.size + 1 + 1))] 152)) 0 l) := tinv_start HB1.out
    clear hok hord
    go_wp2_with fail
    generalize hTB : w1.heap.size + 1 + 1 + 1 = tb
    go_loopw [27] (fun i wr => ∃ k : Nat, k ≤ l.length ∧ i = .int .i64 k ∧ TInv w w1 wr k l)
      (fun i _ => l.length - (intOf i).toNat)
    case atStart => exact ⟨0, Nat.zero_le _, rfl, HI0.out⟩
    case round =>
      obtain ⟨k, hk, rfl, hI⟩ := hrel
      have HI := hideIt hI
      have t0 := hI.t0
      have t1 := hI.t1
      have t2 := hI.t2
      rw [hTB] at t0 t1 t2
      have hzr := hI.sz
      have HTr := hideIt (HTT.out.below hI.old hM1)
      have hT3 : tb < wr.heap.size := by omega
      have hMr : M < wr.heap.size := by omega
      have hwr : w.heap.size < wr.heap.size := by omega
      have q0 := ((bcell hI.old).1 w.heap.size 0 hz1).trans r0
      have q1 := ((bcell hI.old).1 w.heap.size 1 hz1).trans r1
      have q2 := ((bcell hI.old).1 w.heap.size 2 hz1).trans r2
      have qf : ∀ j, wr.frozen? ⟨w.heap.size, j, none⟩ = false := fun j => ((bcell hI.old).2 w.heap.size j hz1).trans (rf j)
      clear hI HI0
      by_cases hlt : k < l.length
      · have hc := HTr.out.2 k l[k] (by simp [hlt])
        have hoo := all_iff.1 HOK.out k hlt
        have htk : Hid (l.take (k + 1) = l.take k ++ [l[k]]) := List.take_succ_eq_append_getElem hlt
        generalize l[k] = o at *
        have hlt' : (k : Int) < (l.length : Int) := by omega
        have hk0 : (0 : Int) ≤ (k : Int) := by omega
        have as1 := Tryd.asPut
        have as2 := Tryd.asNoPut
        have as3 := Tryd.asTake
        have hnum := okO_num hoo
        rcases thV_cases hoo with ⟨e1, e2⟩ | ⟨e1, e2⟩
        · rw [e1] at hc
          have hS := tinv_put1 HI.out (Nat.le_of_lt hz1) (.cells #[.int .i64 o.a, .int .i64 o.b, .int .i64 o.c, .int .i64 o.d, .int .i64 o.s, .int .i64 o.g] 168) (.cells #[.int .i64 o.c, .int .i64 o.d, .int .i64 o.s] 156)
          have HS := hideIt hS
          obtain ⟨kl, hkl⟩ := key_id (r := o.a) (m := o.b) (wf_small (by omega)) (wf_small (by omega))
          obtain ⟨ks, hks⟩ := key_spot (r := o.c) (m := o.d) (s := o.s) (wf_small (by omega)) (wf_small (by omega)) (wf_small (by omega))
          have HKL := hideIt hkl
          have HKS := hideIt hks
          obtain ⟨i0, hi, hz0, hz1', hz2⟩ := info_parts infoPut
          have HI1 := hideIt hi
          have HZ0 := hideIt hz0
          have HZ1 := hideIt hz1'
          have HZ2 := hideIt hz2
          have hkl1 := kids_le (l.take k) (o.c, o.d, o.s)
          have hkl2 : (l.take k).length ≤ k := List.length_take_le _ _
          clear hS hkl hks hi hz0 hz1' hz2
          go_wp2_with (first
            | (at_mapUpdate; refine wpList_store_fn (t := 148) (e := 168) rfl _ _ _ rfl keyedId Tryd.underlying148 encId_inj rfl HS.out.sg (o.a, o.b) rfl kl HKL.out _ rfl ?_; intro w2 hM2 hg2; have H2 := hideIt (TI.sign HS.out (Nat.le_of_lt hz1) hg2 hM2);
                have c2 : ∀ j, w2.cell? ⟨wr.heap.size, j, none⟩ = _ := (fun j => grown_cell hg2 (by simp; omega) (by simp; omega) j);
                have d2 : ∀ j, w2.cell? ⟨wr.heap.size + 1, j, none⟩ = _ := (fun j => grown_cell hg2 (by simp) (by simp; omega) j);
                have s2 : wr.heap.size + 1 < w2.heap.size := (by have := hg2.size; simp at this; omega); have s2' : wr.heap.size < w2.heap.size := (by omega);
                have u0 := H2.out.t0; have u1 := H2.out.t1; have u2 := H2.out.t2; rw [hTB] at u0 u1 u2; have hT4 : tb < w2.heap.size := (by omega); clear hM2 hg2)
            | (have H2a := hideIt (TI.grown H2.out (Nat.le_of_lt hz1) (World.grownBy_alloc w2 (.cells #[.int .i64 o.a, .int .i64 o.b, .int .i64 o.c, .int .i64 o.d, .int .i64 o.s, .int .i64 o.g] 168) none)); obtain ⟨f, hf⟩ := H2a.out.kd; obtain ⟨v0, hv0⟩ : ∃ v0, (f (o.c, o.d, o.s)).getD (.slice none 0 0) = v0 := ⟨_, rfl⟩;
                refine wpList_entry_fn (t := 149) (e := 189) rfl _ _ rfl keyedSpot Tryd.underlying149 (.slice none 0 0) (zeroSlice _) encSpot_inj rfl hf.1 (o.c, o.d, o.s) rfl ks HKS.out v0 hv0 ?_; intro w3 sx hM3 hg3;
                have HM3 := hideIt hM3; have H3 := hideIt (TI.entry H2a.out (Nat.le_of_lt hz1) hf (o.c, o.d, o.s) hg3 (by rw [hv0]; exact hM3.fn));
                have HK3 : Hid (KidsFn w3 (w1.heap.size + 1) (w1.heap.size + 4) (l.take k) (upd f (o.c, o.d, o.s) v0)) := (by have h := hf.entry (o.c, o.d, o.s) hg3 (by rw [hv0]; exact hM3.fn); rw [hv0] at h; exact h);
                have HOW : Hid (w3.ownsRow (w1.heap.size + 4) 168 6 v0 (kidsL (l.take k) (o.c, o.d, o.s)).length (putCells (kidsL (l.take k) (o.c, o.d, o.s)))) := (by have h := HK3.out.at (o.c, o.d, o.s); rw [upd_same] at h; exact h);
                have HNW : Hid (∀ j u, ([.int .i64 o.a, .int .i64 o.b, .int .i64 o.c, .int .i64 o.d, .int .i64 o.s, .int .i64 o.g] : List Value)[j]? = some u → w3.cell? ((⟨w2.heap.size, 0, none⟩ : Addr).add j) = some u) := (fun j u hj => by have h := cells_new w2 [.int .i64 o.a, .int .i64 o.b, .int .i64 o.c, .int .i64 o.d, .int .i64 o.s, .int .i64 o.g] 168 j u hj; rw [Addr.add_lit] at h ⊢; rw [grown_cell hg3 (by simp) (some_ne (by omega))]; exact h);
                have s3 : w1.heap.size + 4 ≤ w3.heap.size := H3.out.sz; clear hM3 hg3 hf H2a)
            | (at_builtin; refine wpList_append_own_at _ rfl _ _ 189 rfl (w1.heap.size + 4) 168 i0 _ 6 48 Tryd.underlying189 HI1.out HZ0.out HZ1.out HZ2.out rfl (by decide) v0 _ _ rfl HOW.out ⟨w2.heap.size, 0, none⟩ 1 1 [.int .i64 o.a, .int .i64 o.b, .int .i64 o.c, .int .i64 o.d, .int .i64 o.s, .int .i64 o.g] rfl rfl HNW.out ints_one (by unfold maxLen; omega) (by omega) s3 ?_; intro v' w4 hown4 hg4 _ hloc;
                have HO4 := hideIt hown4; have HG4 := hideIt hg4; have HLC := hideIt hloc; clear hown4 hg4 hloc)
            | (refine wpList_write_fn (t := 149) rfl _ _ _ rfl encSpot_inj rfl (HM3.out.kept HG4.out (fun e => by have h1 := (HOW.out.lt _ e.symm).1; omega)) rfl ks HKS.out _ rfl ?_; intro w5 hM5 hg5; have HEND := hideIt (TI.put_end (Nat.le_of_lt hz1) H3.out HK3.out e2 htk.out HO4.out HG4.out HLC.out hM5 hg5); clear hM5 hg5))
          exact ⟨⟨k + 1, by omega, by go_num, HEND.out⟩, by simp [intOf]; omega⟩
        · rw [e1] at hc
          have hne1 : o.k ≠ 1 := by omega
          obtain ⟨kl, hkl⟩ := key_id (r := o.c) (m := o.d) (wf_small (by omega)) (wf_small (by omega))
          obtain ⟨nn, hnn⟩ : ∃ nn, takesN (l.take k) (o.c, o.d) = nn := ⟨_, rfl⟩
          have hnl : nn ≤ 1048576 := by
            have h1 := takesN_le (l.take k) (o.c, o.d)
            have h2 : (l.take k).length ≤ k := List.length_take_le _ _
            omega
          have HW := hideIt (TI.drew (TI.grown HI.out (Nat.le_of_lt hz1) (World.grownBy_alloc wr (.cells #[.int .i64 o.a, .int .i64 o.b, .int .i64 o.c, .int .i64 o.d] 170) none)))
          obtain ⟨w2, w3, sx, L0, E0, L2, S2, hg2, hg3, hEND⟩ := take_runs (Nat.le_of_lt hz1) HW.out hne1 htk.out hkl hnn
          have HEND := hideIt hEND
          have n0 : (0 : Int) ≤ (nn : Int) := by omega
          have n1 : (nn : Int) ≤ 1048576 := by omega
          have hwn : IntKind.i64.wrap ((nn : Int) + 1) = (nn : Int) + 1 := IntWalk.i64_in _ ⟨by omega, by omega⟩
          have z2 := hg2.size
          simp at z2
          have k1 : (wr.alloc (.cells #[.int .i64 o.a, .int .i64 o.b, .int .i64 o.c, .int .i64 o.d] 170)).drew.cell? ⟨tb, 2, none⟩ = some (.map (some (w1.heap.size + 1 + 1))) ∧ (wr.alloc (.cells #[.int .i64 o.a, .int .i64 o.b, .int .i64 o.c, .int .i64 o.d] 170)).drew.cell? ⟨wr.heap.size, 2, none⟩ = some (.int .i64 o.c) ∧ (wr.alloc (.cells #[.int .i64 o.a, .int .i64 o.b, .int .i64 o.c, .int .i64 o.d] 170)).drew.cell? ⟨wr.heap.size, 3, none⟩ = some (.int .i64 o.d) := by
            refine ⟨?_, by simp [go_sem], by simp [go_sem]⟩
            have := HW.out.t2
            rw [hTB] at this
            exact this
          have k2 : w2.cell? ⟨tb, 2, none⟩ = some (.map (some (w1.heap.size + 1 + 1))) ∧ w2.cell? ⟨wr.heap.size, 2, none⟩ = some (.int .i64 o.c) ∧ w2.cell? ⟨wr.heap.size, 3, none⟩ = some (.int .i64 o.d) :=
            ⟨(grown_cell hg2 (by simp; omega) (some_ne (by omega)) _).trans k1.1, (grown_cell hg2 (by simp) (some_ne (by omega)) _).trans k1.2.1, (grown_cell hg2 (by simp) (some_ne (by omega)) _).trans k1.2.2⟩
          have k3 : w3.cell? ⟨tb, 2, none⟩ = some (.map (some (w1.heap.size + 1 + 1))) ∧ w3.cell? ⟨wr.heap.size, 2, none⟩ = some (.int .i64 o.c) ∧ w3.cell? ⟨wr.heap.size, 3, none⟩ = some (.int .i64 o.d) :=
            ⟨(grown_cell hg3 (by omega) (some_ne (by omega)) _).trans k2.1, (grown_cell hg3 (by omega) (some_ne (by omega)) _).trans k2.2.1, (grown_cell hg3 (by omega) (some_ne (by omega)) _).trans k2.2.2⟩
          have K1 := hideIt k1
          have K2 := hideIt k2
          have K3 := hideIt k3
          clear k1 k2 k3 hg2 hg3 hEND hkl hnn
          go_wp2_with fail
          go_region_held3 (fun w' => w'.cell? ⟨tb, 2, none⟩ = some (.map (some (w1.heap.size + 1 + 1))) ∧ w'.cell? ⟨wr.heap.size, 2, none⟩ = some (.int .i64 o.c) ∧ w'.cell? ⟨wr.heap.size, 3, none⟩ = some (.int .i64 o.d))
            (first | exact K1.out | exact K2.out | exact K3.out)
            (fail)
          all_goals
            go_wp2
            exact ⟨⟨k + 1, by omega, by go_num, HEND.out⟩, by simp [intOf]; omega⟩
      · obtain rfl : k = l.length := by omega
        have HEND := hideIt HI.out
        go_wp2
        refine bodyPost_ret (v := .tuple #[.agg #[.map (some w1.heap.size), .map (some (w1.heap.size + 1)), .map (some (w1.heap.size + 1 + 1))], .nilIface]) (by simp [results, Tryd.results140, go_sem, q0, q1, q2, t0, t1, t2]) rfl ⟨.inl ⟨HT.out, _, _, _, w1.heap.size + 4, rfl, ?_, by omega, by omega, by omega, by omega⟩, ?_⟩
        · have h := HEND.out
          unfold TInv at h
          rw [List.take_length] at h
          obtain ⟨f, hf⟩ := h.kd
          have hg := ((set_cell_grown wr ⟨w.heap.size, 0, none⟩ (.map (some w1.heap.size))).trans (set_cell_grown _ ⟨w.heap.size, 1, none⟩ (.map (some (w1.heap.size + 1))))).trans (set_cell_grown _ ⟨w.heap.size, 2, none⟩ (.map (some (w1.heap.size + 1 + 1))))
          exact ⟨h.sg.kept hg (some_ne (by show w1.heap.size ≠ w.heap.size; omega)), ⟨f, hf.kept hg (fun j e => by have e' := Option.some.inj e; dsimp only at e'; omega)⟩, h.tk.kept hg (some_ne (by show w1.heap.size + 1 + 1 ≠ w.heap.size; omega))⟩
        · exact ((HEND.out.bel.setCell (Nat.le_refl _) _).setCell (Nat.le_refl _) _).setCell (Nat.le_refl _) _
  · go_wp2
    refine bodyPost_ret (v := .tuple #[.agg #[.map none, .map none, .map none], .iface 200 (.pointer (some x))]) (by simp [results, Tryd.results140, go_sem, r0, r1, r2]) rfl ⟨.inr ⟨HT.out, rfl⟩, ?_⟩
    exact ((HB1.out.setCell (Nat.le_refl _) _).setCell (Nat.le_refl _) _).setCell (Nat.le_refl _) _
theorem treeOf_any (l : List Op7) (g cap : Nat) (x : Addr) (w : World) (hl : OpsAt w g l) (hn : l.length ≤ 1048576) (hcap : l.length ≤ cap)
    (he : w.cell? ⟨0, 0, none⟩ = some (.iface 200 (.pointer (some x)))) (h0 : 0 < w.heap.size) :
    Calls Tryd.prog 140 #[.slice (some ⟨g, 0, none⟩) l.length cap] w fun e w' =>
      ((opsB l = true ∧ ∃ b1 b2 b3 base, e = .returned (.tuple #[.agg #[.map (some b1), .map (some b2), .map (some b3)], .nilIface]) ∧ TreeAt w' b1 b2 b3 base l) ∨
       (opsB l = false ∧ e = .returned (.tuple #[.agg #[.map none, .map none, .map none], .iface 200 (.pointer (some x))]))) ∧ Below w.heap.size w w' :=
  (treeOf_low l g cap x w hl hn hcap he h0).mono fun e w' ⟨h, hb⟩ => ⟨h.elim (fun ⟨h1, b1, b2, b3, base, h2, h3, _⟩ => .inl ⟨h1, b1, b2, b3, base, h2, h3⟩) .inr, hb⟩
theorem TreeAt.low {w w' : World} {b1 b2 b3 base j : Nat} {l : List Op7} (h : TreeAt w b1 b2 b3 base l) (hg : w.grownBy w' (some j)) (h1 : j < b1) (h2 : j < b2) (h3 : j < b3) (h4 : j < base) : TreeAt w' b1 b2 b3 base l := by
  obtain ⟨a1, ⟨f, a2⟩, a3⟩ := h
  exact ⟨a1.kept hg (some_ne (by omega)), ⟨f, a2.kept hg (fun k e => by have e' := Option.some.inj e; omega)⟩, a3.kept hg (some_ne (by omega))⟩
end Go.Proofs.YtficnhlkefpfnaaDoor

namespace Go.Proofs.YtficnhlkefpfnaaDoor
open Go.RowKit
set_option linter.unusedSimpArgs false
set_option linter.unusedVariables false

set_option maxHeartbeats 1000000 in
theorem l1Order_any (l : List Op7) (g cap : Nat) (w : World) (hl : OpsAt w g l) (hn : l.length ≤ 1048576) (hcap : l.length ≤ cap) (hok : l.all okO = true) :
    Calls Tryd.prog 90 #[.slice (some ⟨g, 0, none⟩) l.length cap] w fun e w' => e = .returned (.bool (ordB l)) ∧ Below w.heap.size w w' := by
  go_enter Tryd.func90, Tryd.ntmps90
  go_wp2
  go_loopw [3] (fun i wr => ∃ k : Nat, k ≤ l.length ∧ i = .int .i64 k ∧ (∀ j, j < k → stepAt l j = true) ∧ Below w.heap.size w wr)
    (fun i _ => l.length - (intOf i).toNat)
  case atStart => exact ⟨0, Nat.zero_le _, rfl, fun j h => by omega, by go_grown⟩
  case round =>
    obtain ⟨k, hk, rfl, hno, hB⟩ := hrel
    have HN : Hid (∀ j, j < k → stepAt l j = true) := hno
    have HB : Hid (Below w.heap.size w wr) := hB
    have HO : Hid (l.all okO = true) := hok
    clear hno
    by_cases hlt : k < l.length
    · have hnext : Hid (stepAt l k = true → ∀ j, j < k + 1 → stepAt l j = true) := fun hf j hj1 => by
        rcases Nat.lt_or_ge j k with h | h
        · exact HN.out j h
        · obtain rfl : j = k := by omega
          exact hf
      have hbad : Hid (stepAt l k = false → ordB l = false) := ord_false hlt
      obtain ⟨h0, h1, _⟩ := (hl.below hB hl.1).2 k l[k] (by simp [hlt])
      have hgr := (hl.below hB hl.1).1
      obtain ⟨ha1, ha3, hb1, hb12⟩ := okO_id (all_iff.1 hok k hlt)
      rcases k with _ | k
      · have hst := step_zero hlt
        have hst' : Hid (stepAt l 0 = stepB 0 0 l[0].a l[0].b) := hst
        generalize l[0].a = xa at *
        generalize l[0].b = xb at *
        clear hst hB hl hok
        simp only [Nat.zero_mul] at h0 h1
        by_cases hx : xb = 1
        · subst hx
          go_wp2
          go_quiet (fail)
          go_wp2
          go_quiet (fail)
          go_wp2
          have hgood := hnext.out (hst'.out.trans (stepB_true (by omega)))
          refine ⟨⟨0 + 1, by omega, by go_num, hgood, ?_⟩, ?_⟩
          · repeat (first | exact HB.out | refine below_drewN ?_ _ | refine Below.alloc ?_ HB.out.size _)
          · simp [intOf]; omega
        · have hx1 : (xb != 1) = true := by simpa using hx
          go_wp2
          go_quiet (fail)
          go_wp2
          go_quiet (fail)
          go_wp2
          go_ret
          exact ⟨ret_bool (by rw [hbad.out (hst'.out.trans (stepB_false (by omega)))]), by repeat (first | exact HB.out | refine below_drewN ?_ _ | refine Below.alloc ?_ HB.out.size _)⟩
      · have hlt0 : k < l.length := by omega
        obtain ⟨p0, p1, _⟩ := (hl.below hB hl.1).2 k l[k] (by simp [hlt0])
        obtain ⟨pa1, pa3, pb1, pb12⟩ := okO_id (all_iff.1 hok k hlt0)
        have hst' : Hid (stepAt l (k + 1) = stepB l[k].a l[k].b l[k + 1].a l[k + 1].b) := step_succ hlt
        generalize l[k + 1].a = xa at *
        generalize l[k + 1].b = xb at *
        generalize l[k].a = pa at *
        generalize l[k].b = pb at *
        have hk0 : (0 : Int) ≤ (k : Int) := by omega
        have hk1 : (k : Int) + 1 < (l.length : Int) := by omega
        have hwk : IntKind.i64.wrap (k : Int) = k := IntWalk.i64_in _ ⟨by omega, by omega⟩
        have hwb : IntKind.i64.wrap (xb - 1) = xb - 1 := IntWalk.i64_in _ ⟨by omega, by omega⟩
        have hwp : IntKind.i64.wrap pb = pb := IntWalk.i64_in _ ⟨by omega, by omega⟩
        have hk00 : ((k : Int) + 1 == 0) = false := by simp; omega
        clear hB hl hok
        by_cases hpx : pa < xa
        · by_cases hx : xb = 1
          · subst hx
            go_wp2
            go_quiet (fail)
            go_wp2
            go_quiet (fail)
            go_wp2
            have hgood := hnext.out (hst'.out.trans (stepB_true (by omega)))
            refine ⟨⟨k + 1 + 1, by omega, by go_num, hgood, ?_⟩, ?_⟩
            · repeat (first | exact HB.out | refine below_drewN ?_ _ | refine Below.alloc ?_ HB.out.size _)
            · simp [intOf]; omega
          · have hx1 : (xb != 1) = true := by simpa using hx
            go_wp2
            go_quiet (fail)
            go_wp2
            go_quiet (fail)
            go_wp2
            go_ret
            exact ⟨ret_bool (by rw [hbad.out (hst'.out.trans (stepB_false (by omega)))]), by repeat (first | exact HB.out | refine below_drewN ?_ _ | refine Below.alloc ?_ HB.out.size _)⟩
        · by_cases hpe : pa = xa
          · subst hpe
            by_cases hx : xb = pb + 1
            · subst hx
              go_wp2
              go_quiet (fail)
              go_wp2
              go_quiet (fail)
              go_wp2
              have hgood := hnext.out (hst'.out.trans (stepB_true (by omega)))
              refine ⟨⟨k + 1 + 1, by omega, by go_num, hgood, ?_⟩, ?_⟩
              · repeat (first | exact HB.out | refine below_drewN ?_ _ | refine Below.alloc ?_ HB.out.size _)
              · simp [intOf]; omega
            · have hx1 : (pb != xb - 1) = true := by simp; omega
              go_wp2
              go_quiet (fail)
              go_wp2
              go_quiet (fail)
              go_wp2
              go_ret
              exact ⟨ret_bool (by rw [hbad.out (hst'.out.trans (stepB_false (by omega)))]), by repeat (first | exact HB.out | refine below_drewN ?_ _ | refine Below.alloc ?_ HB.out.size _)⟩
          · have hx1 : (pa != xa) = true := by simpa using hpe
            have hpd : decide (pa < xa) = false := decide_eq_false hpx
            go_wp2
            go_quiet (fail)
            go_wp2
            go_quiet (fail)
            go_wp2
            go_ret
            exact ⟨ret_bool (by rw [hbad.out (hst'.out.trans (stepB_false (by omega)))]), by repeat (first | exact HB.out | refine below_drewN ?_ _ | refine Below.alloc ?_ HB.out.size _)⟩
    · clear hB hl hok
      go_wp2
      go_ret
      exact ⟨ret_bool (by rw [ord_iff.2 (fun j hj => HN.out j (by omega))]), HB.out⟩
end Go.Proofs.YtficnhlkefpfnaaDoor

namespace Go.Proofs.YtficnhlkefpfnaaDoor
open Go.RowKit
set_option linter.unusedSimpArgs false
set_option linter.unusedVariables false

theorem opsB_of {l : List Op7} (h1 : l.all okO = true) (h2 : ordB l = true) (h3 : l.all (refsB l) = true) (h4 : l.all (deepF l (l.length + 1)) = true) : opsB l = true := by
  unfold opsB; rw [h1, h2, h3, h4]; rfl
theorem opsB_no1 {l : List Op7} (h : l.all okO = false) : opsB l = false := by unfold opsB; rw [h]; rfl
theorem opsB_no2 {l : List Op7} (h : ordB l = false) : opsB l = false := by unfold opsB; rw [h]; cases l.all okO <;> rfl
theorem opsB_no3 {l : List Op7} (h : l.all (refsB l) = false) : opsB l = false := by unfold opsB; rw [h]; cases l.all okO <;> cases ordB l <;> rfl
theorem opsB_no4 {l : List Op7} (h : l.all (deepF l (l.length + 1)) = false) : opsB l = false := by unfold opsB; rw [h]; cases l.all okO <;> cases ordB l <;> cases l.all (refsB l) <;> rfl

set_option maxHeartbeats 2000000 in
theorem specOps_any (l : List Op7) (g cap : Nat) (w : World) (hl : OpsAt w g l) (hn : l.length ≤ 1048576) (hcap : l.length ≤ cap) :
    Calls Tryd.prog 54 #[.slice (some ⟨g, 0, none⟩) l.length cap] w fun e w' => e = .returned (.bool (opsB l)) ∧ Below w.heap.size w w' := by
  have hgw : g < w.heap.size := hl.1
  have HL0 : Hid (OpsAt w g l) := hl
  clear hl
  go_enter Tryd.func54, Tryd.ntmps54
  go_wp2
  go_loopw [3] (fun i wr => ∃ k : Nat, k ≤ l.length ∧ i = .int .i64 k ∧ (∀ j (hj : j < l.length), j < k → okO l[j] = true) ∧ Below w.heap.size w wr)
    (fun i _ => l.length - (intOf i).toNat)
  case atStart => exact ⟨0, Nat.zero_le _, rfl, fun j hj h => by omega, by go_grown⟩
  case round =>
    obtain ⟨k, hk, rfl, hno, hB⟩ := hrel
    have HN : Hid (∀ j (hj : j < l.length), j < k → okO l[j] = true) := hno
    have HB : Hid (Below w.heap.size w wr) := hB
    have HL : Hid (OpsAt wr g l) := HL0.out.below hB hgw
    have hgr : g < wr.heap.size := HL.out.1
    clear hno hB
    by_cases hlt : k < l.length
    · obtain ⟨h0, h1, h2, h3, h4, h5, h6⟩ := HL.out.2 k l[k] (by simp [hlt])
      have hnext : Hid (okO l[k] = true → ∀ j (hj : j < l.length), j < k + 1 → okO l[j] = true) := fun hf j hj hj1 => by
        rcases Nat.lt_or_ge j k with h | h
        · exact HN.out j hj h
        · obtain rfl : j = k := by omega
          exact hf
      have hbad : Hid (okO l[k] = false → opsB l = false) := fun h => opsB_no1 (all_false hlt h)
      have hlt' : (k : Int) < (l.length : Int) := by omega
      have hk0 : (0 : Int) ≤ (k : Int) := by omega
      have hoo : Hid (okO l[k] = opB l[k].a l[k].b l[k].k l[k].c l[k].d l[k].s l[k].g) := rfl
      generalize l[k].a = xa at *
      generalize l[k].b = xb at *
      generalize l[k].k = xk at *
      generalize l[k].c = xc at *
      generalize l[k].d = xd at *
      generalize l[k].s = xs at *
      generalize l[k].g = xg at *
      cases ho : opB xa xb xk xc xd xs xg
      all_goals
        have HO := hideIt ho
        go_wp2_with (first
          | (go_at_call 78; refine (specOp_any _ _ _ _ _ _ _ _).mono ?_; rintro e w2 ⟨rfl, hb2⟩; have HB2 : Hid (Below w.heap.size w w2) := Bstep HB.out hb2; clear hb2))
      · go_ret
        exact ⟨ret_bool (hbad.out (hoo.out.trans (HO.out))).symm, HB2.out⟩
      · exact ⟨⟨k + 1, by omega, by go_num, hnext.out (hoo.out.trans (HO.out)), HB2.out⟩, by simp [intOf]; omega⟩
    · have H1 : Hid (l.all okO = true) := all_iff.2 fun j hj => HN.out j hj (by omega)
      clear HN
      obtain rfl : k = l.length := by omega
      clear hk hlt
      cases hord : ordB l
      · have HR := hideIt hord
        clear hord
        go_wp2_with (first
          | (go_at_call 90; refine (l1Order_any l g cap _ HL.out hn hcap H1.out).mono ?_; rintro e w2 ⟨rfl, hb2⟩; rw [HR.out]; have HB2 : Hid (Below w.heap.size w w2) := Bstep HB.out hb2; clear hb2))
        go_ret
        exact ⟨ret_bool (opsB_no2 (HR.out)).symm, HB2.out⟩
      · have HR := hideIt hord
        clear hord
        go_wp2_with (first
          | (go_at_call 90; refine (l1Order_any l g cap _ HL.out hn hcap H1.out).mono ?_; rintro e w2 ⟨rfl, hb2⟩; rw [HR.out]; have HB2 : Hid (Below w.heap.size w w2) := Bstep HB.out hb2; clear hb2))
        clear HB HL hgr
        go_loopw [4] (fun i wr => ∃ k : Nat, k ≤ l.length ∧ i = .int .i64 k ∧ (∀ j (hj : j < l.length), j < k → (refsB l) l[j] = true) ∧ Below w.heap.size w wr)
          (fun i _ => l.length - (intOf i).toNat)
        case atStart => exact ⟨0, Nat.zero_le _, rfl, fun j hj h => by omega, HB2.out⟩
        case round =>
          obtain ⟨k, hk, rfl, hno, hB⟩ := hrel
          have HN : Hid (∀ j (hj : j < l.length), j < k → (refsB l) l[j] = true) := hno
          have HB : Hid (Below w.heap.size w wr) := hB
          have HL : Hid (OpsAt wr g l) := HL0.out.below hB hgw
          have hgr : g < wr.heap.size := HL.out.1
          clear hno hB
          by_cases hlt : k < l.length
          · obtain ⟨h0, h1, h2, h3, h4, h5, h6⟩ := HL.out.2 k l[k] (by simp [hlt])
            have hnext : Hid ((refsB l) l[k] = true → ∀ j (hj : j < l.length), j < k + 1 → (refsB l) l[j] = true) := fun hf j hj hj1 => by
              rcases Nat.lt_or_ge j k with h | h
              · exact HN.out j hj h
              · obtain rfl : j = k := by omega
                exact hf
            have hbad : Hid ((refsB l) l[k] = false → opsB l = false) := fun h => opsB_no3 (all_false hlt h)
            have hlt' : (k : Int) < (l.length : Int) := by omega
            have hk0 : (0 : Int) ≤ (k : Int) := by omega
            skip
            generalize hoo : l[k] = o at *
            cases ho : (refsB l) o
            all_goals
              have HO := hideIt ho
              clear ho hoo
              go_wp2_with (first
                | (go_at_call 91; refine (l1Refs_any l g cap _ _ HL.out hn hcap).mono ?_; rintro e w2 ⟨rfl, hb2⟩; rw [HO.out]; have HB2 : Hid (Below w.heap.size w w2) := Bstep HB.out hb2; clear hb2))
            · go_ret
              exact ⟨ret_bool (hbad.out HO.out).symm, HB2.out⟩
            · exact ⟨⟨k + 1, by omega, by go_num, hnext.out HO.out, HB2.out⟩, by simp [intOf]; omega⟩
          · have H3 : Hid (l.all ((refsB l)) = true) := all_iff.2 fun j hj => HN.out j hj (by omega)
            clear HN HB2
            obtain rfl : k = l.length := by omega
            clear hk hlt
            have HB2 : Hid (Below w.heap.size w wr) := HB
            clear HB HL hgr
            go_wp2
            go_loopw [5] (fun i wr => ∃ k : Nat, k ≤ l.length ∧ i = .int .i64 k ∧ (∀ j (hj : j < l.length), j < k → (deepF l (l.length + 1)) l[j] = true) ∧ Below w.heap.size w wr)
              (fun i _ => l.length - (intOf i).toNat)
            case atStart => exact ⟨0, Nat.zero_le _, rfl, fun j hj h => by omega, HB2.out⟩
            case round =>
              obtain ⟨k, hk, rfl, hno, hB⟩ := hrel
              have HN : Hid (∀ j (hj : j < l.length), j < k → (deepF l (l.length + 1)) l[j] = true) := hno
              have HB : Hid (Below w.heap.size w wr) := hB
              have HL : Hid (OpsAt wr g l) := HL0.out.below hB hgw
              have hgr : g < wr.heap.size := HL.out.1
              clear hno hB
              by_cases hlt : k < l.length
              · obtain ⟨h0, h1, h2, h3, h4, h5, h6⟩ := HL.out.2 k l[k] (by simp [hlt])
                have hnext : Hid ((deepF l (l.length + 1)) l[k] = true → ∀ j (hj : j < l.length), j < k + 1 → (deepF l (l.length + 1)) l[j] = true) := fun hf j hj hj1 => by
                  rcases Nat.lt_or_ge j k with h | h
                  · exact HN.out j hj h
                  · obtain rfl : j = k := by omega
                    exact hf
                have hbad : Hid ((deepF l (l.length + 1)) l[k] = false → opsB l = false) := fun h => opsB_no4 (all_false hlt h)
                have hlt' : (k : Int) < (l.length : Int) := by omega
                have hk0 : (0 : Int) ≤ (k : Int) := by omega
                have HRK : Hid (refsB l l[k] = true) := all_iff.1 H3.out k hlt
                generalize hoo : l[k] = o at *
                cases ho : (deepF l (l.length + 1)) o
                all_goals
                  have HO := hideIt ho
                  clear ho hoo
                  go_wp2_with (first
                    | (go_at_call 92; refine (l1Deep_any l g cap _ _ HL.out hn hcap HRK.out H3.out).mono ?_; rintro e w2 ⟨rfl, hb2⟩; rw [HO.out]; have HB2 : Hid (Below w.heap.size w w2) := Bstep HB.out hb2; clear hb2))
                · go_ret
                  exact ⟨ret_bool (hbad.out HO.out).symm, HB2.out⟩
                · exact ⟨⟨k + 1, by omega, by go_num, hnext.out HO.out, HB2.out⟩, by simp [intOf]; omega⟩
              · have H4 : Hid (l.all ((deepF l (l.length + 1))) = true) := all_iff.2 fun j hj => HN.out j hj (by omega)
                clear HN HB2
                obtain rfl : k = l.length := by omega
                clear hk hlt
                have HB : Hid (Below w.heap.size w wr) := HB
                go_wp2
                go_ret
                exact ⟨ret_bool (opsB_of H1.out HR.out H3.out H4.out).symm, HB.out⟩
end Go.Proofs.YtficnhlkefpfnaaDoor

namespace Go.Proofs.YtficnhlkefpfnaaDoor
open Go.RowKit
set_option linter.unusedSimpArgs false
set_option linter.unusedVariables false
attribute [local go_sem ↓] Go.wp_at_zero Go.wp_at_succ

/-- The ids of signs. -/
def idsOf (L : List Op7) : List (Int × Int) := L.map fun o => (o.a, o.b)
/-- The cells of ids. -/
def idCells (L : List (Int × Int)) : List Value := L.flatMap fun x => [.int .i64 x.1, .int .i64 x.2]
theorem idCells_len : ∀ L : List (Int × Int), (idCells L).length = L.length * 2
  | [] => rfl
  | x :: r => by have := idCells_len r; simp [idCells] at this ⊢; omega
/-- Which ids were put beside one, on a side, if what was done is ok. -/
def kidIds (l : List Op7) (r m s : Int) : List (Int × Int) := if opsB l = true then idsOf (kidsL l (r, m, s)) else []
theorem idCells_more (L : List Op7) (o : Op7) : idCells (idsOf (L ++ [o])) = idCells (idsOf L) ++ [.int .i64 o.a, .int .i64 o.b] := by simp [idCells, idsOf]
theorem idsOf_len (L : List Op7) : (idsOf L).length = L.length := by simp [idsOf]

theorem infoId : (Tryd.prog.info? 69).map (fun i => (i.zero, i.size, i.bytes)) = some (some (.agg #[.int .i64 0, .int .i64 0]), 2, 16) := by kernel_rfl
theorem ids_one : ∀ {a b : Int}, ∀ u ∈ [Value.int .i64 a, .int .i64 b], u.oneCell' = true := by
  intro a b u hu
  simp at hu
  rcases hu with rfl | rfl <;> rfl

theorem ownsRow_base {w : World} {b b' : Nat} {T : TypeId} {m : Nat} {v : Value} {n : Nat} {xs : List Value} (hb : b' ≤ b) (h : w.ownsRow b T m v n xs) : w.ownsRow b' T m v n xs := by
  refine ⟨h.1, ?_⟩
  rcases h.2 with h1 | ⟨g, cap, cur, h1, h2, h3⟩
  · exact .inl h1
  · exact .inr ⟨g, cap, cur, h1, Nat.le_trans hb h2, h3⟩
/-- A row is nothing, or lies in a block. -/
theorem row_cases {w : World} {base : Nat} {T : TypeId} {m : Nat} {v : Value} {n : Nat} {xs : List Value} (h : w.ownsRow base T m v n xs) : (n = 0 ∧ ∃ p c, v = .slice p 0 c) ∨ (0 < n ∧ ∃ g cap, v = .slice (some ⟨g, 0, none⟩) n cap ∧ n ≤ cap ∧ g < w.heap.size ∧ ∀ j, j < n * m → w.cell? ⟨g, j, none⟩ = xs[j]?) := by
  rcases Nat.eq_zero_or_pos n with h0 | h0
  · refine .inl ⟨h0, ?_⟩
    subst h0
    rcases h.2 with ⟨rfl, _⟩ | ⟨g, cap, cur, rfl, _⟩
    · exact ⟨none, 0, rfl⟩
    · exact ⟨_, _, rfl⟩
  · refine .inr ⟨h0, ?_⟩
    have h' := h
    rcases h.2 with ⟨_, h1⟩ | ⟨g, cap, cur, rfl, _, hg, hc, _⟩
    · omega
    · exact ⟨g, cap, rfl, hc, (Array.getElem?_eq_some_iff.1 hg).1, fun j hj => h'.cellAt j hj⟩

theorem putCells_at : ∀ (L : List Op7) (i : Nat) (o : Op7), L[i]? = some o → (putCells L)[i * 6]? = some (.int .i64 o.a) ∧ (putCells L)[i * 6 + 1]? = some (.int .i64 o.b) ∧ (putCells L)[i * 6 + 2]? = some (.int .i64 o.c) ∧ (putCells L)[i * 6 + 3]? = some (.int .i64 o.d) ∧ (putCells L)[i * 6 + 4]? = some (.int .i64 o.s) ∧ (putCells L)[i * 6 + 5]? = some (.int .i64 o.g)
  | [], i, x, h => by simp at h
  | y :: r, 0, x, h => by simp at h; subst h; simp [putCells]
  | y :: r, i + 1, x, h => by
    have ih := putCells_at r i x (by simpa using h)
    have e : putCells (y :: r) = .int .i64 y.a :: .int .i64 y.b :: .int .i64 y.c :: .int .i64 y.d :: .int .i64 y.s :: .int .i64 y.g :: putCells r := rfl
    rw [e, show (i + 1) * 6 = i * 6 + 1 + 1 + 1 + 1 + 1 + 1 by omega]
    simpa using ih

end Go.Proofs.YtficnhlkefpfnaaDoor

namespace Go.Proofs.YtficnhlkefpfnaaDoor
open Go.RowKit
set_option linter.unusedSimpArgs false
set_option linter.unusedVariables false
attribute [local go_sem ↓] Go.wp_at_zero Go.wp_at_succ

theorem ownsRow_drewN {w : World} {b : Nat} {T : TypeId} {m : Nat} {v : Value} {n : Nat} {xs : List Value} (h : w.ownsRow b T m v n xs) (q : Nat) : (w.drewN q).ownsRow b T m v n xs := h

set_option maxRecDepth 100000 in
set_option maxHeartbeats 2000000 in
theorem l2Kids_any (l : List Op7) (g cap : Nat) (r m s : Int) (w : World) (hl : OpsAt w g l) (hn : l.length ≤ 1048576) (hcap : l.length ≤ cap) :
    Calls Tryd.prog 96 #[.slice (some ⟨g, 0, none⟩) l.length cap, .agg #[.int .i64 r, .int .i64 m], .int .i64 s] w fun e w' => ∃ v, e = .returned v ∧ w'.ownsRow w.heap.size 69 2 v (kidsL l (r, m, s)).length (idCells (idsOf (kidsL l (r, m, s)))) ∧ Below w.heap.size w w' := by
  have HL := hideIt hl
  have hgw := hl.1
  clear hl
  go_enter Tryd.func96, Tryd.ntmps96
  go_wp2
  obtain ⟨i0, hi, hz0', hz1', hz2⟩ := info_parts infoId
  have HI1 := hideIt hi
  have HZ0 := hideIt hz0'
  have HZ1 := hideIt hz1'
  have HZ2 := hideIt hz2
  clear hi hz0' hz1' hz2
  have HBW : Hid (Below w.heap.size w ((w.alloc (.cells #[.int .i64 r, .int .i64 m] 69)).alloc (.cells #[] 69))) := ((Below.refl _ _).alloc (Nat.le_refl _) _).alloc (by simp) _
  have HST : Hid (((w.alloc (.cells #[.int .i64 r, .int .i64 m] 69)).alloc (.cells #[] 69)).ownsRow (w.heap.size + 1) 69 2 (.slice (some ⟨w.heap.size + 1, 0, none⟩) 0 0) 0 []) := by
    have h := World.ownsRow_made (base := w.heap.size + 1) (e := 69) (size := 2) (w.alloc (.cells #[.int .i64 r, .int .i64 m] 69)) #[] 0 (by simp) (Nat.zero_le _) rfl
    simp only [World.size_alloc] at h
    exact h
  go_loopw [7, 8] (fun v i wr => ∃ k : Nat, k ≤ l.length ∧ i = .int .i64 k ∧ wr.ownsRow (w.heap.size + 1) 69 2 v (kidsL (l.take k) (r, m, s)).length (idCells (idsOf (kidsL (l.take k) (r, m, s)))) ∧ Below (w.heap.size + 1) ((w.alloc (.cells #[.int .i64 r, .int .i64 m] 69)).alloc (.cells #[] 69)) wr)
    (fun _ i _ => l.length - (intOf i).toNat)
  case atStart => exact ⟨0, Nat.zero_le _, rfl, HST.out, Below.refl _ _⟩
  case round =>
    obtain ⟨k, hk, rfl, hrow, hB⟩ := hrel
    have HRW := hideIt hrow
    have HB := hideIt hB
    have hzr : w.heap.size + 2 ≤ wr.heap.size := by have := hB.size; simpa using this
    have hid0 : wr.cell? ⟨w.heap.size, 0, none⟩ = some (.int .i64 r) := by rw [hB.cell (p := ⟨w.heap.size, 0, none⟩) (show w.heap.size < _ by omega)]; simp [go_sem]
    have hid1 : wr.cell? ⟨w.heap.size, 1, none⟩ = some (.int .i64 m) := by rw [hB.cell (p := ⟨w.heap.size, 1, none⟩) (show w.heap.size < _ by omega)]; simp [go_sem]
    have HLr := hideIt (HL.out.below (HBW.out.trans (hB.mono (by omega))) hgw)
    have hgr : g < wr.heap.size := HLr.out.1
    have hwr : w.heap.size < wr.heap.size := by omega
    by_cases hlt : k < l.length
    · obtain ⟨y0, y1, y2, y3, y4, y5, y6⟩ := HLr.out.2 k l[k] (by simp [hlt])
      have htk : l.take (k + 1) = l.take k ++ [l[k]] := List.take_succ_eq_append_getElem hlt
      have hno : Hid (isKid (r, m, s) l[k] = false → kidsL (l.take (k + 1)) (r, m, s) = kidsL (l.take k) (r, m, s)) := fun h => by rw [htk]; exact kids_same h
      have hyes : Hid (isKid (r, m, s) l[k] = true → kidsL (l.take (k + 1)) (r, m, s) = kidsL (l.take k) (r, m, s) ++ [l[k]]) := fun h => by rw [htk]; exact kids_more h
      have hkl := Nat.le_trans (kids_le (l.take k) (r, m, s)) (List.length_take_le k l)
      generalize l[k] = o at *
      have hlt' : (k : Int) < (l.length : Int) := by omega
      have hk0 : (0 : Int) ≤ (k : Int) := by omega
      clear hB hrow htk
      by_cases hk1 : o.k = 1
      · rw [hk1] at y2
        by_cases hc1 : o.c = r
        · rw [hc1] at y3
          by_cases hd1 : o.d = m
          · rw [hd1] at y4
            by_cases hs1 : o.s = s
            · have HKID : Hid (isKid (r, m, s) o = true) := by show isKid (r, m, s) o = true; simp [isKid, hk1, hc1, hd1, hs1]
              rw [hs1] at y5
              clear hk1 hc1 hd1 hs1
              go_wp2
              go_quiet (fail)
              have HNW : Hid (∀ nq j u, ([.int .i64 o.a, .int .i64 o.b] : List Value)[j]? = some u → ((wr.drewN nq).alloc (.cells #[.int .i64 o.a, .int .i64 o.b] 69)).cell? ((⟨wr.heap.size, 0, none⟩ : Addr).add j) = some u) := by
                intro nq j u hj
                exact cells_new (wr.drewN nq) [.int .i64 o.a, .int .i64 o.b] 69 j u hj
              go_wp2_with (first
                | (at_builtin; refine wpList_append_own_at _ rfl _ _ 116 rfl (w.heap.size + 1) 69 i0 _ 2 16 Tryd.underlying116 HI1.out HZ0.out HZ1.out HZ2.out rfl (by decide) _ _ _ rfl (World.ownsRow.alloc (ownsRow_drewN HRW.out _) _) ⟨wr.heap.size, 0, none⟩ 1 1 [.int .i64 o.a, .int .i64 o.b] rfl rfl (HNW.out _) ids_one (by unfold maxLen; omega) (by omega) (by simp; omega) ?_; intro v' w2 hown2 hg2 _ _;
                    have HO2 := hideIt hown2; have HB2 := hideIt (below_grown ((below_drewN HB.out _).alloc (by simp; omega) _) hg2 (by simp; omega) (fun j e => (HRW.out.lt j e).1)); clear hown2 hg2))
              exact ⟨⟨k + 1, by omega, by go_num, by rw [hyes.out HKID.out, idCells_more, List.length_append]; exact HO2.out, HB2.out⟩, by simp [intOf]; omega⟩
            · have HKID : Hid (isKid (r, m, s) o = false) := by show isKid (r, m, s) o = false; simp [isKid, hs1]
              go_wp2
              go_quiet (fail)
              go_wp2
              exact ⟨⟨k + 1, by omega, by go_num, by rw [hno.out HKID.out]; exact HRW.out, below_drewN HB.out _⟩, by simp [intOf]; omega⟩
          · have HKID : Hid (isKid (r, m, s) o = false) := by show isKid (r, m, s) o = false; simp [isKid, hd1]
            go_wp2
            go_quiet (fail)
            go_wp2
            exact ⟨⟨k + 1, by omega, by go_num, by rw [hno.out HKID.out]; exact HRW.out, below_drewN HB.out _⟩, by simp [intOf]; omega⟩
        · have HKID : Hid (isKid (r, m, s) o = false) := by show isKid (r, m, s) o = false; simp [isKid, hc1]
          go_wp2
          go_quiet (fail)
          go_wp2
          exact ⟨⟨k + 1, by omega, by go_num, by rw [hno.out HKID.out]; exact HRW.out, below_drewN HB.out _⟩, by simp [intOf]; omega⟩
      · have HKID : Hid (isKid (r, m, s) o = false) := by show isKid (r, m, s) o = false; simp [isKid, hk1]
        go_wp2
        go_quiet (fail)
        go_wp2
        exact ⟨⟨k + 1, by omega, by go_num, by rw [hno.out HKID.out]; exact HRW.out, below_drewN HB.out _⟩, by simp [intOf]; omega⟩
    · obtain rfl : k = l.length := by omega
      clear hB hrow
      go_wp2
      go_ret
      have h := HRW.out
      rw [List.take_length] at h
      exact ⟨_, rfl, ownsRow_base (Nat.le_succ _) h, HBW.out.trans (HB.out.mono (by omega))⟩
end Go.Proofs.YtficnhlkefpfnaaDoor
