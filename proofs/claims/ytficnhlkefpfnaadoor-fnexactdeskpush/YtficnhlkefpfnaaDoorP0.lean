/- What the program asks of what was done, and what the specification asks, is the same: plain lists. -/
import Derived.Test.YtficnhlkefpfnaaDoorChecked
import Derived.WalkKit
import Derived.LaidEql
import Derived.Stop.Asserts
import Derived.RowKitTokens
import Derived.Below
import Derived.Handy
import Derived.Outline
import Derived.BigQuiet
import Derived.OwnWalk
import Derived.WalkSmall
import Derived.Deep.RegionHeld3
import Derived.Deep.DrawnRows
import Derived.Deep.RegionWith
namespace Go.Proofs.YtficnhlkefpfnaaDoor
open Go.RowKit Go.Extern.Stop Go.Stop Go.Extern

theorem Tryd.isTypeOf (v : Value) (w : World) : (Extern.ReflectliteType.typeOf #[.iface 200 v]).run Tryd.prog w = .ok (.iface 174 (.agg #[.pointer (some ⟨1, 200, none⟩)])) w := by kernel_rfl
theorem Tryd.isComparable (w : World) : (callFunc 174 #[.agg #[.pointer (some ⟨1, 200, none⟩)]]).run Tryd.prog w = .ok (.value (.bool true)) w := by
  rw [@run_callFunc_extern Tryd.prog 174 _ (Extern.ReflectliteType.method fun t => do Extern.Rtype.noPackHeld "Comparable" t; pure (.bool (← typeInfo t).comparable)) Tryd.func174 (by kernel_rfl) (by kernel_rfl) (by kernel_rfl) (by kernel_rfl)]
  kernel_rfl
theorem Tryd.isMethodComparable (v : Value) (w : World) : (Go.method 338 174 v "Comparable").run Tryd.prog w = .ok (174, v) w := by kernel_rfl
theorem Tryd.isComp : (Tryd.prog.info? 200).map (·.comparable) = some true := by kernel_rfl
theorem Tryd.isSize : (Tryd.prog.info? 226).map (·.size) = some 1 := by kernel_rfl

/-- errors.Is(x, x), x a pointer to an errors.errorString. -/
theorem is_same (a : Addr) (w : World) :
    Calls Tryd.prog 98 #[.iface 200 (.pointer (some a)), .iface 200 (.pointer (some a))] w fun e w' => e = .returned (.bool true) ∧ w' = w := by
  obtain ⟨i, hi, hcmp⟩ := Option.map_eq_some_iff.1 Tryd.isComp
  obtain ⟨j, hj, hjs⟩ := Option.map_eq_some_iff.1 Tryd.isSize
  have h8 := @run_callFunc_extern Tryd.prog 123 _ Extern.ReflectliteType.typeOf Tryd.func123 (by kernel_rfl) (by kernel_rfl) (by kernel_rfl) (by kernel_rfl)
  have tT := Tryd.isTypeOf
  have cT := Tryd.isComparable
  have mR := Tryd.isMethodComparable
  have heq := run_eql_iface_ptr_same (P := Tryd.prog) w a Tryd.underlying120 Tryd.underlying200 hi hcmp hj
  go_enter Tryd.func98, Tryd.ntmps98
  go_wp2
  refine wp_loop_rounds 1 ?_
  rw [rounds_succ]
  go_wp2
  go_ret
  exact ⟨rfl, rfl⟩

/-- errors.Is(nil, x). -/
theorem is_nil (b : Addr) (w : World) :
    Calls Tryd.prog 98 #[.nilIface, .iface 200 (.pointer (some b))] w fun e w' => e = .returned (.bool false) ∧ w' = w := by
  have hn := run_eql_iface_nil_left (P := Tryd.prog) w 200 (.pointer (some b)) Tryd.underlying120
  go_enter Tryd.func98, Tryd.ntmps98
  go_wp2
  go_ret
  exact ⟨rfl, rfl⟩
end Go.Proofs.YtficnhlkefpfnaaDoor

namespace Go.Proofs.YtficnhlkefpfnaaDoor
open Go.RowKit
set_option linter.unusedSimpArgs false
set_option linter.unusedVariables false

theorem ret_bool {x y : Bool} (h : x = y) : Ending.returned (.bool x) = .returned (.bool y) := by rw [h]
theorem bcell {W w1 : World} (hb : Below W.heap.size W w1) : (∀ b o, b < W.heap.size → w1.cell? ⟨b, o, none⟩ = W.cell? ⟨b, o, none⟩) ∧ (∀ b o, b < W.heap.size → w1.frozen? ⟨b, o, none⟩ = W.frozen? ⟨b, o, none⟩) :=
  ⟨fun b o h => hb.cell (p := ⟨b, o, none⟩) h, fun b o h => hb.frozen (p := ⟨b, o, none⟩) h⟩

theorem Bstep {w W w' : World} (h : Below w.heap.size w W) (hb : Below W.heap.size W w') : Below w.heap.size w w' := h.trans (hb.mono h.size)

/-- An id is one. -/
def idB (r n : Int) : Bool := decide (1 ≤ r ∧ r ≤ 3 ∧ 1 ≤ n ∧ n ≤ 12)
/-- What is put is in form. -/
def putB (c d s g : Int) : Bool := decide (97 ≤ g ∧ g ≤ 122 ∧ ((c = 0 ∧ d = 0 ∧ s = 1) ∨ (1 ≤ c ∧ c ≤ 3 ∧ 1 ≤ d ∧ d ≤ 12 ∧ (s = 0 ∨ s = 1))))
/-- What takes away is in form. -/
def takeB (c d s g : Int) : Bool := decide (1 ≤ c ∧ c ≤ 3 ∧ 1 ≤ d ∧ d ≤ 12 ∧ s = 0 ∧ g = 0)
/-- A thing is in form. -/
def opB (a b k c d s g : Int) : Bool := decide ((1 ≤ a ∧ a ≤ 3 ∧ 1 ≤ b ∧ b ≤ 12) ∧ ¬ (c = a ∧ d = b) ∧
  ((k = 1 ∧ 97 ≤ g ∧ g ≤ 122 ∧ ((c = 0 ∧ d = 0 ∧ s = 1) ∨ (1 ≤ c ∧ c ≤ 3 ∧ 1 ≤ d ∧ d ≤ 12 ∧ (s = 0 ∨ s = 1)))) ∨ (k = 2 ∧ 1 ≤ c ∧ c ≤ 3 ∧ 1 ≤ d ∧ d ≤ 12 ∧ s = 0 ∧ g = 0)))

theorem toId_any (a b : Int) (w : World) :
    Calls Tryd.prog 85 #[.agg #[.int .i64 a, .int .i64 b]] w fun e w' => e = .returned (.agg #[.int .i64 a, .int .i64 b]) ∧ Below w.heap.size w w' := by
  go_enter Tryd.func85, Tryd.ntmps85
  go_wp2
  exact bodyPost_ret (v := .agg #[.int .i64 a, .int .i64 b]) (by simp [results, Tryd.results85, go_sem]) rfl ⟨rfl, by go_grown⟩

theorem idOk_any (r n : Int) (w : World) :
    Calls Tryd.prog 134 #[.agg #[.int .i64 r, .int .i64 n]] w fun e w' => e = .returned (.bool (idB r n)) ∧ Below w.heap.size w w' := by
  go_enter Tryd.func134, Tryd.ntmps134
  go_wp2
  all_goals
    go_ret
    exact ⟨ret_bool (by unfold idB; first | exact decide_eq_decide.2 (by omega) | exact (decide_eq_true (by omega)).symm | exact (decide_eq_false (by omega)).symm), by go_grown⟩

theorem isNothing_any (r n : Int) (w : World) :
    Calls Tryd.prog 137 #[.agg #[.int .i64 r, .int .i64 n]] w fun e w' => e = .returned (.bool (decide (r = 0 ∧ n = 0))) ∧ Below w.heap.size w w' := by
  go_enter Tryd.func137, Tryd.ntmps137
  go_wp2
  all_goals
    go_ret
    exact ⟨ret_bool (by first | exact (decide_eq_true (by omega)).symm | exact (decide_eq_false (by omega)).symm), by go_grown⟩

theorem idB_true {r n : Int} : idB r n = true ↔ (1 ≤ r ∧ r ≤ 3 ∧ 1 ≤ n ∧ n ≤ 12) := by simp [idB]
theorem idB_false {r n : Int} : idB r n = false ↔ ¬ (1 ≤ r ∧ r ≤ 3 ∧ 1 ≤ n ∧ n ≤ 12) := by simp [idB]
theorem opB_true {a b k c d s g : Int} : opB a b k c d s g = true ↔ ((1 ≤ a ∧ a ≤ 3 ∧ 1 ≤ b ∧ b ≤ 12) ∧ ¬ (c = a ∧ d = b) ∧
  ((k = 1 ∧ 97 ≤ g ∧ g ≤ 122 ∧ ((c = 0 ∧ d = 0 ∧ s = 1) ∨ (1 ≤ c ∧ c ≤ 3 ∧ 1 ≤ d ∧ d ≤ 12 ∧ (s = 0 ∨ s = 1)))) ∨ (k = 2 ∧ 1 ≤ c ∧ c ≤ 3 ∧ 1 ≤ d ∧ d ≤ 12 ∧ s = 0 ∧ g = 0))) := by unfold opB; exact decide_eq_true_iff

/-- n lies from l to h. -/
def inB (n l h : Int) : Bool := decide (l ≤ n ∧ n ≤ h)
/-- The id 0, 0. -/
def noB (r n : Int) : Bool := decide (r = 0 ∧ n = 0)
theorem nothing_any (r n : Int) (w : World) :
    Calls Tryd.prog 137 #[.agg #[.int .i64 r, .int .i64 n]] w fun e w' => e = .returned (.bool (noB r n)) ∧ Below w.heap.size w w' := isNothing_any r n w

theorem putOk_any (a b k c d s g : Int) (w : World) :
    Calls Tryd.prog 135 #[.agg #[.int .i64 a, .int .i64 b, .int .i64 k, .int .i64 c, .int .i64 d, .int .i64 s, .int .i64 g]] w fun e w' => e = .returned (.bool (putB c d s g)) ∧ Below w.heap.size w w' := by
  by_cases hg : 97 ≤ g ∧ g ≤ 122
  · obtain ⟨hg1, hg2⟩ := hg
    go_enter Tryd.func135, Tryd.ntmps135
    go_wp2_with fail
    refine (nothing_any _ _ _).mono ?_
    rintro e w1 ⟨rfl, hb1⟩
    obtain ⟨hc1, hf1⟩ := bcell hb1
    simp at hc1
    have hz1 := hb1.size
    simp at hz1
    have hB1 : Below w.heap.size w w1 := ((Below.refl _ _).alloc (Nat.le_refl _) _).trans (hb1.mono (by simp))
    clear hf1
    go_wp2_with fail
    · go_ret
      exact ⟨ret_bool (by (try simp only [noB, putB, Bool.not_eq_true, decide_eq_true_eq, decide_eq_false_iff_not, bne_iff_ne, beq_iff_eq, beq_eq_false_iff_ne, ne_eq] at *); first | (apply decide_eq_decide.2; omega) | (symm; apply decide_eq_true; omega) | (symm; apply decide_eq_false; omega) | (rw [Bool.eq_iff_iff]; simp only [Bool.and_eq_true, Bool.or_eq_true, decide_eq_true_eq, beq_iff_eq, bne_iff_ne, Bool.not_eq_true, ne_eq]; omega)), hB1⟩
    · refine (idOk_any _ _ _).mono ?_
      rintro e w2 ⟨rfl, hb2⟩
      have hc2 : ∀ o, w2.cell? ⟨w.heap.size, o, none⟩ = w1.cell? ⟨w.heap.size, o, none⟩ := fun o => (bcell hb2).1 _ _ (by omega)
      have hB2 : Below w.heap.size w w2 := hB1.trans (hb2.mono (by omega))
      go_wp2
      all_goals
        go_ret
        exact ⟨ret_bool (by (try simp only [noB, idB, putB, Bool.not_eq_true, decide_eq_true_eq, decide_eq_false_iff_not, bne_iff_ne, beq_iff_eq, beq_eq_false_iff_ne, ne_eq] at *); first | (apply decide_eq_decide.2; omega) | (symm; apply decide_eq_true; omega) | (symm; apply decide_eq_false; omega) | (rw [Bool.eq_iff_iff]; simp only [Bool.and_eq_true, Bool.or_eq_true, decide_eq_true_eq, beq_iff_eq, bne_iff_ne, Bool.not_eq_true, ne_eq]; omega)), hB2⟩
  · have hg' : putB c d s g = false := decide_eq_false (by omega)
    rw [hg']
    clear hg'
    by_cases h2 : g < 97
    · go_enter Tryd.func135, Tryd.ntmps135
      go_wp2
      go_ret
      exact ⟨rfl, by go_grown⟩
    · have h3 : 122 < g := by omega
      go_enter Tryd.func135, Tryd.ntmps135
      go_wp2
      go_ret
      exact ⟨rfl, by go_grown⟩
theorem takeOk_any (a b k c d s g : Int) (w : World) :
    Calls Tryd.prog 136 #[.agg #[.int .i64 a, .int .i64 b, .int .i64 k, .int .i64 c, .int .i64 d, .int .i64 s, .int .i64 g]] w fun e w' => e = .returned (.bool (takeB c d s g)) ∧ Below w.heap.size w w' := by
  go_enter Tryd.func136, Tryd.ntmps136
  go_wp2_with (first | (go_at_call 134; refine (idOk_any _ _ _).mono ?_; rintro e w' ⟨rfl, hb⟩; obtain ⟨hc, hf⟩ := bcell hb; simp at hc))
  all_goals
    go_ret
    exact ⟨ret_bool (by (try simp only [idB, takeB, Bool.not_eq_true, decide_eq_true_eq, decide_eq_false_iff_not, bne_iff_ne, beq_iff_eq, beq_eq_false_iff_ne, ne_eq] at *); first | (apply decide_eq_decide.2; omega) | (symm; apply decide_eq_true; omega) | (symm; apply decide_eq_false; omega) | (rw [Bool.eq_iff_iff]; simp only [Bool.and_eq_true, Bool.or_eq_true, decide_eq_true_eq, beq_iff_eq, bne_iff_ne, Bool.not_eq_true, ne_eq]; omega)), ((Below.refl _ _).alloc (Nat.le_refl _) _).trans (hb.mono (by simp))⟩
theorem l6In_any (n l h : Int) (w : World) :
    Calls Tryd.prog 62 #[.int .i64 n, .int .i64 l, .int .i64 h] w fun e w' => e = .returned (.bool (inB n l h)) ∧ w' = w := by
  go_enter Tryd.func62, Tryd.ntmps62
  go_wp2
  all_goals
    go_ret
    exact ⟨ret_bool (by (try simp only [inB, Bool.not_eq_true, decide_eq_true_eq, decide_eq_false_iff_not, bne_iff_ne, beq_iff_eq, beq_eq_false_iff_ne, ne_eq] at *); first | (apply decide_eq_decide.2; omega) | (symm; apply decide_eq_true; omega) | (symm; apply decide_eq_false; omega) | (rw [Bool.eq_iff_iff]; simp only [Bool.and_eq_true, Bool.or_eq_true, decide_eq_true_eq, beq_iff_eq, bne_iff_ne, Bool.not_eq_true, ne_eq]; omega)), rfl⟩
theorem l1Id_any (r n : Int) (w : World) :
    Calls Tryd.prog 108 #[.agg #[.int .i64 r, .int .i64 n]] w fun e w' => e = .returned (.bool (idB r n)) ∧ Below w.heap.size w w' := by
  go_enter Tryd.func108, Tryd.ntmps108
  go_wp2_with (first | (go_at_call 62; refine (l6In_any _ _ _ _).mono ?_; rintro e w' ⟨rfl, rfl⟩))
  all_goals
    go_ret
    exact ⟨ret_bool (by (try simp only [inB, idB, Bool.not_eq_true, decide_eq_true_eq, decide_eq_false_iff_not, bne_iff_ne, beq_iff_eq, beq_eq_false_iff_ne, ne_eq] at *); first | (apply decide_eq_decide.2; omega) | (symm; apply decide_eq_true; omega) | (symm; apply decide_eq_false; omega) | (rw [Bool.eq_iff_iff]; simp only [Bool.and_eq_true, Bool.or_eq_true, decide_eq_true_eq, beq_iff_eq, bne_iff_ne, Bool.not_eq_true, ne_eq]; omega)), by go_grown⟩
end Go.Proofs.YtficnhlkefpfnaaDoor

namespace Go.Proofs.YtficnhlkefpfnaaDoor

theorem hideIt {p : Prop} (h : p) : RowKit.Hid p := h

/-- A thing, by its seven numbers. -/
structure Op7 where
  a : Int
  b : Int
  k : Int
  c : Int
  d : Int
  s : Int
  g : Int

/-- A thing is in form. -/
def okO (o : Op7) : Bool := opB o.a o.b o.k o.c o.d o.s o.g
def hasId (r m : Int) (o : Op7) : Bool := o.a == r && o.b == m
/-- Where a thing of that id stands first. -/
def findI (l : List Op7) (r m : Int) : Int := match l.findIdx? (hasId r m) with | some i => i | none => -1

theorem findI_none {l : List Op7} {r m : Int} (h : ∀ o ∈ l, hasId r m o = false) : findI l r m = -1 := by
  unfold findI
  rw [List.findIdx?_eq_none_iff.2 (by simpa using h)]
theorem findI_some {l : List Op7} {r m : Int} {k : Nat} (hk : k < l.length) (h : hasId r m l[k] = true) (hb : ∀ j (hj : j < k), hasId r m (l[j]'(by omega)) = false) : findI l r m = k := by
  unfold findI
  rw [List.findIdx?_eq_some_iff_getElem.2 ⟨hk, h, fun j hj => by simp [hb j hj]⟩]

/-- The cells of things in a block, one behind the other. -/
def OpsAt (w : World) (g : Nat) (l : List Op7) : Prop := g < w.heap.size ∧ ∀ (i : Nat) (o : Op7), l[i]? = some o →
  w.cell? ⟨g, i * 7, none⟩ = some (.int .i64 o.a) ∧ w.cell? ⟨g, i * 7 + 1, none⟩ = some (.int .i64 o.b) ∧ w.cell? ⟨g, i * 7 + 2, none⟩ = some (.int .i64 o.k) ∧ w.cell? ⟨g, i * 7 + 3, none⟩ = some (.int .i64 o.c) ∧
  w.cell? ⟨g, i * 7 + 4, none⟩ = some (.int .i64 o.d) ∧ w.cell? ⟨g, i * 7 + 5, none⟩ = some (.int .i64 o.s) ∧ w.cell? ⟨g, i * 7 + 6, none⟩ = some (.int .i64 o.g)
open RowKit in
theorem OpsAt.below {w w' : World} {g B : Nat} {l : List Op7} (h : OpsAt w g l) (hb : Below B w w') (hB : g < B) : OpsAt w' g l := by
  refine ⟨Nat.lt_of_lt_of_le h.1 hb.size, fun i o ho => ?_⟩
  obtain ⟨h0, h1, h2, h3, h4, h5, h6⟩ := h.2 i o ho
  exact ⟨(hb.cell (p := ⟨g, _, none⟩) hB).trans h0, (hb.cell (p := ⟨g, _, none⟩) hB).trans h1, (hb.cell (p := ⟨g, _, none⟩) hB).trans h2, (hb.cell (p := ⟨g, _, none⟩) hB).trans h3, (hb.cell (p := ⟨g, _, none⟩) hB).trans h4, (hb.cell (p := ⟨g, _, none⟩) hB).trans h5, (hb.cell (p := ⟨g, _, none⟩) hB).trans h6⟩

/-- The next thing behind pr, pn, in order. -/
def stepB (pr pn r m : Int) : Bool := decide ((pr < r ∧ m = 1) ∨ (pr = r ∧ m = pn + 1))
theorem stepB_true {pr pn r m : Int} (h : (pr < r ∧ m = 1) ∨ (pr = r ∧ m = pn + 1)) : stepB pr pn r m = true := decide_eq_true h
theorem stepB_false {pr pn r m : Int} (h : ¬ ((pr < r ∧ m = 1) ∨ (pr = r ∧ m = pn + 1))) : stepB pr pn r m = false := decide_eq_false h
def prevA (l : List Op7) : Nat → Int
  | 0 => 0
  | j + 1 => match l[j]? with | some o => o.a | none => 0
def prevB (l : List Op7) : Nat → Int
  | 0 => 0
  | j + 1 => match l[j]? with | some o => o.b | none => 0
def stepAt (l : List Op7) (j : Nat) : Bool := match l[j]? with | some o => stepB (prevA l j) (prevB l j) o.a o.b | none => true
/-- They stand in order, each one's from 1 on. -/
def ordB (l : List Op7) : Bool := (List.range l.length).all (stepAt l)
/-- What a thing refers to, if it is there. -/
def nextO (l : List Op7) (o : Op7) : Option Op7 := match l.findIdx? (hasId o.c o.d) with | some i => l[i]? | none => none
/-- What a thing refers to is nothing, or was put. -/
def refsB (l : List Op7) (o : Op7) : Bool := noB o.c o.d || (match nextO l o with | some p => p.k == 1 | none => false)
/-- One comes to nothing within n steps. -/
def deepF (l : List Op7) : Nat → Op7 → Bool
  | 0, _ => false
  | n + 1, o => if noB o.c o.d then true else match nextO l o with | some p => deepF l n p | none => false
/-- What was done is ok. -/
def opsB (l : List Op7) : Bool := l.all okO && (ordB l && (l.all (refsB l) && l.all (deepF l (l.length + 1))))

theorem all_iff {l : List Op7} {p : Op7 → Bool} : l.all p = true ↔ ∀ j (hj : j < l.length), p l[j] = true := by
  rw [List.all_eq_true]
  exact ⟨fun h j hj => h _ (List.getElem_mem hj), fun h o ho => by obtain ⟨j, hj, rfl⟩ := List.getElem_of_mem ho; exact h j hj⟩
theorem all_false {l : List Op7} {p : Op7 → Bool} {j : Nat} (hj : j < l.length) (h : p l[j] = false) : l.all p = false := by
  cases ha : l.all p
  · rfl
  · rw [all_iff.1 ha j hj] at h; cases h
theorem ord_iff {l : List Op7} : ordB l = true ↔ ∀ j, j < l.length → stepAt l j = true := by
  unfold ordB
  rw [List.all_eq_true]
  simp
theorem ord_false {l : List Op7} {j : Nat} (hj : j < l.length) (h : stepAt l j = false) : ordB l = false := by
  cases ha : ordB l
  · rfl
  · rw [ord_iff.1 ha j hj] at h; cases h
theorem step_zero {l : List Op7} (h : 0 < l.length) : stepAt l 0 = stepB 0 0 l[0].a l[0].b := by
  simp [stepAt, h, prevA, prevB]
theorem step_succ {l : List Op7} {j : Nat} (h : j + 1 < l.length) : stepAt l (j + 1) = stepB l[j].a l[j].b l[j + 1].a l[j + 1].b := by
  have h' : j < l.length := by omega
  simp [stepAt, h, prevA, prevB, h']
theorem okO_id {o : Op7} (h : okO o = true) : 1 ≤ o.a ∧ o.a ≤ 3 ∧ 1 ≤ o.b ∧ o.b ≤ 12 := by
  unfold okO at h; rw [opB_true] at h; exact h.1

/-- A thing as the program keeps it. -/
def thV (o : Op7) : Value := if o.k = 1 then .iface 168 (.agg #[.int .i64 o.a, .int .i64 o.b, .int .i64 o.c, .int .i64 o.d, .int .i64 o.s, .int .i64 o.g]) else .iface 170 (.agg #[.int .i64 o.a, .int .i64 o.b, .int .i64 o.c, .int .i64 o.d])
/-- The cells of things as the program keeps them. -/
def ThingsAt (w : World) (g : Nat) (l : List Op7) : Prop := g < w.heap.size ∧ ∀ (i : Nat) (o : Op7), l[i]? = some o → w.cell? ⟨g, i, none⟩ = some (thV o)
open RowKit in
theorem ThingsAt.below {w w' : World} {g B : Nat} {l : List Op7} (h : ThingsAt w g l) (hb : Below B w w') (hB : g < B) : ThingsAt w' g l :=
  ⟨Nat.lt_of_lt_of_le h.1 hb.size, fun i o ho => (hb.cell (p := ⟨g, _, none⟩) hB).trans (h.2 i o ho)⟩
theorem thV_cases {o : Op7} (h : okO o = true) : (thV o = .iface 168 (.agg #[.int .i64 o.a, .int .i64 o.b, .int .i64 o.c, .int .i64 o.d, .int .i64 o.s, .int .i64 o.g]) ∧ o.k = 1) ∨ (thV o = .iface 170 (.agg #[.int .i64 o.a, .int .i64 o.b, .int .i64 o.c, .int .i64 o.d]) ∧ o.k = 2) := by
  unfold okO at h; rw [opB_true] at h
  rcases h.2.2 with h | h
  · exact .inl ⟨by unfold thV; rw [if_pos h.1], h.1⟩
  · exact .inr ⟨by unfold thV; rw [if_neg (by omega)], h.1⟩
theorem prevA_le {l : List Op7} (h : l.all okO = true) (k : Nat) (hk : k ≤ l.length) : 0 ≤ prevA l k ∧ prevA l k ≤ 3 ∧ 0 ≤ prevB l k ∧ prevB l k ≤ 12 := by
  rcases k with _ | k
  · simp [prevA, prevB]
  · have hk' : k < l.length := by omega
    have := okO_id (all_iff.1 h k hk')
    simp only [prevA, prevB, List.getElem?_eq_getElem hk']
    omega
theorem prev_succ {l : List Op7} {k : Nat} (hk : k < l.length) : prevA l (k + 1) = l[k].a ∧ prevB l (k + 1) = l[k].b := by
  simp [prevA, prevB, hk]
theorem step_at {l : List Op7} {k : Nat} (hk : k < l.length) : stepAt l k = stepB (prevA l k) (prevB l k) l[k].a l[k].b := by
  simp [stepAt, hk]

/-- The cells of numbers. -/
def IntsAt (w : World) (g : Nat) (xs : List Int) : Prop := g < w.heap.size ∧ ∀ (i : Nat) (x : Int), xs[i]? = some x → w.cell? ⟨g, i, none⟩ = some (.int .i64 x)
open RowKit in
theorem IntsAt.below {w w' : World} {g B : Nat} {xs : List Int} (h : IntsAt w g xs) (hb : Below B w w') (hB : g < B) : IntsAt w' g xs :=
  ⟨Nat.lt_of_lt_of_le h.1 hb.size, fun i o ho => (hb.cell (p := ⟨g, _, none⟩) hB).trans (h.2 i o ho)⟩
def isRep (r : Int) (o : Op7) : Bool := o.a == r
/-- How many of the first k things are r's. -/
def cntTo (l : List Op7) (k : Nat) (r : Int) : Int := ((l.take k).countP (isRep r) : Nat)
/-- How many things are r's. -/
def cnt (l : List Op7) (r : Int) : Int := (l.countP (isRep r) : Nat)
theorem cntTo_zero (l : List Op7) (r : Int) : cntTo l 0 r = 0 := by simp [cntTo]
theorem cntTo_len (l : List Op7) (r : Int) : cntTo l l.length r = cnt l r := by simp [cntTo, cnt]
theorem cntTo_same {l : List Op7} {k : Nat} {r : Int} (hk : k < l.length) (h : l[k].a = r) : cntTo l (k + 1) r = cntTo l k r + 1 := by
  unfold cntTo
  rw [List.take_succ_eq_append_getElem hk, List.countP_append]
  simp [isRep, h]
theorem cntTo_other {l : List Op7} {k : Nat} {r : Int} (hk : k < l.length) (h : l[k].a ≠ r) : cntTo l (k + 1) r = cntTo l k r := by
  unfold cntTo
  rw [List.take_succ_eq_append_getElem hk, List.countP_append]
  simp [isRep, h]
theorem cntTo_le (l : List Op7) (k : Nat) (r : Int) : 0 ≤ cntTo l k r ∧ cntTo l k r ≤ k := by
  unfold cntTo
  have h1 := List.countP_le_length (p := isRep r) (l := l.take k)
  have h2 : (l.take k).length ≤ k := List.length_take_le _ _
  omega
end Go.Proofs.YtficnhlkefpfnaaDoor

namespace Go.Proofs.YtficnhlkefpfnaaDoor
open Go.RowKit
set_option linter.unusedSimpArgs false
set_option linter.unusedVariables false

set_option maxHeartbeats 1000000 in
theorem toOp_any (a b k c d s g : Int) (w : World) :
    Calls Tryd.prog 46 #[.agg #[.int .i64 a, .int .i64 b, .int .i64 k, .int .i64 c, .int .i64 d, .int .i64 s, .int .i64 g]] w fun e w' => e = .returned (.agg #[.int .i64 a, .int .i64 b, .int .i64 k, .int .i64 c, .int .i64 d, .int .i64 s, .int .i64 g]) ∧ Below w.heap.size w w' := by
  go_enter Tryd.func46, Tryd.ntmps46
  go_wp2
  exact bodyPost_ret (v := .agg #[.int .i64 a, .int .i64 b, .int .i64 k, .int .i64 c, .int .i64 d, .int .i64 s, .int .i64 g]) (by simp [results, Tryd.results46, go_sem]) rfl ⟨rfl, by go_grown⟩

set_option maxHeartbeats 1000000 in
theorem specOp_any (a b k c d s g : Int) (w : World) :
    Calls Tryd.prog 78 #[.agg #[.int .i64 a, .int .i64 b, .int .i64 k, .int .i64 c, .int .i64 d, .int .i64 s, .int .i64 g]] w fun e w' => e = .returned (.bool (opB a b k c d s g)) ∧ Below w.heap.size w w' := by
  go_enter Tryd.func78, Tryd.ntmps78
  go_wp2_with (first
    | (go_at_call 108; refine (l1Id_any _ _ _).mono ?_; rintro e w' ⟨rfl, hb⟩; have hB : Below w.heap.size w w' := Bstep (by go_grown) hb; have hlt : w.heap.size < w'.heap.size := (by have := hb.size; (try simp at this); omega); have hp0 : 0 < w'.heap.size := (by omega); obtain ⟨hc, hf⟩ := bcell hb; clear hb)
    | (go_at_call 62; refine (l6In_any _ _ _ _).mono ?_; rintro e w' ⟨rfl, rfl⟩))
  all_goals
    go_ret
    exact ⟨ret_bool (by (try simp only [idB, inB, opB, Bool.not_eq_true, decide_eq_true_eq, decide_eq_false_iff_not, bne_iff_ne, beq_iff_eq, beq_eq_false_iff_ne, ne_eq] at *); first | (apply decide_eq_decide.2; omega) | (symm; apply decide_eq_true; omega) | (symm; apply decide_eq_false; omega) | (rw [Bool.eq_iff_iff]; simp only [Bool.and_eq_true, Bool.or_eq_true, decide_eq_true_eq, beq_iff_eq, bne_iff_ne, Bool.not_eq_true, ne_eq]; omega)), by first | assumption | go_grown⟩


theorem ret_two {u v u' v' : Value} (h : u = u') (h2 : v = v') : Ending.returned (.tuple #[u, v]) = .returned (.tuple #[u', v']) := by rw [h, h2]

set_option maxHeartbeats 1000000 in
theorem thingOf_put (a b c d s g : Int) (w : World) (hid : idB a b = true) (hne : ¬ (c = a ∧ d = b)) (hp : putB c d s g = true) :
    Calls Tryd.prog 119 #[.agg #[.int .i64 a, .int .i64 b, .int .i64 1, .int .i64 c, .int .i64 d, .int .i64 s, .int .i64 g]] w fun e w' => e = .returned (.tuple #[.iface 168 (.agg #[.int .i64 a, .int .i64 b, .int .i64 c, .int .i64 d, .int .i64 s, .int .i64 g]), .nilIface]) ∧ Below w.heap.size w w' := by
  by_cases hca : c = a
  · subst hca
    have hdb : ¬ d = b := by omega
    clear hne
    go_enter Tryd.func119, Tryd.ntmps119
    go_wp2_with (first
      | (go_at_call 134; refine (idOk_any _ _ _).mono ?_; rintro e w' ⟨rfl, hb⟩; have hB : Below w.heap.size w w' := Bstep (by go_grown) hb; have hlt : w.heap.size < w'.heap.size := (by have := hb.size; (try simp at this); omega); have hp0 : 0 < w'.heap.size := (by omega); obtain ⟨hc, hf⟩ := bcell hb; clear hb)
      | (go_at_call 135; refine (putOk_any _ _ _ _ _ _ _ _).mono ?_; rintro e w' ⟨rfl, hb⟩; have hB : Below w.heap.size w w' := Bstep (by go_grown) hb; have hlt : w.heap.size < w'.heap.size := (by have := hb.size; (try simp at this); omega); have hp0 : 0 < w'.heap.size := (by omega); obtain ⟨hc, hf⟩ := bcell hb; clear hb))
    go_ret2
    exact ⟨rfl, by first | assumption | go_grown⟩
  · clear hne
    go_enter Tryd.func119, Tryd.ntmps119
    go_wp2_with (first
      | (go_at_call 134; refine (idOk_any _ _ _).mono ?_; rintro e w' ⟨rfl, hb⟩; have hB : Below w.heap.size w w' := Bstep (by go_grown) hb; have hlt : w.heap.size < w'.heap.size := (by have := hb.size; (try simp at this); omega); have hp0 : 0 < w'.heap.size := (by omega); obtain ⟨hc, hf⟩ := bcell hb; clear hb)
      | (go_at_call 135; refine (putOk_any _ _ _ _ _ _ _ _).mono ?_; rintro e w' ⟨rfl, hb⟩; have hB : Below w.heap.size w w' := Bstep (by go_grown) hb; have hlt : w.heap.size < w'.heap.size := (by have := hb.size; (try simp at this); omega); have hp0 : 0 < w'.heap.size := (by omega); obtain ⟨hc, hf⟩ := bcell hb; clear hb))
    go_ret2
    exact ⟨rfl, by first | assumption | go_grown⟩

set_option maxHeartbeats 1000000 in
theorem thingOf_take (a b c d s g : Int) (w : World) (hid : idB a b = true) (hne : ¬ (c = a ∧ d = b)) (hp : takeB c d s g = true) :
    Calls Tryd.prog 119 #[.agg #[.int .i64 a, .int .i64 b, .int .i64 2, .int .i64 c, .int .i64 d, .int .i64 s, .int .i64 g]] w fun e w' => e = .returned (.tuple #[.iface 170 (.agg #[.int .i64 a, .int .i64 b, .int .i64 c, .int .i64 d]), .nilIface]) ∧ Below w.heap.size w w' := by
  by_cases hca : c = a
  · subst hca
    have hdb : ¬ d = b := by omega
    clear hne
    go_enter Tryd.func119, Tryd.ntmps119
    go_wp2_with (first
      | (go_at_call 134; refine (idOk_any _ _ _).mono ?_; rintro e w' ⟨rfl, hb⟩; have hB : Below w.heap.size w w' := Bstep (by go_grown) hb; have hlt : w.heap.size < w'.heap.size := (by have := hb.size; (try simp at this); omega); have hp0 : 0 < w'.heap.size := (by omega); obtain ⟨hc, hf⟩ := bcell hb; clear hb)
      | (go_at_call 136; refine (takeOk_any _ _ _ _ _ _ _ _).mono ?_; rintro e w' ⟨rfl, hb⟩; have hB : Below w.heap.size w w' := Bstep (by go_grown) hb; have hlt : w.heap.size < w'.heap.size := (by have := hb.size; (try simp at this); omega); have hp0 : 0 < w'.heap.size := (by omega); obtain ⟨hc, hf⟩ := bcell hb; clear hb))
    go_ret2
    exact ⟨rfl, by first | assumption | go_grown⟩
  · clear hne
    go_enter Tryd.func119, Tryd.ntmps119
    go_wp2_with (first
      | (go_at_call 134; refine (idOk_any _ _ _).mono ?_; rintro e w' ⟨rfl, hb⟩; have hB : Below w.heap.size w w' := Bstep (by go_grown) hb; have hlt : w.heap.size < w'.heap.size := (by have := hb.size; (try simp at this); omega); have hp0 : 0 < w'.heap.size := (by omega); obtain ⟨hc, hf⟩ := bcell hb; clear hb)
      | (go_at_call 136; refine (takeOk_any _ _ _ _ _ _ _ _).mono ?_; rintro e w' ⟨rfl, hb⟩; have hB : Below w.heap.size w w' := Bstep (by go_grown) hb; have hlt : w.heap.size < w'.heap.size := (by have := hb.size; (try simp at this); omega); have hp0 : 0 < w'.heap.size := (by omega); obtain ⟨hc, hf⟩ := bcell hb; clear hb))
    go_ret2
    exact ⟨rfl, by first | assumption | go_grown⟩

end Go.Proofs.YtficnhlkefpfnaaDoor

namespace Go.Proofs.YtficnhlkefpfnaaDoor
open Go.RowKit
set_option linter.unusedSimpArgs false
set_option linter.unusedVariables false

theorem sz_small (p : Option Addr) (n cap : Nat) (w : World) (hn : n ≤ 1048576) :
    Calls Tryd.prog 13 #[.slice p n cap, .int .i64 1048576] w fun e w' => e = .returned (.int .i64 (1048576 - (n : Int))) ∧ w' = w := by
  go_enter Tryd.func13, Tryd.ntmps13
  go_wp2
  go_ret
  exact ⟨rfl, rfl⟩
theorem sz_big (p : Option Addr) (n cap : Nat) (w : World) (hn : 1048576 < n) (hm : n ≤ maxLen) :
    Calls Tryd.prog 13 #[.slice p n cap, .int .i64 1048576] w fun e w' => e = .returned (.int .i64 (-1)) ∧ w' = w := by
  unfold maxLen at hm
  go_enter Tryd.func13, Tryd.ntmps13
  go_wp2
  go_ret
  exact ⟨rfl, rfl⟩

/-- The cells of things that came in, from an offset on. -/
def LawAt (w : World) (b off : Nat) (l : List Op7) : Prop := b < w.heap.size ∧ ∀ (i : Nat) (o : Op7), l[i]? = some o →
  w.cell? ⟨b, off + i * 7, none⟩ = some (.int .i64 o.a) ∧ w.cell? ⟨b, off + i * 7 + 1, none⟩ = some (.int .i64 o.b) ∧ w.cell? ⟨b, off + i * 7 + 2, none⟩ = some (.int .i64 o.k) ∧ w.cell? ⟨b, off + i * 7 + 3, none⟩ = some (.int .i64 o.c) ∧
  w.cell? ⟨b, off + i * 7 + 4, none⟩ = some (.int .i64 o.d) ∧ w.cell? ⟨b, off + i * 7 + 5, none⟩ = some (.int .i64 o.s) ∧ w.cell? ⟨b, off + i * 7 + 6, none⟩ = some (.int .i64 o.g)
theorem LawAt.below {w w' : World} {g off B : Nat} {l : List Op7} (h : LawAt w g off l) (hb : Below B w w') (hB : g < B) : LawAt w' g off l := by
  refine ⟨Nat.lt_of_lt_of_le h.1 hb.size, fun i o ho => ?_⟩
  obtain ⟨h0, h1, h2, h3, h4, h5, h6⟩ := h.2 i o ho
  exact ⟨(hb.cell (p := ⟨g, _, none⟩) hB).trans h0, (hb.cell (p := ⟨g, _, none⟩) hB).trans h1, (hb.cell (p := ⟨g, _, none⟩) hB).trans h2, (hb.cell (p := ⟨g, _, none⟩) hB).trans h3, (hb.cell (p := ⟨g, _, none⟩) hB).trans h4, (hb.cell (p := ⟨g, _, none⟩) hB).trans h5, (hb.cell (p := ⟨g, _, none⟩) hB).trans h6⟩

theorem infoOpT : (Tryd.prog.info? 71).map (fun i => (i.zero, i.size, i.bytes)) = some (some (.agg #[.int .i64 0, .int .i64 0, .int .i64 0, .int .i64 0, .int .i64 0, .int .i64 0, .int .i64 0]), 7, 56) := by kernel_rfl

/-- A block of cells that holds the first k things already. -/
def Filled (w : World) (B k : Nat) (l : List Op7) : Prop := ∃ cur : Array Value, w.heap[B]? = some (.cells cur 71 (0, 0)) ∧ cur.size = l.length * 7 ∧ ∀ (i : Nat) (o : Op7), l[i]? = some o → i < k →
  cur[i * 7]? = some (.int .i64 o.a) ∧ cur[i * 7 + 1]? = some (.int .i64 o.b) ∧ cur[i * 7 + 2]? = some (.int .i64 o.k) ∧ cur[i * 7 + 3]? = some (.int .i64 o.c) ∧ cur[i * 7 + 4]? = some (.int .i64 o.d) ∧ cur[i * 7 + 5]? = some (.int .i64 o.s) ∧ cur[i * 7 + 6]? = some (.int .i64 o.g)

theorem cell_of_block {w : World} {B : Nat} {cur : Array Value} {t : TypeId} (h : w.heap[B]? = some (.cells cur t (0, 0))) (j : Nat) : w.cell? ⟨B, j, none⟩ = cur[j]? := by
  simp [World.cell?, h]
theorem frozen_of_block {w : World} {B : Nat} {cur : Array Value} {t : TypeId} (h : w.heap[B]? = some (.cells cur t (0, 0))) (j : Nat) : w.frozen? ⟨B, j, none⟩ = false := by
  simp [World.frozen?, h]

theorem Filled.step {w : World} {B k : Nat} {l : List Op7} (h : Filled w B k l) (hk : k < l.length) :
    Filled (((((((w.setCell ⟨B, k * 7, none⟩ (.int .i64 l[k].a)).setCell ⟨B, k * 7 + 1, none⟩ (.int .i64 l[k].b)).setCell ⟨B, k * 7 + 2, none⟩ (.int .i64 l[k].k)).setCell ⟨B, k * 7 + 3, none⟩ (.int .i64 l[k].c)).setCell ⟨B, k * 7 + 4, none⟩ (.int .i64 l[k].d)).setCell ⟨B, k * 7 + 5, none⟩ (.int .i64 l[k].s)).setCell ⟨B, k * 7 + 6, none⟩ (.int .i64 l[k].g)) B (k + 1) l := by
  obtain ⟨cur, hb, hs, hc⟩ := h
  have b0 := heap_setCell_same w B (k * 7) cur 71 (.int .i64 l[k].a) hb
  have b1 := heap_setCell_same _ B (k * 7 + 1) _ 71 (.int .i64 l[k].b) b0
  have b2 := heap_setCell_same _ B (k * 7 + 2) _ 71 (.int .i64 l[k].k) b1
  have b3 := heap_setCell_same _ B (k * 7 + 3) _ 71 (.int .i64 l[k].c) b2
  have b4 := heap_setCell_same _ B (k * 7 + 4) _ 71 (.int .i64 l[k].d) b3
  have b5 := heap_setCell_same _ B (k * 7 + 5) _ 71 (.int .i64 l[k].s) b4
  have b6 := heap_setCell_same _ B (k * 7 + 6) _ 71 (.int .i64 l[k].g) b5
  refine ⟨_, b6, by simpa using hs, fun i o ho hi => ?_⟩
  have get : ∀ p, (((((((cur.setIfInBounds (k * 7) (.int .i64 l[k].a)).setIfInBounds (k * 7 + 1) (.int .i64 l[k].b)).setIfInBounds (k * 7 + 2) (.int .i64 l[k].k)).setIfInBounds (k * 7 + 3) (.int .i64 l[k].c)).setIfInBounds (k * 7 + 4) (.int .i64 l[k].d)).setIfInBounds (k * 7 + 5) (.int .i64 l[k].s)).setIfInBounds (k * 7 + 6) (Value.int .i64 l[k].g))[p]? =
      if p = k * 7 + 6 then some (.int .i64 l[k].g) else if p = k * 7 + 5 then some (.int .i64 l[k].s) else if p = k * 7 + 4 then some (.int .i64 l[k].d) else if p = k * 7 + 3 then some (.int .i64 l[k].c) else if p = k * 7 + 2 then some (.int .i64 l[k].k) else if p = k * 7 + 1 then some (.int .i64 l[k].b) else if p = k * 7 then some (.int .i64 l[k].a) else cur[p]? := fun p => by
    simp only [Array.getElem?_setIfInBounds, Array.size_setIfInBounds]
    by_cases h6 : p = k * 7 + 6
    · subst h6; simp; omega
    by_cases h5 : p = k * 7 + 5
    · subst h5; simp; omega
    by_cases h4 : p = k * 7 + 4
    · subst h4; simp; omega
    by_cases h3 : p = k * 7 + 3
    · subst h3; simp; omega
    by_cases h2 : p = k * 7 + 2
    · subst h2; simp; omega
    by_cases h1 : p = k * 7 + 1
    · subst h1; simp; omega
    by_cases h0 : p = k * 7
    · subst h0; simp; omega
    · simp [h6, h5, h4, h3, h2, h1, h0, Ne.symm h6, Ne.symm h5, Ne.symm h4, Ne.symm h3, Ne.symm h2, Ne.symm h1, Ne.symm h0]
  simp only [get]
  rcases Nat.lt_or_ge i k with h | h
  · obtain ⟨g0, g1, g2, g3, g4, g5, g6⟩ := hc i o ho h
    refine ⟨?_, ?_, ?_, ?_, ?_, ?_, ?_⟩ <;> simp only [show ∀ a b : Nat, a < 7 → b < 7 → ¬ (i * 7 + a = k * 7 + b) from fun a b _ _ => by omega, show ∀ b : Nat, b < 7 → ¬ (i * 7 = k * 7 + b) from fun b _ => by omega, show ∀ a : Nat, a < 7 → ¬ (i * 7 + a = k * 7) from fun a _ => by omega, show ¬ (i * 7 = k * 7) from by omega, Nat.reduceLT, if_false, g0, g1, g2, g3, g4, g5, g6]
  · obtain rfl : i = k := by omega
    have ho' : o = l[i] := by
      rw [List.getElem?_eq_getElem hk] at ho; exact (Option.some.inj ho).symm
    subst ho'
    refine ⟨?_, ?_, ?_, ?_, ?_, ?_, ?_⟩ <;> simp
theorem Filled.below {w w' : World} {B C k : Nat} {l : List Op7} (h : Filled w B k l) (hb : Below C w w') (hB : B < C) : Filled w' B k l := by
  obtain ⟨cur, h1, h2, h3⟩ := h
  exact ⟨cur, (hb.block B hB).trans h1, h2, h3⟩
theorem Filled.at {w : World} {B : Nat} {l : List Op7} (h : Filled w B l.length l) : OpsAt w B l := by
  obtain ⟨cur, hb, hs, hc⟩ := h
  refine ⟨?_, fun i o ho => ?_⟩
  · rcases Nat.lt_or_ge B w.heap.size with h | h
    · exact h
    · simp [Array.getElem?_eq_none h] at hb
  · have hi : i < l.length := by
      rcases Nat.lt_or_ge i l.length with h | h
      · exact h
      · simp [List.getElem?_eq_none h] at ho
    simp only [cell_of_block hb]
    exact hc i o ho hi

set_option maxHeartbeats 1000000 in
theorem toOpS_some (l : List Op7) (b off cap : Nat) (w : World) (hl : LawAt w b off l) (hn : l.length ≤ 1048576) (hcap : l.length ≤ cap) :
    Calls Tryd.prog 15 #[.slice (some ⟨b, off, none⟩) l.length cap] w fun e w' => e = .returned (.slice (some ⟨w.heap.size, 0, none⟩) l.length l.length) ∧ OpsAt w' w.heap.size l ∧ Below w.heap.size w w' := by
  obtain ⟨i0, hi, hz0, hz1, hz2⟩ := info_parts infoOpT
  go_enter Tryd.func15, Tryd.ntmps15
  go_wp2_with (first
    | (at_make; refine wpList_make_full _ rfl _ _ 24 rfl w.heap.size 71 i0 _ 7 Tryd.underlying24 hi hz0 hz1 .i64 .i64 _ _ l.length rfl rfl rfl rfl (by rw [hz2]; omega) (by unfold maxLen; omega) (Nat.le_refl _) ?_; intro w1 hown hgrow))
  clear hi hz0 hz1 hz2
  have hB1 : Below w.heap.size w w1 := (Below.refl _ _).grown hgrow (Nat.le_refl _) (fun k h => by cases h)
  have hF0 : Filled w1 w.heap.size 0 l := by
    obtain ⟨_, ⟨h, _⟩ | ⟨g, cap', cur, hv, _, hb, _, _, hs, _⟩⟩ := hown
    · cases h
    · simp only [Value.slice.injEq, Option.some.injEq, Addr.mk.injEq] at hv
      obtain ⟨⟨rfl, _⟩, _, rfl⟩ := hv
      exact ⟨cur, hb, hs, fun i o _ h => by omega⟩
  clear hown hgrow
  go_loopw [4] (fun i wr => ∃ k : Nat, k ≤ l.length ∧ i = .int .i64 k ∧ Filled wr w.heap.size k l ∧ Below w.heap.size w wr)
    (fun i _ => l.length - (intOf i).toNat)
  case atStart => exact ⟨0, Nat.zero_le _, rfl, hF0, hB1⟩
  case round =>
    obtain ⟨k, hk, rfl, hF, hB⟩ := hrel
    have HB : Hid (Below w.heap.size w wr) := hB
    have HF : Hid (Filled wr w.heap.size k l) := hF
    by_cases hlt : k < l.length
    · obtain ⟨h0, h1, h2, h3, h4, h5, h6⟩ := (hl.below hB hl.1).2 k l[k] (by simp [hlt])
      have hbk := (hl.below hB hl.1).1
      obtain ⟨cur, hblk, hsz, hcur⟩ := hF
      have hBlt : w.heap.size < wr.heap.size := by
        rcases Nat.lt_or_ge w.heap.size wr.heap.size with h | h
        · exact h
        · simp [Array.getElem?_eq_none h] at hblk
      have hfz : ∀ o, wr.frozen? ⟨w.heap.size, o, none⟩ = false := fun o => frozen_of_block hblk o
      have hex : ∀ j, j < 7 → ∃ u, wr.cell? ⟨w.heap.size, k * 7 + j, none⟩ = some u := fun j hj => by
        rw [cell_of_block hblk]; exact ⟨_, Array.getElem?_eq_getElem (by omega)⟩
      obtain ⟨u0, e0⟩ := hex 0 (by omega)
      obtain ⟨u1, e1⟩ := hex 1 (by omega)
      obtain ⟨u2, e2⟩ := hex 2 (by omega)
      obtain ⟨u3, e3⟩ := hex 3 (by omega)
      obtain ⟨u4', e4⟩ := hex 4 (by omega)
      obtain ⟨u5', e5⟩ := hex 5 (by omega)
      obtain ⟨u6', e6⟩ := hex 6 (by omega)
      simp only [Nat.add_zero] at e0
      have hlt' : (k : Int) < (l.length : Int) := by omega
      have hk0 : (0 : Int) ≤ (k : Int) := by omega
      clear hB hl hblk hsz hcur hex hB1 hF0
      go_wp2_with (first
        | (go_at_call 46; refine (toOp_any _ _ _ _ _ _ _ _).mono ?_; rintro e w2 ⟨rfl, hb2⟩; obtain ⟨hc2, hf2⟩ := bcell hb2; have HB2 : Hid (Below wr.heap.size wr w2) := hb2; clear hb2))
      exact ⟨⟨k + 1, by omega, by go_num, (HF.out.below HB2.out hBlt).step hlt, (((((((Bstep HB.out HB2.out).setCell (Nat.le_refl _) _).setCell (Nat.le_refl _) _).setCell (Nat.le_refl _) _).setCell (Nat.le_refl _) _).setCell (Nat.le_refl _) _).setCell (Nat.le_refl _) _).setCell (Nat.le_refl _) _⟩, by simp [intOf]; omega⟩
    · obtain rfl : k = l.length := by omega
      clear hB hF hl hB1 hF0
      go_wp2
      go_ret
      exact ⟨rfl, HF.out.at, HB.out⟩

set_option maxHeartbeats 1000000 in
theorem toOpS_zero (p : Option Addr) (cap : Nat) (w : World) :
    Calls Tryd.prog 15 #[.slice p 0 cap] w fun e w' => e = .returned (.slice (some ⟨w.heap.size, 0, none⟩) 0 0) ∧ OpsAt w' w.heap.size [] ∧ Below w.heap.size w w' := by
  obtain ⟨i0, hi, hz0, hz1, hz2⟩ := info_parts infoOpT
  go_enter Tryd.func15, Tryd.ntmps15
  go_wp2_with (first
    | (at_make; refine wpList_make_full _ rfl _ _ 24 rfl w.heap.size 71 i0 _ 7 Tryd.underlying24 hi hz0 hz1 .i64 .i64 _ _ 0 rfl rfl rfl rfl (by omega) (by unfold maxLen; omega) (Nat.le_refl _) ?_; intro w1 hown hgrow))
  clear hi hz0 hz1 hz2
  have hB1 : Below w.heap.size w w1 := (Below.refl _ _).grown hgrow (Nat.le_refl _) (fun k h => by cases h)
  have hlt1 : w.heap.size < w1.heap.size := (hown.lt _ rfl).2
  clear hown hgrow
  refine wp_loop_rounds 1 ?_
  rw [rounds_succ]
  go_wp2
  go_ret
  exact ⟨rfl, ⟨hlt1, fun i o h => by simp at h⟩, hB1⟩

/-- A slice of things that came in. -/
def ArgOps (w : World) (p : Option Addr) (l : List Op7) : Prop := l = [] ∨ ∃ b off, p = some ⟨b, off, none⟩ ∧ LawAt w b off l
theorem ArgOps.below {w w' : World} {p : Option Addr} {l : List Op7} (h : ArgOps w p l) (hb : Below w.heap.size w w') : ArgOps w' p l := by
  rcases h with h | ⟨b, off, h1, h2⟩
  · exact .inl h
  · exact .inr ⟨b, off, h1, h2.below hb h2.1⟩
theorem toOpS_any (l : List Op7) (p : Option Addr) (cap : Nat) (w : World) (hl : ArgOps w p l) (hn : l.length ≤ 1048576) (hcap : l.length ≤ cap) :
    Calls Tryd.prog 15 #[.slice p l.length cap] w fun e w' => e = .returned (.slice (some ⟨w.heap.size, 0, none⟩) l.length l.length) ∧ OpsAt w' w.heap.size l ∧ Below w.heap.size w w' := by
  rcases hl with rfl | ⟨b, off, rfl, hl⟩
  · exact toOpS_zero p cap w
  · exact toOpS_some l b off cap w hl hn hcap
end Go.Proofs.YtficnhlkefpfnaaDoor

namespace Go.Proofs.YtficnhlkefpfnaaDoor
open Go.RowKit
set_option linter.unusedSimpArgs false
set_option linter.unusedVariables false
attribute [local go_sem ↓] Go.wp_at_zero Go.wp_at_succ

set_option maxHeartbeats 1000000 in
theorem eqOp_same (a b k c d s g : Int) (w : World) :
    Calls Tryd.prog 60 #[.agg #[.int .i64 a, .int .i64 b, .int .i64 k, .int .i64 c, .int .i64 d, .int .i64 s, .int .i64 g], .agg #[.int .i64 a, .int .i64 b, .int .i64 k, .int .i64 c, .int .i64 d, .int .i64 s, .int .i64 g]] w fun e w' => e = .returned (.bool true) ∧ Below w.heap.size w w' := by
  go_enter Tryd.func60, Tryd.ntmps60
  go_wp2
  go_ret
  exact ⟨rfl, by go_grown⟩

set_option maxHeartbeats 1000000 in
theorem eqOpS_same (l : List Op7) (g1 g2 cap1 cap2 : Nat) (w : World) (hl1 : OpsAt w g1 l) (hl2 : OpsAt w g2 l) (hn : l.length ≤ 1048576) (hcap1 : l.length ≤ cap1) (hcap2 : l.length ≤ cap2) :
    Calls Tryd.prog 17 #[.slice (some ⟨g1, 0, none⟩) l.length cap1, .slice (some ⟨g2, 0, none⟩) l.length cap2] w fun e w' => e = .returned (.bool true) ∧ Below w.heap.size w w' := by
  go_enter Tryd.func17, Tryd.ntmps17
  go_wp2
  go_loopw [5] (fun i wr => ∃ k : Nat, k ≤ l.length ∧ i = .int .i64 k ∧ Below w.heap.size w wr)
    (fun i _ => l.length - (intOf i).toNat)
  case atStart => exact ⟨0, Nat.zero_le _, rfl, by go_grown⟩
  case round =>
    obtain ⟨k, hk, rfl, hB⟩ := hrel
    have HB : Hid (Below w.heap.size w wr) := hB
    by_cases hlt : k < l.length
    · obtain ⟨h0, h1, h2, h3, h4, h5, h6⟩ := (hl1.below hB hl1.1).2 k l[k] (by simp [hlt])
      obtain ⟨j0, j1, j2, j3, j4, j5, j6⟩ := (hl2.below hB hl2.1).2 k l[k] (by simp [hlt])
      have hg1 := (hl1.below hB hl1.1).1
      have hg2 := (hl2.below hB hl2.1).1
      generalize l[k].a = xa at *
      generalize l[k].b = xb at *
      generalize l[k].k = xk at *
      generalize l[k].c = xc at *
      generalize l[k].d = xd at *
      generalize l[k].s = xs at *
      generalize l[k].g = xg at *
      have hlt' : (k : Int) < (l.length : Int) := by omega
      have hk0 : (0 : Int) ≤ (k : Int) := by omega
      clear hB hl1 hl2
      go_wp2
      go_region_held3 (fun w' => w'.cell? ⟨g1, k * 7, none⟩ = some (.int .i64 xa) ∧ w'.cell? ⟨g1, k * 7 + 1, none⟩ = some (.int .i64 xb) ∧ w'.cell? ⟨g1, k * 7 + 2, none⟩ = some (.int .i64 xk) ∧ w'.cell? ⟨g1, k * 7 + 3, none⟩ = some (.int .i64 xc) ∧ w'.cell? ⟨g1, k * 7 + 4, none⟩ = some (.int .i64 xd) ∧ w'.cell? ⟨g1, k * 7 + 5, none⟩ = some (.int .i64 xs) ∧ w'.cell? ⟨g1, k * 7 + 6, none⟩ = some (.int .i64 xg) ∧
          w'.cell? ⟨g2, k * 7, none⟩ = some (.int .i64 xa) ∧ w'.cell? ⟨g2, k * 7 + 1, none⟩ = some (.int .i64 xb) ∧ w'.cell? ⟨g2, k * 7 + 2, none⟩ = some (.int .i64 xk) ∧ w'.cell? ⟨g2, k * 7 + 3, none⟩ = some (.int .i64 xc) ∧ w'.cell? ⟨g2, k * 7 + 4, none⟩ = some (.int .i64 xd) ∧ w'.cell? ⟨g2, k * 7 + 5, none⟩ = some (.int .i64 xs) ∧ w'.cell? ⟨g2, k * 7 + 6, none⟩ = some (.int .i64 xg)) (go_keep)
        (first | (go_at_call 60; refine (eqOp_same _ _ _ _ _ _ _ _).mono ?_; rintro e w2 ⟨rfl, hb2⟩; have hcA : ∀ o, w2.cell? ⟨g1, o, none⟩ = wr.cell? ⟨g1, o, none⟩ := (fun o => (bcell hb2).1 _ _ hg1); have hcB : ∀ o, w2.cell? ⟨g2, o, none⟩ = wr.cell? ⟨g2, o, none⟩ := (fun o => (bcell hb2).1 _ _ hg2); have HB2 : Hid (Below w.heap.size w w2) := Bstep HB.out.drew hb2; clear hb2))
      rename_i hS
      clear hS hcA hcB
      go_wp2
      exact ⟨⟨k + 1, by omega, by go_num, HB2.out⟩, by simp [intOf]; omega⟩
    · clear hB hl1 hl2
      go_wp2
      go_ret
      exact ⟨rfl, HB.out⟩
end Go.Proofs.YtficnhlkefpfnaaDoor

namespace Go.Proofs.YtficnhlkefpfnaaDoor
open Go.RowKit
set_option linter.unusedSimpArgs false
set_option linter.unusedVariables false
attribute [local go_sem ↓] Go.wp_at_zero Go.wp_at_succ

theorem ret_int {k : IntKind} {a b : Int} (h : a = b) : Ending.returned (.int k a) = .returned (.int k b) := by rw [h]

set_option maxHeartbeats 400000 in
theorem l1Find_any (l : List Op7) (g cap : Nat) (r m : Int) (w : World) (hl : OpsAt w g l) (hn : l.length ≤ 1048576) (hcap : l.length ≤ cap) :
    Calls Tryd.prog 75 #[.slice (some ⟨g, 0, none⟩) l.length cap, .agg #[.int .i64 r, .int .i64 m]] w fun e w' => e = .returned (.int .i64 (findI l r m)) ∧ Below w.heap.size w w' := by
  go_enter Tryd.func75, Tryd.ntmps75
  go_wp2
  go_loopw [5] (fun i wr => ∃ k : Nat, k ≤ l.length ∧ i = .int .i64 k ∧ (∀ j (hj : j < l.length), j < k → hasId r m l[j] = false) ∧ wr.cell? ⟨w.heap.size, 0, none⟩ = some (.int .i64 r) ∧ wr.cell? ⟨w.heap.size, 1, none⟩ = some (.int .i64 m) ∧ Below w.heap.size w wr)
    (fun i _ => l.length - (intOf i).toNat)
  case atStart => exact ⟨0, Nat.zero_le _, rfl, fun j hj h => by omega, by simp [go_sem], by simp [go_sem], by go_grown⟩
  case round =>
    obtain ⟨k, hk, rfl, hno, hr, hm, hB⟩ := hrel
    have HN : Hid (∀ j (hj : j < l.length), j < k → hasId r m l[j] = false) := hno
    have HB : Hid (Below w.heap.size w wr) := hB
    by_cases hlt : k < l.length
    · obtain ⟨h0, h1, _⟩ := (hl.below hB hl.1).2 k l[k] (by simp [hlt])
      have HX : Hid (hasId r m l[k] = (l[k].a == r && l[k].b == m)) := rfl
      generalize l[k].a = xa at h0 HX
      generalize l[k].b = xb at h1 HX
      have hlt' : (k : Int) < (l.length : Int) := by omega
      have hk0 : (0 : Int) ≤ (k : Int) := by omega
      clear hno hB hl
      have hnext : Hid (hasId r m l[k] = false → ∀ j (hj : j < l.length), j < k + 1 → hasId r m l[j] = false) := fun hf j hj hj1 => by
        rcases Nat.lt_or_ge j k with h | h
        · exact HN.out j hj h
        · obtain rfl : j = k := by omega
          exact hf
      by_cases hxa : xa = r
      · subst hxa
        by_cases hxb : xb = m
        · subst hxb
          have hfin : Hid (findI l xa xb = k) := findI_some hlt (by rw [HX.out]; simp) (fun j hj => HN.out j (by omega) hj)
          go_wp2
          go_quiet (fail)
          go_wp2
          go_ret
          exact ⟨ret_int hfin.out.symm, below_drewN HB.out _⟩
        · have hf : Hid (hasId xa m l[k] = false) := by show hasId xa m l[k] = false; rw [HX.out]; simp [hxb]
          go_wp2
          go_quiet (fail)
          go_wp2
          exact ⟨⟨k + 1, by omega, by go_num, hnext.out hf.out, by simpa using hr, by simpa using hm, below_drewN HB.out _⟩, by simp [intOf]; omega⟩
      · have hf : Hid (hasId r m l[k] = false) := by show hasId r m l[k] = false; rw [HX.out]; simp [hxa]
        go_wp2
        go_quiet (fail)
        go_wp2
        exact ⟨⟨k + 1, by omega, by go_num, hnext.out hf.out, by simpa using hr, by simpa using hm, below_drewN HB.out _⟩, by simp [intOf]; omega⟩
    · clear hno hB hl
      go_wp2
      go_ret
      exact ⟨ret_int (by rw [findI_none]; intro o ho; obtain ⟨j, hj, rfl⟩ := List.getElem_of_mem ho; exact HN.out j hj (by omega)), HB.out⟩
end Go.Proofs.YtficnhlkefpfnaaDoor

namespace Go.Proofs.YtficnhlkefpfnaaDoor
open Go.RowKit
set_option linter.unusedSimpArgs false
set_option linter.unusedVariables false
attribute [local go_sem ↓] Go.wp_at_zero Go.wp_at_succ

def seenAt (n1 n2 n3 r : Int) : Int := if r = 1 then n1 else if r = 2 then n2 else n3
/-- Where the thing of an id stands, by how much each did. -/
def placeI (n1 n2 n3 r m : Int) : Int := if idB r m = true ∧ m ≤ seenAt n1 n2 n3 r then m - 1 + (if r = 1 then 0 else if r = 2 then n1 else n1 + n2) else -1

theorem ints3 {w : World} {g : Nat} {n1 n2 n3 : Int} (h : IntsAt w g [n1, n2, n3]) : w.cell? ⟨g, 0, none⟩ = some (.int .i64 n1) ∧ w.cell? ⟨g, 1, none⟩ = some (.int .i64 n2) ∧ w.cell? ⟨g, 2, none⟩ = some (.int .i64 n3) :=
  ⟨h.2 0 _ rfl, h.2 1 _ rfl, h.2 2 _ rfl⟩

theorem wpAny_skipU {P : Program} {md : Region.Mode} {ops : Array Oper} {Q : Exit → Act → World → Prop} {i : Nat} {oi : Oper} {fuel : Nat} {listed : Array Bool} {a : Act} {w : World} (hi : ops[i]? = some oi)
    (hs : Region.noSelect ops = true) (hf : Region.free md ops listed i = true) (hr : (Region.ready md ops listed).contains i = true)
    (d : Tmp) (hd : oi.dst = some d) (hQ : ∀ c (a : Act) w, Q (.panic c) (a.put (some d) undef) w → Q (.panic c) a w) (hw : Region.wanted oi (yielded ops a.tmps) = false) (he : a.put (some d) undef = a)
    (h : wpAny P md ops Q fuel (listed.setIfInBounds i true) a w) : wpAny P md ops Q (fuel + 1) listed a w :=
  wpAny_take hi hs hf hr (v := undef) (by rw [hd]; exact hQ) (Or.inr ⟨hw, rfl⟩) (by rw [hd, he]; exact h)

theorem keepP {w w1 w2 : World} {g o : Nat} {u v x : Value} (hb : Below w1.heap.size w1 w2) (hg : g < w.heap.size)
    (h : w1.cell? ⟨w.heap.size, 0, none⟩ = some u ∧ w1.cell? ⟨w.heap.size, 1, none⟩ = some v ∧ w1.cell? ⟨g, o, none⟩ = some x ∧ w.heap.size < w1.heap.size ∧ Below w.heap.size w w1) :
    w2.cell? ⟨w.heap.size, 0, none⟩ = some u ∧ w2.cell? ⟨w.heap.size, 1, none⟩ = some v ∧ w2.cell? ⟨g, o, none⟩ = some x ∧ w.heap.size < w2.heap.size ∧ Below w.heap.size w w2 := by
  obtain ⟨h1, h2, h3, h4, h5⟩ := h
  obtain ⟨hc, _⟩ := bcell hb
  exact ⟨(hc _ _ h4).trans h1, (hc _ _ h4).trans h2, (hc _ _ (by omega)).trans h3, Nat.lt_of_lt_of_le h4 hb.size, Bstep h5 hb⟩
theorem keepP0 {w : World} {g o : Nat} {u v x : Value} {t : TypeId} (hg : g < w.heap.size) (hc : w.cell? ⟨g, o, none⟩ = some x) :
    (w.alloc (.cells #[u, v] t)).drew.cell? ⟨w.heap.size, 0, none⟩ = some u ∧ (w.alloc (.cells #[u, v] t)).drew.cell? ⟨w.heap.size, 1, none⟩ = some v ∧ (w.alloc (.cells #[u, v] t)).drew.cell? ⟨g, o, none⟩ = some x ∧ w.heap.size < (w.alloc (.cells #[u, v] t)).drew.heap.size ∧ Below w.heap.size w (w.alloc (.cells #[u, v] t)).drew := by
  have hb : Below w.heap.size w (w.alloc (.cells #[u, v] t)).drew := ((Below.refl _ _).alloc (Nat.le_refl _) _).drew
  exact ⟨by simp [go_sem], by simp [go_sem], ((bcell hb).1 _ _ hg).trans hc, by simp, hb⟩

set_option maxRecDepth 100000 in
set_option maxHeartbeats 2000000 in
theorem place_no (n1 n2 n3 r m : Int) (g : Nat) (w : World) (hl : IntsAt w g [n1, n2, n3]) (hid : idB r m = false) :
    Calls Tryd.prog 129 #[.slice (some ⟨g, 0, none⟩) 3 3, .agg #[.int .i64 r, .int .i64 m]] w fun e w' => e = .returned (.int .i64 (-1)) ∧ Below w.heap.size w w' := by
  obtain ⟨c0, c1, c2⟩ := ints3 hl
  have hgw := hl.1
  clear hl
  go_enter Tryd.func129, Tryd.ntmps129
  go_wp2
  refine wp_region_any (by kernel_rfl) ?_
  change wpAny _ _ _ _ _ _ _ (World.drew _)
  refine wpAny_ready (rs := [0]) (by kernel_rfl) (by simp) ?_
  refine AllReady.cons rfl (fun K hK => ?_) AllReady.nil
  go_simp
  refine hK _ _ ?_
  clear hK K
  refine wpAny_ready (rs := [1]) (by kernel_rfl) (by simp) ?_
  refine AllReady.cons rfl (fun K hK => ?_) AllReady.nil
  go_simp
  go_wp2_with (first | (go_at_call 134; refine (idOk_any _ _ _).mono ?_; rintro e w2 ⟨rfl, hb2⟩; rw [hid]; have HB2 : Hid (Below w.heap.size w w2) := Bstep (by go_grown) hb2; clear hb2))
  refine wpAny_ready (rs := [2]) (by kernel_rfl) (by simp) ?_
  refine AllReady.cons rfl (fun K hK => ?_) AllReady.nil
  go_simp
  refine hK _ _ ?_
  clear hK K
  refine wpAny_ready (rs := [3]) (by kernel_rfl) (by simp) ?_
  refine AllReady.cons rfl (fun K hK => ?_) AllReady.nil
  go_simp
  refine hK _ _ ?_
  clear hK K
  refine wpAny_skipU (i := 4) rfl (by kernel_rfl) (by kernel_rfl) (by kernel_rfl) 12 rfl (fun _ _ _ h => h) (by rfl) (by rfl) ?_
  refine wpAny_skipU (i := 5) rfl (by kernel_rfl) (by kernel_rfl) (by kernel_rfl) 13 rfl (fun _ _ _ h => h) (by rfl) (by rfl) ?_
  refine wpAny_skipU (i := 6) rfl (by kernel_rfl) (by kernel_rfl) (by kernel_rfl) 14 rfl (fun _ _ _ h => h) (by rfl) (by rfl) ?_
  refine wpAny_skipU (i := 7) rfl (by kernel_rfl) (by kernel_rfl) (by kernel_rfl) 15 rfl (fun _ _ _ h => h) (by rfl) (by rfl) ?_
  refine wpAny_skipU (i := 8) rfl (by kernel_rfl) (by kernel_rfl) (by kernel_rfl) 16 rfl (fun _ _ _ h => h) (by rfl) (by rfl) ?_
  refine wpAny_skipU (i := 9) rfl (by kernel_rfl) (by kernel_rfl) (by kernel_rfl) 17 rfl (fun _ _ _ h => h) (by rfl) (by rfl) ?_
  refine wpAny_skipU (i := 10) rfl (by kernel_rfl) (by kernel_rfl) (by kernel_rfl) 18 rfl (fun _ _ _ h => h) (by rfl) (by rfl) ?_
  refine wpAny_skipU (i := 11) rfl (by kernel_rfl) (by kernel_rfl) (by kernel_rfl) 19 rfl (fun _ _ _ h => h) (by rfl) (by rfl) ?_
  refine wpAny_skipU (i := 12) rfl (by kernel_rfl) (by kernel_rfl) (by kernel_rfl) 20 rfl (fun _ _ _ h => h) (by rfl) (by rfl) ?_
  refine wpAny_ready (rs := [13]) (by kernel_rfl) (by simp) ?_
  refine AllReady.cons rfl (fun K hK => ?_) AllReady.nil
  go_simp
  refine hK _ _ ?_
  clear hK K
  refine wpAny_done (by kernel_rfl) ?_ _
  go_wp2
  go_ret
  exact ⟨rfl, HB2.out⟩

set_option maxRecDepth 100000 in
set_option maxHeartbeats 2000000 in
theorem place_1 (n1 n2 n3 m : Int) (g : Nat) (w : World) (hl : IntsAt w g [n1, n2, n3]) (hid : idB 1 m = true) (hn1 : 0 ≤ n1 ∧ n1 ≤ 1048576) (hn2 : 0 ≤ n2 ∧ n2 ≤ 1048576) :
    Calls Tryd.prog 129 #[.slice (some ⟨g, 0, none⟩) 3 3, .agg #[.int .i64 1, .int .i64 m]] w fun e w' => e = .returned (.int .i64 (placeI n1 n2 n3 1 m)) ∧ Below w.heap.size w w' := by
  obtain ⟨c0, c1, c2⟩ := ints3 hl
  have hgw := hl.1
  have hm := (idB_true.1 hid).2.2
  have hw0 : IntKind.i64.wrap 0 = 0 := by decide
  have hw1 : IntKind.i64.wrap 1 = 1 := by decide
  have hw2 : IntKind.i64.wrap 2 = 2 := by decide
  have hpl : Hid (placeI n1 n2 n3 1 m = if m ≤ n1 then m - 1 + (0) else -1) := by
    show placeI n1 n2 n3 1 m = _
    unfold placeI seenAt
    by_cases h : m ≤ n1 <;> simp [hid, h]
  clear hl
  by_cases hle : m ≤ n1
  · go_enter Tryd.func129, Tryd.ntmps129
    go_wp2
    go_region_held3 (fun w' => w'.cell? ⟨w.heap.size, 0, none⟩ = some (.int .i64 1) ∧ w'.cell? ⟨w.heap.size, 1, none⟩ = some (.int .i64 m) ∧ w'.cell? ⟨g, 0, none⟩ = some (.int .i64 n1) ∧ w.heap.size < w'.heap.size ∧ Below w.heap.size w w')
      (first | assumption | exact keepP hb2 hgw (by assumption) | exact keepP0 hgw c0)
      (first | (go_at_call 134; refine (idOk_any _ _ _).mono ?_; rintro e w2 ⟨rfl, hb2⟩; rw [hid]))
    rename_i hS
    have HB2 := hideIt hS.2.2.2.2
    have k0 := hS.1
    have k1 := hS.2.1
    have hcb : ∀ o, w2.cell? ⟨g, o, none⟩ = w.cell? ⟨g, o, none⟩ := fun o => (bcell HB2.out).1 _ _ hgw
    clear hS hb2
    go_wp2
    go_rounds 1
    all_goals
      go_ret
      exact ⟨ret_int (by rw [hpl.out, if_pos (by omega)]; try omega), HB2.out⟩
  · go_enter Tryd.func129, Tryd.ntmps129
    go_wp2
    go_region_held3 (fun w' => w'.cell? ⟨w.heap.size, 0, none⟩ = some (.int .i64 1) ∧ w'.cell? ⟨w.heap.size, 1, none⟩ = some (.int .i64 m) ∧ w'.cell? ⟨g, 0, none⟩ = some (.int .i64 n1) ∧ w.heap.size < w'.heap.size ∧ Below w.heap.size w w')
      (first | assumption | exact keepP hb2 hgw (by assumption) | exact keepP0 hgw c0)
      (first | (go_at_call 134; refine (idOk_any _ _ _).mono ?_; rintro e w2 ⟨rfl, hb2⟩; rw [hid]))
    rename_i hS
    have HB2 := hideIt hS.2.2.2.2
    have k0 := hS.1
    have k1 := hS.2.1
    have hcb : ∀ o, w2.cell? ⟨g, o, none⟩ = w.cell? ⟨g, o, none⟩ := fun o => (bcell HB2.out).1 _ _ hgw
    clear hS hb2
    go_wp2
    go_ret
    exact ⟨ret_int (by rw [hpl.out, if_neg (by omega)]), HB2.out⟩

set_option maxRecDepth 100000 in
set_option maxHeartbeats 2000000 in
theorem place_2 (n1 n2 n3 m : Int) (g : Nat) (w : World) (hl : IntsAt w g [n1, n2, n3]) (hid : idB 2 m = true) (hn1 : 0 ≤ n1 ∧ n1 ≤ 1048576) (hn2 : 0 ≤ n2 ∧ n2 ≤ 1048576) :
    Calls Tryd.prog 129 #[.slice (some ⟨g, 0, none⟩) 3 3, .agg #[.int .i64 2, .int .i64 m]] w fun e w' => e = .returned (.int .i64 (placeI n1 n2 n3 2 m)) ∧ Below w.heap.size w w' := by
  obtain ⟨c0, c1, c2⟩ := ints3 hl
  have hgw := hl.1
  have hm := (idB_true.1 hid).2.2
  have hw0 : IntKind.i64.wrap 0 = 0 := by decide
  have hw1 : IntKind.i64.wrap 1 = 1 := by decide
  have hw2 : IntKind.i64.wrap 2 = 2 := by decide
  have hpl : Hid (placeI n1 n2 n3 2 m = if m ≤ n2 then m - 1 + (n1) else -1) := by
    show placeI n1 n2 n3 2 m = _
    unfold placeI seenAt
    by_cases h : m ≤ n2 <;> simp [hid, h]
  clear hl
  by_cases hle : m ≤ n2
  · go_enter Tryd.func129, Tryd.ntmps129
    go_wp2
    go_region_held3 (fun w' => w'.cell? ⟨w.heap.size, 0, none⟩ = some (.int .i64 2) ∧ w'.cell? ⟨w.heap.size, 1, none⟩ = some (.int .i64 m) ∧ w'.cell? ⟨g, 1, none⟩ = some (.int .i64 n2) ∧ w.heap.size < w'.heap.size ∧ Below w.heap.size w w')
      (first | assumption | exact keepP hb2 hgw (by assumption) | exact keepP0 hgw c1)
      (first | (go_at_call 134; refine (idOk_any _ _ _).mono ?_; rintro e w2 ⟨rfl, hb2⟩; rw [hid]))
    rename_i hS
    have HB2 := hideIt hS.2.2.2.2
    have k0 := hS.1
    have k1 := hS.2.1
    have hcb : ∀ o, w2.cell? ⟨g, o, none⟩ = w.cell? ⟨g, o, none⟩ := fun o => (bcell HB2.out).1 _ _ hgw
    clear hS hb2
    go_wp2
    go_rounds 2
    all_goals
      go_ret
      exact ⟨ret_int (by rw [hpl.out, if_pos (by omega)]; try omega), HB2.out⟩
  · go_enter Tryd.func129, Tryd.ntmps129
    go_wp2
    go_region_held3 (fun w' => w'.cell? ⟨w.heap.size, 0, none⟩ = some (.int .i64 2) ∧ w'.cell? ⟨w.heap.size, 1, none⟩ = some (.int .i64 m) ∧ w'.cell? ⟨g, 1, none⟩ = some (.int .i64 n2) ∧ w.heap.size < w'.heap.size ∧ Below w.heap.size w w')
      (first | assumption | exact keepP hb2 hgw (by assumption) | exact keepP0 hgw c1)
      (first | (go_at_call 134; refine (idOk_any _ _ _).mono ?_; rintro e w2 ⟨rfl, hb2⟩; rw [hid]))
    rename_i hS
    have HB2 := hideIt hS.2.2.2.2
    have k0 := hS.1
    have k1 := hS.2.1
    have hcb : ∀ o, w2.cell? ⟨g, o, none⟩ = w.cell? ⟨g, o, none⟩ := fun o => (bcell HB2.out).1 _ _ hgw
    clear hS hb2
    go_wp2
    go_ret
    exact ⟨ret_int (by rw [hpl.out, if_neg (by omega)]), HB2.out⟩

set_option maxRecDepth 100000 in
set_option maxHeartbeats 2000000 in
theorem place_3 (n1 n2 n3 m : Int) (g : Nat) (w : World) (hl : IntsAt w g [n1, n2, n3]) (hid : idB 3 m = true) (hn1 : 0 ≤ n1 ∧ n1 ≤ 1048576) (hn2 : 0 ≤ n2 ∧ n2 ≤ 1048576) :
    Calls Tryd.prog 129 #[.slice (some ⟨g, 0, none⟩) 3 3, .agg #[.int .i64 3, .int .i64 m]] w fun e w' => e = .returned (.int .i64 (placeI n1 n2 n3 3 m)) ∧ Below w.heap.size w w' := by
  obtain ⟨c0, c1, c2⟩ := ints3 hl
  have hgw := hl.1
  have hm := (idB_true.1 hid).2.2
  have hw0 : IntKind.i64.wrap 0 = 0 := by decide
  have hw1 : IntKind.i64.wrap 1 = 1 := by decide
  have hw2 : IntKind.i64.wrap 2 = 2 := by decide
  have hpl : Hid (placeI n1 n2 n3 3 m = if m ≤ n3 then m - 1 + (n1 + n2) else -1) := by
    show placeI n1 n2 n3 3 m = _
    unfold placeI seenAt
    by_cases h : m ≤ n3 <;> simp [hid, h]
  clear hl
  by_cases hle : m ≤ n3
  · go_enter Tryd.func129, Tryd.ntmps129
    go_wp2
    go_region_held3 (fun w' => w'.cell? ⟨w.heap.size, 0, none⟩ = some (.int .i64 3) ∧ w'.cell? ⟨w.heap.size, 1, none⟩ = some (.int .i64 m) ∧ w'.cell? ⟨g, 2, none⟩ = some (.int .i64 n3) ∧ w.heap.size < w'.heap.size ∧ Below w.heap.size w w')
      (first | assumption | exact keepP hb2 hgw (by assumption) | exact keepP0 hgw c2)
      (first | (go_at_call 134; refine (idOk_any _ _ _).mono ?_; rintro e w2 ⟨rfl, hb2⟩; rw [hid]))
    rename_i hS
    have HB2 := hideIt hS.2.2.2.2
    have k0 := hS.1
    have k1 := hS.2.1
    have hcb : ∀ o, w2.cell? ⟨g, o, none⟩ = w.cell? ⟨g, o, none⟩ := fun o => (bcell HB2.out).1 _ _ hgw
    clear hS hb2
    go_wp2
    go_rounds 3
    all_goals
      go_ret
      exact ⟨ret_int (by rw [hpl.out, if_pos (by omega)]; try omega), HB2.out⟩
  · go_enter Tryd.func129, Tryd.ntmps129
    go_wp2
    go_region_held3 (fun w' => w'.cell? ⟨w.heap.size, 0, none⟩ = some (.int .i64 3) ∧ w'.cell? ⟨w.heap.size, 1, none⟩ = some (.int .i64 m) ∧ w'.cell? ⟨g, 2, none⟩ = some (.int .i64 n3) ∧ w.heap.size < w'.heap.size ∧ Below w.heap.size w w')
      (first | assumption | exact keepP hb2 hgw (by assumption) | exact keepP0 hgw c2)
      (first | (go_at_call 134; refine (idOk_any _ _ _).mono ?_; rintro e w2 ⟨rfl, hb2⟩; rw [hid]))
    rename_i hS
    have HB2 := hideIt hS.2.2.2.2
    have k0 := hS.1
    have k1 := hS.2.1
    have hcb : ∀ o, w2.cell? ⟨g, o, none⟩ = w.cell? ⟨g, o, none⟩ := fun o => (bcell HB2.out).1 _ _ hgw
    clear hS hb2
    go_wp2
    go_ret
    exact ⟨ret_int (by rw [hpl.out, if_neg (by omega)]), HB2.out⟩

theorem place_any (n1 n2 n3 r m : Int) (g : Nat) (w : World) (hl : IntsAt w g [n1, n2, n3]) (hn1 : 0 ≤ n1 ∧ n1 ≤ 1048576) (hn2 : 0 ≤ n2 ∧ n2 ≤ 1048576) :
    Calls Tryd.prog 129 #[.slice (some ⟨g, 0, none⟩) 3 3, .agg #[.int .i64 r, .int .i64 m]] w fun e w' => e = .returned (.int .i64 (placeI n1 n2 n3 r m)) ∧ Below w.heap.size w w' := by
  cases hid : idB r m
  · have e : placeI n1 n2 n3 r m = -1 := by unfold placeI; rw [if_neg (by rw [hid]; simp)]
    rw [e]
    exact place_no n1 n2 n3 r m g w hl hid
  · have hr := idB_true.1 hid
    obtain rfl | rfl | rfl : r = 1 ∨ r = 2 ∨ r = 3 := by omega
    · exact place_1 n1 n2 n3 m g w hl hid hn1 hn2
    · exact place_2 n1 n2 n3 m g w hl hid hn1 hn2
    · exact place_3 n1 n2 n3 m g w hl hid hn1 hn2
end Go.Proofs.YtficnhlkefpfnaaDoor

namespace Go.Proofs.YtficnhlkefpfnaaDoor
open Go.RowKit
set_option linter.unusedSimpArgs false
set_option linter.unusedVariables false
theorem Tryd.asPut (a b c d s g : Int) (w : World) : (Instr.typeAssert (.iface 168 (.agg #[.int .i64 a, .int .i64 b, .int .i64 c, .int .i64 d, .int .i64 s, .int .i64 g])) 137 168 true).run Tryd.prog w = .ok (.tuple #[.agg #[.int .i64 a, .int .i64 b, .int .i64 c, .int .i64 d, .int .i64 s, .int .i64 g], .bool true]) w := by kernel_rfl
theorem Tryd.asNoPut (a b c d : Int) (w : World) : (Instr.typeAssert (.iface 170 (.agg #[.int .i64 a, .int .i64 b, .int .i64 c, .int .i64 d])) 137 168 true).run Tryd.prog w = .ok (.tuple #[.agg #[.int .i64 0, .int .i64 0, .int .i64 0, .int .i64 0, .int .i64 0, .int .i64 0], .bool false]) w := by kernel_rfl
set_option maxRecDepth 100000 in
theorem isPut_put (a b c d s g : Int) (w : World) :
    Calls Tryd.prog 138 #[.iface 168 (.agg #[.int .i64 a, .int .i64 b, .int .i64 c, .int .i64 d, .int .i64 s, .int .i64 g])] w fun e w' => e = .returned (.bool true) ∧ w' = w := by
  have as1 := Tryd.asPut
  have as2 := Tryd.asNoPut
  go_enter Tryd.func138, Tryd.ntmps138
  go_wp2
  go_ret
  exact ⟨rfl, rfl⟩
set_option maxRecDepth 100000 in
theorem isPut_take (a b c d : Int) (w : World) :
    Calls Tryd.prog 138 #[.iface 170 (.agg #[.int .i64 a, .int .i64 b, .int .i64 c, .int .i64 d])] w fun e w' => e = .returned (.bool false) ∧ w' = w := by
  have as1 := Tryd.asPut
  have as2 := Tryd.asNoPut
  go_enter Tryd.func138, Tryd.ntmps138
  go_wp2
  go_ret
  exact ⟨rfl, rfl⟩
theorem isPut_any (o : Op7) (h : okO o = true) (w : World) :
    Calls Tryd.prog 138 #[thV o] w fun e w' => e = .returned (.bool (o.k == 1)) ∧ w' = w := by
  rcases thV_cases h with ⟨h1, h2⟩ | ⟨h1, h2⟩
  · rw [h1, h2]; exact isPut_put _ _ _ _ _ _ _
  · rw [h1, h2]; exact isPut_take _ _ _ _ _
end Go.Proofs.YtficnhlkefpfnaaDoor

namespace Go.Proofs.YtficnhlkefpfnaaDoor
open Go.RowKit
theorem Tryd.ownPut (a b c d s g : Int) (w : World) : (Go.method 338 168 (.agg #[.int .i64 a, .int .i64 b, .int .i64 c, .int .i64 d, .int .i64 s, .int .i64 g]) "loop.example/tatting/impl.own").run Tryd.prog w = .ok (170, .agg #[.int .i64 a, .int .i64 b, .int .i64 c, .int .i64 d]) w := by kernel_rfl
theorem Tryd.ownTake (a b c d : Int) (w : World) : (Go.method 338 170 (.agg #[.int .i64 a, .int .i64 b, .int .i64 c, .int .i64 d]) "loop.example/tatting/impl.own").run Tryd.prog w = .ok (170, .agg #[.int .i64 a, .int .i64 b, .int .i64 c, .int .i64 d]) w := by kernel_rfl
theorem Tryd.aboutPut (a b c d s g : Int) (w : World) : (Go.method 338 168 (.agg #[.int .i64 a, .int .i64 b, .int .i64 c, .int .i64 d, .int .i64 s, .int .i64 g]) "loop.example/tatting/impl.about").run Tryd.prog w = .ok (169, .agg #[.int .i64 a, .int .i64 b, .int .i64 c, .int .i64 d]) w := by kernel_rfl
theorem Tryd.aboutTake (a b c d : Int) (w : World) : (Go.method 338 170 (.agg #[.int .i64 a, .int .i64 b, .int .i64 c, .int .i64 d]) "loop.example/tatting/impl.about").run Tryd.prog w = .ok (169, .agg #[.int .i64 a, .int .i64 b, .int .i64 c, .int .i64 d]) w := by kernel_rfl
theorem Tryd.fld0 (a b : Int) (w : World) : (Instr.field 69 (.agg #[.int .i64 a, .int .i64 b]) 0).run Tryd.prog w = .ok (.int .i64 a) w := by kernel_rfl
theorem own_any (a b c d : Int) (w : World) :
    Calls Tryd.prog 170 #[.agg #[.int .i64 a, .int .i64 b, .int .i64 c, .int .i64 d]] w fun e w' => e = .returned (.agg #[.int .i64 a, .int .i64 b]) ∧ Below w.heap.size w w' := by
  go_enter Tryd.func170, Tryd.ntmps170
  go_wp2
  exact bodyPost_ret (v := .agg #[.int .i64 a, .int .i64 b]) (by simp [results, Tryd.results170, go_sem]) rfl ⟨rfl, by go_grown⟩
theorem about_any (a b c d : Int) (w : World) :
    Calls Tryd.prog 169 #[.agg #[.int .i64 a, .int .i64 b, .int .i64 c, .int .i64 d]] w fun e w' => e = .returned (.agg #[.int .i64 c, .int .i64 d]) ∧ Below w.heap.size w w' := by
  go_enter Tryd.func169, Tryd.ntmps169
  go_wp2
  exact bodyPost_ret (v := .agg #[.int .i64 c, .int .i64 d]) (by simp [results, Tryd.results169, go_sem]) rfl ⟨rfl, by go_grown⟩
end Go.Proofs.YtficnhlkefpfnaaDoor

namespace Go.Proofs.YtficnhlkefpfnaaDoor
open Go.RowKit
set_option linter.unusedSimpArgs false
set_option linter.unusedVariables false

theorem infoInt : (Tryd.prog.info? 3).map (fun i => (i.zero, i.size, i.bytes)) = some (some (.int .i64 0), 1, 8) := by kernel_rfl
theorem made3 : (madeCells (Value.int .i64 0).cells (3 * 1)).toList = [.int .i64 0, .int .i64 0, .int .i64 0] := by
  have := toList_madeCells_one (.int .i64 0) 3
  simpa [Value.cells, List.replicate] using this

set_option maxRecDepth 100000 in
set_option maxHeartbeats 2000000 in
theorem count_any (l : List Op7) (g cap : Nat) (w : World) (hl : ThingsAt w g l) (hn : l.length ≤ 1048576) (hcap : l.length ≤ cap) (hok : l.all okO = true) :
    Calls Tryd.prog 104 #[.slice (some ⟨g, 0, none⟩) l.length cap] w fun e w' => e = .returned (.slice (some ⟨w.heap.size, 0, none⟩) 3 3) ∧ IntsAt w' w.heap.size [cnt l 1, cnt l 2, cnt l 3] ∧ (∀ j, w'.frozen? ⟨w.heap.size, j, none⟩ = false) ∧ Below w.heap.size w w' := by
  have hgw : g < w.heap.size := hl.1
  have HL0 : Hid (ThingsAt w g l) := hl
  have HO : Hid (l.all okO = true) := hok
  clear hl hok
  go_enter Tryd.func104, Tryd.ntmps104
  obtain ⟨i0, hi, hz0, hz1, hz2⟩ := info_parts infoInt
  go_wp2_with (first
    | (at_make; refine wpList_make_full _ rfl _ _ 33 rfl w.heap.size 3 i0 _ 1 Tryd.underlying33 hi hz0 hz1 .i64 .i64 _ _ 3 rfl rfl rfl rfl (by rw [hz2]; omega) (by unfold maxLen; omega) (Nat.le_refl _) ?_; intro w1 hown hgrow))
  clear hi hz0 hz1 hz2
  rw [made3] at hown
  have hB1 : Below w.heap.size w w1 := (Below.refl _ _).grown hgrow (Nat.le_refl _) (fun k h => by cases h)
  have c0 : w1.cell? ⟨w.heap.size, 0, none⟩ = some (.int .i64 0) := hown.cellAt 0 (by omega)
  have c1 : w1.cell? ⟨w.heap.size, 1, none⟩ = some (.int .i64 0) := hown.cellAt 1 (by omega)
  have c2 : w1.cell? ⟨w.heap.size, 2, none⟩ = some (.int .i64 0) := hown.cellAt 2 (by omega)
  have f0 : ∀ j, w1.frozen? ⟨w.heap.size, j, none⟩ = false := fun j => hown.frozenAt j
  have z0 : w.heap.size < w1.heap.size := (hown.lt _ rfl).2
  clear hown hgrow
  go_loopw [9] (fun i wr => ∃ k : Nat, k ≤ l.length ∧ i = .int .i64 k ∧ wr.cell? ⟨w.heap.size, 0, none⟩ = some (.int .i64 (cntTo l k 1)) ∧ wr.cell? ⟨w.heap.size, 1, none⟩ = some (.int .i64 (cntTo l k 2)) ∧ wr.cell? ⟨w.heap.size, 2, none⟩ = some (.int .i64 (cntTo l k 3)) ∧ (∀ j, wr.frozen? ⟨w.heap.size, j, none⟩ = false) ∧ w.heap.size < wr.heap.size ∧ Below w.heap.size w wr)
    (fun i _ => l.length - (intOf i).toNat)
  case atStart => exact ⟨0, Nat.zero_le _, rfl, by rw [cntTo_zero]; exact c0, by rw [cntTo_zero]; exact c1, by rw [cntTo_zero]; exact c2, f0, z0, hB1⟩
  case round =>
    obtain ⟨k, hk, rfl, q0, q1, q2, hfz, hws, hB⟩ := hrel
    have HB : Hid (Below w.heap.size w wr) := hB
    have HL : Hid (ThingsAt wr g l) := HL0.out.below hB hgw
    have hgr : g < wr.heap.size := HL.out.1
    clear hB hB1 c0 c1 c2 f0 z0
    by_cases hlt : k < l.length
    · have h0 := HL.out.2 k l[k] (by simp [hlt])
      obtain ⟨ha1, ha3, hb1, hb12⟩ := okO_id (all_iff.1 HO.out k hlt)
      have hcs := thV_cases (all_iff.1 HO.out k hlt)
      have s1 : Hid (∀ r, l[k].a = r → cntTo l (k + 1) r = cntTo l k r + 1) := fun r h => cntTo_same hlt h
      have s2 : Hid (∀ r, l[k].a ≠ r → cntTo l (k + 1) r = cntTo l k r) := fun r h => cntTo_other hlt h
      have b1 := cntTo_le l k 1
      have b2 := cntTo_le l k 2
      have b3 := cntTo_le l k 3
      generalize l[k] = o at *
      obtain ⟨xa, xb, xk, xc, xd, xs, xg⟩ := o
      simp only at *
      have hlt' : (k : Int) < (l.length : Int) := by omega
      have hk0 : (0 : Int) ≤ (k : Int) := by omega
      obtain rfl | rfl | rfl : xa = 1 ∨ xa = 2 ∨ xa = 3 := by omega
      all_goals
        have e1 := s1.out _ rfl
        have e2 : Hid (∀ r, _ → cntTo l (k + 1) r = cntTo l k r) := s2
        clear s1 s2
        have E1 := hideIt e1
        clear e1
        generalize hc1 : cntTo l k 1 = n1 at *
        generalize hc2 : cntTo l k 2 = n2 at *
        generalize hc3 : cntTo l k 3 = n3 at *
        have C1 := hideIt hc1
        have C2 := hideIt hc2
        have C3 := hideIt hc3
        clear hc1 hc2 hc3
        rcases hcs with ⟨hth, _⟩ | ⟨hth, _⟩
        all_goals
          rw [hth] at h0
          clear hth
          have mO := Tryd.ownPut
          have mT := Tryd.ownTake
          have mF := Tryd.fld0
          go_wp2_with (first | (go_at_call 170; refine (own_any _ _ _ _ _).mono ?_; rintro e w2 ⟨rfl, hb2⟩; have HB2 : Hid (Below w.heap.size w w2) := Bstep HB.out hb2; have hcb : ∀ o, w2.cell? ⟨w.heap.size, o, none⟩ = wr.cell? ⟨w.heap.size, o, none⟩ := (fun o => (bcell hb2).1 _ _ hws); have hfb : ∀ o, w2.frozen? ⟨w.heap.size, o, none⟩ = wr.frozen? ⟨w.heap.size, o, none⟩ := (fun o => (bcell hb2).2 _ _ hws); have hws2 : w.heap.size < w2.heap.size := Nat.lt_of_lt_of_le hws hb2.size; clear hb2))
      all_goals
        refine ⟨⟨k + 1, by omega, by go_num, ?_, ?_, ?_, fun j => by simp [hfb, hfz], by simpa using hws2, HB2.out.setCell (Nat.le_refl _) _⟩, by simp [intOf]; omega⟩
        · first | (rw [E1.out]; simp [hcb, q0, q1, q2, go_sem]; done) | (rw [e2.out 1 (by decide), C1.out]; simp [hcb, q0, q1, q2, go_sem]; done)
        · first | (rw [E1.out]; simp [hcb, q0, q1, q2, go_sem]; done) | (rw [e2.out 2 (by decide), C2.out]; simp [hcb, q0, q1, q2, go_sem]; done)
        · first | (rw [E1.out]; simp [hcb, q0, q1, q2, go_sem]; done) | (rw [e2.out 3 (by decide), C3.out]; simp [hcb, q0, q1, q2, go_sem]; done)
    · obtain rfl : k = l.length := by omega
      rw [cntTo_len] at q0 q1 q2
      go_wp2
      go_ret
      exact ⟨rfl, ⟨hws, fun i x hx => by
        match i, hx with
        | 0, hx => simp at hx; subst hx; exact q0
        | 1, hx => simp at hx; subst hx; exact q1
        | 2, hx => simp at hx; subst hx; exact q2⟩, hfz, HB.out⟩
end Go.Proofs.YtficnhlkefpfnaaDoor

namespace Go.Proofs.YtficnhlkefpfnaaDoor
open Go.RowKit
set_option linter.unusedSimpArgs false
set_option linter.unusedVariables false

set_option maxHeartbeats 1000000 in
theorem thingOf_no (a b k c d s g : Int) (x : Addr) (w : World) (he : w.cell? ⟨0, 0, none⟩ = some (.iface 200 (.pointer (some x)))) (h0 : 0 < w.heap.size) (hno : opB a b k c d s g = false) :
    Calls Tryd.prog 119 #[.agg #[.int .i64 a, .int .i64 b, .int .i64 k, .int .i64 c, .int .i64 d, .int .i64 s, .int .i64 g]] w fun e w' => e = .returned (.tuple #[.nilIface, .iface 200 (.pointer (some x))]) ∧ Below w.heap.size w w' := by
  have HN : Hid (opB a b k c d s g = false) := hno
  clear hno
  go_enter Tryd.func119, Tryd.ntmps119
  go_wp2_with (first
    | (go_at_call 134; refine (idOk_any _ _ _).mono ?_; rintro e w' ⟨rfl, hb⟩; have hB : Below w.heap.size w w' := Bstep (by go_grown) hb; have hlt : w.heap.size < w'.heap.size := (by have := hb.size; (try simp at this); omega); have hp0 : 0 < w'.heap.size := (by omega); obtain ⟨hc, hf⟩ := bcell hb; clear hb)
    | (go_at_call 135; refine (putOk_any _ _ _ _ _ _ _ _).mono ?_; rintro e w' ⟨rfl, hb⟩; have hB : Below w.heap.size w w' := Bstep (by go_grown) hb; have hlt : w.heap.size < w'.heap.size := (by have := hb.size; (try simp at this); omega); have hp0 : 0 < w'.heap.size := (by omega); obtain ⟨hc, hf⟩ := bcell hb; clear hb)
    | (go_at_call 136; refine (takeOk_any _ _ _ _ _ _ _ _).mono ?_; rintro e w' ⟨rfl, hb⟩; have hB : Below w.heap.size w w' := Bstep (by go_grown) hb; have hlt : w.heap.size < w'.heap.size := (by have := hb.size; (try simp at this); omega); have hp0 : 0 < w'.heap.size := (by omega); obtain ⟨hc, hf⟩ := bcell hb; clear hb))
  all_goals first
    | (go_region; go_wp2; go_ret2; exact ⟨rfl, by first | assumption | go_grown⟩)
    | (exfalso; have hno := HN.out; simp only [opB, idB, putB, takeB, Bool.not_eq_true, decide_eq_true_eq, decide_eq_false_iff_not] at *; omega)
end Go.Proofs.YtficnhlkefpfnaaDoor

namespace Go.Proofs.YtficnhlkefpfnaaDoor
open Go.RowKit
set_option linter.unusedSimpArgs false
set_option linter.unusedVariables false

theorem errB {w W : World} {v : Value} (h : Below w.heap.size w W) (h0 : 0 < w.heap.size) (he : w.cell? ⟨0, 0, none⟩ = some v) : W.cell? ⟨0, 0, none⟩ = some v := by
  rw [(bcell h).1 _ _ h0]; exact he
theorem posB {w W : World} (h : Below w.heap.size w W) (h0 : 0 < w.heap.size) : 0 < W.heap.size := Nat.lt_of_lt_of_le h0 h.size

set_option maxHeartbeats 1000000 in
theorem implOp_any (a b k c d s g : Int) (x : Addr) (w : World) (he : w.cell? ⟨0, 0, none⟩ = some (.iface 200 (.pointer (some x)))) (h0 : 0 < w.heap.size) :
    Calls Tryd.prog 110 #[.agg #[.int .i64 a, .int .i64 b, .int .i64 k, .int .i64 c, .int .i64 d, .int .i64 s, .int .i64 g]] w fun e w' => e = .returned (.bool (opB a b k c d s g)) ∧ Below w.heap.size w w' := by
  cases ho : opB a b k c d s g
  · have HO : Hid (opB a b k c d s g = false) := ho
    clear ho
    go_enter Tryd.func110, Tryd.ntmps110
    go_wp2_with (first
      | (go_at_call 119; refine (thingOf_no _ _ _ _ _ _ _ x _ ?_ ?_ HO.out).mono ?_; (exact errB (by go_grown) h0 he); (exact posB (by go_grown) h0); rintro e w' ⟨rfl, hb⟩; have hB : Below w.heap.size w w' := Bstep (by go_grown) hb; have hlt : w.heap.size < w'.heap.size := (by have := hb.size; (try simp at this); omega); have hp0 : 0 < w'.heap.size := (by omega); obtain ⟨hc, hf⟩ := bcell hb; clear hb)
      | (go_at_call 98; refine (is_same x _).mono ?_; rintro e w'' ⟨rfl, rfl⟩))
    go_ret
    exact ⟨rfl, by first | assumption | go_grown⟩
  · rw [opB_true] at ho
    obtain ⟨h1, h2, h3⟩ := ho
    have hid : Hid (idB a b = true) := idB_true.2 h1
    have hne : Hid (¬ (c = a ∧ d = b)) := h2
    rcases h3 with ⟨rfl, h3⟩ | ⟨rfl, h3⟩
    · have hp : Hid (putB c d s g = true) := decide_eq_true h3
      clear h1 h2 h3
      go_enter Tryd.func110, Tryd.ntmps110
      go_wp2_with (first
        | (go_at_call 119; refine (thingOf_put _ _ _ _ _ _ _ hid.out hne.out hp.out).mono ?_; rintro e w' ⟨rfl, hb⟩; have hB : Below w.heap.size w w' := Bstep (by go_grown) hb; have hlt : w.heap.size < w'.heap.size := (by have := hb.size; (try simp at this); omega); have hp0 : 0 < w'.heap.size := (by omega); obtain ⟨hc, hf⟩ := bcell hb; clear hb)
        | (go_at_call 98; refine (is_nil x _).mono ?_; rintro e w'' ⟨rfl, rfl⟩))
      go_ret
      exact ⟨rfl, by first | assumption | go_grown⟩
    · have hp : Hid (takeB c d s g = true) := decide_eq_true h3
      clear h1 h2 h3
      go_enter Tryd.func110, Tryd.ntmps110
      go_wp2_with (first
        | (go_at_call 119; refine (thingOf_take _ _ _ _ _ _ _ hid.out hne.out hp.out).mono ?_; rintro e w' ⟨rfl, hb⟩; have hB : Below w.heap.size w w' := Bstep (by go_grown) hb; have hlt : w.heap.size < w'.heap.size := (by have := hb.size; (try simp at this); omega); have hp0 : 0 < w'.heap.size := (by omega); obtain ⟨hc, hf⟩ := bcell hb; clear hb)
        | (go_at_call 98; refine (is_nil x _).mono ?_; rintro e w'' ⟨rfl, rfl⟩))
      go_ret
      exact ⟨rfl, by first | assumption | go_grown⟩
end Go.Proofs.YtficnhlkefpfnaaDoor

namespace Go.Proofs.YtficnhlkefpfnaaDoor
open Go.RowKit
set_option linter.unusedSimpArgs false
set_option linter.unusedVariables false

/-- Where what a thing refers to stands, by how much each did. -/
def plc (l : List Op7) (o : Op7) : Int := placeI (cnt l 1) (cnt l 2) (cnt l 3) o.c o.d
/-- What a thing refers to is nothing, or was put, by its place. -/
def refI (l : List Op7) (o : Op7) : Bool := if plc l o < 0 then noB o.c o.d else (match l[(plc l o).toNat]? with | some p => p.k == 1 | none => false)
theorem cnt_sum (l : List Op7) : cnt l 1 + cnt l 2 + cnt l 3 ≤ l.length := by
  unfold cnt
  induction l with
  | nil => simp
  | cons o t ih =>
    simp only [List.countP_cons, List.length_cons, isRep]
    by_cases h1 : o.a = 1
    · simp [h1]; omega
    · by_cases h2 : o.a = 2
      · simp [h2]; omega
      · by_cases h3 : o.a = 3
        · simp [h3]; omega
        · simp [h1, h2, h3]; omega
theorem cnt_nonneg (l : List Op7) (r : Int) : 0 ≤ cnt l r := by unfold cnt; omega
theorem plc_lt (l : List Op7) (o : Op7) : -1 ≤ plc l o ∧ plc l o < l.length := by
  have h := cnt_sum l
  have h1 := cnt_nonneg l 1
  have h2 := cnt_nonneg l 2
  have h3 := cnt_nonneg l 3
  unfold plc placeI seenAt
  by_cases hc : idB o.c o.d = true ∧ o.d ≤ (if o.c = 1 then cnt l 1 else if o.c = 2 then cnt l 2 else cnt l 3)
  · rw [if_pos hc]
    obtain ⟨hid, hle⟩ := hc
    have := idB_true.1 hid
    by_cases e1 : o.c = 1
    · rw [if_pos e1] at hle ⊢; omega
    · by_cases e2 : o.c = 2
      · rw [if_neg e1, if_pos e2] at hle ⊢; omega
      · rw [if_neg e1, if_neg e2] at hle ⊢; omega
  · rw [if_neg hc]; omega
theorem ownsRow_below {w w' : World} {B base : Nat} {e : TypeId} {size : Nat} {v : Value} {n : Nat} {xs : List Value} (h : w.ownsRow base e size v n xs) (hb : Below B w w') (hv : ∀ k, v.ownBlock = some k → k < B) : w'.ownsRow base e size v n xs := by
  obtain ⟨h1, h2⟩ := h
  refine ⟨h1, ?_⟩
  rcases h2 with h2 | ⟨g, cap, cur, rfl, h3, h4, h5, h6, h7, h8⟩
  · exact .inl h2
  · exact .inr ⟨g, cap, cur, rfl, h3, (hb.block g (hv g rfl)).trans h4, h5, h6, h7, h8⟩
theorem ints_of_owns {w : World} {base M n cap : Nat} {xs : List Int} (hn : n = xs.length) (h : w.ownsRow base 3 1 (.slice (some ⟨M, 0, none⟩) n cap) n (xs.map (Value.int .i64))) : IntsAt w M xs := by
  subst hn
  refine ⟨(h.lt M rfl).2, fun i x hx => ?_⟩
  have hi : i < xs.length := (List.getElem?_eq_some_iff.1 hx).1
  rw [h.cellAt i (by omega)]
  simp [hx]

/-- Where the block of a slice of the call's own lies. -/
theorem own_lt {M n cap B : Nat} (h : M < B) : ∀ k, (Value.slice (some ⟨M, 0, none⟩) n cap).ownBlock = some k → k < B := fun k hk => by
  simp [Value.ownBlock] at hk; omega

set_option maxRecDepth 100000 in
set_option maxHeartbeats 4000000 in
theorem refs_any (l : List Op7) (g cap : Nat) (x : Addr) (w : World) (hl : ThingsAt w g l) (hn : l.length ≤ 36) (hcap : l.length ≤ cap) (hok : l.all okO = true)
    (he : w.cell? ⟨0, 0, none⟩ = some (.iface 200 (.pointer (some x)))) (h0 : 0 < w.heap.size) :
    Calls Tryd.prog 121 #[.slice (some ⟨g, 0, none⟩) l.length cap] w fun e w' =>
      ((l.all (refI l) = true ∧ ∃ M, e = .returned (.tuple #[.slice (some ⟨M, 0, none⟩) l.length l.length, .nilIface]) ∧ IntsAt w' M (l.map (plc l))) ∨
       (l.all (refI l) = false ∧ e = .returned (.tuple #[.slice none 0 0, .iface 200 (.pointer (some x))]))) ∧ Below w.heap.size w w' := by
  have hgw : g < w.heap.size := hl.1
  have HL0 : Hid (ThingsAt w g l) := hl
  have HO : Hid (l.all okO = true) := hok
  have HS := hideIt (cnt_sum l)
  have HP1 := cnt_nonneg l 1
  have HP2 := cnt_nonneg l 2
  have HP3 := cnt_nonneg l 3
  have b1 : Hid ((0 ≤ cnt l 1 ∧ cnt l 1 ≤ 1048576) ∧ (0 ≤ cnt l 2 ∧ cnt l 2 ≤ 1048576)) := by
    have := HS.out
    exact ⟨⟨by omega, by omega⟩, ⟨by omega, by omega⟩⟩
  clear hl hok HP1 HP2 HP3
  obtain ⟨i0, hi, hz0, hz1, hz2⟩ := info_parts infoInt
  have HI := hideIt hi
  have HZ0 := hideIt hz0
  have HZ1 := hideIt hz1
  have HZ2 := hideIt hz2
  clear hi hz0 hz1 hz2
  go_enter Tryd.func121, Tryd.ntmps121
  go_wp2_with (first
    | (go_at_call 104; refine (count_any l g cap _ HL0.out (by omega) hcap HO.out).mono ?_; rintro e w1 ⟨rfl, hseen, hfz1, hb1⟩; have HSE := hideIt hseen; have HB1 := hideIt hb1; have hz1 : w.heap.size < w1.heap.size := hseen.1; clear hseen hfz1 hb1)
    | (at_make; refine wpList_make_own _ rfl _ _ 33 rfl w1.heap.size 3 i0 _ 1 Tryd.underlying33 HI.out HZ0.out HZ1.out .i64 .i64 _ l.length rfl rfl rfl (by rw [HZ2.out]; omega) (by unfold maxLen; omega) (Nat.le_refl _) ?_; intro w2 hown hgrow))
  have hB2 : Below w1.heap.size w1 w2 := (Below.refl _ _).grown hgrow (Nat.le_refl _) (fun k h => by cases h)
  have hM : w1.heap.size < w2.heap.size := (hown.lt _ rfl).2
  have HS2 := hideIt (HSE.out.below hB2 hz1)
  have HB2 := hideIt (Bstep HB1.out hB2)
  generalize hMM : w1.heap.size = M at *
  have hMw : w.heap.size < M := hz1
  clear hgrow HSE HB1 hB2 hMM hz1
  go_loopw [5, 16] (fun v i wr => ∃ k : Nat, k ≤ l.length ∧ i = .int .i64 k ∧ v = .slice (some ⟨M, 0, none⟩) k l.length ∧ (∀ j (hj : j < l.length), j < k → refI l l[j] = true) ∧ wr.ownsRow M 3 1 (.slice (some ⟨M, 0, none⟩) k l.length) k (((l.take k).map (plc l)).map (Value.int .i64)) ∧ IntsAt wr w.heap.size [cnt l 1, cnt l 2, cnt l 3] ∧ Below w.heap.size w wr)
    (fun _ i _ => l.length - (intOf i).toNat)
  case atStart => exact ⟨0, Nat.zero_le _, rfl, rfl, fun j hj h => by omega, by simpa using hown, HS2.out, HB2.out⟩
  case round =>
    obtain ⟨k, hk, rfl, rfl, hno, hown', hse, hB⟩ := hrel
    have HN := hideIt hno
    have HW := hideIt hown'
    have HSE := hideIt hse
    have HB := hideIt hB
    have hMr : M < wr.heap.size := (hown'.lt _ rfl).2
    have hsr : w.heap.size < wr.heap.size := hse.1
    have HL := hideIt (HL0.out.below hB hgw)
    have hgr : g < wr.heap.size := HL.out.1
    clear hno hown' hse hB hown HS2 HB2
    by_cases hlt : k < l.length
    · have hth := HL.out.2 k l[k] (by simp [hlt])
      have hp0 : 0 < wr.heap.size := by omega
      have herr : wr.cell? ⟨0, 0, none⟩ = some (.iface 200 (.pointer (some x))) := by rw [(bcell HB.out).1 _ _ h0]; exact he
      have HC : Hid (Below wr.heap.size wr wr) := Below.refl _ _
      have hmap : Hid (((l.take (k + 1)).map (plc l)).map (Value.int .i64) = ((l.take k).map (plc l)).map (Value.int .i64) ++ [.int .i64 (plc l l[k])]) := by
        show ((l.take (k + 1)).map (plc l)).map (Value.int .i64) = _
        rw [List.take_succ_eq_append_getElem hlt, List.map_append, List.map_append]; rfl
      have hnext : Hid (refI l l[k] = true → ∀ j (hj : j < l.length), j < k + 1 → refI l l[j] = true) := fun hf j hj hj1 => by
        rcases Nat.lt_or_ge j k with h | h
        · exact HN.out j hj h
        · obtain rfl : j = k := by omega
          exact hf
      have hbadr : Hid (refI l l[k] = false → l.all (refI l) = false) := fun h => all_false hlt h
      obtain ⟨pv0, pv1⟩ := plc_lt l l[k]
      have HPV : Hid (placeI (cnt l 1) (cnt l 2) (cnt l 3) l[k].c l[k].d = plc l l[k]) := rfl
      have HRF : Hid (refI l l[k] = if plc l l[k] < 0 then noB l[k].c l[k].d else (match l[(plc l l[k]).toNat]? with | some p => p.k == 1 | none => false)) := rfl
      have hcs := thV_cases (all_iff.1 HO.out k hlt)
      generalize plc l l[k] = pv at *
      generalize l[k] = o at *
      obtain ⟨xa, xb, xk, xc, xd, xs, xg⟩ := o
      simp only at *
      have hlt' : (k : Int) < (l.length : Int) := by omega
      have hk0 : (0 : Int) ≤ (k : Int) := by omega
      have mA := Tryd.aboutPut
      have mB := Tryd.aboutTake
      by_cases hpn : pv < 0
      · have hge : decide (pv < 0) = true := decide_eq_true hpn
        cases hnb : noB xc xd
        · have HNB := hideIt hnb
          have HRI : Hid (refI l ⟨xa, xb, xk, xc, xd, xs, xg⟩ = false) := by show refI l _ = false; rw [HRF.out, if_pos hpn, HNB.out]
          clear hnb HRF
          rcases hcs with ⟨hc1, _⟩ | ⟨hc1, _⟩
          all_goals
            rw [hc1] at hth
            clear hc1
            go_wp2_with (first
              | (go_at_call 169; refine (about_any _ _ _ _ _).mono ?_; rintro e w' ⟨rfl, hb⟩; have HC := hideIt (Bstep HC.out hb); have hcg : ∀ o, w'.cell? ⟨g, o, none⟩ = wr.cell? ⟨g, o, none⟩ := (fun o => (bcell HC.out).1 _ _ hgr); have hcE : ∀ o, w'.cell? ⟨0, o, none⟩ = wr.cell? ⟨0, o, none⟩ := (fun o => (bcell HC.out).1 _ _ hp0); clear hb)
              | (go_at_call 129; refine (place_any _ _ _ _ _ _ _ (HSE.out.below HC.out hsr) b1.out.1 b1.out.2).mono ?_; rintro e w' ⟨rfl, hb⟩; rw [HPV.out]; have HC := hideIt (Bstep HC.out hb); have hcg : ∀ o, w'.cell? ⟨g, o, none⟩ = wr.cell? ⟨g, o, none⟩ := (fun o => (bcell HC.out).1 _ _ hgr); have hcE : ∀ o, w'.cell? ⟨0, o, none⟩ = wr.cell? ⟨0, o, none⟩ := (fun o => (bcell HC.out).1 _ _ hp0); clear hb)
              | (go_at_call 137; refine (nothing_any _ _ _).mono ?_; rintro e w' ⟨rfl, hb⟩; rw [HNB.out]; have HC := hideIt (Bstep HC.out hb); have hcg : ∀ o, w'.cell? ⟨g, o, none⟩ = wr.cell? ⟨g, o, none⟩ := (fun o => (bcell HC.out).1 _ _ hgr); have hcE : ∀ o, w'.cell? ⟨0, o, none⟩ = wr.cell? ⟨0, o, none⟩ := (fun o => (bcell HC.out).1 _ _ hp0); clear hb)
              | (go_at_call 138; refine (isPut_any _ HOP.out _).mono ?_; rintro e w' ⟨rfl, rfl⟩; rw [HNB.out])
              | (at_builtin; refine wpList_append_fits _ rfl _ _ 33 rfl M 3 i0 1 Tryd.underlying33 HI.out HZ1.out M k l.length (((l.take k).map (plc l)).map (Value.int .i64)) rfl (ownsRow_below HW.out (HC.out.trans ((Below.refl _ _).alloc HC.out.size _)) (own_lt hMr)) _ 1 1 [.int .i64 pv] rfl rfl (by rintro (_ | j) u hu <;> simp at hu; subst hu; simp [Addr.add, go_sem]) (by simp [Value.oneCell']) (by omega) ?_; intro w4 hown4 hgrow4))
            go_region
            go_wp2
            go_ret2
            exact ⟨.inr ⟨hbadr.out HRI.out, rfl⟩, by have := Bstep HB.out HC.out; go_grown⟩
        · have HNB := hideIt hnb
          have HRI : Hid (refI l ⟨xa, xb, xk, xc, xd, xs, xg⟩ = true) := by show refI l _ = true; rw [HRF.out, if_pos hpn, HNB.out]
          clear hnb HRF
          rcases hcs with ⟨hc1, _⟩ | ⟨hc1, _⟩
          all_goals
            rw [hc1] at hth
            clear hc1
            go_wp2_with (first
              | (go_at_call 169; refine (about_any _ _ _ _ _).mono ?_; rintro e w' ⟨rfl, hb⟩; have HC := hideIt (Bstep HC.out hb); have hcg : ∀ o, w'.cell? ⟨g, o, none⟩ = wr.cell? ⟨g, o, none⟩ := (fun o => (bcell HC.out).1 _ _ hgr); have hcE : ∀ o, w'.cell? ⟨0, o, none⟩ = wr.cell? ⟨0, o, none⟩ := (fun o => (bcell HC.out).1 _ _ hp0); clear hb)
              | (go_at_call 129; refine (place_any _ _ _ _ _ _ _ (HSE.out.below HC.out hsr) b1.out.1 b1.out.2).mono ?_; rintro e w' ⟨rfl, hb⟩; rw [HPV.out]; have HC := hideIt (Bstep HC.out hb); have hcg : ∀ o, w'.cell? ⟨g, o, none⟩ = wr.cell? ⟨g, o, none⟩ := (fun o => (bcell HC.out).1 _ _ hgr); have hcE : ∀ o, w'.cell? ⟨0, o, none⟩ = wr.cell? ⟨0, o, none⟩ := (fun o => (bcell HC.out).1 _ _ hp0); clear hb)
              | (go_at_call 137; refine (nothing_any _ _ _).mono ?_; rintro e w' ⟨rfl, hb⟩; rw [HNB.out]; have HC := hideIt (Bstep HC.out hb); have hcg : ∀ o, w'.cell? ⟨g, o, none⟩ = wr.cell? ⟨g, o, none⟩ := (fun o => (bcell HC.out).1 _ _ hgr); have hcE : ∀ o, w'.cell? ⟨0, o, none⟩ = wr.cell? ⟨0, o, none⟩ := (fun o => (bcell HC.out).1 _ _ hp0); clear hb)
              | (go_at_call 138; refine (isPut_any _ HOP.out _).mono ?_; rintro e w' ⟨rfl, rfl⟩; rw [HNB.out])
              | (at_builtin; refine wpList_append_fits _ rfl _ _ 33 rfl M 3 i0 1 Tryd.underlying33 HI.out HZ1.out M k l.length (((l.take k).map (plc l)).map (Value.int .i64)) rfl (ownsRow_below HW.out (HC.out.trans ((Below.refl _ _).alloc HC.out.size _)) (own_lt hMr)) _ 1 1 [.int .i64 pv] rfl rfl (by rintro (_ | j) u hu <;> simp at hu; subst hu; simp [Addr.add, go_sem]) (by simp [Value.oneCell']) (by omega) ?_; intro w4 hown4 hgrow4))
            have hB4 : Below w.heap.size w w4 := ((Bstep HB.out HC.out).alloc (by have := HC.out.size; omega) _).grown hgrow4 (by have := HC.out.size; simp; omega) (fun k h => by cases h; omega)
            have hS4 : IntsAt w4 w.heap.size [cnt l 1, cnt l 2, cnt l 3] := by
              refine (HSE.out.below (B := M) ?_ hMw)
              exact ((HC.out.mono (by omega)).alloc (by have := HC.out.size; omega) _).grown hgrow4 (by have := HC.out.size; simp; omega) (fun k h => by cases h; omega)
            exact ⟨⟨k + 1, by omega, by go_num, rfl, hnext.out HRI.out, by rw [hmap.out]; exact hown4, hS4, hB4⟩, by simp [intOf]; omega⟩
      · obtain ⟨n, rfl⟩ := Int.eq_ofNat_of_zero_le (show 0 ≤ pv by omega)
        have hn1 : n < l.length := by omega
        have hn2 : (n : Int) < (l.length : Int) := by omega
        have hn0 : (0 : Int) ≤ (n : Int) := by omega
        have hpt := HL.out.2 n l[n] (by simp [hn1])
        have HOP := hideIt (all_iff.1 HO.out n hn1)
        have HRF2 : Hid (refI l ⟨xa, xb, xk, xc, xd, xs, xg⟩ = (l[n].k == 1)) := by show refI l _ = _; rw [HRF.out, if_neg hpn]; simp [hn1]
        generalize l[n] = p at *
        cases hnb : (p.k == 1)
        · have HNB := hideIt hnb
          have HRI : Hid (refI l ⟨xa, xb, xk, xc, xd, xs, xg⟩ = false) := by show refI l _ = false; rw [HRF2.out, HNB.out]
          clear hnb HRF HRF2
          rcases hcs with ⟨hc1, _⟩ | ⟨hc1, _⟩
          all_goals
            rw [hc1] at hth
            clear hc1
            go_wp2_with (first
              | (go_at_call 169; refine (about_any _ _ _ _ _).mono ?_; rintro e w' ⟨rfl, hb⟩; have HC := hideIt (Bstep HC.out hb); have hcg : ∀ o, w'.cell? ⟨g, o, none⟩ = wr.cell? ⟨g, o, none⟩ := (fun o => (bcell HC.out).1 _ _ hgr); have hcE : ∀ o, w'.cell? ⟨0, o, none⟩ = wr.cell? ⟨0, o, none⟩ := (fun o => (bcell HC.out).1 _ _ hp0); clear hb)
              | (go_at_call 129; refine (place_any _ _ _ _ _ _ _ (HSE.out.below HC.out hsr) b1.out.1 b1.out.2).mono ?_; rintro e w' ⟨rfl, hb⟩; rw [HPV.out]; have HC := hideIt (Bstep HC.out hb); have hcg : ∀ o, w'.cell? ⟨g, o, none⟩ = wr.cell? ⟨g, o, none⟩ := (fun o => (bcell HC.out).1 _ _ hgr); have hcE : ∀ o, w'.cell? ⟨0, o, none⟩ = wr.cell? ⟨0, o, none⟩ := (fun o => (bcell HC.out).1 _ _ hp0); clear hb)
              | (go_at_call 137; refine (nothing_any _ _ _).mono ?_; rintro e w' ⟨rfl, hb⟩; rw [HNB.out]; have HC := hideIt (Bstep HC.out hb); have hcg : ∀ o, w'.cell? ⟨g, o, none⟩ = wr.cell? ⟨g, o, none⟩ := (fun o => (bcell HC.out).1 _ _ hgr); have hcE : ∀ o, w'.cell? ⟨0, o, none⟩ = wr.cell? ⟨0, o, none⟩ := (fun o => (bcell HC.out).1 _ _ hp0); clear hb)
              | (go_at_call 138; refine (isPut_any _ HOP.out _).mono ?_; rintro e w' ⟨rfl, rfl⟩; rw [HNB.out])
              | (at_builtin; refine wpList_append_fits _ rfl _ _ 33 rfl M 3 i0 1 Tryd.underlying33 HI.out HZ1.out M k l.length (((l.take k).map (plc l)).map (Value.int .i64)) rfl (ownsRow_below HW.out (HC.out.trans ((Below.refl _ _).alloc HC.out.size _)) (own_lt hMr)) _ 1 1 [.int .i64 (n : Int)] rfl rfl (by rintro (_ | j) u hu <;> simp at hu; subst hu; simp [Addr.add, go_sem]) (by simp [Value.oneCell']) (by omega) ?_; intro w4 hown4 hgrow4))
            go_region
            go_wp2
            go_ret2
            exact ⟨.inr ⟨hbadr.out HRI.out, rfl⟩, by have := Bstep HB.out HC.out; go_grown⟩
        · have HNB := hideIt hnb
          have HRI : Hid (refI l ⟨xa, xb, xk, xc, xd, xs, xg⟩ = true) := by show refI l _ = true; rw [HRF2.out, HNB.out]
          clear hnb HRF HRF2
          rcases hcs with ⟨hc1, _⟩ | ⟨hc1, _⟩
          all_goals
            rw [hc1] at hth
            clear hc1
            go_wp2_with (first
              | (go_at_call 169; refine (about_any _ _ _ _ _).mono ?_; rintro e w' ⟨rfl, hb⟩; have HC := hideIt (Bstep HC.out hb); have hcg : ∀ o, w'.cell? ⟨g, o, none⟩ = wr.cell? ⟨g, o, none⟩ := (fun o => (bcell HC.out).1 _ _ hgr); have hcE : ∀ o, w'.cell? ⟨0, o, none⟩ = wr.cell? ⟨0, o, none⟩ := (fun o => (bcell HC.out).1 _ _ hp0); clear hb)
              | (go_at_call 129; refine (place_any _ _ _ _ _ _ _ (HSE.out.below HC.out hsr) b1.out.1 b1.out.2).mono ?_; rintro e w' ⟨rfl, hb⟩; rw [HPV.out]; have HC := hideIt (Bstep HC.out hb); have hcg : ∀ o, w'.cell? ⟨g, o, none⟩ = wr.cell? ⟨g, o, none⟩ := (fun o => (bcell HC.out).1 _ _ hgr); have hcE : ∀ o, w'.cell? ⟨0, o, none⟩ = wr.cell? ⟨0, o, none⟩ := (fun o => (bcell HC.out).1 _ _ hp0); clear hb)
              | (go_at_call 137; refine (nothing_any _ _ _).mono ?_; rintro e w' ⟨rfl, hb⟩; rw [HNB.out]; have HC := hideIt (Bstep HC.out hb); have hcg : ∀ o, w'.cell? ⟨g, o, none⟩ = wr.cell? ⟨g, o, none⟩ := (fun o => (bcell HC.out).1 _ _ hgr); have hcE : ∀ o, w'.cell? ⟨0, o, none⟩ = wr.cell? ⟨0, o, none⟩ := (fun o => (bcell HC.out).1 _ _ hp0); clear hb)
              | (go_at_call 138; refine (isPut_any _ HOP.out _).mono ?_; rintro e w' ⟨rfl, rfl⟩; rw [HNB.out])
              | (at_builtin; refine wpList_append_fits _ rfl _ _ 33 rfl M 3 i0 1 Tryd.underlying33 HI.out HZ1.out M k l.length (((l.take k).map (plc l)).map (Value.int .i64)) rfl (ownsRow_below HW.out (HC.out.trans ((Below.refl _ _).alloc HC.out.size _)) (own_lt hMr)) _ 1 1 [.int .i64 (n : Int)] rfl rfl (by rintro (_ | j) u hu <;> simp at hu; subst hu; simp [Addr.add, go_sem]) (by simp [Value.oneCell']) (by omega) ?_; intro w4 hown4 hgrow4))
            have hB4 : Below w.heap.size w w4 := ((Bstep HB.out HC.out).alloc (by have := HC.out.size; omega) _).grown hgrow4 (by have := HC.out.size; simp; omega) (fun k h => by cases h; omega)
            have hS4 : IntsAt w4 w.heap.size [cnt l 1, cnt l 2, cnt l 3] := by
              refine (HSE.out.below (B := M) ?_ hMw)
              exact ((HC.out.mono (by omega)).alloc (by have := HC.out.size; omega) _).grown hgrow4 (by have := HC.out.size; simp; omega) (fun k h => by cases h; omega)
            exact ⟨⟨k + 1, by omega, by go_num, rfl, hnext.out HRI.out, by rw [hmap.out]; exact hown4, hS4, hB4⟩, by simp [intOf]; omega⟩
    · obtain rfl : k = l.length := by omega
      go_wp2
      go_ret2
      exact ⟨.inl ⟨all_iff.2 fun j hj => HN.out j hj hj, M, rfl, ints_of_owns (base := M) (n := l.length) (cap := l.length) (by simp) (by have h := HW.out; rw [List.take_length] at h; exact h)⟩, HB.out⟩
end Go.Proofs.YtficnhlkefpfnaaDoor

namespace Go.Proofs.YtficnhlkefpfnaaDoor
open Go.RowKit
set_option linter.unusedSimpArgs false
set_option linter.unusedVariables false

set_option maxRecDepth 100000 in
set_option maxHeartbeats 1000000 in
theorem inOrder_any (l : List Op7) (g cap : Nat) (w : World) (hl : ThingsAt w g l) (hn : l.length ≤ 1048576) (hcap : l.length ≤ cap) (hok : l.all okO = true) :
    Calls Tryd.prog 120 #[.slice (some ⟨g, 0, none⟩) l.length cap] w fun e w' => e = .returned (.bool (ordB l)) ∧ Below w.heap.size w w' := by
  have hgw : g < w.heap.size := hl.1
  have HL0 : Hid (ThingsAt w g l) := hl
  have HO : Hid (l.all okO = true) := hok
  clear hl hok
  go_enter Tryd.func120, Tryd.ntmps120
  go_wp2
  go_loopw [11] (fun i wr => ∃ k : Nat, k ≤ l.length ∧ i = .int .i64 k ∧ (∀ j, j < k → stepAt l j = true) ∧ wr.cell? ⟨w.heap.size, 0, none⟩ = some (.int .i64 (prevA l k)) ∧ wr.cell? ⟨w.heap.size, 1, none⟩ = some (.int .i64 (prevB l k)) ∧ (∀ j, wr.frozen? ⟨w.heap.size, j, none⟩ = false) ∧ w.heap.size < wr.heap.size ∧ Below w.heap.size w wr)
    (fun i _ => l.length - (intOf i).toNat)
  case atStart => exact ⟨0, Nat.zero_le _, rfl, fun j h => by omega, by simp [go_sem, prevA], by simp [go_sem, prevB], fun j => by simp [go_sem], by simp, by go_grown⟩
  case round =>
    obtain ⟨k, hk, rfl, hno, q0, q1, hfz, hws, hB⟩ := hrel
    have HN : Hid (∀ j, j < k → stepAt l j = true) := hno
    have HB : Hid (Below w.heap.size w wr) := hB
    have HL : Hid (ThingsAt wr g l) := HL0.out.below hB hgw
    have hgr : g < wr.heap.size := HL.out.1
    clear hno hB
    by_cases hlt : k < l.length
    · have hnext : Hid (stepAt l k = true → ∀ j, j < k + 1 → stepAt l j = true) := fun hf j hj1 => by
        rcases Nat.lt_or_ge j k with h | h
        · exact HN.out j h
        · obtain rfl : j = k := by omega
          exact hf
      have hbad : Hid (stepAt l k = false → ordB l = false) := ord_false hlt
      have h0 := HL.out.2 k l[k] (by simp [hlt])
      obtain ⟨ha1, ha3, hb1, hb12⟩ := okO_id (all_iff.1 HO.out k hlt)
      obtain ⟨pa0, pa3, pb0, pb12⟩ := prevA_le HO.out k hk
      have hpv : Hid (prevA l (k + 1) = l[k].a ∧ prevB l (k + 1) = l[k].b) := prev_succ hlt
      have hst : Hid (stepAt l k = stepB (prevA l k) (prevB l k) l[k].a l[k].b) := step_at hlt
      have hcs := thV_cases (all_iff.1 HO.out k hlt)
      generalize l[k] = o at *
      obtain ⟨xa, xb, xk, xc, xd, xs, xg⟩ := o
      simp only at *
      generalize prevA l k = pa at *
      generalize prevB l k = pb at *
      have hlt' : (k : Int) < (l.length : Int) := by omega
      have hk0 : (0 : Int) ≤ (k : Int) := by omega
      rcases hcs with ⟨hth, _⟩ | ⟨hth, _⟩
      · rw [hth] at h0
        clear hth
        have mO := Tryd.ownPut
        go_wp2_with (first | (go_at_call 170; refine (own_any _ _ _ _ _).mono ?_; rintro e w2 ⟨rfl, hb2⟩; have HB2 : Hid (Below w.heap.size w w2) := Bstep HB.out hb2; have hcb : ∀ o, w2.cell? ⟨w.heap.size, o, none⟩ = wr.cell? ⟨w.heap.size, o, none⟩ := (fun o => (bcell hb2).1 _ _ hws); have hfb : ∀ o, w2.frozen? ⟨w.heap.size, o, none⟩ = wr.frozen? ⟨w.heap.size, o, none⟩ := (fun o => (bcell hb2).2 _ _ hws); have hws2 : w.heap.size < w2.heap.size := Nat.lt_of_lt_of_le hws hb2.size; have hne2 : ¬ w.heap.size = w2.heap.size := (by omega); have hne3 : ¬ w.heap.size = w2.heap.size + 1 := (by omega); clear hb2))
        all_goals
          have hbel := HB2.out
          obtain ⟨hpv1, hpv2⟩ := hpv.out
        all_goals first
          | (go_ret; exact ⟨ret_bool (hbad.out (hst.out.trans (stepB_false (by omega)))).symm, by go_grown⟩)
          | (refine ⟨⟨k + 1, by omega, by go_num, hnext.out (hst.out.trans (stepB_true (by omega))), ?_, ?_, ?_, ?_, ?_⟩, by simp [intOf]; omega⟩
             · rw [hpv1]; simp [hcb, q0, q1, go_sem, hne2, hne3, *]
             · rw [hpv2]; simp [hcb, q0, q1, go_sem, hne2, hne3, *]
             · intro j; simp [frozen?_alloc_cells, hfb, hfz]
             · simp; omega
             · go_grown)
      · rw [hth] at h0
        clear hth
        have mO := Tryd.ownTake
        go_wp2_with (first | (go_at_call 170; refine (own_any _ _ _ _ _).mono ?_; rintro e w2 ⟨rfl, hb2⟩; have HB2 : Hid (Below w.heap.size w w2) := Bstep HB.out hb2; have hcb : ∀ o, w2.cell? ⟨w.heap.size, o, none⟩ = wr.cell? ⟨w.heap.size, o, none⟩ := (fun o => (bcell hb2).1 _ _ hws); have hfb : ∀ o, w2.frozen? ⟨w.heap.size, o, none⟩ = wr.frozen? ⟨w.heap.size, o, none⟩ := (fun o => (bcell hb2).2 _ _ hws); have hws2 : w.heap.size < w2.heap.size := Nat.lt_of_lt_of_le hws hb2.size; have hne2 : ¬ w.heap.size = w2.heap.size := (by omega); have hne3 : ¬ w.heap.size = w2.heap.size + 1 := (by omega); clear hb2))
        all_goals
          have hbel := HB2.out
          obtain ⟨hpv1, hpv2⟩ := hpv.out
        all_goals first
          | (go_ret; exact ⟨ret_bool (hbad.out (hst.out.trans (stepB_false (by omega)))).symm, by go_grown⟩)
          | (refine ⟨⟨k + 1, by omega, by go_num, hnext.out (hst.out.trans (stepB_true (by omega))), ?_, ?_, ?_, ?_, ?_⟩, by simp [intOf]; omega⟩
             · rw [hpv1]; simp [hcb, q0, q1, go_sem, hne2, hne3, *]
             · rw [hpv2]; simp [hcb, q0, q1, go_sem, hne2, hne3, *]
             · intro j; simp [frozen?_alloc_cells, hfb, hfz]
             · simp; omega
             · go_grown)
    · obtain rfl : k = l.length := by omega
      go_wp2
      go_ret
      exact ⟨ret_bool (by rw [ord_iff.2 (fun j hj => HN.out j (by omega))]), HB.out⟩
end Go.Proofs.YtficnhlkefpfnaaDoor

namespace Go.Proofs.YtficnhlkefpfnaaDoor
open Go.RowKit
set_option linter.unusedSimpArgs false
set_option linter.unusedVariables false

/-- One comes below 0 within n steps. -/
def cnF (xs : List Int) : Nat → Int → Bool
  | 0, _ => false
  | n + 1, p => if xs.getD p.toNat 0 < 0 then true else cnF xs n (xs.getD p.toNat 0)
/-- Each number is below 0, or a place. -/
def placesB (xs : List Int) : Prop := ∀ (i : Nat) (hi : i < xs.length), -1 ≤ xs[i] ∧ xs[i] < xs.length

set_option maxHeartbeats 1000000 in
theorem comes_any (xs : List Int) (g cap : Nat) (p : Int) (w : World) (hl : IntsAt w g xs) (hn : xs.length ≤ 1048576) (hcap : xs.length ≤ cap) (hxs : placesB xs) (hp0 : 0 ≤ p) (hp1 : p < xs.length) :
    Calls Tryd.prog 139 #[.slice (some ⟨g, 0, none⟩) xs.length cap, .int .i64 p] w fun e w' => e = .returned (.bool (cnF xs xs.length p)) ∧ w' = w := by
  generalize hres : cnF xs xs.length p = res
  have HX : Hid (placesB xs) := hxs
  have HL : Hid (IntsAt w g xs) := hl
  clear hl hxs
  go_enter Tryd.func139, Tryd.ntmps139
  go_wp2
  go_loop [1, 7] (fun q i => ∃ (k : Nat) (p : Int), k ≤ xs.length ∧ i = .int .i64 k ∧ q = .int .i64 p ∧ 0 ≤ p ∧ p < xs.length ∧ cnF xs (xs.length - k) p = res) (fun _ i => xs.length - (intOf i).toNat)
  case atStart => exact ⟨0, p, Nat.zero_le _, rfl, rfl, hp0, hp1, hres⟩
  case round =>
    obtain ⟨k, p, hk, rfl, rfl, q0, q1, hq⟩ := hrel
    have HQ : Hid (cnF xs (xs.length - k) p = res) := hq
    clear hq hres
    by_cases hlt : k < xs.length
    · obtain ⟨n, rfl⟩ := Int.eq_ofNat_of_zero_le q0
      have hn' : n < xs.length := by omega
      have h0 := HL.out.2 n xs[n] (by simp [hn'])
      obtain ⟨b0, b1⟩ := HX.out n hn'
      have hstep : Hid (cnF xs (xs.length - k) (n : Int) = if xs[n] < 0 then true else cnF xs (xs.length - (k + 1)) xs[n]) := by
        show cnF xs (xs.length - k) (n : Int) = _
        rw [show xs.length - k = (xs.length - (k + 1)) + 1 from by omega]
        simp [cnF, hn']
      generalize xs[n] = x at *
      have hlt' : (k : Int) < (xs.length : Int) := by omega
      have hk0 : (0 : Int) ≤ (k : Int) := by omega
      by_cases hx : x < 0
      · have hfin : Hid (res = true) := by show res = true; rw [← HQ.out, hstep.out, if_pos hx]
        go_wp2
        go_ret
        exact ⟨ret_bool hfin.out.symm, rfl⟩
      · have hfin : Hid (cnF xs (xs.length - (k + 1)) x = res) := by show cnF xs (xs.length - (k + 1)) x = res; rw [← HQ.out, hstep.out, if_neg hx]
        have hx0 : 0 ≤ x := by omega
        go_wp2
        go_round
        case rel => exact ⟨k + 1, x, by omega, by go_num, rfl, hx0, b1, hfin.out⟩
        case measure => simp [intOf]; omega
    · obtain rfl : k = xs.length := by omega
      have hfin : Hid (res = false) := by show res = false; rw [← HQ.out]; simp [cnF]
      go_wp2
      go_ret
      exact ⟨ret_bool hfin.out.symm, rfl⟩

set_option maxHeartbeats 1000000 in
theorem circle_any (xs : List Int) (g cap : Nat) (w : World) (hl : IntsAt w g xs) (hn : xs.length ≤ 1048576) (hcap : xs.length ≤ cap) (hxs : placesB xs) :
    Calls Tryd.prog 122 #[.slice (some ⟨g, 0, none⟩) xs.length cap] w fun e w' => e = .returned (.bool (!(List.range xs.length).all (fun i => cnF xs xs.length i))) ∧ w' = w := by
  generalize hres : (!(List.range xs.length).all (fun i => cnF xs xs.length i)) = res
  have HR : Hid ((!(List.range xs.length).all (fun i => cnF xs xs.length i)) = res) := hres
  have HX : Hid (placesB xs) := hxs
  have HL : Hid (IntsAt w g xs) := hl
  clear hl hxs hres
  go_enter Tryd.func122, Tryd.ntmps122
  go_wp2
  go_loop [6] (fun i => ∃ (k : Nat), k ≤ xs.length ∧ i = .int .i64 k ∧ ∀ j : Nat, j < k → cnF xs xs.length j = true) (fun i => xs.length - (intOf i).toNat)
  case atStart => exact ⟨0, Nat.zero_le _, rfl, fun j h => by omega⟩
  case round =>
    obtain ⟨k, hk, rfl, hq⟩ := hrel
    have HQ : Hid (∀ j : Nat, j < k → cnF xs xs.length j = true) := hq
    clear hq
    by_cases hlt : k < xs.length
    · have hlt' : (k : Int) < (xs.length : Int) := by omega
      have hk0 : (0 : Int) ≤ (k : Int) := by omega
      cases hc : cnF xs xs.length (k : Int)
      all_goals
        have HC := hideIt hc
        clear hc
        go_wp2_with (first | (go_at_call 139; refine (comes_any xs g cap _ _ HL.out hn hcap HX.out hk0 hlt').mono ?_; rintro e w' ⟨rfl, rfl⟩; rw [HC.out]))
      · go_ret
        refine ⟨ret_bool ?_, rfl⟩
        rw [← HR.out]
        cases ha : (List.range xs.length).all (fun i => cnF xs xs.length i)
        · rfl
        · have := (List.all_eq_true.1 ha) k (by simpa using hlt)
          rw [HC.out] at this
          cases this
      · go_round
        case rel => exact ⟨k + 1, by omega, by go_num, fun j hj => by
          rcases Nat.lt_or_ge j k with h | h
          · exact HQ.out j h
          · obtain rfl : j = k := by omega
            exact HC.out⟩
        case measure => simp [intOf]; omega
    · obtain rfl : k = xs.length := by omega
      go_wp2
      go_ret
      refine ⟨ret_bool ?_, rfl⟩
      rw [← HR.out, List.all_eq_true.2 (fun j hj => HQ.out j (by simpa using hj))]
      rfl
end Go.Proofs.YtficnhlkefpfnaaDoor

namespace Go.Proofs.YtficnhlkefpfnaaDoor
open Go.RowKit
set_option linter.unusedSimpArgs false
set_option linter.unusedVariables false

/-- What was done is ok, as the program asks it. -/
def thB (l : List Op7) : Bool := decide (l.length ≤ 36) && (l.all okO && (ordB l && (l.all (refI l) && (List.range l.length).all (fun i => cnF (l.map (plc l)) l.length i))))

theorem places_plc (l : List Op7) : placesB (l.map (plc l)) := fun i hi => by
  have := plc_lt l (l[i]'(by simpa using hi))
  simpa using this

theorem infoThing : (Tryd.prog.info? 137).map (fun i => (i.zero, i.size, i.bytes)) = some (some .nilIface, 1, 16) := by kernel_rfl
theorem things_of_owns {w : World} {base M n cap : Nat} {l : List Op7} (hn : n = l.length) (h : w.ownsRow base 137 1 (.slice (some ⟨M, 0, none⟩) n cap) n (l.map thV)) : ThingsAt w M l := by
  subst hn
  refine ⟨(h.lt M rfl).2, fun i x hx => ?_⟩
  have hi : i < l.length := (List.getElem?_eq_some_iff.1 hx).1
  rw [h.cellAt i (by omega)]
  simp [hx]
theorem thV_one (o : Op7) : (thV o).oneCell' = true := by
  unfold thV; split <;> rfl

/-- thingOf at a thing in form. -/
theorem thingOf_yes (o : Op7) (h : okO o = true) (w : World) :
    Calls Tryd.prog 119 #[.agg #[.int .i64 o.a, .int .i64 o.b, .int .i64 o.k, .int .i64 o.c, .int .i64 o.d, .int .i64 o.s, .int .i64 o.g]] w fun e w' => e = .returned (.tuple #[thV o, .nilIface]) ∧ Below w.heap.size w w' := by
  have h' := h
  unfold okO at h'
  rw [opB_true] at h'
  obtain ⟨h1, h2, h3⟩ := h'
  rcases thV_cases h with ⟨e1, e2⟩ | ⟨e1, e2⟩
  · rcases h3 with h3 | h3
    · rw [e1, e2]; exact thingOf_put _ _ _ _ _ _ _ (idB_true.2 h1) h2 (decide_eq_true h3.2)
    · omega
  · rcases h3 with h3 | h3
    · omega
    · rw [e1, e2]; exact thingOf_take _ _ _ _ _ _ _ (idB_true.2 h1) h2 (decide_eq_true h3.2)

theorem cir_any (l : List Op7) (M : Nat) (w : World) (hl : IntsAt w M (l.map (plc l))) (hn : l.length ≤ 1048576) :
    Calls Tryd.prog 122 #[.slice (some ⟨M, 0, none⟩) l.length l.length] w fun e w' => e = .returned (.bool (!(List.range l.length).all (fun i => cnF (l.map (plc l)) l.length i))) ∧ w' = w := by
  have h := circle_any (l.map (plc l)) M l.length w hl (by simpa using hn) (by simp) (places_plc l)
  simp only [List.length_map] at h
  exact h

set_option maxRecDepth 100000 in
set_option maxHeartbeats 4000000 in
theorem things_any (l : List Op7) (g cap : Nat) (x : Addr) (w : World) (hl : OpsAt w g l) (hn : l.length ≤ 1048576) (hcap : l.length ≤ cap)
    (he : w.cell? ⟨0, 0, none⟩ = some (.iface 200 (.pointer (some x)))) (h0 : 0 < w.heap.size) :
    Calls Tryd.prog 97 #[.slice (some ⟨g, 0, none⟩) l.length cap] w fun e w' =>
      ((thB l = true ∧ ∃ M, w.heap.size ≤ M ∧ e = .returned (.tuple #[.slice (some ⟨M, 0, none⟩) l.length l.length, .nilIface]) ∧ ThingsAt w' M l) ∨
       (thB l = false ∧ e = .returned (.tuple #[.slice none 0 0, .iface 200 (.pointer (some x))]))) ∧ Below w.heap.size w w' := by
  have hgw : g < w.heap.size := hl.1
  have HL0 : Hid (OpsAt w g l) := hl
  clear hl
  by_cases h36 : l.length ≤ 36
  · obtain ⟨i0, hi, hz0, hz1, hz2⟩ := info_parts infoThing
    have HI := hideIt hi
    have HZ0 := hideIt hz0
    have HZ1 := hideIt hz1
    have HZ2 := hideIt hz2
    clear hi hz0 hz1 hz2
    go_enter Tryd.func97, Tryd.ntmps97
    go_wp2_with (first
      | (at_make; refine wpList_make_own _ rfl _ _ 118 rfl w.heap.size 137 i0 _ 1 Tryd.underlying118 HI.out HZ0.out HZ1.out .i64 .i64 _ l.length rfl rfl rfl (by rw [HZ2.out]; omega) (by unfold maxLen; omega) (Nat.le_refl _) ?_; intro w2 hown hgrow))
    have hB2 : Below w.heap.size w w2 := (Below.refl _ _).grown hgrow (Nat.le_refl _) (fun k h => by cases h)
    have hM : w.heap.size < w2.heap.size := (hown.lt _ rfl).2
    clear hgrow
    go_loopw [4, 20] (fun v i wr => ∃ k : Nat, k ≤ l.length ∧ i = .int .i64 k ∧ v = .slice (some ⟨w.heap.size, 0, none⟩) k l.length ∧ (∀ j (hj : j < l.length), j < k → okO l[j] = true) ∧ wr.ownsRow w.heap.size 137 1 (.slice (some ⟨w.heap.size, 0, none⟩) k l.length) k ((l.take k).map thV) ∧ Below w.heap.size w wr)
      (fun _ i _ => l.length - (intOf i).toNat)
    case atStart => exact ⟨0, Nat.zero_le _, rfl, rfl, fun j hj h => by omega, by simpa using hown, hB2⟩
    case round =>
      obtain ⟨k, hk, rfl, rfl, hno, hown', hB⟩ := hrel
      have HN := hideIt hno
      have HW := hideIt hown'
      have HB := hideIt hB
      have hMr : w.heap.size < wr.heap.size := (hown'.lt _ rfl).2
      have HL := hideIt (HL0.out.below hB hgw)
      have hgr : g < wr.heap.size := HL.out.1
      have hp0 : 0 < wr.heap.size := by omega
      have herr : wr.cell? ⟨0, 0, none⟩ = some (.iface 200 (.pointer (some x))) := by rw [(bcell HB.out).1 _ _ h0]; exact he
      clear hno hown' hB hown hB2
      by_cases hlt : k < l.length
      · obtain ⟨c0, c1, c2, c3, c4, c5, c6⟩ := HL.out.2 k l[k] (by simp [hlt])
        have hmap : Hid ((l.take (k + 1)).map thV = (l.take k).map thV ++ [thV l[k]]) := by
          show (l.take (k + 1)).map thV = _
          rw [List.take_succ_eq_append_getElem hlt, List.map_append]; rfl
        have hnext : Hid (okO l[k] = true → ∀ j (hj : j < l.length), j < k + 1 → okO l[j] = true) := fun hf j hj hj1 => by
          rcases Nat.lt_or_ge j k with h | h
          · exact HN.out j hj h
          · obtain rfl : j = k := by omega
            exact hf
        have hbadr : Hid (okO l[k] = false → thB l = false) := fun h => by unfold thB; rw [all_false hlt h]; simp
        generalize l[k] = o at *
        have hlt' : (k : Int) < (l.length : Int) := by omega
        have hk0 : (0 : Int) ≤ (k : Int) := by omega
        cases hoo : okO o
        · have HO := hideIt hoo
          clear hoo
          go_wp2_with (first
            | (go_at_call 119; refine (thingOf_no _ _ _ _ _ _ _ x _ ?_ ?_ HO.out).mono ?_; (rw [World.cell?_alloc_lt _ _ _ hp0]; exact herr); (simp); rintro e w3 ⟨rfl, hb3⟩; have HC := hideIt hb3; clear hb3))
          have hB3 : Below wr.heap.size wr w3 := ((Below.refl _ _).alloc (Nat.le_refl _) _).trans (HC.out.mono (by simp))
          go_ret2
          exact ⟨.inr ⟨hbadr.out HO.out, rfl⟩, Bstep HB.out hB3⟩
        · have HO := hideIt hoo
          clear hoo
          rcases thV_cases HO.out with ⟨hc1, -⟩ | ⟨hc1, -⟩
          all_goals
            have HC1 := hideIt hc1
            clear hc1
            go_wp2_with (first
              | (go_at_call 119; refine (thingOf_yes o HO.out _).mono ?_; rintro e w3 ⟨rfl, hb3⟩; rw [HC1.out]; have HC : Hid (Below wr.heap.size wr w3) := ((Below.refl _ _).alloc (Nat.le_refl _) _).trans (hb3.mono (by simp)); clear hb3)
              | (at_builtin; refine wpList_append_fits _ rfl _ _ 118 rfl w.heap.size 137 i0 1 Tryd.underlying118 HI.out HZ1.out w.heap.size k l.length ((l.take k).map thV) rfl (ownsRow_below HW.out (HC.out.trans ((Below.refl _ _).alloc HC.out.size _)) (own_lt hMr)) _ 1 1 [thV o] rfl rfl (by rintro (_ | j) u hu <;> simp at hu; subst hu; rw [HC1.out]; simp [Addr.add, go_sem]) (by simp [thV_one]) (by omega) ?_; intro w4 hown4 hgrow4))
            have hB4 : Below w.heap.size w w4 := ((Bstep HB.out HC.out).alloc (by have := HC.out.size; omega) _).grown hgrow4 (by have := HC.out.size; simp; omega) (fun k h => by cases h; exact Nat.le_refl _)
            exact ⟨⟨k + 1, by omega, by go_num, rfl, hnext.out HO.out, by rw [hmap.out]; exact hown4, hB4⟩, by simp [intOf]; omega⟩
      · obtain rfl : k = l.length := by omega
        have HOK : Hid (l.all okO = true) := all_iff.2 fun j hj => HN.out j hj hj
        have HT : Hid (ThingsAt wr w.heap.size l) := things_of_owns (base := w.heap.size) (n := l.length) (cap := l.length) rfl (by have h := HW.out; rw [List.take_length] at h; exact h)
        clear HN HW hk hlt
        go_wp2_with fail
        refine (inOrder_any l w.heap.size l.length _ HT.out hn (Nat.le_refl _) HOK.out).mono ?_
        rintro e w3 ⟨rfl, hb3⟩
        have HB3 : Hid (Below w.heap.size w w3) := Bstep HB.out hb3
        have HT3 : Hid (ThingsAt w3 w.heap.size l) := HT.out.below hb3 hMr
        have hz3 : w.heap.size < w3.heap.size := HT3.out.1
        have hp3 : 0 < w3.heap.size := by omega
        have herr3 : w3.cell? ⟨0, 0, none⟩ = some (.iface 200 (.pointer (some x))) := by rw [(bcell HB3.out).1 _ _ h0]; exact he
        clear hb3 HT HB HL hgr herr hp0 hMr
        cases hord : ordB l
        · have HR := hideIt hord
          clear hord
          go_wp2
          go_region
          go_wp2
          go_ret2
          exact ⟨.inr ⟨by unfold thB; rw [HR.out]; simp, rfl⟩, by have := HB3.out; go_grown⟩
        · have HR := hideIt hord
          clear hord
          go_wp2_with fail
          refine (refs_any l w.heap.size l.length x _ HT3.out h36 (Nat.le_refl _) HOK.out herr3 hp3).mono ?_
          rintro e w4 ⟨(⟨hrf, M2, rfl, hI⟩ | ⟨hrf, rfl⟩), hb4⟩
          · have HRF := hideIt hrf
            have HI4 := hideIt hI
            have HB4 : Hid (Below w.heap.size w w4) := Bstep HB3.out hb4
            have HT4 : Hid (ThingsAt w4 w.heap.size l) := HT3.out.below hb4 hz3
            have hp4 : 0 < w4.heap.size := by have := HT4.out.1; omega
            have herr4 : w4.cell? ⟨0, 0, none⟩ = some (.iface 200 (.pointer (some x))) := by rw [(bcell HB4.out).1 _ _ h0]; exact he
            clear hrf hI hb4 HB3 HT3 herr3 hp3 hz3
            cases hcy : (List.range l.length).all (fun i => cnF (l.map (plc l)) l.length i)
            · have HCY := hideIt hcy
              clear hcy
              go_wp2_with (first
                | (go_at_call 122; refine (cir_any l M2 _ HI4.out hn).mono ?_; rintro e w5 ⟨rfl, rfl⟩; rw [HCY.out]))
              go_region
              go_wp2
              go_ret2
              exact ⟨.inr ⟨by unfold thB; rw [HCY.out]; simp, rfl⟩, by have := HB4.out; go_grown⟩
            · have HCY := hideIt hcy
              clear hcy
              go_wp2_with (first
                | (go_at_call 122; refine (cir_any l M2 _ HI4.out hn).mono ?_; rintro e w5 ⟨rfl, rfl⟩; rw [HCY.out]))
              go_ret2
              exact ⟨.inl ⟨by unfold thB; rw [HOK.out, HR.out, HRF.out, HCY.out]; simp [h36], w.heap.size, Nat.le_refl _, rfl, HT4.out⟩, HB4.out⟩
          · have HRF := hideIt hrf
            have HB4 : Hid (Below w.heap.size w w4) := Bstep HB3.out hb4
            clear hrf hb4
            go_wp2
            go_ret2
            exact ⟨.inr ⟨by unfold thB; rw [HRF.out]; simp, rfl⟩, HB4.out⟩
  · go_enter Tryd.func97, Tryd.ntmps97
    have h36' : (36 : Int) < (l.length : Int) := by omega
    go_wp2
    go_region
    go_wp2
    go_ret2
    exact ⟨.inr ⟨by unfold thB; rw [decide_eq_false h36]; rfl, rfl⟩, by go_grown⟩
end Go.Proofs.YtficnhlkefpfnaaDoor

namespace Go.Proofs.YtficnhlkefpfnaaDoor
open Go.RowKit
set_option linter.unusedSimpArgs false
set_option linter.unusedVariables false

/-- Where what a thing refers to stands, if it is there. -/
theorem next_some {l : List Op7} {o p : Op7} (h : nextO l o = some p) : ∃ i : Nat, ∃ hi : i < l.length, findI l o.c o.d = i ∧ l[i] = p := by
  unfold nextO at h
  unfold findI
  cases hf : l.findIdx? (hasId o.c o.d) with
  | none => rw [hf] at h; cases h
  | some i =>
    rw [hf] at h
    simp only at h
    obtain ⟨hi, he⟩ := List.getElem?_eq_some_iff.1 h
    exact ⟨i, hi, rfl, he⟩
theorem next_none {l : List Op7} {o : Op7} (h : nextO l o = none) : findI l o.c o.d = -1 := by
  unfold nextO at h
  unfold findI
  cases hf : l.findIdx? (hasId o.c o.d) with
  | none => rfl
  | some i =>
    rw [hf] at h
    simp only at h
    obtain ⟨hi, _⟩ := List.findIdx?_eq_some_iff_getElem.1 hf
    rw [List.getElem?_eq_getElem hi] at h
    cases h

set_option maxHeartbeats 1000000 in
theorem l1Refs_any (l : List Op7) (g cap : Nat) (o : Op7) (w : World) (hl : OpsAt w g l) (hn : l.length ≤ 1048576) (hcap : l.length ≤ cap) :
    Calls Tryd.prog 91 #[.slice (some ⟨g, 0, none⟩) l.length cap, .agg #[.int .i64 o.a, .int .i64 o.b, .int .i64 o.k, .int .i64 o.c, .int .i64 o.d, .int .i64 o.s, .int .i64 o.g]] w fun e w' => e = .returned (.bool (refsB l o)) ∧ Below w.heap.size w w' := by
  have HL : Hid (OpsAt w g l) := hl
  have hgw : g < w.heap.size := hl.1
  have Hres : Hid (refsB l o = (noB o.c o.d || (match nextO l o with | some p => p.k == 1 | none => false))) := rfl
  cases hx : nextO l o with
  | none =>
    have hfi : Hid (findI l o.c o.d = -1) := next_none hx
    rw [hx] at Hres
    clear hx hl
    obtain ⟨oa, ob, ok, oc, od, os', og⟩ := o
    simp only at *
    by_cases hz : oc = 0 ∧ od = 0
    · obtain ⟨rfl, rfl⟩ := hz
      go_enter Tryd.func91, Tryd.ntmps91
      go_wp2_with (first
        | (go_at_call 75; refine (l1Find_any l g cap _ _ _ ?_ hn hcap).mono ?_; (exact HL.out.below ((Below.refl _ _).alloc (Nat.le_refl _) _) hgw); rintro e w' ⟨rfl, hb⟩; rw [hfi.out]; have hB : Below w.heap.size w w' := Bstep (by go_grown) hb; have hlt : w.heap.size < w'.heap.size := (by have := hb.size; (try simp at this); omega); obtain ⟨hc, hf⟩ := bcell hb; clear hb))
      go_ret
      exact ⟨ret_bool (by rw [Hres.out]; simp [noB]), by first | assumption | go_grown⟩
    · have hzz : ¬ oc = 0 ∨ ¬ od = 0 := by omega
      by_cases hz1 : oc = 0
      · subst hz1
        have hz2 : ¬ od = 0 := by omega
        clear hz hzz
        go_enter Tryd.func91, Tryd.ntmps91
        go_wp2_with (first
          | (go_at_call 75; refine (l1Find_any l g cap _ _ _ ?_ hn hcap).mono ?_; (exact HL.out.below ((Below.refl _ _).alloc (Nat.le_refl _) _) hgw); rintro e w' ⟨rfl, hb⟩; rw [hfi.out]; have hB : Below w.heap.size w w' := Bstep (by go_grown) hb; have hlt : w.heap.size < w'.heap.size := (by have := hb.size; (try simp at this); omega); obtain ⟨hc, hf⟩ := bcell hb; clear hb))
        go_ret
        exact ⟨ret_bool (by rw [Hres.out]; simp [noB, hz2]), by first | assumption | go_grown⟩
      · clear hz hzz
        go_enter Tryd.func91, Tryd.ntmps91
        go_wp2_with (first
          | (go_at_call 75; refine (l1Find_any l g cap _ _ _ ?_ hn hcap).mono ?_; (exact HL.out.below ((Below.refl _ _).alloc (Nat.le_refl _) _) hgw); rintro e w' ⟨rfl, hb⟩; rw [hfi.out]; have hB : Below w.heap.size w w' := Bstep (by go_grown) hb; have hlt : w.heap.size < w'.heap.size := (by have := hb.size; (try simp at this); omega); obtain ⟨hc, hf⟩ := bcell hb; clear hb))
        go_ret
        exact ⟨ret_bool (by rw [Hres.out]; simp [noB, hz1]), by first | assumption | go_grown⟩
  | some p =>
    obtain ⟨i, hi, hfi', hp⟩ := next_some hx
    have hfi : Hid (findI l o.c o.d = i) := hfi'
    have hget : Hid (l[i]? = some p) := by show l[i]? = some p; rw [List.getElem?_eq_getElem hi, hp]
    rw [hx] at Hres
    clear hx hl hfi' hp
    obtain ⟨oa, ob, ok, oc, od, os', og⟩ := o
    obtain ⟨pa, pb, pk, pc, pd, ps, pg⟩ := p
    simp only at *
    have hi1 : (i : Int) < (l.length : Int) := by omega
    have hi0 : (0 : Int) ≤ (i : Int) := by omega
    by_cases hz : oc = 0 ∧ od = 0
    · obtain ⟨rfl, rfl⟩ := hz
      go_enter Tryd.func91, Tryd.ntmps91
      go_wp2_with (first
        | (go_at_call 75; refine (l1Find_any l g cap _ _ _ ?_ hn hcap).mono ?_; (exact HL.out.below ((Below.refl _ _).alloc (Nat.le_refl _) _) hgw); rintro e w' ⟨rfl, hb⟩; rw [hfi.out]; have hB : Below w.heap.size w w' := Bstep (by go_grown) hb; have hkc : w'.cell? ⟨g, i * 7 + 2, none⟩ = some (.int .i64 pk) := ((HL.out.below hB hgw).2 i _ hget.out).2.2.1; have hlt : w.heap.size < w'.heap.size := (by have := hb.size; (try simp at this); omega); obtain ⟨hc, hf⟩ := bcell hb; clear hb))
      go_ret
      exact ⟨ret_bool (by rw [Hres.out]; simp [noB]), by first | assumption | go_grown⟩
    · by_cases hz1 : oc = 0
      · subst hz1
        have hz2 : ¬ od = 0 := by omega
        clear hz
        go_enter Tryd.func91, Tryd.ntmps91
        go_wp2_with (first
          | (go_at_call 75; refine (l1Find_any l g cap _ _ _ ?_ hn hcap).mono ?_; (exact HL.out.below ((Below.refl _ _).alloc (Nat.le_refl _) _) hgw); rintro e w' ⟨rfl, hb⟩; rw [hfi.out]; have hB : Below w.heap.size w w' := Bstep (by go_grown) hb; have hkc : w'.cell? ⟨g, i * 7 + 2, none⟩ = some (.int .i64 pk) := ((HL.out.below hB hgw).2 i _ hget.out).2.2.1; have hlt : w.heap.size < w'.heap.size := (by have := hb.size; (try simp at this); omega); obtain ⟨hc, hf⟩ := bcell hb; clear hb))
        go_ret
        exact ⟨ret_bool (by rw [Hres.out]; simp [noB, hz2]), by first | assumption | go_grown⟩
      · clear hz
        go_enter Tryd.func91, Tryd.ntmps91
        go_wp2_with (first
          | (go_at_call 75; refine (l1Find_any l g cap _ _ _ ?_ hn hcap).mono ?_; (exact HL.out.below ((Below.refl _ _).alloc (Nat.le_refl _) _) hgw); rintro e w' ⟨rfl, hb⟩; rw [hfi.out]; have hB : Below w.heap.size w w' := Bstep (by go_grown) hb; have hkc : w'.cell? ⟨g, i * 7 + 2, none⟩ = some (.int .i64 pk) := ((HL.out.below hB hgw).2 i _ hget.out).2.2.1; have hlt : w.heap.size < w'.heap.size := (by have := hb.size; (try simp at this); omega); obtain ⟨hc, hf⟩ := bcell hb; clear hb))
        go_ret
        exact ⟨ret_bool (by rw [Hres.out]; simp [noB, hz1]), by first | assumption | go_grown⟩

set_option maxHeartbeats 1000000 in
theorem l1Deep_any (l : List Op7) (g cap : Nat) (o : Op7) (w : World) (hl : OpsAt w g l) (hn : l.length ≤ 1048576) (hcap : l.length ≤ cap) (ho : refsB l o = true) (hall : l.all (refsB l) = true) :
    Calls Tryd.prog 92 #[.slice (some ⟨g, 0, none⟩) l.length cap, .agg #[.int .i64 o.a, .int .i64 o.b, .int .i64 o.k, .int .i64 o.c, .int .i64 o.d, .int .i64 o.s, .int .i64 o.g]] w fun e w' => e = .returned (.bool (deepF l (l.length + 1) o)) ∧ Below w.heap.size w w' := by
  have hgw : g < w.heap.size := hl.1
  generalize hres : deepF l (l.length + 1) o = res
  go_enter Tryd.func92, Tryd.ntmps92
  go_wp2
  go_loopw [5] (fun i wr => ∃ (k : Nat) (q : Op7), k ≤ l.length + 1 ∧ i = .int .i64 k ∧ deepF l (l.length + 1 - k) q = res ∧ refsB l q = true ∧ w.heap.size < wr.heap.size ∧ (∀ j, wr.frozen? ⟨w.heap.size, j, none⟩ = false) ∧
      wr.cell? ⟨w.heap.size, 0, none⟩ = some (.int .i64 q.a) ∧ wr.cell? ⟨w.heap.size, 1, none⟩ = some (.int .i64 q.b) ∧ wr.cell? ⟨w.heap.size, 2, none⟩ = some (.int .i64 q.k) ∧ wr.cell? ⟨w.heap.size, 3, none⟩ = some (.int .i64 q.c) ∧ wr.cell? ⟨w.heap.size, 4, none⟩ = some (.int .i64 q.d) ∧ wr.cell? ⟨w.heap.size, 5, none⟩ = some (.int .i64 q.s) ∧ wr.cell? ⟨w.heap.size, 6, none⟩ = some (.int .i64 q.g) ∧ Below w.heap.size w wr)
    (fun i _ => l.length + 1 - (intOf i).toNat)
  case atStart => exact ⟨0, o, Nat.zero_le _, rfl, hres, ho, by simp, fun j => by simp [go_sem], by simp [go_sem], by simp [go_sem], by simp [go_sem], by simp [go_sem], by simp [go_sem], by simp [go_sem], by simp [go_sem], by go_grown⟩
  case round =>
    obtain ⟨k, q, hk, rfl, hq, hrq, hws, hfz, c0, c1, c2, c3, c4, c5, c6, hB⟩ := hrel
    have HL : Hid (OpsAt wr g l) := hl.below hB hgw
    have hgr : g < wr.heap.size := HL.out.1
    have HB : Hid (Below w.heap.size w wr) := hB
    have HA : Hid (l.all (refsB l) = true) := hall
    have HQ : Hid (deepF l (l.length + 1 - k) q = res) := hq
    have HR : Hid (refsB l q = true) := hrq
    clear hB hl hall ho hres hq hrq
    by_cases hlt : k < l.length + 1
    · obtain ⟨f, hf⟩ : ∃ f, l.length + 1 - k = f + 1 := ⟨l.length - k, by omega⟩
      have hle : (k : Int) ≤ (l.length : Int) := by omega
      by_cases hz : q.c = 0 ∧ q.d = 0
      · have hfin : Hid (res = true) := by
          show res = true
          have := HQ.out; rw [hf] at this; rw [← this]; simp [deepF, noB, hz.1, hz.2]
        obtain ⟨hz1, hz2⟩ := hz
        rw [hz1] at c3
        rw [hz2] at c4
        clear hz1 hz2
        go_wp2
        go_ret
        exact ⟨ret_bool hfin.out.symm, by first | exact HB.out | go_grown⟩
      · have hzb : noB q.c q.d = false := decide_eq_false hz
        have hnx : ∃ p, nextO l q = some p := by
          have := HR.out
          unfold refsB at this
          rw [hzb] at this
          cases hx : nextO l q with
          | none => rw [hx] at this; cases this
          | some p => exact ⟨p, rfl⟩
        obtain ⟨p, hp⟩ := hnx
        obtain ⟨i, hi, hfi', hpi⟩ := next_some hp
        have hfi : Hid (findI l q.c q.d = i) := hfi'
        have hget : Hid (l[i]? = some p) := by show l[i]? = some p; rw [List.getElem?_eq_getElem hi, hpi]
        have hnext : Hid (deepF l (l.length + 1 - (k + 1)) p = res) := by
          show deepF l (l.length + 1 - (k + 1)) p = res
          have := HQ.out; rw [hf] at this
          rw [show l.length + 1 - (k + 1) = f from by omega, ← this]
          simp [deepF, hzb, hp]
        have hrp : Hid (refsB l p = true) := by show refsB l p = true; rw [← hpi]; exact all_iff.1 HA.out i hi
        clear hzb hp hfi' hpi HQ HR hf
        have hi1 : (i : Int) < (l.length : Int) := by omega
        have hi0 : (0 : Int) ≤ (i : Int) := by omega
        obtain ⟨qa, qb, qk, qc, qd, qs, qg⟩ := q
        simp only at *
        by_cases hz1 : qc = 0
        · subst hz1
          have hz2 : ¬ qd = 0 := by omega
          clear hz
          go_wp2_with (first
            | (go_at_call 75; refine (l1Find_any l g cap _ _ _ HL.out hn hcap).mono ?_; rintro e w2 ⟨rfl, hb⟩; rw [hfi.out]; have HB2 : Hid (Below wr.heap.size wr w2) := hb; obtain ⟨e0, e1, e2, e3, e4, e5, e6⟩ := (HL.out.below hb hgr).2 i _ hget.out; have hcb : ∀ o, w2.cell? ⟨w.heap.size, o, none⟩ = wr.cell? ⟨w.heap.size, o, none⟩ := (fun o => (bcell hb).1 _ _ hws); have hfb : ∀ o, w2.frozen? ⟨w.heap.size, o, none⟩ = wr.frozen? ⟨w.heap.size, o, none⟩ := (fun o => (bcell hb).2 _ _ hws); clear hb))
          have hw2 : w.heap.size < w2.heap.size := Nat.lt_of_lt_of_le hws HB2.out.size
          refine ⟨⟨k + 1, p, by omega, by go_num, hnext.out, hrp.out, by simpa using hw2, fun j => by simp [hfb, hfz], by simp [hcb, c0, c1, c2, c3, c4, c5, c6, go_sem], by simp [hcb, c0, c1, c2, c3, c4, c5, c6, go_sem], by simp [hcb, c0, c1, c2, c3, c4, c5, c6, go_sem], by simp [hcb, c0, c1, c2, c3, c4, c5, c6, go_sem], by simp [hcb, c0, c1, c2, c3, c4, c5, c6, go_sem], by simp [hcb, c0, c1, c2, c3, c4, c5, c6, go_sem], by simp [hcb, c0, c1, c2, c3, c4, c5, c6, go_sem], ?_⟩, by simp [intOf]; omega⟩
          exact (((((((Bstep HB.out HB2.out).setCell (Nat.le_refl _) _).setCell (Nat.le_refl _) _).setCell (Nat.le_refl _) _).setCell (Nat.le_refl _) _).setCell (Nat.le_refl _) _).setCell (Nat.le_refl _) _).setCell (Nat.le_refl _) _
        · clear hz
          go_wp2_with (first
            | (go_at_call 75; refine (l1Find_any l g cap _ _ _ HL.out hn hcap).mono ?_; rintro e w2 ⟨rfl, hb⟩; rw [hfi.out]; have HB2 : Hid (Below wr.heap.size wr w2) := hb; obtain ⟨e0, e1, e2, e3, e4, e5, e6⟩ := (HL.out.below hb hgr).2 i _ hget.out; have hcb : ∀ o, w2.cell? ⟨w.heap.size, o, none⟩ = wr.cell? ⟨w.heap.size, o, none⟩ := (fun o => (bcell hb).1 _ _ hws); have hfb : ∀ o, w2.frozen? ⟨w.heap.size, o, none⟩ = wr.frozen? ⟨w.heap.size, o, none⟩ := (fun o => (bcell hb).2 _ _ hws); clear hb))
          have hw2 : w.heap.size < w2.heap.size := Nat.lt_of_lt_of_le hws HB2.out.size
          refine ⟨⟨k + 1, p, by omega, by go_num, hnext.out, hrp.out, by simpa using hw2, fun j => by simp [hfb, hfz], by simp [hcb, c0, c1, c2, c3, c4, c5, c6, go_sem], by simp [hcb, c0, c1, c2, c3, c4, c5, c6, go_sem], by simp [hcb, c0, c1, c2, c3, c4, c5, c6, go_sem], by simp [hcb, c0, c1, c2, c3, c4, c5, c6, go_sem], by simp [hcb, c0, c1, c2, c3, c4, c5, c6, go_sem], by simp [hcb, c0, c1, c2, c3, c4, c5, c6, go_sem], by simp [hcb, c0, c1, c2, c3, c4, c5, c6, go_sem], ?_⟩, by simp [intOf]; omega⟩
          exact (((((((Bstep HB.out HB2.out).setCell (Nat.le_refl _) _).setCell (Nat.le_refl _) _).setCell (Nat.le_refl _) _).setCell (Nat.le_refl _) _).setCell (Nat.le_refl _) _).setCell (Nat.le_refl _) _).setCell (Nat.le_refl _) _
    · have hk' : k = l.length + 1 := by omega
      subst hk'
      have hfin : Hid (res = false) := by
        show res = false
        have := HQ.out; rw [← this]; simp [deepF]
      clear HQ HR
      go_wp2
      go_ret
      exact ⟨ret_bool hfin.out.symm, by first | exact HB.out | go_grown⟩
end Go.Proofs.YtficnhlkefpfnaaDoor

namespace Go.Proofs.YtficnhlkefpfnaaDoor

theorem rep_ascends {l : List Op7} (hord : ordB l = true) : ∀ (j : Nat) (hj : j < l.length) (i : Nat) (hi : i ≤ j), (l[i]'(by omega)).a ≤ l[j].a := by
  intro j
  induction j with
  | zero => intro hj i hi; obtain rfl : i = 0 := by omega
            exact Int.le_refl _
  | succ j ih =>
    intro hj i hi
    rcases Nat.lt_or_ge i (j + 1) with h | h
    · have h1 := ih (by omega) i (by omega)
      have h2 := ord_iff.1 hord (j + 1) hj
      rw [step_succ hj] at h2
      have h3 := of_decide_eq_true h2
      omega
    · obtain rfl : i = j + 1 := by omega
      exact Int.le_refl _

theorem cntTo_zero_of {l : List Op7} {r : Int} (k : Nat) (hk : k ≤ l.length) (h : ∀ i (hi : i < l.length), i < k → l[i].a ≠ r) : cntTo l k r = 0 := by
  induction k with
  | zero => exact cntTo_zero _ _
  | succ k ih =>
    rw [cntTo_other (by omega) (h k (by omega) (by omega))]
    exact ih (by omega) (fun i hi hik => h i hi (by omega))

/-- A thing's number is one more than how many of its Rep stand ahead. -/
theorem num_is {l : List Op7} (hok : l.all okO = true) (hord : ordB l = true) : ∀ (j : Nat) (hj : j < l.length), l[j].b = cntTo l j l[j].a + 1 := by
  intro j
  induction j with
  | zero =>
    intro hj
    have h1 := ord_iff.1 hord 0 hj
    rw [step_zero hj] at h1
    have h2 := of_decide_eq_true h1
    have h3 := okO_id (all_iff.1 hok 0 hj)
    rw [cntTo_zero]
    omega
  | succ j ih =>
    intro hj
    have h1 := ord_iff.1 hord (j + 1) hj
    rw [step_succ hj] at h1
    have h2 := of_decide_eq_true h1
    have h3 := ih (by omega)
    rcases h2 with ⟨h2, h4⟩ | ⟨h2, h4⟩
    · rw [cntTo_zero_of (j + 1) (by omega) (fun i hi hij => by have := rep_ascends hord j (by omega) i (by omega); omega)]
      omega
    · rw [h4, h3, h2, cntTo_same (by omega) h2]

/-- How many of the first k things are of a lesser Rep. -/
def lessTo (l : List Op7) (k : Nat) (r : Int) : Int := (if 1 < r then cntTo l k 1 else 0) + (if 2 < r then cntTo l k 2 else 0)

theorem all_three {l : List Op7} (hok : l.all okO = true) (k : Nat) (hk : k ≤ l.length) : cntTo l k 1 + cntTo l k 2 + cntTo l k 3 = k := by
  induction k with
  | zero => simp [cntTo_zero]
  | succ k ih =>
    have h := okO_id (all_iff.1 hok k (by omega))
    have := ih (by omega)
    obtain e | e | e : l[k].a = 1 ∨ l[k].a = 2 ∨ l[k].a = 3 := by omega
    · rw [cntTo_same (by omega) e, cntTo_other (r := 2) (by omega) (by omega), cntTo_other (r := 3) (by omega) (by omega)]; omega
    · rw [cntTo_same (by omega) e, cntTo_other (r := 1) (by omega) (by omega), cntTo_other (r := 3) (by omega) (by omega)]; omega
    · rw [cntTo_same (by omega) e, cntTo_other (r := 1) (by omega) (by omega), cntTo_other (r := 2) (by omega) (by omega)]; omega

/-- Behind a thing of a greater Rep none of a lesser one comes. -/
theorem cnt_stays {l : List Op7} (hord : ordB l = true) {j : Nat} (hj : j < l.length) {r : Int} (hr : r < l[j].a) : cnt l r = cntTo l j r := by
  rw [← cntTo_len]
  have h : ∀ k, j ≤ k → k ≤ l.length → cntTo l k r = cntTo l j r := by
    intro k
    induction k with
    | zero => intro h _; obtain rfl : j = 0 := by omega
              rfl
    | succ k ih =>
      intro h1 h2
      rcases Nat.lt_or_ge k j with h | h
      · obtain rfl : j = k + 1 := by omega
        rfl
      · have := rep_ascends hord k (by omega) j h
        rw [cntTo_other (by omega) (by omega)]
        exact ih h (by omega)
  exact h _ (by omega) (Nat.le_refl _)

theorem cnt_mono {l : List Op7} (r : Int) : ∀ (k j : Nat), j ≤ k → k ≤ l.length → cntTo l j r ≤ cntTo l k r := by
  intro k
  induction k with
  | zero => intro j h _; obtain rfl : j = 0 := by omega
            exact Int.le_refl _
  | succ k ih =>
    intro j h1 h2
    rcases Nat.lt_or_ge k j with h | h
    · obtain rfl : j = k + 1 := by omega
      exact Int.le_refl _
    · have h3 := ih j h (by omega)
      by_cases e : l[k].a = r
      · rw [cntTo_same (by omega) e]; omega
      · rw [cntTo_other (by omega) e]; exact h3

/-- The place of a thing that is there. -/
theorem place_of {l : List Op7} (hok : l.all okO = true) (hord : ordB l = true) {j : Nat} (hj : j < l.length) : placeI (cnt l 1) (cnt l 2) (cnt l 3) l[j].a l[j].b = j := by
  have hid := okO_id (all_iff.1 hok j hj)
  have hn := num_is hok hord j hj
  have h3 := all_three hok j (by omega)
  have hidB : idB l[j].a l[j].b = true := idB_true.2 hid
  have hle : cntTo l j l[j].a + 1 ≤ cnt l l[j].a := by
    rw [← cntTo_len, ← cntTo_same hj rfl]
    exact cnt_mono _ _ _ (by omega) (Nat.le_refl _)
  unfold placeI seenAt
  obtain e | e | e : l[j].a = 1 ∨ l[j].a = 2 ∨ l[j].a = 3 := by omega
  · rw [e] at hle hn
    have z2 := cntTo_zero_of (l := l) (r := 2) j (by omega) (fun i hi hij => by have := rep_ascends hord j hj i (by omega); omega)
    have z3 := cntTo_zero_of (l := l) (r := 3) j (by omega) (fun i hi hij => by have := rep_ascends hord j hj i (by omega); omega)
    rw [if_pos ⟨hidB, by rw [if_pos e]; omega⟩, if_pos e]
    omega
  · rw [e] at hle hn
    have z3 := cntTo_zero_of (l := l) (r := 3) j (by omega) (fun i hi hij => by have := rep_ascends hord j hj i (by omega); omega)
    have z1 := cnt_stays hord hj (r := 1) (by omega)
    rw [if_pos ⟨hidB, by rw [if_neg (by omega), if_pos e]; omega⟩, if_neg (by omega), if_pos e]
    omega
  · rw [e] at hle hn
    have z1 := cnt_stays hord hj (r := 1) (by omega)
    have z2 := cnt_stays hord hj (r := 2) (by omega)
    rw [if_pos ⟨hidB, by rw [if_neg (by omega), if_neg (by omega)]; omega⟩, if_neg (by omega), if_neg (by omega)]
    omega

/-- The n-th thing of somebody is there. -/
theorem there_is {l : List Op7} {r n : Int} (h1 : 1 ≤ n) : ∀ (k : Nat), k ≤ l.length → n ≤ cntTo l k r → ∃ j, ∃ hj : j < l.length, l[j].a = r ∧ cntTo l j r = n - 1 := by
  intro k
  induction k with
  | zero => intro _ h; rw [cntTo_zero] at h; omega
  | succ k ih =>
    intro hk h
    by_cases hc : n ≤ cntTo l k r
    · exact ih (by omega) hc
    · by_cases e : l[k].a = r
      · rw [cntTo_same (by omega) e] at h
        exact ⟨k, by omega, e, by omega⟩
      · rw [cntTo_other (by omega) e] at h
        omega

/-- What is found by an id is what its place tells. -/
theorem find_place {l : List Op7} (hok : l.all okO = true) (hord : ordB l = true) (r m : Int) : findI l r m = placeI (cnt l 1) (cnt l 2) (cnt l 3) r m := by
  unfold findI
  cases hf : l.findIdx? (hasId r m) with
  | some i =>
    obtain ⟨hi, h1, _⟩ := List.findIdx?_eq_some_iff_getElem.1 hf
    simp only [hasId, Bool.and_eq_true, beq_iff_eq] at h1
    have := place_of hok hord hi
    rw [h1.1, h1.2] at this
    exact this.symm
  | none =>
    simp only
    unfold placeI
    by_cases hc : idB r m = true ∧ m ≤ seenAt (cnt l 1) (cnt l 2) (cnt l 3) r
    · exfalso
      obtain ⟨hid, hle⟩ := hc
      have hid' := idB_true.1 hid
      have hcnt : m ≤ cnt l r := by
        unfold seenAt at hle
        obtain rfl | rfl | rfl : r = 1 ∨ r = 2 ∨ r = 3 := by omega
        · simpa using hle
        · simpa using hle
        · simpa using hle
      rw [← cntTo_len] at hcnt
      obtain ⟨j, hj, e1, e2⟩ := there_is (by omega) l.length (Nat.le_refl _) hcnt
      have hn := num_is hok hord j hj
      rw [e1, e2] at hn
      have := List.findIdx?_eq_none_iff.1 hf l[j] (List.getElem_mem hj)
      simp [hasId, e1, hn] at this
    · rw [if_neg hc]

theorem len_le {l : List Op7} (hok : l.all okO = true) (hord : ordB l = true) : l.length ≤ 36 := by
  have h := all_three hok l.length (Nat.le_refl _)
  have hb : ∀ r, cntTo l l.length r ≤ 12 := by
    intro r
    rcases Int.lt_or_le 12 (cntTo l l.length r) with h1 | h1
    · exfalso
      obtain ⟨j, hj, e1, e2⟩ := there_is (n := 13) (r := r) (by omega) l.length (Nat.le_refl _) (by omega)
      have hn := num_is hok hord j hj
      have := okO_id (all_iff.1 hok j hj)
      rw [e1, e2] at hn
      omega
    · exact h1
  have h1 := hb 1
  have h2 := hb 2
  have h3 := hb 3
  omega

theorem countP_lt {p q : Nat → Bool} : ∀ {l : List Nat}, (∀ x ∈ l, p x = true → q x = true) → (∃ x ∈ l, p x = false ∧ q x = true) → l.countP p < l.countP q := by
  intro l
  induction l with
  | nil => intro _ h; obtain ⟨x, hx, _⟩ := h; cases hx
  | cons y t ih =>
    intro h1 h2
    rw [List.countP_cons, List.countP_cons]
    have hle : t.countP p ≤ t.countP q := List.countP_mono_left (fun x hx => h1 x (List.mem_cons_of_mem _ hx))
    obtain ⟨x, hx, e1, e2⟩ := h2
    rcases List.mem_cons.1 hx with rfl | hx
    · simp [e1, e2]; omega
    · have := ih (fun x hx => h1 x (List.mem_cons_of_mem _ hx)) ⟨x, hx, e1, e2⟩
      have h3 := h1 y (by simp)
      cases hp : p y
      · cases hq : q y <;> simp <;> omega
      · rw [h3 hp]; simp; omega

theorem cnF_mono (xs : List Int) : ∀ (n : Nat) (p : Int), cnF xs n p = true → cnF xs (n + 1) p = true := by
  intro n
  induction n with
  | zero => intro p h; simp [cnF] at h
  | succ n ih =>
    intro p h
    rw [cnF] at h ⊢
    by_cases hx : xs.getD p.toNat 0 < 0
    · rw [if_pos hx]
    · rw [if_neg hx] at h ⊢
      exact ih _ h

theorem stable_next {xs : List Int} (hp : placesB xs) {n : Nat} (h : ∀ i : Nat, i < xs.length → cnF xs (n + 1) i = cnF xs n i) : ∀ i : Nat, i < xs.length → cnF xs (n + 2) i = cnF xs (n + 1) i := by
  intro i hi
  have hx : xs.getD (i : Int).toNat 0 = xs[i] := by simp [hi]
  have e : ∀ n, cnF xs (n + 1) (i : Int) = if xs[i] < 0 then true else cnF xs n xs[i] := fun n => by rw [cnF, hx]
  rw [e (n + 1), e n]
  obtain ⟨b0, b1⟩ := hp i hi
  by_cases hn : xs[i] < 0
  · rw [if_pos hn, if_pos hn]
  · rw [if_neg hn, if_neg hn]
    obtain ⟨k, hk⟩ := Int.eq_ofNat_of_zero_le (show 0 ≤ xs[i] by omega)
    rw [hk]
    exact h k (by omega)

theorem stable_on {xs : List Int} (hp : placesB xs) {m : Nat} (h : ∀ i : Nat, i < xs.length → cnF xs (m + 1) i = cnF xs m i) : ∀ n, m ≤ n → ∀ i : Nat, i < xs.length → cnF xs (n + 1) i = cnF xs n i := by
  intro n
  induction n with
  | zero => intro hm; obtain rfl : m = 0 := by omega
            exact h
  | succ n ih =>
    intro hm
    rcases Nat.lt_or_ge m (n + 1) with h1 | h1
    · exact stable_next hp (ih (by omega))
    · obtain rfl : m = n + 1 := by omega
      exact h

/-- A way that is longer than there are places comes to no more. -/
theorem stable_len {xs : List Int} (hp : placesB xs) : ∀ i : Nat, i < xs.length → cnF xs (xs.length + 1) i = cnF xs xs.length i := by
  have claim : ∀ n, (∃ m, m ≤ n ∧ ∀ i : Nat, i < xs.length → cnF xs (m + 1) i = cnF xs m i) ∨ n ≤ (List.range xs.length).countP (fun i : Nat => cnF xs n (i : Int)) := by
    intro n
    induction n with
    | zero => exact .inr (Nat.zero_le _)
    | succ n ih =>
      rcases ih with ⟨m, hm, h⟩ | h
      · exact .inl ⟨m, by omega, h⟩
      · by_cases hs : ∀ i : Nat, i < xs.length → cnF xs (n + 1) i = cnF xs n i
        · exact .inl ⟨n, by omega, hs⟩
        · refine .inr ?_
          have hex : ∃ i : Nat, i < xs.length ∧ cnF xs (n + 1) i ≠ cnF xs n i := by
            refine Classical.byContradiction fun hno => hs fun i hi => ?_
            exact Classical.byContradiction fun hne => hno ⟨i, hi, hne⟩
          obtain ⟨i, hi, hne⟩ := hex
          have h1 : cnF xs n (i : Int) = false := by
            cases hc : cnF xs n (i : Int)
            · rfl
            · exact absurd ((cnF_mono xs n i hc).trans hc.symm) hne
          have h2 : cnF xs (n + 1) (i : Int) = true := by
            cases hc : cnF xs (n + 1) (i : Int)
            · exact absurd (hc.trans h1.symm) hne
            · rfl
          have := countP_lt (p := fun i : Nat => cnF xs n (i : Int)) (q := fun i : Nat => cnF xs (n + 1) (i : Int)) (l := List.range xs.length) (fun x _ hx => cnF_mono xs n x hx) ⟨i, by simpa using hi, h1, h2⟩
          omega
  rcases claim xs.length with ⟨m, hm, h⟩ | h
  · exact stable_on hp h _ hm
  · intro i hi
    have hall : (List.range xs.length).countP (fun i : Nat => cnF xs xs.length (i : Int)) = (List.range xs.length).length := by
      have := List.countP_le_length (p := fun i => cnF xs xs.length ((i : Nat) : Int)) (l := List.range xs.length)
      simp at this ⊢
      omega
    have ht := List.countP_eq_length.1 hall i (by simpa using hi)
    rw [ht]
    exact cnF_mono _ _ _ ht

theorem plc_find {l : List Op7} (hok : l.all okO = true) (hord : ordB l = true) (o : Op7) : plc l o = findI l o.c o.d := (find_place hok hord _ _).symm

theorem find_zero {l : List Op7} (hok : l.all okO = true) : findI l 0 0 = -1 :=
  findI_none fun o ho => by
    obtain ⟨j, hj, rfl⟩ := List.getElem_of_mem ho
    have := okO_id (all_iff.1 hok j hj)
    simp [hasId]
    omega

theorem refs_same {l : List Op7} (hok : l.all okO = true) (hord : ordB l = true) (o : Op7) : refI l o = refsB l o := by
  unfold refI refsB
  rw [plc_find hok hord]
  cases hz : noB o.c o.d
  · cases hx : nextO l o with
    | none => rw [next_none hx]; simp
    | some p =>
      obtain ⟨i, hi, hf, hp⟩ := next_some hx
      rw [hf, if_neg (by omega)]
      simp [hi, hp]
  · have h := of_decide_eq_true hz
    rw [h.1, h.2, find_zero hok]
    simp

theorem deep_same {l : List Op7} (hok : l.all okO = true) (hord : ordB l = true) (hr : l.all (refsB l) = true) : ∀ (n i : Nat) (hi : i < l.length), deepF l n l[i] = cnF (l.map (plc l)) n i := by
  intro n
  induction n with
  | zero => intro i hi; rfl
  | succ n ih =>
    intro i hi
    have hx : (l.map (plc l)).getD (i : Int).toNat 0 = findI l l[i].c l[i].d := by
      rw [← plc_find hok hord]; simp [hi]
    rw [cnF, hx, deepF]
    cases hz : noB l[i].c l[i].d
    · have h := all_iff.1 hr i hi
      unfold refsB at h
      rw [hz] at h
      cases hn : nextO l l[i] with
      | none => rw [hn] at h; cases h
      | some p =>
        obtain ⟨j, hj, hf, hp⟩ := next_some hn
        rw [if_neg (by simp), hf, if_neg (by omega)]
        simp only
        rw [← hp]
        exact ih j hj
    · have h := of_decide_eq_true hz
      rw [h.1, h.2, find_zero hok]
      simp

/-- What the program asks is what the specification asks. -/
theorem th_same (l : List Op7) : thB l = opsB l := by
  unfold thB opsB
  cases hok : l.all okO
  · simp
  · cases hord : ordB l
    · simp
    · have hlen := len_le hok hord
      have hrefs : l.all (refI l) = l.all (refsB l) := by
        have : refI l = refsB l := funext fun o => refs_same hok hord o
        rw [this]
      rw [hrefs]
      cases hr : l.all (refsB l)
      · simp
      · have hd : l.all (deepF l (l.length + 1)) = (List.range l.length).all (fun i => cnF (l.map (plc l)) l.length i) := by
          have hst := stable_len (places_plc l)
          simp only [List.length_map] at hst
          rw [Bool.eq_iff_iff, all_iff, List.all_eq_true]
          constructor
          · intro h i hi
            have hi' : i < l.length := by simpa using hi
            have := h i hi'
            rw [deep_same hok hord hr, hst i hi'] at this
            exact this
          · intro h i hi
            rw [deep_same hok hord hr, hst i hi]
            exact h i (by simpa using hi)
        rw [hd]
        simp [hlen]
end Go.Proofs.YtficnhlkefpfnaaDoor
