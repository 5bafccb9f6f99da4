/- What inStep tells, pair by pair (mathematics). -/
import Derived.Test.YtficnhlkefpfnaaDoorP2
import Derived.Test.YtficnhlkefpfnaaDoorP0
import Derived.BigQuiet
import Derived.WalkSmall
import Derived.Test.YtficnhlkefpfnaaDoorP1
import Derived.Deep.WholeRow
import Derived.Laws.CopyOwn
namespace Go.Proofs.YtficnhlkefpfnaaDoor
open Go.RowKit
set_option linter.unusedSimpArgs false
set_option linter.unusedVariables false

/-- All leaves. -/
def lvs (l : List Op7) : List Lf := lfs l (allO l)
theorem lvs_len {l : List Op7} (h : opsB l = true) : (lvs l).length ≤ 36 := by
  unfold lvs
  rw [lfs_len]
  exact Nat.le_trans (all_len h) (ops_36 h)
theorem lvs_at {l : List Op7} {j : Nat} {x : Lf} (h : (lvs l)[j]? = some x) : ∃ p, (allO l)[j]? = some p ∧ p.a = x.a ∧ p.b = x.b := by
  unfold lvs lfs at h
  rw [List.getElem?_map] at h
  cases hp : (allO l)[j]? with
  | none => rw [hp] at h; cases h
  | some p => rw [hp] at h; cases h; exact ⟨p, rfl, rfl, rfl⟩
/-- One can do one thing more. -/
def mayMore (l : List Op7) (r : Int) : Bool := opsB l && inB r 1 3 && decide (cnt l r + 1 ≤ 12)
/-- The leaf that stands ahead of a place among those that are shown, and where. -/
def aheadOf (l : List Op7) (t : Nat) : Option (Lf × Nat) := match t with
  | 0 => none
  | k + 1 => match (shownI (lvs l))[k]? with
    | some j => match (lvs l)[j]? with | some x => some (x, j) | none => none
    | none => none
def leftOf (l : List Op7) (t : Nat) : Int × Int × Nat := match aheadOf l t with | some (x, j) => (x.a, x.b, j + 1) | none => (0, 0, 0)
theorem leftOf_zero (l : List Op7) : leftOf l 0 = (0, 0, 0) := rfl
theorem leftOf_succ {l : List Op7} {k j : Nat} {x : Lf} (h : (shownI (lvs l))[k]? = some j) (hx : (lvs l)[j]? = some x) : leftOf l (k + 1) = (x.a, x.b, j + 1) := by
  simp [leftOf, aheadOf, h, hx]
theorem shown_leaf {l : List Op7} {k : Nat} (h : k < (shownI (lvs l)).length) : ∃ j x, (shownI (lvs l))[k]? = some j ∧ (lvs l)[j]? = some x ∧ j < (lvs l).length := by
  have hj := shownI_lt (List.getElem_mem h)
  exact ⟨(shownI (lvs l))[k], (lvs l)[(shownI (lvs l))[k]], by simp [h], by simp [hj], hj⟩
/-- If something was put on the right of what stands ahead of a place, something stands behind it. -/
theorem left_next {l : List Op7} (h : opsB l = true) {t : Nat} (ht : t ≤ (shownI (lvs l)).length) (hk : kidsL l ((leftOf l t).1, (leftOf l t).2.1, 1) ≠ []) : (leftOf l t).2.2 < (lvs l).length := by
  have hll : (lvs l).length = (allO l).length := by unfold lvs; exact lfs_len _ _
  cases t with
  | zero =>
    rw [leftOf_zero] at hk ⊢
    rw [hll]
    exact all_first h hk
  | succ k =>
    obtain ⟨j, x, h1, h2, h3⟩ := shown_leaf (l := l) (k := k) (by omega)
    rw [leftOf_succ h1 h2] at hk ⊢
    obtain ⟨p, hp, ha, hb⟩ := lvs_at h2
    rw [hll]
    exact all_next h hp (by rw [ha, hb]; exact hk)
/-- What is put at a place: the leaf that stands behind. -/
def nextLf (l : List Op7) (t : Nat) : Int × Int := match (lvs l)[(leftOf l t).2.2]? with | some x => (x.a, x.b) | none => (0, 0)
def putO (l : List Op7) (r : Int) (t : Nat) (sg : Int) : Op7 :=
  if kidsL l ((leftOf l t).1, (leftOf l t).2.1, 1) = [] then ⟨r, cnt l r + 1, 1, (leftOf l t).1, (leftOf l t).2.1, 1, sg⟩ else ⟨r, cnt l r + 1, 1, (nextLf l t).1, (nextLf l t).2, 0, sg⟩
def mayPut (l : List Op7) (r t sg : Int) : Bool := mayMore l r && (inB sg 97 122 && inB t 0 (shownI (lvs l)).length)
/-- What is taken at a place. -/
def takeId (l : List Op7) (t : Nat) : Int × Int := match (shownI (lvs l))[t]? with
  | some j => match (lvs l)[j]? with | some x => (x.a, x.b) | none => (0, 0)
  | none => (0, 0)
def takeO (l : List Op7) (r : Int) (t : Nat) : Op7 := ⟨r, cnt l r + 1, 2, (takeId l t).1, (takeId l t).2, 0, 0⟩
def mayTake (l : List Op7) (r t : Int) : Bool := mayMore l r && inB t 0 ((shownI (lvs l)).length - 1)
end Go.Proofs.YtficnhlkefpfnaaDoor

namespace Go.Proofs.YtficnhlkefpfnaaDoor
open Go.RowKit
set_option linter.unusedSimpArgs false
set_option linter.unusedVariables false

set_option maxRecDepth 100000 in
set_option maxHeartbeats 4000000 in
theorem l1Seen_any (l : List Op7) (g cap : Nat) (w : World) (hl : OpsAt w g l) (hn : l.length ≤ 1048576) (hcap : l.length ≤ cap) (hok : l.all okO = true) (hord : ordB l = true) :
    Calls Tryd.prog 103 #[.slice (some ⟨g, 0, none⟩) l.length cap] w fun e w' => e = .returned (.slice (some ⟨w.heap.size, 0, none⟩) 3 3) ∧ IntsAt w' w.heap.size [cnt l 1, cnt l 2, cnt l 3] ∧ Below w.heap.size w w' := by
  have hgw : g < w.heap.size := hl.1
  have HL0 : Hid (OpsAt w g l) := hl
  have HO : Hid (l.all okO = true) := hok
  have HR : Hid (ordB l = true) := hord
  clear hl hok hord
  go_enter Tryd.func103, Tryd.ntmps103
  obtain ⟨i0, hi, hz0, hz1, hz2⟩ := info_parts infoInt
  go_wp2_with (first
    | (at_make; refine wpList_make_full _ rfl _ _ 33 rfl w.heap.size 3 i0 _ 1 Tryd.underlying33 hi hz0 hz1 .i64 .i64 _ _ 3 rfl rfl rfl rfl (by rw [hz2]; omega) (by unfold maxLen; omega) (Nat.le_refl _) ?_; intro w1 hown hgrow))
  clear hi hz0 hz1 hz2
  rw [made3] at hown
  have hB1 : Below w.heap.size w w1 := (Below.refl _ _).grown hgrow (Nat.le_refl _) (fun k h => by cases h)
  have c0 : w1.cell? ⟨w.heap.size, 0, none⟩ = some (.int .i64 0) := hown.cellAt 0 (by omega)
  have c1 : w1.cell? ⟨w.heap.size, 1, none⟩ = some (.int .i64 0) := hown.cellAt 1 (by omega)
  have c2 : w1.cell? ⟨w.heap.size, 2, none⟩ = some (.int .i64 0) := hown.cellAt 2 (by omega)
  have f0 : ∀ j, w1.frozen? ⟨w.heap.size, j, none⟩ = false := fun j => hown.frozenAt j
  have z0 : w.heap.size < w1.heap.size := (hown.lt _ rfl).2
  clear hown hgrow
  go_loopw [4] (fun i wr => ∃ k : Nat, k ≤ l.length ∧ i = .int .i64 k ∧ wr.cell? ⟨w.heap.size, 0, none⟩ = some (.int .i64 (cntTo l k 1)) ∧ wr.cell? ⟨w.heap.size, 1, none⟩ = some (.int .i64 (cntTo l k 2)) ∧ wr.cell? ⟨w.heap.size, 2, none⟩ = some (.int .i64 (cntTo l k 3)) ∧ (∀ j, wr.frozen? ⟨w.heap.size, j, none⟩ = false) ∧ w.heap.size < wr.heap.size ∧ Below w.heap.size w wr)
    (fun i _ => l.length - (intOf i).toNat)
  case atStart => exact ⟨0, Nat.zero_le _, rfl, by rw [cntTo_zero]; exact c0, by rw [cntTo_zero]; exact c1, by rw [cntTo_zero]; exact c2, f0, z0, hB1⟩
  case round =>
    obtain ⟨k, hk, rfl, q0, q1, q2, hfz, hws, hB⟩ := hrel
    have HB : Hid (Below w.heap.size w wr) := hB
    have HL : Hid (OpsAt wr g l) := HL0.out.below hB hgw
    have hgr : g < wr.heap.size := HL.out.1
    clear hB hB1 c0 c1 c2 f0 z0
    by_cases hlt : k < l.length
    · obtain ⟨h0, h1, _⟩ := HL.out.2 k l[k] (by simp [hlt])
      obtain ⟨ha1, ha3, hb1, hb12⟩ := okO_id (all_iff.1 HO.out k hlt)
      have hnum := num_is HO.out HR.out k hlt
      have s1 : Hid (∀ r, l[k].a = r → cntTo l (k + 1) r = cntTo l k r + 1) := fun r h => cntTo_same hlt h
      have s2 : Hid (∀ r, l[k].a ≠ r → cntTo l (k + 1) r = cntTo l k r) := fun r h => cntTo_other hlt h
      have b1 := cntTo_le l k 1
      have b2 := cntTo_le l k 2
      have b3 := cntTo_le l k 3
      generalize l[k] = o at *
      obtain ⟨xa, xb, xk, xc, xd, xs, xg⟩ := o
      simp only at *
      have hlt' : (k : Int) < (l.length : Int) := by omega
      have hk0 : (0 : Int) ≤ (k : Int) := by omega
      have hw0 : IntKind.i64.wrap 0 = 0 := by decide
      have hw1 : IntKind.i64.wrap 1 = 1 := by decide
      have hw2 : IntKind.i64.wrap 2 = 2 := by decide
      obtain rfl | rfl | rfl : xa = 1 ∨ xa = 2 ∨ xa = 3 := by omega
      · have E1 := hideIt (s1.out _ rfl)
        have hm1 : Hid (xb = cntTo l k 1 + 1) := hnum
        clear hnum s1
        generalize hc1 : cntTo l k 1 = n1 at *
        generalize hc2 : cntTo l k 2 = n2 at *
        generalize hc3 : cntTo l k 3 = n3 at *
        have C1 := hideIt hc1
        have C2 := hideIt hc2
        have C3 := hideIt hc3
        clear hc1 hc2 hc3
        obtain rfl := hm1.out
        go_wp2
        go_region
        go_wp2
        refine ⟨⟨k + 1, by omega, by go_num, ?_, ?_, ?_, fun j => by simp [hfz], by simpa using hws, by have := HB.out; go_grown⟩, by simp [intOf]; omega⟩
        · rw [E1.out]; simp [q0, q1, q2, go_sem]
        · rw [s2.out 2 (by decide), C2.out]; simp [q0, q1, q2, go_sem]
        · rw [s2.out 3 (by decide), C3.out]; simp [q0, q1, q2, go_sem]
      · have E1 := hideIt (s1.out _ rfl)
        have hm1 : Hid (xb = cntTo l k 2 + 1) := hnum
        clear hnum s1
        generalize hc1 : cntTo l k 1 = n1 at *
        generalize hc2 : cntTo l k 2 = n2 at *
        generalize hc3 : cntTo l k 3 = n3 at *
        have C1 := hideIt hc1
        have C2 := hideIt hc2
        have C3 := hideIt hc3
        clear hc1 hc2 hc3
        obtain rfl := hm1.out
        go_wp2
        go_region
        go_wp2
        refine ⟨⟨k + 1, by omega, by go_num, ?_, ?_, ?_, fun j => by simp [hfz], by simpa using hws, by have := HB.out; go_grown⟩, by simp [intOf]; omega⟩
        · rw [s2.out 1 (by decide), C1.out]; simp [q0, q1, q2, go_sem]
        · rw [E1.out]; simp [q0, q1, q2, go_sem]
        · rw [s2.out 3 (by decide), C3.out]; simp [q0, q1, q2, go_sem]
      · have E1 := hideIt (s1.out _ rfl)
        have hm1 : Hid (xb = cntTo l k 3 + 1) := hnum
        clear hnum s1
        generalize hc1 : cntTo l k 1 = n1 at *
        generalize hc2 : cntTo l k 2 = n2 at *
        generalize hc3 : cntTo l k 3 = n3 at *
        have C1 := hideIt hc1
        have C2 := hideIt hc2
        have C3 := hideIt hc3
        clear hc1 hc2 hc3
        obtain rfl := hm1.out
        go_wp2
        go_region
        go_wp2
        refine ⟨⟨k + 1, by omega, by go_num, ?_, ?_, ?_, fun j => by simp [hfz], by simpa using hws, by have := HB.out; go_grown⟩, by simp [intOf]; omega⟩
        · rw [s2.out 1 (by decide), C1.out]; simp [q0, q1, q2, go_sem]
        · rw [s2.out 2 (by decide), C2.out]; simp [q0, q1, q2, go_sem]
        · rw [E1.out]; simp [q0, q1, q2, go_sem]
    · obtain rfl : k = l.length := by omega
      rw [cntTo_len] at q0 q1 q2
      go_wp2
      go_ret
      exact ⟨rfl, ⟨hws, fun i x hx => by
        match i, hx with
        | 0, hx => simp at hx; subst hx; exact q0
        | 1, hx => simp at hx; subst hx; exact q1
        | 2, hx => simp at hx; subst hx; exact q2⟩, HB.out⟩
end Go.Proofs.YtficnhlkefpfnaaDoor

namespace Go.Proofs.YtficnhlkefpfnaaDoor
open Go.RowKit
set_option linter.unusedSimpArgs false
set_option linter.unusedVariables false
attribute [local go_sem ↓] Go.wp_at_zero Go.wp_at_succ

theorem in3 {r : Int} (h : inB r 1 3 = true) : r = 1 ∨ r = 2 ∨ r = 3 := by
  simp [inB] at h
  omega

set_option maxRecDepth 100000 in
set_option maxHeartbeats 2000000 in
theorem l3Next_any (l : List Op7) (g cap : Nat) (r : Int) (w : World) (hl : OpsAt w g l) (hn : l.length ≤ 1048576) (hcap : l.length ≤ cap) :
    Calls Tryd.prog 93 #[.slice (some ⟨g, 0, none⟩) l.length cap, .int .i64 r] w fun e w' =>
      (((opsB l && inB r 1 3) = false ∧ e = .returned (.tuple #[.agg #[.int .i64 0, .int .i64 0], .bool false])) ∨
       (opsB l = true ∧ inB r 1 3 = true ∧ e = .returned (.tuple #[.agg #[.int .i64 r, .int .i64 (cnt l r + 1)], .bool (decide (cnt l r + 1 ≤ 12))]))) ∧ Below w.heap.size w w' := by
  have HL := hideIt hl
  have hgw := hl.1
  clear hl
  cases ho : opsB l
  all_goals
    have HO := hideIt ho
    clear ho
    go_enter Tryd.func93, Tryd.ntmps93
    go_wp2_with fail
    have HB0 : Hid (Below w.heap.size w (w.alloc (.cells #[.int .i64 0, .int .i64 0] 69))) := (Below.refl _ _).alloc (Nat.le_refl _) _
    refine (specOps_any l _ _ _ (HL.out.below HB0.out hgw) hn hcap).mono ?_
    rintro e w1 ⟨rfl, hb1⟩
    rw [HO.out]
    have HB1 := hideIt (Bstep HB0.out hb1)
    have rc0 : w1.cell? ⟨w.heap.size, 0, none⟩ = some (.int .i64 0) := ((bcell hb1).1 _ _ (by simp)).trans (by simp [go_sem])
    have rc1 : w1.cell? ⟨w.heap.size, 1, none⟩ = some (.int .i64 0) := ((bcell hb1).1 _ _ (by simp)).trans (by simp [go_sem])
    have hwl : w.heap.size < w1.heap.size := by have := hb1.size; simp at this; omega
    have FZ : Hid (∀ j, w1.frozen? ⟨w.heap.size, j, none⟩ = false) := fun j => ((bcell hb1).2 _ _ (by simp)).trans (by simp [go_sem])
    clear hb1
  · have hfz : ∀ j, w1.frozen? ⟨w.heap.size, j, none⟩ = false := FZ.out
    go_wp2
    have hbb := HB1.out
    exact bodyPost_ret (v := .tuple #[.agg #[.int .i64 0, .int .i64 0], .bool false]) (by simp [results, Tryd.results93, go_sem, rc0, rc1]) rfl ⟨.inl ⟨rfl, rfl⟩, by go_grown⟩
  · cases hi : inB r 1 3
    all_goals
      have HI := hideIt hi
      clear hi
      have hfz : ∀ j, w1.frozen? ⟨w.heap.size, j, none⟩ = false := FZ.out
      go_wp2_with (first | (go_at_call 62; refine (l6In_any _ _ _ _).mono ?_; rintro e w' ⟨rfl, hw'⟩; subst hw'; rw [HI.out]))
    · have hbb := HB1.out
      exact bodyPost_ret (v := .tuple #[.agg #[.int .i64 0, .int .i64 0], .bool false]) (by simp [results, Tryd.results93, go_sem, rc0, rc1]) rfl ⟨.inl ⟨by simp [HI.out], rfl⟩, by go_grown⟩
    · obtain ⟨hok, hord⟩ := opsParts HO.out
      refine (l1Seen_any l _ _ _ (HL.out.below HB1.out hgw) hn hcap hok hord).mono ?_
      rintro e w2 ⟨rfl, hI, hb2⟩
      have HB2 := hideIt (Bstep HB1.out hb2)
      obtain ⟨c0, c1, c2⟩ := ints3 hI
      have hw2 : w.heap.size < w2.heap.size := Nat.lt_of_lt_of_le hwl hb2.size
      have rd0 := ((bcell hb2).1 _ _ hwl).trans rc0
      have rd1 := ((bcell hb2).1 _ _ hwl).trans rc1
      have hfy : ∀ j, w2.frozen? ⟨w.heap.size, j, none⟩ = false := fun j => ((bcell hb2).2 _ _ hwl).trans (hfz j)
      have hc := cnt_sum l
      have n1 := cnt_nonneg l 1
      have n2 := cnt_nonneg l 2
      have n3 := cnt_nonneg l 3
      clear hb2 hI hok hord
      obtain rfl | rfl | rfl := in3 HI.out
      all_goals
        generalize hx1 : cnt l 1 = x1 at *
        generalize hx2 : cnt l 2 = x2 at *
        generalize hx3 : cnt l 3 = x3 at *
        go_wp2
        have hbb := HB2.out
        first
          | exact bodyPost_ret (v := .tuple #[.agg #[.int .i64 1, .int .i64 (x1 + 1)], .bool (decide (x1 + 1 ≤ 12))]) (by simp [results, Tryd.results93, go_sem, rd0, rd1]) rfl ⟨.inr ⟨trivial, HI.out, by rw [hx1]⟩, by go_grown⟩
          | exact bodyPost_ret (v := .tuple #[.agg #[.int .i64 2, .int .i64 (x2 + 1)], .bool (decide (x2 + 1 ≤ 12))]) (by simp [results, Tryd.results93, go_sem, rd0, rd1]) rfl ⟨.inr ⟨trivial, HI.out, by rw [hx2]⟩, by go_grown⟩
          | exact bodyPost_ret (v := .tuple #[.agg #[.int .i64 3, .int .i64 (x3 + 1)], .bool (decide (x3 + 1 ≤ 12))]) (by simp [results, Tryd.results93, go_sem, rd0, rd1]) rfl ⟨.inr ⟨trivial, HI.out, by rw [hx3]⟩, by go_grown⟩
end Go.Proofs.YtficnhlkefpfnaaDoor

namespace Go.Proofs.YtficnhlkefpfnaaDoor
open Go.RowKit
set_option linter.unusedSimpArgs false
set_option linter.unusedVariables false

theorem build_op0 (W : World) : (Instr.build 71 #[]).run Tryd.prog W = .ok (.agg #[.int .i64 0, .int .i64 0, .int .i64 0, .int .i64 0, .int .i64 0, .int .i64 0, .int .i64 0]) W := by
  kernel_rfl
theorem build_opTake (W : World) (a b c d : Int) : (Instr.build 71 #[(0, .agg #[.int .i64 a, .int .i64 b]), (1, .int .i64 2), (2, .agg #[.int .i64 c, .int .i64 d])]).run Tryd.prog W = .ok (.agg #[.int .i64 a, .int .i64 b, .int .i64 2, .int .i64 c, .int .i64 d, .int .i64 0, .int .i64 0]) W := by
  kernel_rfl
theorem build_opPut (W : World) (a b c d s g : Int) : (Instr.build 71 #[(0, .agg #[.int .i64 a, .int .i64 b]), (1, .int .i64 1), (2, .agg #[.int .i64 c, .int .i64 d]), (3, .int .i64 s), (4, .int .i64 g)]).run Tryd.prog W = .ok (.agg #[.int .i64 a, .int .i64 b, .int .i64 1, .int .i64 c, .int .i64 d, .int .i64 s, .int .i64 g]) W := by
  kernel_rfl
/-- A thing stored whole into its box. -/
theorem store_op (W : World) (b : Nat) (cur : Array Value) (h : W.heap[b]? = some (.cells cur 71 (0, 0))) (hs : cur.size = 7) (a1 a2 a3 a4 a5 a6 a7 : Int) :
    (Instr.storeAt 71 (.pointer (some ⟨b, 0, none⟩)) (.agg #[.int .i64 a1, .int .i64 a2, .int .i64 a3, .int .i64 a4, .int .i64 a5, .int .i64 a6, .int .i64 a7])).run Tryd.prog W = .ok () (W.setRow b #[.int .i64 a1, .int .i64 a2, .int .i64 a3, .int .i64 a4, .int .i64 a5, .int .i64 a6, .int .i64 a7]) := by
  simp only [Instr.storeAt, Instr.sureAddr, Sem.run_bind, Sem.run_pure, Result.andThen]
  exact run_storeVar_row _ _ _ _ cur _ h (by kernel_rfl) (by simp [hs]) (by simp [Value.oneCell'])
/-- An id stored whole into its new box. -/
theorem store_id_new (w : World) (a b : Int) : (Instr.storeAt 69 (.pointer (some ⟨w.heap.size, 0, none⟩)) (.agg #[.int .i64 a, .int .i64 b])).run Tryd.prog (w.alloc (.cells #[.int .i64 0, .int .i64 0] 69)) = .ok () (w.alloc (.cells #[.int .i64 a, .int .i64 b] 69)) :=
  run_storeAt_new w 69 #[.int .i64 0, .int .i64 0] #[.int .i64 a, .int .i64 b] (by kernel_rfl) rfl (by simp [Value.oneCell'])
end Go.Proofs.YtficnhlkefpfnaaDoor

namespace Go.Proofs.YtficnhlkefpfnaaDoor
open Go.RowKit
set_option linter.unusedSimpArgs false
set_option linter.unusedVariables false
attribute [local go_sem ↓] Go.wp_at_zero Go.wp_at_succ build_op0 build_opTake build_opPut

def opV (o : Op7) : Value := .agg #[.int .i64 o.a, .int .i64 o.b, .int .i64 o.k, .int .i64 o.c, .int .i64 o.d, .int .i64 o.s, .int .i64 o.g]
/-- The box of a thing that is to be returned, still nothing. -/
structure RB (w W : World) : Prop where
  box : W.heap[w.heap.size]? = some (.cells #[.int .i64 0, .int .i64 0, .int .i64 0, .int .i64 0, .int .i64 0, .int .i64 0, .int .i64 0] 71 (0, 0))
  bel : Below w.heap.size w W
theorem RB.lt {w W : World} (h : RB w W) : w.heap.size < W.heap.size := (Array.getElem?_eq_some_iff.1 h.box).1
theorem RB.start (w : World) : RB w (w.alloc (.cells #[.int .i64 0, .int .i64 0, .int .i64 0, .int .i64 0, .int .i64 0, .int .i64 0, .int .i64 0] 71)) := ⟨World.alloc_heap_new _ _, (Below.refl _ _).alloc (Nat.le_refl _) _⟩
theorem RB.below {w W W' : World} (h : RB w W) (hb : Below W.heap.size W W') : RB w W' := ⟨(hb.block _ h.lt).trans h.box, Bstep h.bel hb⟩
theorem RB.cells {w W : World} (h : RB w W) : W.cell? ⟨w.heap.size, 0, none⟩ = some (.int .i64 0) ∧ W.cell? ⟨w.heap.size, 1, none⟩ = some (.int .i64 0) ∧ W.cell? ⟨w.heap.size, 2, none⟩ = some (.int .i64 0) ∧ W.cell? ⟨w.heap.size, 3, none⟩ = some (.int .i64 0) ∧ W.cell? ⟨w.heap.size, 4, none⟩ = some (.int .i64 0) ∧ W.cell? ⟨w.heap.size, 5, none⟩ = some (.int .i64 0) ∧ W.cell? ⟨w.heap.size, 6, none⟩ = some (.int .i64 0) :=
  ⟨(blkCell h.box 0).trans rfl, (blkCell h.box 1).trans rfl, (blkCell h.box 2).trans rfl, (blkCell h.box 3).trans rfl, (blkCell h.box 4).trans rfl, (blkCell h.box 5).trans rfl, (blkCell h.box 6).trans rfl⟩
theorem RB.frozen {w W : World} (h : RB w W) (j : Nat) : W.frozen? ⟨w.heap.size, j, none⟩ = false := by simp [World.frozen?, h.box]
/-- The box behind its one store. -/
theorem RB.stored {w W : World} (h : RB w W) (a1 a2 a3 a4 a5 a6 a7 : Int) : (W.setRow w.heap.size #[.int .i64 a1, .int .i64 a2, .int .i64 a3, .int .i64 a4, .int .i64 a5, .int .i64 a6, .int .i64 a7]).heap[w.heap.size]? = some (.cells #[.int .i64 a1, .int .i64 a2, .int .i64 a3, .int .i64 a4, .int .i64 a5, .int .i64 a6, .int .i64 a7] 71 (0, 0)) ∧ Below w.heap.size w (W.setRow w.heap.size #[.int .i64 a1, .int .i64 a2, .int .i64 a3, .int .i64 a4, .int .i64 a5, .int .i64 a6, .int .i64 a7]) :=
  ⟨setRow_heap _ _ _ _ _ _ h.box, below_setRow h.bel (Nat.le_refl _) _⟩
theorem all7 (a1 a2 a3 a4 a5 a6 a7 : Int) : (#[Value.int .i64 a1, .int .i64 a2, .int .i64 a3, .int .i64 a4, .int .i64 a5, .int .i64 a6, .int .i64 a7].all fun x => x.oneCell') = true := by simp [Value.oneCell']
/-- A thing stored whole in a region that draws its order. -/
theorem store_arm {P : Program} {o : Oper} {A : Act} {w : World} {K' : Act → World → Prop} {Q : Exit → Act → World → Prop} {ys : Nat → Option Bool} {ty t : TypeId} {x y : Operand} {g : Nat} {cells old : Array Value}
    (ho : o.op = .store ty x y) (hw : Region.wanted o ys = true) (hx : A.eval x = .pointer (some ⟨g, 0, none⟩)) (hy : A.eval y = .agg cells) (hg : w.heap[g]? = some (.cells old t (0, 0))) (hi : (P.info? ty).map (·.size) = some cells.size)
    (hold : old.size = cells.size) (h1 : cells.all (·.oneCell') = true) (h : K' (A.put o.dst undef) (w.setRow g cells)) :
    if Region.wanted o ys = true then Oper.wp P o A w K' Q else K' (A.put o.dst undef) w := by
  rw [if_pos hw]
  exact wp_store_row ty x y ho g cells hx hy t old hg hi hold h1 h
theorem setRow_cell {W : World} {g b o : Nat} {cs : Array Value} {v : Value} (h : b ≠ g) (hv : W.cell? ⟨b, o, none⟩ = some v) : (W.setRow g cs).cell? ⟨b, o, none⟩ = some v := by
  rw [← hv]
  simp [World.cell?, setRow_other W g b cs h]
theorem rowKeep {w w' : World} {b : Nat} {T : TypeId} {m : Nat} {v : Value} {n : Nat} {xs : List Value} (h : w.ownsRow b T m v n xs) (hb : Below w.heap.size w w') : w'.ownsRow b T m v n xs :=
  h.kept (row := none) ⟨hb.os, hb.tape, hb.output, hb.size, fun i hi _ => hb.block i hi⟩ (by cases v.ownBlock <;> simp)
theorem natCells_at {L : List Nat} {i j : Nat} (h : L[i]? = some j) : (natCells L)[i]? = some (.int .i64 (j : Int)) := by simp [natCells, h]

attribute [-go_sem] Instr.storeAt
attribute [local go_sem ↓] store_id_new
end Go.Proofs.YtficnhlkefpfnaaDoor

namespace Go.Proofs.YtficnhlkefpfnaaDoor
open Go.RowKit
set_option linter.unusedSimpArgs false
set_option linter.unusedVariables false
attribute [local go_sem ↓] Go.wp_at_zero Go.wp_at_succ build_op0 build_opTake build_opPut

theorem row_len {W : World} {base : Nat} {T : TypeId} {m : Nat} {v : Value} {n : Nat} {xs : List Value} (h : W.ownsRow base T m v n xs) : ∃ p c, v = .slice p n c := by
  rcases h.2 with ⟨rfl, h0⟩ | ⟨g, c, cur, rfl, _⟩
  · exact ⟨none, 0, by rw [h0]⟩
  · exact ⟨_, _, rfl⟩
theorem putO_yes {l : List Op7} {r sg : Int} {t : Nat} (h : kidsL l ((leftOf l t).1, (leftOf l t).2.1, 1) = []) : putO l r t sg = ⟨r, cnt l r + 1, 1, (leftOf l t).1, (leftOf l t).2.1, 1, sg⟩ := by unfold putO; rw [if_pos h]
theorem putO_no {l : List Op7} {r sg : Int} {t : Nat} (h : kidsL l ((leftOf l t).1, (leftOf l t).2.1, 1) ≠ []) {x : Lf} (hx : (lvs l)[(leftOf l t).2.2]? = some x) : putO l r t sg = ⟨r, cnt l r + 1, 1, x.a, x.b, 0, sg⟩ := by unfold putO; rw [if_neg h]; simp [nextLf, hx]

attribute [-go_sem] Instr.storeAt
attribute [local go_sem ↓] store_id_new
set_option maxRecDepth 100000 in
set_option maxHeartbeats 2000000 in
theorem typePut_any (l : List Op7) (g cap : Nat) (r t sg : Int) (w : World) (hl : OpsAt w g l) (hn : l.length ≤ 1048576) (hcap : l.length ≤ cap) :
    Calls Tryd.prog 55 #[.slice (some ⟨g, 0, none⟩) l.length cap, .int .i64 r, .int .i64 t, .int .i64 sg] w fun e w' =>
      ((mayPut l r t sg = false ∧ e = .returned (.tuple #[.agg #[.int .i64 0, .int .i64 0, .int .i64 0, .int .i64 0, .int .i64 0, .int .i64 0, .int .i64 0], .bool false])) ∨
       (mayPut l r t sg = true ∧ e = .returned (.tuple #[opV (putO l r t.toNat sg), .bool true]))) ∧ Below w.heap.size w w' := by
  have HL := hideIt hl
  have hgw := hl.1
  clear hl
  go_enter Tryd.func55, Tryd.ntmps55
  go_wp2_with fail
  have HRB := hideIt (RB.start w)
  refine (l3Next_any l _ _ _ _ (HL.out.below HRB.out.bel hgw) hn hcap).mono ?_
  rintro e w1 ⟨(⟨hno, rfl⟩ | ⟨hops, hin, rfl⟩), hb1⟩
  all_goals
    have HR1 := hideIt (HRB.out.below hb1)
    clear hb1 HRB
  · have HA := hideIt (HR1.out.below ((Below.refl _ _).alloc (Nat.le_refl _) (.cells #[.int .i64 0, .int .i64 0] 69)))
    have hwl := HR1.out.lt
    have HNO := hideIt hno
    clear hno
    go_wp2_with (first | (refine wpList_store_row rfl 71 _ _ rfl w.heap.size _ rfl rfl 71 _ HA.out.box (by kernel_rfl) rfl (all7 _ _ _ _ _ _ _) ?_; have HST := hideIt (HA.out.stored 0 0 0 0 0 0 0); generalize World.setRow _ _ _ = W9 at *))
    obtain ⟨hb9, hbel9⟩ := HST.out
    have r0 := (blkCell hb9 0).trans rfl
    have r1 := (blkCell hb9 1).trans rfl
    have r2 := (blkCell hb9 2).trans rfl
    have r3 := (blkCell hb9 3).trans rfl
    have r4 := (blkCell hb9 4).trans rfl
    have r5 := (blkCell hb9 5).trans rfl
    have r6 := (blkCell hb9 6).trans rfl
    exact bodyPost_ret (v := .tuple #[.agg #[.int .i64 0, .int .i64 0, .int .i64 0, .int .i64 0, .int .i64 0, .int .i64 0, .int .i64 0], .bool false]) (by simp [results, Tryd.results55, go_sem, r0, r1, r2, r3, r4, r5, r6]) rfl ⟨.inl ⟨by simp [mayPut, mayMore, HNO.out], rfl⟩, hbel9⟩
  · have HO := hideIt hops
    have HI := hideIt hin
    clear hops hin
    generalize hz : decide (cnt l r + 1 ≤ 12) = z
    have HZ := hideIt hz
    clear hz
    generalize hcn : cnt l r + 1 = cn
    have HCN := hideIt hcn
    clear hcn
    cases z
    · have HA := hideIt (HR1.out.below ((Below.refl _ _).alloc (Nat.le_refl _) (.cells #[.int .i64 r, .int .i64 cn] 69)))
      have hwl := HR1.out.lt
      go_wp2_with (first | (refine wpList_store_row rfl 71 _ _ rfl w.heap.size _ rfl rfl 71 _ HA.out.box (by kernel_rfl) rfl (all7 _ _ _ _ _ _ _) ?_; have HST := hideIt (HA.out.stored 0 0 0 0 0 0 0); generalize World.setRow _ _ _ = W9 at *))
      obtain ⟨hb9, hbel9⟩ := HST.out
      have r0 := (blkCell hb9 0).trans rfl
      have r1 := (blkCell hb9 1).trans rfl
      have r2 := (blkCell hb9 2).trans rfl
      have r3 := (blkCell hb9 3).trans rfl
      have r4 := (blkCell hb9 4).trans rfl
      have r5 := (blkCell hb9 5).trans rfl
      have r6 := (blkCell hb9 6).trans rfl
      exact bodyPost_ret (v := .tuple #[.agg #[.int .i64 0, .int .i64 0, .int .i64 0, .int .i64 0, .int .i64 0, .int .i64 0, .int .i64 0], .bool false]) (by simp [results, Tryd.results55, go_sem, r0, r1, r2, r3, r4, r5, r6]) rfl ⟨.inl ⟨by simp [mayPut, mayMore, HZ.out], rfl⟩, hbel9⟩
    · cases hsg : inB sg 97 122
      all_goals
        have HSG := hideIt hsg
        clear hsg
      · have HA := hideIt (HR1.out.below ((Below.refl _ _).alloc (Nat.le_refl _) (.cells #[.int .i64 r, .int .i64 cn] 69)))
        have hwl := HR1.out.lt
        go_wp2_with (first | (go_at_call 62; refine (l6In_any _ _ _ _).mono ?_; rintro e w' ⟨rfl, hw'⟩; subst hw'; rw [HSG.out]) | (refine wpList_store_row rfl 71 _ _ rfl w.heap.size _ rfl rfl 71 _ HA.out.box (by kernel_rfl) rfl (all7 _ _ _ _ _ _ _) ?_; have HST := hideIt (HA.out.stored 0 0 0 0 0 0 0); generalize World.setRow _ _ _ = W9 at *))
        obtain ⟨hb9, hbel9⟩ := HST.out
        have r0 := (blkCell hb9 0).trans rfl
        have r1 := (blkCell hb9 1).trans rfl
        have r2 := (blkCell hb9 2).trans rfl
        have r3 := (blkCell hb9 3).trans rfl
        have r4 := (blkCell hb9 4).trans rfl
        have r5 := (blkCell hb9 5).trans rfl
        have r6 := (blkCell hb9 6).trans rfl
        exact bodyPost_ret (v := .tuple #[.agg #[.int .i64 0, .int .i64 0, .int .i64 0, .int .i64 0, .int .i64 0, .int .i64 0, .int .i64 0], .bool false]) (by simp [results, Tryd.results55, go_sem, r0, r1, r2, r3, r4, r5, r6]) rfl ⟨.inl ⟨by simp [mayPut, HSG.out], rfl⟩, hbel9⟩
      · have HA1 := hideIt (HR1.out.below ((Below.refl _ _).alloc (Nat.le_refl _) (.cells #[.int .i64 r, .int .i64 cn] 69)))
        have D1 : Hid ((w1.alloc (.cells #[.int .i64 r, .int .i64 cn] 69)).cell? ⟨w1.heap.size, 0, none⟩ = some (.int .i64 r) ∧ (w1.alloc (.cells #[.int .i64 r, .int .i64 cn] 69)).cell? ⟨w1.heap.size, 1, none⟩ = some (.int .i64 cn) ∧ w1.heap.size < (w1.alloc (.cells #[.int .i64 r, .int .i64 cn] 69)).heap.size) := ⟨by simp [go_sem], by simp [go_sem], by simp⟩
        have hdd : w1.heap.size ≠ w.heap.size := by have := HR1.out.lt; omega
        have HOP := hideIt (HL.out.below HA1.out.bel hgw)
        go_wp2_with (first | (go_at_call 62; refine (l6In_any _ _ _ _).mono ?_; rintro e w' ⟨rfl, hw'⟩; subst hw'; rw [HSG.out]))
        clear HR1
        generalize w1.alloc (.cells #[.int .i64 r, .int .i64 cn] 69) = Wi at *
        generalize w1.heap.size = B1 at *
        refine (l2Leaves_any l HO.out _ _ _ HOP.out hn hcap).mono ?_
        rintro e w2 ⟨G, c, rfl, hr, hb2⟩
        have HLN := hideIt (lvs_len HO.out)
        have hc : (lvs l).length ≤ c := by
          rcases hr.2 with ⟨h, _⟩ | ⟨g', c', cur, h, _, _, h2, _⟩
          · cases h
          · cases h; unfold lvs; rw [lfs_len]; exact h2
        rw [lfs_cells, ← lfs_len l (allO l)] at hr
        rw [← lfs_len l (allO l)]
        have HR : Hid (w2.ownsRow Wi.heap.size 115 4 (.slice (some ⟨G, 0, none⟩) (lvs l).length c) (lvs l).length (lfCells (lvs l))) := hr
        have HR2 := hideIt (HA1.out.below hb2)
        have D2 : Hid (w2.cell? ⟨B1, 0, none⟩ = some (.int .i64 r) ∧ w2.cell? ⟨B1, 1, none⟩ = some (.int .i64 cn) ∧ B1 < w2.heap.size) := ⟨((bcell hb2).1 _ _ D1.out.2.2).trans D1.out.1, ((bcell hb2).1 _ _ D1.out.2.2).trans D1.out.2.1, Nat.lt_of_lt_of_le D1.out.2.2 hb2.size⟩
        have hGw : Hid (w.heap.size < Wi.heap.size ∧ w.heap.size < w2.heap.size) := ⟨HA1.out.lt, HR2.out.lt⟩
        clear hr hb2 HA1 D1 HOP
        rw [show (lfs l (allO l)) = lvs l from rfl]
        go_wp2_with fail
        refine (l3Shown_any (lvs l) G c _ _ HR.out (by have := HLN.out; omega) hc).mono ?_
        rintro e w3 ⟨S, c3, rfl, hr3, hb3⟩
        have HS3 := hideIt hr3
        have HRR := hideIt (rowKeep HR.out hb3)
        have HA := hideIt (HR2.out.below hb3)
        have D3 : Hid (w3.cell? ⟨B1, 0, none⟩ = some (.int .i64 r) ∧ w3.cell? ⟨B1, 1, none⟩ = some (.int .i64 cn) ∧ B1 < w3.heap.size) := ⟨((bcell hb3).1 _ _ D2.out.2.2).trans D2.out.1, ((bcell hb3).1 _ _ D2.out.2.2).trans D2.out.2.1, Nat.lt_of_lt_of_le D2.out.2.2 hb3.size⟩
        have hsn : (shownI (lvs l)).length ≤ 36 := Nat.le_trans (shownTo_len _ _) HLN.out
        clear hr3 hb3 HR HR2 D2
        have hwl := HA.out.lt
        cases hi : inB t 0 (shownI (lvs l)).length
        all_goals
          have HIN := hideIt hi
          clear hi
        · go_wp2_with (first | (go_at_call 62; refine (l6In_any _ _ _ _).mono ?_; rintro e w' ⟨rfl, hw'⟩; subst hw'; rw [HIN.out]) | (refine wpList_store_row rfl 71 _ _ rfl w.heap.size _ rfl rfl 71 _ HA.out.box (by kernel_rfl) rfl (all7 _ _ _ _ _ _ _) ?_; have HST := hideIt (HA.out.stored 0 0 0 0 0 0 0); generalize World.setRow _ _ _ = W9 at *))
          obtain ⟨hb9, hbel9⟩ := HST.out
          have r0 := (blkCell hb9 0).trans rfl
          have r1 := (blkCell hb9 1).trans rfl
          have r2 := (blkCell hb9 2).trans rfl
          have r3 := (blkCell hb9 3).trans rfl
          have r4 := (blkCell hb9 4).trans rfl
          have r5 := (blkCell hb9 5).trans rfl
          have r6 := (blkCell hb9 6).trans rfl
          exact bodyPost_ret (v := .tuple #[.agg #[.int .i64 0, .int .i64 0, .int .i64 0, .int .i64 0, .int .i64 0, .int .i64 0, .int .i64 0], .bool false]) (by simp [results, Tryd.results55, go_sem, r0, r1, r2, r3, r4, r5, r6]) rfl ⟨.inl ⟨by simp [mayPut, HIN.out], rfl⟩, hbel9⟩
        · have hk : 0 ≤ t ∧ t ≤ (shownI (lvs l)).length := by
            have h := HIN.out
            simp [inB] at h
            exact h
          obtain ⟨d0, d1, dl⟩ := D3.out
          by_cases ht : t = 0
          · subst ht
            go_wp2_with (first | (go_at_call 62; refine (l6In_any _ _ _ _).mono ?_; rintro e w' ⟨rfl, hw'⟩; subst hw'; rw [HIN.out]))
            have HAL := hideIt (HA.out.below ((Below.refl _ _).alloc (Nat.le_refl _) (.cells #[.int .i64 0, .int .i64 0] 69)))
            have hb0 : Below w'.heap.size w' (w'.alloc (.cells #[.int .i64 0, .int .i64 0] 69)) := (Below.refl _ _).alloc (Nat.le_refl _) _
            have D4 : Hid ((w'.alloc (.cells #[.int .i64 0, .int .i64 0] 69)).cell? ⟨w'.heap.size, 0, none⟩ = some (.int .i64 0) ∧ (w'.alloc (.cells #[.int .i64 0, .int .i64 0] 69)).cell? ⟨w'.heap.size, 1, none⟩ = some (.int .i64 0) ∧ w'.heap.size < (w'.alloc (.cells #[.int .i64 0, .int .i64 0] 69)).heap.size) := ⟨by simp [go_sem], by simp [go_sem], by simp⟩
            have HRK := hideIt (rowKeep HRR.out hb0)
            have a0 := ((bcell hb0).1 _ _ dl).trans d0
            have a1 := ((bcell hb0).1 _ _ dl).trans d1
            have al := Nat.lt_of_lt_of_le dl hb0.size
            have hd2 : w'.heap.size ≠ w.heap.size := by have := HA.out.lt; omega
            clear hb0
            generalize w'.alloc (.cells #[.int .i64 0, .int .i64 0] 69) = Wj at *
            generalize w'.heap.size = B2 at *
            refine (l2Kids_any l g cap _ _ _ _ (HL.out.below HAL.out.bel hgw) hn hcap).mono ?_
            rintro e w4 ⟨v, rfl, hrk, hb4⟩
            obtain ⟨pk, ck, rfl⟩ := row_len hrk
            have d0 := ((bcell hb4).1 _ _ al).trans a0
            have d1 := ((bcell hb4).1 _ _ al).trans a1
            have e0 := ((bcell hb4).1 _ _ D4.out.2.2).trans D4.out.1
            have e1 := ((bcell hb4).1 _ _ D4.out.2.2).trans D4.out.2.1
            have HR4 := hideIt (rowKeep HRK.out hb4)
            have hB14 : B1 < w4.heap.size := Nat.lt_of_lt_of_le al hb4.size
            have hB24 : B2 < w4.heap.size := Nat.lt_of_lt_of_le D4.out.2.2 hb4.size
            have HA := hideIt (HAL.out.below hb4)
            have hwl4 := HA.out.lt
            have nG : G ≠ w.heap.size := by have h1 := (World.ownsRow.lt HRR.out G rfl).1; have h2 := hGw.out.1; omega
            have hGl4 := (World.ownsRow.lt HR4.out G rfl).2
            clear hrk hb4 HAL HRK
            by_cases hK : kidsL l (0, 0, 1) = []
            · have HOP : Hid (putO l r (0) sg = ⟨r, cn, 1, 0, 0, 1, sg⟩) := by
                have h := putO_yes (l := l) (r := r) (sg := sg) (t := 0) (by rw [leftOf_zero]; exact hK)
                rw [leftOf_zero, HCN.out] at h
                exact h
              have hkn : (kidsL l (0, 0, 1)).length = 0 := by rw [hK]; rfl
              rw [hkn]
              clear hK
              go_wp2_with (first | (refine wpList_store_row rfl 71 _ _ rfl w.heap.size _ rfl rfl 71 _ HA.out.box (by kernel_rfl) rfl (all7 _ _ _ _ _ _ _) ?_; have HST := hideIt (HA.out.stored r cn 1 0 0 1 sg); generalize World.setRow _ _ _ = W9 at *))
              obtain ⟨hb9, hbel9⟩ := HST.out
              have r0 := (blkCell hb9 0).trans rfl
              have r1 := (blkCell hb9 1).trans rfl
              have r2 := (blkCell hb9 2).trans rfl
              have r3 := (blkCell hb9 3).trans rfl
              have r4 := (blkCell hb9 4).trans rfl
              have r5 := (blkCell hb9 5).trans rfl
              have r6 := (blkCell hb9 6).trans rfl
              exact bodyPost_ret (v := .tuple #[.agg #[.int .i64 r, .int .i64 cn, .int .i64 1, .int .i64 0, .int .i64 0, .int .i64 1, .int .i64 sg], .bool true]) (by simp [results, Tryd.results55, go_sem, r0, r1, r2, r3, r4, r5, r6]) rfl ⟨.inr ⟨by simp [mayPut, mayMore, HO.out, HI.out, HZ.out, HIN.out, HSG.out], by rw [show ((0 : Int)).toNat = 0 from rfl, HOP.out]; rfl⟩, hbel9⟩
            · have hnx : 0 < (lvs l).length := by
                have h := left_next (l := l) HO.out (t := 0) (by omega) (by rw [leftOf_zero]; exact hK)
                rw [leftOf_zero] at h
                exact h
              have hxn : (lvs l)[0]? = some (lvs l)[0] := by simp [hnx]
              have HOP : Hid (putO l r (0) sg = ⟨r, cn, 1, (lvs l)[0].a, (lvs l)[0].b, 0, sg⟩) := by
                have h := putO_no (l := l) (r := r) (sg := sg) (t := 0) (by rw [leftOf_zero]; exact hK) (x := (lvs l)[0]) (by rw [leftOf_zero]; exact hxn)
                rw [HCN.out] at h
                exact h
              obtain ⟨q0, q1, _, _⟩ := lfCells_at (lvs l) (0) _ hxn
              have u0 := (World.ownsRow.cellAt HR4.out ((0) * 4) (by omega)).trans q0
              have u1 := (World.ownsRow.cellAt HR4.out ((0) * 4 + 1) (by omega)).trans q1
              have hkp : 0 < (kidsL l (0, 0, 1)).length := List.length_pos_iff.2 hK
              generalize (lvs l)[0].a = ya at *
              generalize (lvs l)[0].b = yb at *
              generalize (kidsL l (0, 0, 1)).length = kn at *
              clear hK hxn q0 q1
              have hkp' : ¬ ((kn : Int) = 0) := by omega
              have hnx' : (0 : Int) < ((lvs l).length : Int) := by omega
              have ks1 : (Instr.storeAt 71 (.pointer (some ⟨w.heap.size, 0, none⟩)) (.agg #[.int .i64 r, .int .i64 cn, .int .i64 1, .int .i64 ya, .int .i64 yb, .int .i64 0, .int .i64 sg])).run Tryd.prog w4.drew = .ok () (w4.drew.setRow w.heap.size #[.int .i64 r, .int .i64 cn, .int .i64 1, .int .i64 ya, .int .i64 yb, .int .i64 0, .int .i64 sg]) := store_op w4.drew w.heap.size _ HA.out.box rfl r cn 1 ya yb 0 sg
              have HST := hideIt ((HA.out.below ((Below.refl _ _).drew)).stored r cn 1 ya yb 0 sg)
              have K9 : Hid ((w4.drew.setRow w.heap.size #[.int .i64 r, .int .i64 cn, .int .i64 1, .int .i64 ya, .int .i64 yb, .int .i64 0, .int .i64 sg]).cell? ⟨B1, 0, none⟩ = some (.int .i64 r) ∧ (w4.drew.setRow w.heap.size #[.int .i64 r, .int .i64 cn, .int .i64 1, .int .i64 ya, .int .i64 yb, .int .i64 0, .int .i64 sg]).cell? ⟨B1, 1, none⟩ = some (.int .i64 cn) ∧ (w4.drew.setRow w.heap.size #[.int .i64 r, .int .i64 cn, .int .i64 1, .int .i64 ya, .int .i64 yb, .int .i64 0, .int .i64 sg]).cell? ⟨G, (0) * 4, none⟩ = some (.int .i64 ya) ∧ (w4.drew.setRow w.heap.size #[.int .i64 r, .int .i64 cn, .int .i64 1, .int .i64 ya, .int .i64 yb, .int .i64 0, .int .i64 sg]).cell? ⟨G, (0) * 4 + 1, none⟩ = some (.int .i64 yb)) :=
                ⟨setRow_cell (W := w4.drew) hdd d0, setRow_cell (W := w4.drew) hdd d1, setRow_cell (W := w4.drew) nG u0, setRow_cell (W := w4.drew) nG u1⟩
              go_wp2
              go_region_held3 (fun w' => w'.cell? ⟨B1, 0, none⟩ = some (.int .i64 r) ∧ w'.cell? ⟨B1, 1, none⟩ = some (.int .i64 cn) ∧ w'.cell? ⟨G, (0) * 4, none⟩ = some (.int .i64 ya) ∧ w'.cell? ⟨G, (0) * 4 + 1, none⟩ = some (.int .i64 yb))
                (first | exact ⟨d0, d1, u0, u1⟩ | exact K9.out)
                (fail)
              rename_i hHH
              clear hHH K9
              generalize World.setRow _ _ _ = W9 at *
              go_wp2
              obtain ⟨hb9, hbel9⟩ := HST.out
              have r0 := (blkCell hb9 0).trans rfl
              have r1 := (blkCell hb9 1).trans rfl
              have r2 := (blkCell hb9 2).trans rfl
              have r3 := (blkCell hb9 3).trans rfl
              have r4 := (blkCell hb9 4).trans rfl
              have r5 := (blkCell hb9 5).trans rfl
              have r6 := (blkCell hb9 6).trans rfl
              exact bodyPost_ret (v := .tuple #[.agg #[.int .i64 r, .int .i64 cn, .int .i64 1, .int .i64 ya, .int .i64 yb, .int .i64 0, .int .i64 sg], .bool true]) (by simp [results, Tryd.results55, go_sem, r0, r1, r2, r3, r4, r5, r6]) rfl ⟨.inr ⟨by simp [mayPut, mayMore, HO.out, HI.out, HZ.out, HIN.out, HSG.out], by rw [show ((0 : Int)).toNat = 0 from rfl, HOP.out]; rfl⟩, hbel9⟩
          · obtain ⟨k, rfl, hk1⟩ : ∃ k : Nat, t = (k : Int) + 1 ∧ k < (shownI (lvs l)).length := ⟨t.toNat - 1, by omega, by omega⟩
            obtain ⟨j, x, hj, hx, hjl⟩ := shown_leaf hk1
            have HLF : Hid (leftOf l (k + 1) = (x.a, x.b, j + 1)) := leftOf_succ hj hx
            have hS := (World.ownsRow.cellAt HS3.out k (by omega)).trans (natCells_at hj)
            obtain ⟨q0, q1, _, _⟩ := lfCells_at (lvs l) j x hx
            have z0 := (World.ownsRow.cellAt HRR.out (j * 4) (by omega)).trans q0
            have z1 := (World.ownsRow.cellAt HRR.out (j * 4 + 1) (by omega)).trans q1
            have hSl := (World.ownsRow.lt HS3.out S rfl).2
            have hGl := (World.ownsRow.lt HRR.out G rfl).2
            have hk' : (k : Int) < ((shownI (lvs l)).length : Int) := by omega
            have hj' : (j : Int) < ((lvs l).length : Int) := by omega
            have hj0 : (0 : Int) ≤ (j : Int) := by omega
            have hk0 : (0 : Int) ≤ (k : Int) := by omega
            have hk00 : (0 : Int) < (k : Int) + 1 := by omega
            have hjw : wrap64 ((j : Int) + 1) = (j : Int) + 1 := by have := HLN.out; simp only [wrap64]; omega
            generalize x.a = xa at *
            generalize x.b = xb at *
            clear q0 q1 hj hx
            go_wp2_with (first | (go_at_call 62; refine (l6In_any _ _ _ _).mono ?_; rintro e w' ⟨rfl, hw'⟩; subst hw'; rw [HIN.out]))
            have HAL := hideIt (HA.out.below ((Below.refl _ _).alloc (Nat.le_refl _) (.cells #[.int .i64 xa, .int .i64 xb] 69)))
            have hb0 : Below w'.heap.size w' (w'.alloc (.cells #[.int .i64 xa, .int .i64 xb] 69)) := (Below.refl _ _).alloc (Nat.le_refl _) _
            have D4 : Hid ((w'.alloc (.cells #[.int .i64 xa, .int .i64 xb] 69)).cell? ⟨w'.heap.size, 0, none⟩ = some (.int .i64 xa) ∧ (w'.alloc (.cells #[.int .i64 xa, .int .i64 xb] 69)).cell? ⟨w'.heap.size, 1, none⟩ = some (.int .i64 xb) ∧ w'.heap.size < (w'.alloc (.cells #[.int .i64 xa, .int .i64 xb] 69)).heap.size) := ⟨by simp [go_sem], by simp [go_sem], by simp⟩
            have HRK := hideIt (rowKeep HRR.out hb0)
            have a0 := ((bcell hb0).1 _ _ dl).trans d0
            have a1 := ((bcell hb0).1 _ _ dl).trans d1
            have al := Nat.lt_of_lt_of_le dl hb0.size
            have hd2 : w'.heap.size ≠ w.heap.size := by have := HA.out.lt; omega
            clear hb0
            generalize w'.alloc (.cells #[.int .i64 xa, .int .i64 xb] 69) = Wj at *
            generalize w'.heap.size = B2 at *
            refine (l2Kids_any l g cap _ _ _ _ (HL.out.below HAL.out.bel hgw) hn hcap).mono ?_
            rintro e w4 ⟨v, rfl, hrk, hb4⟩
            obtain ⟨pk, ck, rfl⟩ := row_len hrk
            have d0 := ((bcell hb4).1 _ _ al).trans a0
            have d1 := ((bcell hb4).1 _ _ al).trans a1
            have e0 := ((bcell hb4).1 _ _ D4.out.2.2).trans D4.out.1
            have e1 := ((bcell hb4).1 _ _ D4.out.2.2).trans D4.out.2.1
            have HR4 := hideIt (rowKeep HRK.out hb4)
            have hB14 : B1 < w4.heap.size := Nat.lt_of_lt_of_le al hb4.size
            have hB24 : B2 < w4.heap.size := Nat.lt_of_lt_of_le D4.out.2.2 hb4.size
            have HA := hideIt (HAL.out.below hb4)
            have hwl4 := HA.out.lt
            have nG : G ≠ w.heap.size := by have h1 := (World.ownsRow.lt HRR.out G rfl).1; have h2 := hGw.out.1; omega
            have hGl4 := (World.ownsRow.lt HR4.out G rfl).2
            clear hrk hb4 HAL HRK
            by_cases hK : kidsL l (xa, xb, 1) = []
            · have HOP : Hid (putO l r (k + 1) sg = ⟨r, cn, 1, xa, xb, 1, sg⟩) := by
                have h := putO_yes (l := l) (r := r) (sg := sg) (t := k + 1) (by rw [HLF.out]; exact hK)
                rw [HLF.out, HCN.out] at h
                exact h
              have hkn : (kidsL l (xa, xb, 1)).length = 0 := by rw [hK]; rfl
              rw [hkn]
              clear hK
              go_wp2_with (first | (refine wpList_store_row rfl 71 _ _ rfl w.heap.size _ rfl rfl 71 _ HA.out.box (by kernel_rfl) rfl (all7 _ _ _ _ _ _ _) ?_; have HST := hideIt (HA.out.stored r cn 1 xa xb 1 sg); generalize World.setRow _ _ _ = W9 at *))
              obtain ⟨hb9, hbel9⟩ := HST.out
              have r0 := (blkCell hb9 0).trans rfl
              have r1 := (blkCell hb9 1).trans rfl
              have r2 := (blkCell hb9 2).trans rfl
              have r3 := (blkCell hb9 3).trans rfl
              have r4 := (blkCell hb9 4).trans rfl
              have r5 := (blkCell hb9 5).trans rfl
              have r6 := (blkCell hb9 6).trans rfl
              exact bodyPost_ret (v := .tuple #[.agg #[.int .i64 r, .int .i64 cn, .int .i64 1, .int .i64 xa, .int .i64 xb, .int .i64 1, .int .i64 sg], .bool true]) (by simp [results, Tryd.results55, go_sem, r0, r1, r2, r3, r4, r5, r6]) rfl ⟨.inr ⟨by simp [mayPut, mayMore, HO.out, HI.out, HZ.out, HIN.out, HSG.out], by rw [show ((k : Int) + 1).toNat = k + 1 from (by omega), HOP.out]; rfl⟩, hbel9⟩
            · have hnx : (j + 1) < (lvs l).length := by
                have h := left_next (l := l) HO.out (t := k + 1) (by omega) (by rw [HLF.out]; exact hK)
                rw [HLF.out] at h
                exact h
              have hxn : (lvs l)[(j + 1)]? = some (lvs l)[(j + 1)] := by simp [hnx]
              have HOP : Hid (putO l r (k + 1) sg = ⟨r, cn, 1, (lvs l)[(j + 1)].a, (lvs l)[(j + 1)].b, 0, sg⟩) := by
                have h := putO_no (l := l) (r := r) (sg := sg) (t := k + 1) (by rw [HLF.out]; exact hK) (x := (lvs l)[(j + 1)]) (by rw [HLF.out]; exact hxn)
                rw [HCN.out] at h
                exact h
              obtain ⟨q0, q1, _, _⟩ := lfCells_at (lvs l) ((j + 1)) _ hxn
              have u0 := (World.ownsRow.cellAt HR4.out (((j + 1)) * 4) (by omega)).trans q0
              have u1 := (World.ownsRow.cellAt HR4.out (((j + 1)) * 4 + 1) (by omega)).trans q1
              have hkp : 0 < (kidsL l (xa, xb, 1)).length := List.length_pos_iff.2 hK
              generalize (lvs l)[(j + 1)].a = ya at *
              generalize (lvs l)[(j + 1)].b = yb at *
              generalize (kidsL l (xa, xb, 1)).length = kn at *
              clear hK hxn q0 q1
              have hkp' : ¬ ((kn : Int) = 0) := by omega
              have hnx' : ((j : Int) + 1 : Int) < ((lvs l).length : Int) := by omega
              have hnx0 : (0 : Int) ≤ (j : Int) + 1 := by omega
              have hnt : ((j : Int) + 1).toNat = j + 1 := by omega
              have ks1 : (Instr.storeAt 71 (.pointer (some ⟨w.heap.size, 0, none⟩)) (.agg #[.int .i64 r, .int .i64 cn, .int .i64 1, .int .i64 ya, .int .i64 yb, .int .i64 0, .int .i64 sg])).run Tryd.prog w4.drew = .ok () (w4.drew.setRow w.heap.size #[.int .i64 r, .int .i64 cn, .int .i64 1, .int .i64 ya, .int .i64 yb, .int .i64 0, .int .i64 sg]) := store_op w4.drew w.heap.size _ HA.out.box rfl r cn 1 ya yb 0 sg
              have HST := hideIt ((HA.out.below ((Below.refl _ _).drew)).stored r cn 1 ya yb 0 sg)
              have K9 : Hid ((w4.drew.setRow w.heap.size #[.int .i64 r, .int .i64 cn, .int .i64 1, .int .i64 ya, .int .i64 yb, .int .i64 0, .int .i64 sg]).cell? ⟨B1, 0, none⟩ = some (.int .i64 r) ∧ (w4.drew.setRow w.heap.size #[.int .i64 r, .int .i64 cn, .int .i64 1, .int .i64 ya, .int .i64 yb, .int .i64 0, .int .i64 sg]).cell? ⟨B1, 1, none⟩ = some (.int .i64 cn) ∧ (w4.drew.setRow w.heap.size #[.int .i64 r, .int .i64 cn, .int .i64 1, .int .i64 ya, .int .i64 yb, .int .i64 0, .int .i64 sg]).cell? ⟨G, (j + 1) * 4, none⟩ = some (.int .i64 ya) ∧ (w4.drew.setRow w.heap.size #[.int .i64 r, .int .i64 cn, .int .i64 1, .int .i64 ya, .int .i64 yb, .int .i64 0, .int .i64 sg]).cell? ⟨G, (j + 1) * 4 + 1, none⟩ = some (.int .i64 yb)) :=
                ⟨setRow_cell (W := w4.drew) hdd d0, setRow_cell (W := w4.drew) hdd d1, setRow_cell (W := w4.drew) nG u0, setRow_cell (W := w4.drew) nG u1⟩
              go_wp2
              go_region_held3 (fun w' => w'.cell? ⟨B1, 0, none⟩ = some (.int .i64 r) ∧ w'.cell? ⟨B1, 1, none⟩ = some (.int .i64 cn) ∧ w'.cell? ⟨G, (j + 1) * 4, none⟩ = some (.int .i64 ya) ∧ w'.cell? ⟨G, (j + 1) * 4 + 1, none⟩ = some (.int .i64 yb))
                (first | exact ⟨d0, d1, u0, u1⟩ | exact K9.out)
                (fail)
              rename_i hHH
              clear hHH K9
              generalize World.setRow _ _ _ = W9 at *
              go_wp2
              obtain ⟨hb9, hbel9⟩ := HST.out
              have r0 := (blkCell hb9 0).trans rfl
              have r1 := (blkCell hb9 1).trans rfl
              have r2 := (blkCell hb9 2).trans rfl
              have r3 := (blkCell hb9 3).trans rfl
              have r4 := (blkCell hb9 4).trans rfl
              have r5 := (blkCell hb9 5).trans rfl
              have r6 := (blkCell hb9 6).trans rfl
              exact bodyPost_ret (v := .tuple #[.agg #[.int .i64 r, .int .i64 cn, .int .i64 1, .int .i64 ya, .int .i64 yb, .int .i64 0, .int .i64 sg], .bool true]) (by simp [results, Tryd.results55, go_sem, r0, r1, r2, r3, r4, r5, r6]) rfl ⟨.inr ⟨by simp [mayPut, mayMore, HO.out, HI.out, HZ.out, HIN.out, HSG.out], by rw [show ((k : Int) + 1).toNat = k + 1 from (by omega), HOP.out]; rfl⟩, hbel9⟩
end Go.Proofs.YtficnhlkefpfnaaDoor

namespace Go.Proofs.YtficnhlkefpfnaaDoor
open Go.RowKit
/-- A thing stored whole into its new box. -/
theorem store_op_new (w : World) (a1 a2 a3 a4 a5 a6 a7 : Int) : (Instr.storeAt 71 (.pointer (some ⟨w.heap.size, 0, none⟩)) (.agg #[.int .i64 a1, .int .i64 a2, .int .i64 a3, .int .i64 a4, .int .i64 a5, .int .i64 a6, .int .i64 a7])).run Tryd.prog (w.alloc (.cells #[.int .i64 0, .int .i64 0, .int .i64 0, .int .i64 0, .int .i64 0, .int .i64 0, .int .i64 0] 71)) = .ok () (w.alloc (.cells #[.int .i64 a1, .int .i64 a2, .int .i64 a3, .int .i64 a4, .int .i64 a5, .int .i64 a6, .int .i64 a7] 71)) :=
  run_storeAt_new w 71 #[.int .i64 0, .int .i64 0, .int .i64 0, .int .i64 0, .int .i64 0, .int .i64 0, .int .i64 0] #[.int .i64 a1, .int .i64 a2, .int .i64 a3, .int .i64 a4, .int .i64 a5, .int .i64 a6, .int .i64 a7] (by kernel_rfl) rfl (by simp [Value.oneCell'])
end Go.Proofs.YtficnhlkefpfnaaDoor

namespace Go.Proofs.YtficnhlkefpfnaaDoor
open Go.RowKit
set_option linter.unusedSimpArgs false
set_option linter.unusedVariables false
attribute [local go_sem ↓] Go.wp_at_zero Go.wp_at_succ store_op_new
attribute [-go_sem] Instr.storeAt

theorem withL_len (l : List Op7) (o : Op7) : (withL l o).length ≤ 2 * l.length + 1 := by
  have h := both_len l o l.length
  rw [both_all] at h
  exact h
theorem mayPut_ok {l : List Op7} {r t sg : Int} (h : mayPut l r t sg = true) : opsB l = true := by
  simp only [mayPut, mayMore, Bool.and_eq_true] at h
  exact h.1.1.1

set_option maxRecDepth 100000 in
set_option maxHeartbeats 2000000 in
theorem typeRun_any (l : List Op7) (g cap : Nat) (r t : Int) (s : ByteArray) (w : World) (hl : OpsAt w g l) (hn : l.length ≤ 1048576) (hcap : l.length ≤ cap) (hs : s.size ≤ 1048576) :
    Calls Tryd.prog 14 #[.slice (some ⟨g, 0, none⟩) l.length cap, .int .i64 r, .int .i64 t, .string s] w fun e w' =>
      ∃ G c L z, e = .returned (.tuple #[.slice (some ⟨G, 0, none⟩) L.length c, .bool z]) ∧ OwnOps w' w.heap.size G c L ∧ L.length ≤ 73 ∧ Below w.heap.size w w' := by
  have HL := hideIt hl
  have hgw := hl.1
  clear hl
  obtain ⟨i0, hi, hz0', hz1', hz2⟩ := info_parts infoOp
  have HI1 := hideIt hi
  have HZ0 := hideIt hz0'
  have HZ1 := hideIt hz1'
  have HZ2 := hideIt hz2
  clear hi hz0' hz1' hz2
  cases ho : opsB l
  all_goals
    have HO := hideIt ho
    clear ho
    go_enter Tryd.func14, Tryd.ntmps14
    go_wp2_with fail
    refine (specOps_any l _ _ _ HL.out hn hcap).mono ?_
    rintro e w1 ⟨rfl, hb1⟩
    rw [HO.out]
    have HB1 := hideIt hb1
    have HL1 := hideIt (HL.out.below hb1 hgw)
    clear hb1
  · go_wp2
    exact bodyPost_ret (v := .tuple #[.slice (some ⟨w1.heap.size, 0, none⟩) 0 0, .bool false]) (by simp [results, Tryd.results14, go_sem]) rfl ⟨_, _, [], _, rfl, World.ownsRow_made (base := w.heap.size) (e := 71) (size := 7) w1 #[] 0 HB1.out.size (Nat.zero_le _) rfl, by simp, HB1.out.alloc HB1.out.size _⟩
  · have h36 := ops_36 HO.out
    have hz1 := HB1.out.size
    have HST : Hid ((w1.alloc (.cells #[] 71)).ownsRow w.heap.size 71 7 (.slice (some ⟨w1.heap.size, 0, none⟩) 0 0) 0 []) :=
      World.ownsRow_made (base := w.heap.size) (e := 71) (size := 7) w1 #[] 0 HB1.out.size (Nat.zero_le _) rfl
    have HC := hideIt (HL1.out.below ((Below.refl _ _).alloc (Nat.le_refl _) (.cells #[] 71)) HL1.out.1).cells
    go_wp2_with (first
      | (at_builtin; refine wpList_append_own_at _ rfl _ _ 24 rfl w.heap.size 71 i0 _ 7 56 Tryd.underlying24 HI1.out HZ0.out HZ1.out HZ2.out rfl (by decide) _ _ _ rfl HST.out ⟨g, 0, none⟩ l.length cap (opCells l) rfl (opCells_len l) HC.out (opCells_one _) (by unfold maxLen; omega) (by omega) (by simp; omega) ?_; intro v' w3 hown3 hg3 hnil3 _))
    have HS0 : Hid (∃ G c, v' = .slice (some ⟨G, 0, none⟩) l.length c ∧ OwnOps w3 w.heap.size G c l) := by
      show ∃ G c, _
      rw [Nat.zero_add, List.nil_append] at hown3
      rcases hown3.2 with ⟨e, _⟩ | ⟨G, c, cur, e, _⟩
      · exact absurd (hnil3.1 e).1 (fun h => by cases h)
      · subst e; exact ⟨G, c, rfl, hown3⟩
    have HB3 := hideIt (below_grown (HB1.out.alloc HB1.out.size _) hg3 (by simp; omega) (fun j e => (HST.out.lt j e).1))
    clear hown3 hg3 hnil3
    go_loopw [10, 11] (fun v i wr => ∃ (k G c : Nat) (L : List Op7), k ≤ s.size ∧ i = .int .i64 k ∧ v = .slice (some ⟨G, 0, none⟩) L.length c ∧ OwnOps wr w.heap.size G c L ∧ L.length ≤ 73 ∧ Below w.heap.size w wr)
      (fun _ i _ => s.size - (intOf i).toNat)
    case atStart =>
      obtain ⟨G, c, e, h⟩ := HS0.out
      exact ⟨0, G, c, l, Nat.zero_le _, rfl, e, h, by omega, HB3.out⟩
    case round =>
      obtain ⟨k, G, c, L, hk, rfl, rfl, hS, hL73, hB⟩ := hrel
      have HS := hideIt hS
      have HB := hideIt hB
      have hzr := hB.size
      clear hS hB HS0 HB3
      by_cases hlt : k < s.size
      · have hlt' : (k : Int) < (s.size : Int) := by omega
        have hk0 : (0 : Int) ≤ (k : Int) := by omega
        by_cases h12 : 12 ≤ k
        · have h12' : (12 : Int) ≤ (k : Int) := by omega
          go_wp2
          exact bodyPost_ret (v := .tuple #[.slice (some ⟨wr.heap.size, 0, none⟩) 0 0, .bool false]) (by simp [results, Tryd.results14, go_sem]) rfl ⟨_, _, [], _, rfl, World.ownsRow_made (base := w.heap.size) (e := 71) (size := 7) wr #[] 0 HB.out.size (Nat.zero_le _) rfl, by simp, HB.out.alloc HB.out.size _⟩
        · have h12' : ¬ ((12 : Int) ≤ (k : Int)) := by omega
          go_wp2_with fail
          refine (typePut_any L G c r _ _ wr HS.out.at (by omega) HS.out.cap).mono ?_
          rintro e w4 ⟨(⟨hm, rfl⟩ | ⟨hm, rfl⟩), hb4⟩
          · have HB4 := hideIt (Bstep HB.out hb4)
            have hz4 := HB4.out.size
            clear hb4 hm
            have HM : Hid ((((w4.alloc (.cells #[.int .i64 0, .int .i64 0, .int .i64 0, .int .i64 0, .int .i64 0, .int .i64 0, .int .i64 0] 71)).alloc (.cells #[] 71))).ownsRow w.heap.size 71 7 (.slice (some ⟨w4.heap.size + 1, 0, none⟩) 0 0) 0 []) := by
              have h := World.ownsRow_made (base := w.heap.size) (e := 71) (size := 7) (w4.alloc (.cells #[.int .i64 0, .int .i64 0, .int .i64 0, .int .i64 0, .int .i64 0, .int .i64 0, .int .i64 0] 71)) #[] 0 (by simp; omega) (Nat.zero_le _) rfl
              rw [World.size_alloc] at h
              exact h
            go_wp2
            exact bodyPost_ret (v := .tuple #[.slice (some ⟨w4.heap.size + 1, 0, none⟩) 0 0, .bool false]) (by simp [results, Tryd.results14, go_sem]) rfl ⟨_, _, [], _, rfl, HM.out, by simp, (HB4.out.alloc HB4.out.size _).alloc (by simp; omega) _⟩
          · have h36L := ops_36 (mayPut_ok hm)
            have HB4 := hideIt (Bstep HB.out hb4)
            have HS4 := hideIt (HS.out.below hb4)
            have hz4 := HB4.out.size
            clear hb4 hm
            generalize putO L r _ _ = o
            unfold opV
            go_wp2_with fail
            refine (l3With_any L G c o _ (HS4.out.below ((Below.refl _ _).alloc (Nat.le_refl _) _)).at (by omega) HS4.out.cap).mono ?_
            rintro e w5 ⟨G5, c5, rfl, hS5, hb5⟩
            have HS5 : Hid (OwnOps w5 w.heap.size G5 c5 (withL L o)) := ownsRow_base (by simp; omega) hS5
            have HB5 := hideIt (Bstep (HB4.out.alloc HB4.out.size _) hb5)
            have hwl := withL_len L o
            clear hS5 hb5
            go_wp2
            exact ⟨⟨k + 1, G5, c5, withL L o, by omega, by go_num, rfl, HS5.out, by omega, HB5.out⟩, by simp [intOf]; omega⟩
      · obtain rfl : k = s.size := by omega
        go_wp2
        exact bodyPost_ret (v := .tuple #[.slice (some ⟨G, 0, none⟩) L.length c, .bool true]) (by simp [results, Tryd.results14, go_sem]) rfl ⟨_, _, L, _, rfl, HS.out, hL73, HB.out⟩
end Go.Proofs.YtficnhlkefpfnaaDoor

namespace Go.Proofs.YtficnhlkefpfnaaDoor
open Go.RowKit
set_option linter.unusedSimpArgs false
set_option linter.unusedVariables false
attribute [local go_sem ↓] Go.wp_at_zero Go.wp_at_succ

/-- With something more there is at most one more. -/
theorem withL_le (l : List Op7) (o : Op7) : (withL l o).length ≤ l.length + 1 := by
  have h : ∀ m : List Op7, (m.filter (fun p => lessB p o)).length + (m.filter (fun p => lessB o p)).length ≤ m.length := by
    intro m
    induction m with
    | nil => simp
    | cons x r ih =>
      have hx : lessB x o = true → lessB o x = false := by
        simp only [lessB, decide_eq_true_eq, decide_eq_false_iff_not]
        omega
      simp only [List.filter_cons]
      cases h1 : lessB x o
      · cases h2 : lessB o x <;> simp <;> omega
      · rw [hx h1]; simp; omega
  have := h l
  unfold withL
  simp only [List.length_append, List.length_cons, List.length_nil]
  omega
/-- What b tells of something is what a tells of it, if a does. -/
def agr (a : List Op7) (x : Op7) : Prop := findI a x.a x.b < 0 ∨ a[(findI a x.a x.b).toNat]? = some x
/-- a, and the first k of b. -/
def merL (a b : List Op7) (k : Nat) : List Op7 := ((b.take k).filter fun x => decide (findI a x.a x.b < 0)).foldl withL a
theorem mer_zero (a b : List Op7) : merL a b 0 = a := by simp [merL]
theorem mer_yes {a b : List Op7} {k : Nat} (hk : k < b.length) (h : findI a b[k].a b[k].b < 0) : merL a b (k + 1) = withL (merL a b k) b[k] := by
  unfold merL; rw [List.take_succ_eq_append_getElem hk, List.filter_append]; simp [h]
theorem mer_no {a b : List Op7} {k : Nat} (hk : k < b.length) (h : ¬ findI a b[k].a b[k].b < 0) : merL a b (k + 1) = merL a b k := by
  unfold merL; rw [List.take_succ_eq_append_getElem hk, List.filter_append]; simp [h]
theorem mer_len {a b : List Op7} : ∀ {k : Nat}, k ≤ b.length → (merL a b k).length ≤ a.length + k
  | 0, _ => by rw [mer_zero]; omega
  | k + 1, hk => by
    have ih := mer_len (a := a) (b := b) (k := k) (by omega)
    by_cases h : findI a b[k].a b[k].b < 0
    · rw [mer_yes hk h]
      have := withL_le (merL a b k) b[k]
      omega
    · rw [mer_no hk h]; omega
theorem findI_lt {l : List Op7} {r m : Int} (h : ¬ findI l r m < 0) : ∃ j : Nat, findI l r m = j ∧ j < l.length := by
  unfold findI at *
  split at h
  · rename_i i hi
    exact ⟨i, rfl, (List.findIdx?_eq_some_iff_getElem.1 hi).1⟩
  · omega
theorem findI_m1 {l : List Op7} {r m : Int} (h : findI l r m < 0) : findI l r m = -1 := by
  unfold findI at *
  split at h
  · rename_i i hi
    omega
  · rfl
/-- Two things that are not the same differ in a part. -/
theorem op_ne {p q : Op7} (h : ¬ q = p) : ¬ q.a = p.a ∨ (q.a = p.a ∧ ¬ q.b = p.b) ∨ (q.a = p.a ∧ q.b = p.b ∧ ¬ q.k = p.k) ∨ (q.a = p.a ∧ q.b = p.b ∧ q.k = p.k ∧ ¬ q.c = p.c) ∨ (q.a = p.a ∧ q.b = p.b ∧ q.k = p.k ∧ q.c = p.c ∧ ¬ q.d = p.d) ∨ (q.a = p.a ∧ q.b = p.b ∧ q.k = p.k ∧ q.c = p.c ∧ q.d = p.d ∧ ¬ q.s = p.s) ∨ (q.a = p.a ∧ q.b = p.b ∧ q.k = p.k ∧ q.c = p.c ∧ q.d = p.d ∧ q.s = p.s ∧ ¬ q.g = p.g) := by
  by_cases h0 : q.a = p.a <;> by_cases h1 : q.b = p.b <;> by_cases h2 : q.k = p.k <;> by_cases h3 : q.c = p.c <;> by_cases h4 : q.d = p.d <;> by_cases h5 : q.s = p.s <;> by_cases h6 : q.g = p.g <;> first | (exfalso; apply h; cases p; cases q; simp_all; done) | simp [h0, h1, h2, h3, h4, h5, h6]

/-- What OpsMerge answers. -/
def MergeSaid (a b L : List Op7) (z : Bool) : Prop := (z = true ∧ opsB a = true ∧ opsB b = true ∧ (∀ x ∈ b, agr a x) ∧ L = merL a b b.length) ∨ (z = false ∧ L = [] ∧ ¬ (opsB a = true ∧ opsB b = true ∧ ∀ x ∈ b, agr a x))

set_option maxRecDepth 100000 in
set_option maxHeartbeats 2000000 in
theorem opsMerge_any (a b : List Op7) (ga ca gb cb : Nat) (w : World) (ha : OpsAt w ga a) (hb : OpsAt w gb b) (hna : a.length ≤ 1048576) (hnb : b.length ≤ 1048576) (hca : a.length ≤ ca) (hcb : b.length ≤ cb) :
    Calls Tryd.prog 33 #[.slice (some ⟨ga, 0, none⟩) a.length ca, .slice (some ⟨gb, 0, none⟩) b.length cb] w fun e w' =>
      ∃ G c L z, e = .returned (.tuple #[.slice (some ⟨G, 0, none⟩) L.length c, .bool z]) ∧ OwnOps w' w.heap.size G c L ∧ MergeSaid a b L z ∧ Below w.heap.size w w' := by
  have HA := hideIt ha
  have HB := hideIt hb
  have hga := ha.1
  have hgb := hb.1
  clear ha hb
  obtain ⟨i0, hi, hz0', hz1', hz2⟩ := info_parts infoOp
  have HI1 := hideIt hi
  have HZ0 := hideIt hz0'
  have HZ1 := hideIt hz1'
  have HZ2 := hideIt hz2
  clear hi hz0' hz1' hz2
  cases hoa : opsB a
  · have HO := hideIt hoa
    clear hoa
    go_enter Tryd.func33, Tryd.ntmps33
    go_wp2_with fail
    refine (specOps_any a _ _ _ HA.out hna hca).mono ?_
    rintro e w1 ⟨rfl, hb1⟩
    rw [HO.out]
    have HB1 := hideIt hb1
    clear hb1
    go_wp2
    exact bodyPost_ret (v := .tuple #[.slice (some ⟨w1.heap.size, 0, none⟩) 0 0, .bool false]) (by simp [results, Tryd.results33, go_sem]) rfl ⟨_, _, [], _, rfl, World.ownsRow_made (base := w.heap.size) (e := 71) (size := 7) w1 #[] 0 HB1.out.size (Nat.zero_le _) rfl, .inr ⟨rfl, rfl, fun h => by rw [HO.out] at h; exact absurd h.1 (by decide)⟩, HB1.out.alloc HB1.out.size _⟩
  · cases hob : opsB b
    all_goals
      have HOA := hideIt hoa
      have HOB := hideIt hob
      clear hoa hob
      go_enter Tryd.func33, Tryd.ntmps33
      go_wp2_with fail
      refine (specOps_any a _ _ _ HA.out hna hca).mono ?_
      rintro e w1 ⟨rfl, hb1⟩
      rw [HOA.out]
      have hz1 := hb1.size
      have HB1 := hideIt hb1
      clear hb1
      go_wp2_with fail
      refine (specOps_any b _ _ _ (HB.out.below HB1.out hgb) hnb hcb).mono ?_
      rintro e w2 ⟨rfl, hb2⟩
      rw [HOB.out]
      have HB2 := hideIt (Bstep HB1.out hb2)
      have hz2 := HB2.out.size
      clear hb2 HB1 hz1
    · go_wp2
      exact bodyPost_ret (v := .tuple #[.slice (some ⟨w2.heap.size, 0, none⟩) 0 0, .bool false]) (by simp [results, Tryd.results33, go_sem]) rfl ⟨_, _, [], _, rfl, World.ownsRow_made (base := w.heap.size) (e := 71) (size := 7) w2 #[] 0 HB2.out.size (Nat.zero_le _) rfl, .inr ⟨rfl, rfl, fun h => by rw [HOB.out] at h; exact absurd h.2.1 (by decide)⟩, HB2.out.alloc HB2.out.size _⟩
    · have h36 := ops_36 HOA.out
      have h36b := ops_36 HOB.out
      have HST : Hid ((w2.alloc (.cells #[] 71)).ownsRow w.heap.size 71 7 (.slice (some ⟨w2.heap.size, 0, none⟩) 0 0) 0 []) :=
        World.ownsRow_made (base := w.heap.size) (e := 71) (size := 7) w2 #[] 0 HB2.out.size (Nat.zero_le _) rfl
      have HC := hideIt (HA.out.below (HB2.out.alloc HB2.out.size (.cells #[] 71)) hga).cells
      go_wp2_with (first
        | (at_builtin; refine wpList_append_own_at _ rfl _ _ 24 rfl w.heap.size 71 i0 _ 7 56 Tryd.underlying24 HI1.out HZ0.out HZ1.out HZ2.out rfl (by decide) _ _ _ rfl HST.out ⟨ga, 0, none⟩ a.length ca (opCells a) rfl (opCells_len a) HC.out (opCells_one _) (by unfold maxLen; omega) (by omega) (by simp; omega) ?_; intro v' w3 hown3 hg3 hnil3 _))
      have HS0 : Hid (∃ G c, v' = .slice (some ⟨G, 0, none⟩) a.length c ∧ OwnOps w3 w.heap.size G c a) := by
        show ∃ G c, _
        rw [Nat.zero_add, List.nil_append] at hown3
        rcases hown3.2 with ⟨e, _⟩ | ⟨G, c, cur, e, _⟩
        · exact absurd (hnil3.1 e).1 (fun h => by cases h)
        · subst e; exact ⟨G, c, rfl, hown3⟩
      have HB3 := hideIt (below_grown (HB2.out.alloc HB2.out.size _) hg3 (by simp; omega) (fun j e => (HST.out.lt j e).1))
      clear hown3 hg3 hnil3
      go_loopw [6, 7] (fun v i wr => ∃ (k G c : Nat), k ≤ b.length ∧ i = .int .i64 k ∧ v = .slice (some ⟨G, 0, none⟩) (merL a b k).length c ∧ OwnOps wr w.heap.size G c (merL a b k) ∧ (∀ j (hj : j < b.length), j < k → agr a b[j]) ∧ Below w.heap.size w wr)
        (fun _ i _ => b.length - (intOf i).toNat)
      case atStart =>
        obtain ⟨G, c, e, h⟩ := HS0.out
        exact ⟨0, G, c, Nat.zero_le _, rfl, by rw [mer_zero]; exact e, by rw [mer_zero]; exact h, fun j _ h => by omega, HB3.out⟩
      case round =>
        obtain ⟨k, G, c, hk, rfl, rfl, hS, hag, hBr⟩ := hrel
        have HS := hideIt hS
        have HAG : Hid (∀ j (hj : j < b.length), j < k → agr a b[j]) := hag
        have HBr := hideIt hBr
        have hzr := hBr.size
        have hml := mer_len (a := a) hk
        clear hS hBr HS0 HB3 hag
        by_cases hlt : k < b.length
        · have hlt' : (k : Int) < (b.length : Int) := by omega
          have hk0 : (0 : Int) ≤ (k : Int) := by omega
          have HY : Hid (findI a b[k].a b[k].b < 0 → merL a b (k + 1) = withL (merL a b k) b[k]) := mer_yes hlt
          have HN : Hid (¬ findI a b[k].a b[k].b < 0 → merL a b (k + 1) = merL a b k) := mer_no hlt
          have HX : Hid (agr a b[k] → ∀ j (hj : j < b.length), j < k + 1 → agr a b[j]) := fun h j hj hjk => by
            rcases Nat.lt_or_ge j k with h' | h'
            · exact HAG.out j hj h'
            · obtain rfl : j = k := by omega
              exact h
          have HM : Hid (b[k] ∈ b) := List.getElem_mem hlt
          have hpk : b[k]? = some b[k] := by simp [hlt]
          generalize b[k] = p at *
          have hgbr : gb < wr.heap.size := Nat.lt_of_lt_of_le hgb HBr.out.size
          have hgar : ga < wr.heap.size := Nat.lt_of_lt_of_le hga HBr.out.size
          have HBL := hideIt (HB.out.below HBr.out hgb)
          have HAL := hideIt (HA.out.below HBr.out hga)
          obtain ⟨y0, y1, y2, y3, y4, y5, y6⟩ := HBL.out.2 k p hpk
          go_wp2_with fail
          refine (l1Find_any a _ _ _ _ _ HAL.out hna hca).mono ?_
          rintro e w4 ⟨rfl, hb4⟩
          have HB4 := hideIt (Bstep HBr.out hb4)
          have HS4 := hideIt (HS.out.below hb4)
          have hz4 := HB4.out.size
          have HBL4 := hideIt (HB.out.below HB4.out hgb)
          have HAL4 := hideIt (HA.out.below HB4.out hga)
          clear hb4 y0 y1 y2 y3 y4 y5 y6 HAL HBL
          obtain ⟨y0, y1, y2, y3, y4, y5, y6⟩ := HBL4.out.2 k p hpk
          by_cases hf : findI a p.a p.b < 0
          · have HE := hideIt (HY.out hf)
            have HF : Hid (agr a p) := .inl hf
            have hf2 : findI a p.a p.b = -1 := findI_m1 hf
            clear HY HN hf
            rw [hf2]
            clear hf2
            go_wp2
            go_quiet (fail)
            go_wp2_with fail
            refine (l3With_any (merL a b k) G c p _ (HS4.out.below (below_drewN (Below.refl _ _) nq)).at (by omega) HS4.out.cap).mono ?_
            rintro e w5 ⟨G5, c5, rfl, hS5, hb5⟩
            have HS5 : Hid (OwnOps w5 w.heap.size G5 c5 (withL (merL a b k) p)) := ownsRow_base (below_drewN HB4.out nq).size hS5
            have HB5 := hideIt (Bstep (below_drewN HB4.out nq) hb5)
            clear hS5 hb5
            go_wp2
            exact ⟨⟨k + 1, G5, c5, by omega, by go_num, by rw [HE.out], by rw [HE.out]; exact HS5.out, HX.out HF.out, HB5.out⟩, by simp [intOf]; omega⟩
          · obtain ⟨j, hj, hjl⟩ := findI_lt hf
            have HE := hideIt (HN.out (by omega))
            have hj' : a[j]? = some a[j] := by simp [hjl]
            obtain ⟨z0, z1, z2, z3, z4, z5, z6⟩ := HAL4.out.2 j _ hj'
            have HF : Hid (a[j] = p → agr a p) := fun h => .inr (by rw [hj]; simp [hjl, h])
            have HG : Hid (a[j] ≠ p → ¬ agr a p) := fun h hh => by
              rcases hh with hh | hh
              · exact hf hh
              · rw [hj] at hh; simp [hjl] at hh; exact h hh
            rw [hj]
            clear HY HN hf hj hj'
            generalize a[j] = q at *
            have hj0 : (0 : Int) ≤ (j : Int) := by omega
            have hj1 : ¬ ((j : Int) < 0) := by omega
            have hjl' : (j : Int) < (a.length : Int) := by omega
            by_cases hq : q = p
            · have HFo := hideIt (HF.out hq)
              subst hq
              go_wp2
              go_quiet (fail)
              go_wp2
              exact ⟨⟨k + 1, G, c, by omega, by go_num, by rw [HE.out], by rw [HE.out]; exact HS4.out.below (below_drewN (Below.refl _ _) nq), HX.out HFo.out, below_drewN HB4.out _⟩, by simp [intOf]; omega⟩
            · have HFo := hideIt (HG.out hq)
              have HNO : Hid (¬ ∀ x ∈ b, agr a x) := fun h => HFo.out (h p HM.out)
              have hne := op_ne hq
              clear HF HG HE HX HM HFo hq hpk HAG HAL4 HBL4
              rcases hne with hne | ⟨e0, hne⟩ | ⟨e0, e1, hne⟩ | ⟨e0, e1, e2, hne⟩ | ⟨e0, e1, e2, e3, hne⟩ | ⟨e0, e1, e2, e3, e4, hne⟩ | ⟨e0, e1, e2, e3, e4, e5, hne⟩
              all_goals
                go_wp2
                go_quiet (fail)
                go_wp2
                exact bodyPost_ret (v := .tuple #[.slice (some ⟨w4.heap.size, 0, none⟩) 0 0, .bool false]) (by simp [results, Tryd.results33, go_sem]) rfl ⟨_, _, [], _, rfl, World.ownsRow_made (base := w.heap.size) (e := 71) (size := 7) (w4.drewN nq) #[] 0 HB4.out.size (Nat.zero_le _) rfl, .inr ⟨rfl, rfl, fun h => HNO.out h.2.2⟩, (below_drewN HB4.out nq).alloc HB4.out.size _⟩
        · obtain rfl : k = b.length := by omega
          go_wp2
          exact bodyPost_ret (v := .tuple #[.slice (some ⟨G, 0, none⟩) (merL a b b.length).length c, .bool true]) (by simp [results, Tryd.results33, go_sem]) rfl ⟨_, _, _, _, rfl, HS.out, .inl ⟨rfl, HOA.out, HOB.out, fun x hx => by obtain ⟨j, hj, rfl⟩ := List.getElem_of_mem hx; exact HAG.out j hj hj, rfl⟩, HBr.out⟩
end Go.Proofs.YtficnhlkefpfnaaDoor

namespace Go.Proofs.YtficnhlkefpfnaaDoor

abbrev Asc (l : List Op7) : Prop := l.Pairwise fun p q => lessB p q = true
theorem less_trans {p q r : Op7} (h1 : lessB p q = true) (h2 : lessB q r = true) : lessB p r = true := by
  unfold lessB at *
  have := of_decide_eq_true h1
  have := of_decide_eq_true h2
  exact decide_eq_true (by omega)
theorem less_ne {p q : Op7} (h : lessB p q = true) : ¬ (p.a = q.a ∧ p.b = q.b) := by
  unfold lessB at h
  have := of_decide_eq_true h
  omega
theorem less_same {p q : Op7} (h1 : lessB p q = false) (h2 : lessB q p = false) : p.a = q.a ∧ p.b = q.b := by
  unfold lessB at h1 h2
  have := of_decide_eq_false h1
  have := of_decide_eq_false h2
  omega
theorem less_by {p q r : Op7} (h : r.a = p.a ∧ r.b = p.b) (h1 : lessB p q = true) : lessB r q = true := by
  unfold lessB at *
  have := of_decide_eq_true h1
  exact decide_eq_true (by omega)
theorem asc_drop {l : List Op7} (h : Asc l) {i : Nat} (hi : i < l.length) : ∀ y ∈ l.drop (i + 1), lessB l[i] y = true := by
  have hs : Asc (l.drop i) := h.sublist (List.drop_sublist _ _)
  rw [List.drop_eq_getElem_cons hi] at hs
  exact (List.pairwise_cons.1 hs).1
/-- Two ascending rows of the same things are the same. -/
theorem asc_same : ∀ {l m : List Op7}, Asc l → Asc m → (∀ x, x ∈ l ↔ x ∈ m) → l = m
  | [], [], _, _, _ => rfl
  | [], y :: m, _, _, h => by have := (h y).2 (List.mem_cons_self ..); cases this
  | x :: l, [], _, _, h => by have := (h x).1 (List.mem_cons_self ..); cases this
  | x :: l, y :: m, h1, h2, h => by
    obtain ⟨a1, a2⟩ := List.pairwise_cons.1 h1
    obtain ⟨b1, b2⟩ := List.pairwise_cons.1 h2
    have irr : ∀ p : Op7, ¬ lessB p p = true := fun p hp => less_ne hp ⟨rfl, rfl⟩
    have e : x = y := by
      rcases List.mem_cons.1 ((h x).1 (List.mem_cons_self ..)) with e | hx
      · exact e
      · rcases List.mem_cons.1 ((h y).2 (List.mem_cons_self ..)) with e | hy
        · exact e.symm
        · exact absurd (less_trans (a1 y hy) (b1 x hx)) (irr x)
    subst e
    have hm : ∀ z, z ∈ l ↔ z ∈ m := fun z => by
      constructor
      · intro hz
        rcases List.mem_cons.1 ((h z).1 (List.mem_cons_of_mem _ hz)) with e | hz'
        · subst e; exact absurd (a1 z hz) (irr z)
        · exact hz'
      · intro hz
        rcases List.mem_cons.1 ((h z).2 (List.mem_cons_of_mem _ hz)) with e | hz'
        · subst e; exact absurd (b1 z hz) (irr z)
        · exact hz'
    rw [asc_same a2 b2 hm]
/-- So far one went: out is what was told, i of the one and j of the other. -/
structure Stp (a b out : List Op7) (i j : Nat) : Prop where
  hi : i ≤ a.length
  hj : j ≤ b.length
  asc : Asc out
  mem : ∀ x, x ∈ out ↔ x ∈ a.take i ∨ x ∈ b.take j
  la : ∀ x ∈ out, ∀ y ∈ a.drop i, lessB x y = true
  lb : ∀ x ∈ out, ∀ y ∈ b.drop j, lessB x y = true
theorem stp_zero (a b : List Op7) : Stp a b [] 0 0 := ⟨Nat.zero_le _, Nat.zero_le _, List.Pairwise.nil, (fun x => by simp), (fun x h => by simp at h), (fun x h => by simp at h)⟩
theorem Stp.symm {a b out : List Op7} {i j : Nat} (h : Stp a b out i j) : Stp b a out j i := ⟨h.hj, h.hi, h.asc, fun x => (h.mem x).trans Or.comm, h.lb, h.la⟩
/-- The next of the one alone. -/
theorem Stp.one {a b out : List Op7} {i j : Nat} (h : Stp a b out i j) (ha : Asc a) (hb : Asc b) (hi : i < a.length) (hl : j = b.length ∨ ∃ hj : j < b.length, lessB a[i] b[j] = true) : Stp a b (out ++ [a[i]]) (i + 1) j ∧ ∀ y ∈ b, ¬ (y.a = a[i].a ∧ y.b = a[i].b) := by
  have hdi : a[i] ∈ a.drop i := by rw [List.drop_eq_getElem_cons hi]; exact List.mem_cons_self ..
  have hlb : ∀ y ∈ b.drop j, lessB a[i] y = true := by
    rcases hl with e | ⟨hj, hl⟩
    · rw [e, List.drop_length]; intro y hy; cases hy
    · intro y hy
      rw [List.drop_eq_getElem_cons hj] at hy
      rcases List.mem_cons.1 hy with e | hy
      · rw [e]; exact hl
      · exact less_trans hl (asc_drop hb hj y hy)
  have hdrop : ∀ y, y ∈ a.drop (i + 1) → y ∈ a.drop i := fun y hy => by rw [List.drop_eq_getElem_cons hi]; exact List.mem_cons_of_mem _ hy
  refine ⟨⟨by omega, h.hj, List.pairwise_append.2 ⟨h.asc, List.pairwise_singleton _ _, fun x hx y hy => ?_⟩, fun x => ?_, fun x hx y hy => ?_, fun x hx y hy => ?_⟩, fun y hy e => ?_⟩
  · obtain rfl := List.mem_singleton.1 hy
    exact h.la x hx _ hdi
  · rw [List.mem_append, List.mem_singleton, h.mem x, List.take_succ_eq_append_getElem hi, List.mem_append, List.mem_singleton]
    constructor
    · rintro ((h | h) | h)
      · exact .inl (.inl h)
      · exact .inr h
      · exact .inl (.inr h)
    · rintro ((h | h) | h)
      · exact .inl (.inl h)
      · exact .inr h
      · exact .inl (.inr h)
  · rcases List.mem_append.1 hx with hx | hx
    · exact h.la x hx y (hdrop y hy)
    · obtain rfl := List.mem_singleton.1 hx
      exact asc_drop ha hi y hy
  · rcases List.mem_append.1 hx with hx | hx
    · exact h.lb x hx y hy
    · obtain rfl := List.mem_singleton.1 hx
      exact hlb y hy
  · rw [← List.take_append_drop j b] at hy
    rcases List.mem_append.1 hy with hy | hy
    · exact less_ne (h.la y ((h.mem y).2 (.inr hy)) _ hdi) e
    · exact less_ne (hlb y hy) ⟨e.1.symm, e.2.symm⟩
/-- The next of both, if they tell the same. -/
theorem Stp.both {a b out : List Op7} {i j : Nat} (h : Stp a b out i j) (ha : Asc a) (hb : Asc b) (hi : i < a.length) (hj : j < b.length) (e : a[i] = b[j]) : Stp a b (out ++ [a[i]]) (i + 1) (j + 1) := by
  have hdi : a[i] ∈ a.drop i := by rw [List.drop_eq_getElem_cons hi]; exact List.mem_cons_self ..
  have hda : ∀ y, y ∈ a.drop (i + 1) → y ∈ a.drop i := fun y hy => by rw [List.drop_eq_getElem_cons hi]; exact List.mem_cons_of_mem _ hy
  have hdb : ∀ y, y ∈ b.drop (j + 1) → y ∈ b.drop j := fun y hy => by rw [List.drop_eq_getElem_cons hj]; exact List.mem_cons_of_mem _ hy
  refine ⟨by omega, by omega, List.pairwise_append.2 ⟨h.asc, List.pairwise_singleton _ _, fun x hx y hy => ?_⟩, fun x => ?_, fun x hx y hy => ?_, fun x hx y hy => ?_⟩
  · obtain rfl := List.mem_singleton.1 hy
    exact h.la x hx _ hdi
  · rw [List.mem_append, List.mem_singleton, h.mem x, List.take_succ_eq_append_getElem hi, List.take_succ_eq_append_getElem hj, List.mem_append, List.mem_singleton, List.mem_append, List.mem_singleton, ← e]
    constructor
    · rintro ((h | h) | h)
      · exact .inl (.inl h)
      · exact .inr (.inl h)
      · exact .inl (.inr h)
    · rintro ((h | h) | (h | h))
      · exact .inl (.inl h)
      · exact .inr h
      · exact .inl (.inr h)
      · exact .inr h
  · rcases List.mem_append.1 hx with hx | hx
    · exact h.la x hx y (hda y hy)
    · obtain rfl := List.mem_singleton.1 hx
      exact asc_drop ha hi y hy
  · rcases List.mem_append.1 hx with hx | hx
    · exact h.lb x hx y (hdb y hy)
    · obtain rfl := List.mem_singleton.1 hx
      rw [e]
      exact asc_drop hb hj y hy
/-- Two of one id in an ascending row are one. -/
theorem asc_once {l : List Op7} (h : Asc l) {x y : Op7} (hx : x ∈ l) (hy : y ∈ l) (e : x.a = y.a ∧ x.b = y.b) : x = y := by
  obtain ⟨i, hi⟩ := List.getElem?_of_mem hx
  obtain ⟨j, hj⟩ := List.getElem?_of_mem hy
  have := sorted_once h i j x y hi hj e.1 e.2
  subst this
  rw [hi] at hj
  exact Option.some.inj hj
/-- Who tells otherwise of one thing has not what the other tells. -/
theorem asc_other {b : List Op7} (hb : Asc b) {x y : Op7} (hy : y ∈ b) (e : x.a = y.a ∧ x.b = y.b) (hne : x ≠ y) : x ∉ b := fun hx => hne (asc_once hb hx hy e)
theorem findI_yes {l : List Op7} {r m : Int} (h : ¬ findI l r m < 0) : ∃ y ∈ l, y.a = r ∧ y.b = m := by
  unfold findI at h
  split at h
  · rename_i i hi
    obtain ⟨h1, h2, _⟩ := List.findIdx?_eq_some_iff_getElem.1 hi
    refine ⟨l[i], List.getElem_mem _, ?_⟩
    unfold hasId at h2
    simpa using h2
  · omega
theorem findI_not {l : List Op7} {r m : Int} (h : findI l r m < 0) : ∀ y ∈ l, ¬ (y.a = r ∧ y.b = m) := by
  unfold findI at h
  split at h
  · rename_i i hi
    omega
  · rename_i hi
    intro y hy e
    have := List.findIdx?_eq_none_iff.1 hi y hy
    unfold hasId at this
    simp [e.1, e.2] at this
/-- What the specification's merging comes to: ascending, and what is in one or the other. -/
theorem mer_asc {a b : List Op7} (ha : Asc a) (hb : Asc b) : ∀ {k : Nat}, k ≤ b.length → Asc (merL a b k) ∧ ∀ x, x ∈ merL a b k ↔ x ∈ a ∨ (x ∈ b.take k ∧ findI a x.a x.b < 0)
  | 0, _ => by rw [mer_zero]; exact ⟨ha, fun x => by simp⟩
  | k + 1, hk => by
    obtain ⟨h1, h2⟩ := mer_asc ha hb (k := k) (by omega)
    have hk' : k < b.length := hk
    by_cases h : findI a b[k].a b[k].b < 0
    · rw [mer_yes hk' h]
      have hno : ∀ p ∈ merL a b k, ¬ (p.a = b[k].a ∧ p.b = b[k].b) := fun p hp e => by
        rcases (h2 p).1 hp with hp | ⟨hp, _⟩
        · exact findI_not h p hp e
        · obtain ⟨i, hi⟩ := List.getElem?_of_mem hp
          have hl := (List.getElem?_eq_some_iff.1 hi).1
          rw [List.length_take] at hl
          rw [List.getElem?_take_of_lt (by omega)] at hi
          have := sorted_once hb i k p b[k] hi (by simp [hk']) e.1 e.2
          omega
      refine ⟨withL_sorted h1 _, fun x => ?_⟩
      rw [withL_mem h1 hno, h2 x, List.take_succ_eq_append_getElem hk', List.mem_append, List.mem_singleton]
      constructor
      · rintro (e | h3 | ⟨h3, h4⟩)
        · exact .inr ⟨.inr e, by rw [e]; exact h⟩
        · exact .inl h3
        · exact .inr ⟨.inl h3, h4⟩
      · rintro (h3 | ⟨h3 | h3, h4⟩)
        · exact .inr (.inl h3)
        · exact .inr (.inr ⟨h3, h4⟩)
        · exact .inl h3
    · rw [mer_no hk' h]
      refine ⟨h1, fun x => ?_⟩
      rw [h2 x, List.take_succ_eq_append_getElem hk', List.mem_append, List.mem_singleton]
      constructor
      · rintro (h3 | ⟨h3, h4⟩)
        · exact .inl h3
        · exact .inr ⟨.inl h3, h4⟩
      · rintro (h3 | ⟨h3 | h3, h4⟩)
        · exact .inl h3
        · exact .inr ⟨h3, h4⟩
        · rw [h3] at h4; exact absurd h4 h
/-- Gone to the end of both, what was told is what the specification's merging comes to. -/
theorem Stp.done {a b out : List Op7} (h : Stp a b out a.length b.length) (ha : Asc a) (hb : Asc b) : out = merL a b b.length ∧ ∀ x ∈ b, agr a x := by
  have hag : ∀ x ∈ b, ¬ findI a x.a x.b < 0 → x ∈ a := fun x hx hf => by
    obtain ⟨y, hy, e⟩ := findI_yes hf
    have : y = x := asc_once h.asc ((h.mem y).2 (.inl (by rw [List.take_length]; exact hy))) ((h.mem x).2 (.inr (by rw [List.take_length]; exact hx))) e
    rw [← this]; exact hy
  obtain ⟨h1, h2⟩ := mer_asc ha hb (Nat.le_refl b.length)
  refine ⟨asc_same h.asc h1 fun x => ?_, fun x hx => ?_⟩
  · rw [h.mem x, h2 x, List.take_length, List.take_length]
    constructor
    · rintro (h3 | h3)
      · exact .inl h3
      · by_cases hf : findI a x.a x.b < 0
        · exact .inr ⟨h3, hf⟩
        · exact .inl (hag x h3 hf)
    · rintro (h3 | ⟨h3, _⟩)
      · exact .inl h3
      · exact .inr h3
  · by_cases hf : findI a x.a x.b < 0
    · exact .inl hf
    · obtain ⟨k, hk⟩ := List.getElem?_of_mem (hag x hx hf)
      obtain ⟨j, hj, hjl⟩ := findI_lt hf
      refine .inr ?_
      rw [hj]
      unfold findI at hj
      split at hj
      · rename_i i hi
        obtain ⟨h3, h4, _⟩ := List.findIdx?_eq_some_iff_getElem.1 hi
        have : i = j := by omega
        subst this
        unfold hasId at h4
        have h5 : a[i].a = x.a ∧ a[i].b = x.b := by simpa using h4
        have h6 := sorted_once ha i k a[i] x (by simp [h3]) hk h5.1 h5.2
        subst h6
        simpa using hk
      · omega
end Go.Proofs.YtficnhlkefpfnaaDoor

namespace Go.Proofs.YtficnhlkefpfnaaDoor
open Go.RowKit
set_option linter.unusedSimpArgs false
set_option linter.unusedVariables false
attribute [local go_sem ↓] Go.wp_at_zero Go.wp_at_succ

set_option maxRecDepth 100000 in
set_option maxHeartbeats 1000000 in
theorem opLess_any (x y : Op7) (w : World) :
    Calls Tryd.prog 74 #[.agg #[.int .i64 x.a, .int .i64 x.b, .int .i64 x.k, .int .i64 x.c, .int .i64 x.d, .int .i64 x.s, .int .i64 x.g], .agg #[.int .i64 y.a, .int .i64 y.b, .int .i64 y.k, .int .i64 y.c, .int .i64 y.d, .int .i64 y.s, .int .i64 y.g]] w fun e w' => e = .returned (.bool (lessB x y)) ∧ Below w.heap.size w w' := by
  go_enter Tryd.func74, Tryd.ntmps74
  go_wp2_with (first | (go_at_call 81; refine (implLess_any _ _ _ _ _).mono ?_; rintro e w1 ⟨rfl, hb1⟩; have HB1 := hideIt (Bstep (((Below.refl w.heap.size w).alloc (Nat.le_refl _) _).alloc (by simp) _) hb1); clear hb1))
  go_ret
  exact ⟨by simp [lessB, go_sem], HB1.out⟩
theorem inStep_any (p q : Option Addr) (n c m d : Nat) (w : World) :
    Calls Tryd.prog 73 #[.slice p n c, .slice q m d, .func (.func 74) #[] #[]] w fun e w' => e = .returned (.func (.func 105) #[] #[.pointer (some ⟨w.heap.size, 0, none⟩), .pointer (some ⟨w.heap.size + 1, 0, none⟩), .pointer (some ⟨w.heap.size + 2, 0, none⟩)]) ∧ ∃ T, w' = ((w.alloc (.cells #[.slice p n c] 24)).alloc (.cells #[.slice q m d] 24)).alloc (.cells #[.func (.func 74) #[] #[]] T) := by
  go_enter Tryd.func73, Tryd.ntmps73
  go_wp2
  go_ret
  exact ⟨by first | rfl | simp, _, rfl⟩
end Go.Proofs.YtficnhlkefpfnaaDoor

namespace Go.Proofs.YtficnhlkefpfnaaDoor

/-- What is told at once: what the one has, what the other has, and who has it. -/
structure Pr where
  one : Op7
  other : Op7
  inOne : Bool
  inOther : Bool
def noOp : Op7 := ⟨0, 0, 0, 0, 0, 0, 0⟩
/-- So far one went, and this was told. -/
inductive Walk (a b : List Op7) : Nat → Nat → List Pr → Prop
  | zero : Walk a b 0 0 []
  | one {i j ps} (h : Walk a b i j ps) (hi : i < a.length) (hl : j = b.length ∨ ∃ hj : j < b.length, lessB a[i] b[j] = true) : Walk a b (i + 1) j (ps ++ [⟨a[i], noOp, true, false⟩])
  | other {i j ps} (h : Walk a b i j ps) (hj : j < b.length) (hl : i = a.length ∨ ∃ hi : i < a.length, lessB b[j] a[i] = true) : Walk a b i (j + 1) (ps ++ [⟨noOp, b[j], false, true⟩])
  | both {i j ps} (h : Walk a b i j ps) (hi : i < a.length) (hj : j < b.length) (h1 : lessB a[i] b[j] = false) (h2 : lessB b[j] a[i] = false) : Walk a b (i + 1) (j + 1) (ps ++ [⟨a[i], b[j], true, true⟩])
theorem Walk.len {a b : List Op7} {i j : Nat} {ps : List Pr} (h : Walk a b i j ps) : ps.length ≤ i + j ∧ i ≤ a.length ∧ j ≤ b.length := by
  induction h with
  | zero => simp
  | one _ _ _ ih => simp; omega
  | other _ _ _ ih => simp; omega
  | both _ _ _ _ _ ih => simp; omega
/-- The same in every part. -/
def eqO (p q : Op7) : Bool := decide (p.a = q.a ∧ p.b = q.b ∧ p.k = q.k ∧ p.c = q.c ∧ p.d = q.d ∧ p.s = q.s ∧ p.g = q.g)
theorem eqO_iff {p q : Op7} : eqO p q = true ↔ p = q := by
  unfold eqO
  rw [decide_eq_true_eq]
  cases p; cases q
  simp
/-- What both have they tell alike. -/
def Pr.ok (p : Pr) : Bool := !p.inOne || !p.inOther || eqO p.one p.other
def Pr.pick (p : Pr) : Op7 := if p.inOne then p.one else p.other
/-- As long as what both have is told alike, what was told is as Stp says. -/
theorem Walk.stp {a b : List Op7} (ha : Asc a) (hb : Asc b) {i j : Nat} {ps : List Pr} (h : Walk a b i j ps) (hok : ps.all Pr.ok = true) : Stp a b (ps.map Pr.pick) i j := by
  induction h with
  | zero => exact stp_zero a b
  | @one i j ps _ hi hl ih =>
    rw [List.all_append, Bool.and_eq_true] at hok
    have := ((ih hok.1).one ha hb hi hl).1
    simpa [Pr.pick] using this
  | @other i j ps _ hj hl ih =>
    rw [List.all_append, Bool.and_eq_true] at hok
    have := ((ih hok.1).symm.one hb ha hj hl).1.symm
    simpa [Pr.pick] using this
  | @both i j ps _ hi hj h1 h2 ih =>
    rw [List.all_append, Bool.and_eq_true] at hok
    have e : a[i] = b[j] := by
      have := hok.2
      simpa [Pr.ok, eqO_iff] using this
    have := (ih hok.1).both ha hb hi hj e
    simpa [Pr.pick] using this
/-- All that the one has the other has too. -/
def Pr.inB (p : Pr) : Bool := !p.inOne || (p.inOther && eqO p.one p.other)
theorem Pr.inB_ok {p : Pr} (h : p.inB = true) : p.ok = true := by
  unfold Pr.inB at h
  unfold Pr.ok
  cases h1 : p.inOne <;> cases h2 : p.inOther <;> simp_all
theorem Walk.sub {a b : List Op7} {i j : Nat} {ps : List Pr} (h : Walk a b i j ps) (hok : ps.all Pr.inB = true) : ∀ x ∈ a.take i, x ∈ b := by
  induction h with
  | zero => simp
  | @one i j ps _ hi hl ih =>
    rw [List.all_append, Bool.and_eq_true] at hok
    have := hok.2
    simp [Pr.inB] at this
  | @other i j ps _ hj hl ih =>
    rw [List.all_append, Bool.and_eq_true] at hok
    exact ih hok.1
  | @both i j ps _ hi hj h1 h2 ih =>
    rw [List.all_append, Bool.and_eq_true] at hok
    have e : a[i] = b[j] := by
      have := hok.2
      simpa [Pr.inB, eqO_iff] using this
    intro x hx
    rw [List.take_succ_eq_append_getElem hi] at hx
    rcases List.mem_append.1 hx with hx | hx
    · exact ih hok.1 x hx
    · obtain rfl := List.mem_singleton.1 hx
      rw [e]
      exact List.getElem_mem _
/-- The first pair that says no: the one has what the other has not. -/
theorem Walk.not_sub {a b : List Op7} (ha : Asc a) (hb : Asc b) {i j : Nat} {ps : List Pr} {p : Pr} (h : Walk a b i j (ps ++ [p])) (hok : ps.all Pr.inB = true) (hno : p.inB = false) : ∃ x ∈ a, x ∉ b := by
  generalize hq : ps ++ [p] = qs at h
  cases h with
  | zero => simp at hq
  | @one i j ps h hi hl =>
    obtain ⟨e1, e2⟩ := List.append_inj' hq rfl
    subst e1
    have hs := h.stp ha hb (List.all_eq_true.2 fun q hq => Pr.inB_ok (List.all_eq_true.1 hok q hq))
    exact ⟨a[i], List.getElem_mem _, fun hx => (hs.one ha hb hi hl).2 _ hx ⟨rfl, rfl⟩⟩
  | @other i j ps h hj hl =>
    obtain ⟨e1, e2⟩ := List.append_inj' hq rfl
    cases e2
    simp [Pr.inB] at hno
  | @both i j ps h hi hj h1 h2 =>
    obtain ⟨e1, e2⟩ := List.append_inj' hq rfl
    cases e2
    have hne : a[i] ≠ b[j] := by
      intro e
      simp [Pr.inB, e, eqO_iff.2] at hno
    exact ⟨a[i], List.getElem_mem _, asc_other hb (List.getElem_mem _) (less_same h1 h2) hne⟩
/-- The first pair that tells otherwise: the other's thing is told otherwise by the one. -/
theorem Walk.not_agr {a b : List Op7} (ha : Asc a) {i j : Nat} {ps : List Pr} {p : Pr} (h : Walk a b i j (ps ++ [p])) (hno : p.ok = false) : ∃ x ∈ b, ¬ agr a x := by
  generalize hq : ps ++ [p] = qs at h
  cases h with
  | zero => simp at hq
  | @one i j ps h hi hl =>
    obtain ⟨e1, e2⟩ := List.append_inj' hq rfl
    cases e2
    simp [Pr.ok] at hno
  | @other i j ps h hj hl =>
    obtain ⟨e1, e2⟩ := List.append_inj' hq rfl
    cases e2
    simp [Pr.ok] at hno
  | @both i j ps h hi hj h1 h2 =>
    obtain ⟨e1, e2⟩ := List.append_inj' hq rfl
    cases e2
    have hne : a[i] ≠ b[j] := by
      intro e
      simp [Pr.ok, e, eqO_iff.2] at hno
    refine ⟨b[j], List.getElem_mem _, fun hg => ?_⟩
    rcases hg with hg | hg
    · exact findI_not hg _ (List.getElem_mem hi) (less_same h1 h2)
    · exact hne (asc_once ha (List.getElem_mem hi) (List.mem_of_getElem? hg) (less_same h1 h2))
/-- Gone to the end with all told alike: what was told is what the specification's merging comes to. -/
theorem Walk.done {a b : List Op7} (ha : Asc a) (hb : Asc b) {ps : List Pr} (h : Walk a b a.length b.length ps) (hok : ps.all Pr.ok = true) : ps.map Pr.pick = merL a b b.length ∧ ∀ x ∈ b, agr a x := (h.stp ha hb hok).done ha hb
end Go.Proofs.YtficnhlkefpfnaaDoor
