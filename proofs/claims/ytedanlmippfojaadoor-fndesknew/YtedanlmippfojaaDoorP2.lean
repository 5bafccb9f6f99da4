/- What each of three has seen, in memory; a text out of several. -/
import Derived.Test.YtedanlmippfojaaDoorP1
import Derived.Test.YtedanlmippfojaaDoorP0
import Derived.RangeFuncBox
import Derived.BigQuiet
import Derived.WalkSmall
import Derived.Deep.WholeRow
import Derived.Laws.CopyOwn
import Derived.Deep.RegionHeld3
import Derived.Test.YtedanlmippfojaaDoorProg
import Derived.WalkKit
import Derived.Below
import Derived.Handy
import Derived.Outline
import Derived.Laws.BitsAllLaws
import Derived.Deep.DrawnRows
import Derived.Lib.SmallJoins
import Derived.Laws.BytesArg
namespace Go.Proofs.YtedanlmippfojaaDoor
open Go.RowKit
set_option linter.unusedSimpArgs false
set_option linter.unusedVariables false

/-- All leaves. -/
def lvs (l : List Op7) : List Lf := lfs l (allO l)
theorem lvs_len {l : List Op7} (h : opsB l = true) : (lvs l).length ≤ 36 := by
  unfold lvs
  rw [lfs_len]
  exact Nat.le_trans (all_len h) (ops_36 h)
theorem lvs_at {l : List Op7} {j : Nat} {x : Lf} (h : (lvs l)[j]? = some x) : ∃ p, (allO l)[j]? = some p ∧ p.a = x.a ∧ p.b = x.b := by
  unfold lvs lfs at h
  rw [List.getElem?_map] at h
  cases hp : (allO l)[j]? with
  | none => rw [hp] at h; cases h
  | some p => rw [hp] at h; cases h; exact ⟨p, rfl, rfl, rfl⟩
/-- One can do one thing more. -/
def mayMore (l : List Op7) (r : Int) : Bool := opsB l && inB r 1 3 && decide (cnt l r + 1 ≤ 12)
/-- The leaf that stands ahead of a place among those that are shown, and where. -/
def aheadOf (l : List Op7) (t : Nat) : Option (Lf × Nat) := match t with
  | 0 => none
  | k + 1 => match (shownI (lvs l))[k]? with
    | some j => match (lvs l)[j]? with | some x => some (x, j) | none => none
    | none => none
def leftOf (l : List Op7) (t : Nat) : Int × Int × Nat := match aheadOf l t with | some (x, j) => (x.a, x.b, j + 1) | none => (0, 0, 0)
theorem leftOf_zero (l : List Op7) : leftOf l 0 = (0, 0, 0) := rfl
theorem leftOf_succ {l : List Op7} {k j : Nat} {x : Lf} (h : (shownI (lvs l))[k]? = some j) (hx : (lvs l)[j]? = some x) : leftOf l (k + 1) = (x.a, x.b, j + 1) := by
  simp [leftOf, aheadOf, h, hx]
theorem shown_leaf {l : List Op7} {k : Nat} (h : k < (shownI (lvs l)).length) : ∃ j x, (shownI (lvs l))[k]? = some j ∧ (lvs l)[j]? = some x ∧ j < (lvs l).length := by
  have hj := shownI_lt (List.getElem_mem h)
  exact ⟨(shownI (lvs l))[k], (lvs l)[(shownI (lvs l))[k]], by simp [h], by simp [hj], hj⟩
/-- If something was put on the right of what stands ahead of a place, something stands behind it. -/
theorem left_next {l : List Op7} (h : opsB l = true) {t : Nat} (ht : t ≤ (shownI (lvs l)).length) (hk : kidsL l ((leftOf l t).1, (leftOf l t).2.1, 1) ≠ []) : (leftOf l t).2.2 < (lvs l).length := by
  have hll : (lvs l).length = (allO l).length := by unfold lvs; exact lfs_len _ _
  cases t with
  | zero =>
    rw [leftOf_zero] at hk ⊢
    rw [hll]
    exact all_first h hk
  | succ k =>
    obtain ⟨j, x, h1, h2, h3⟩ := shown_leaf (l := l) (k := k) (by omega)
    rw [leftOf_succ h1 h2] at hk ⊢
    obtain ⟨p, hp, ha, hb⟩ := lvs_at h2
    rw [hll]
    exact all_next h hp (by rw [ha, hb]; exact hk)
/-- What is put at a place: the leaf that stands behind. -/
def nextLf (l : List Op7) (t : Nat) : Int × Int := match (lvs l)[(leftOf l t).2.2]? with | some x => (x.a, x.b) | none => (0, 0)
def putO (l : List Op7) (r : Int) (t : Nat) (sg : Int) : Op7 :=
  if kidsL l ((leftOf l t).1, (leftOf l t).2.1, 1) = [] then ⟨r, cnt l r + 1, 1, (leftOf l t).1, (leftOf l t).2.1, 1, sg⟩ else ⟨r, cnt l r + 1, 1, (nextLf l t).1, (nextLf l t).2, 0, sg⟩
def mayPut (l : List Op7) (r t sg : Int) : Bool := mayMore l r && (inB sg 97 122 && inB t 0 (shownI (lvs l)).length)
/-- What is taken at a place. -/
def takeId (l : List Op7) (t : Nat) : Int × Int := match (shownI (lvs l))[t]? with
  | some j => match (lvs l)[j]? with | some x => (x.a, x.b) | none => (0, 0)
  | none => (0, 0)
def takeO (l : List Op7) (r : Int) (t : Nat) : Op7 := ⟨r, cnt l r + 1, 2, (takeId l t).1, (takeId l t).2, 0, 0⟩
def mayTake (l : List Op7) (r t : Int) : Bool := mayMore l r && inB t 0 ((shownI (lvs l)).length - 1)
end Go.Proofs.YtedanlmippfojaaDoor

namespace Go.Proofs.YtedanlmippfojaaDoor
open Go.RowKit
set_option linter.unusedSimpArgs false
set_option linter.unusedVariables false
attribute [local go_sem ↓] Go.wp_at_zero Go.wp_at_succ

/-- Places, as cells. -/
def natCells (L : List Nat) : List Value := L.map fun i => .int .i64 (Int.ofNat i)
theorem natCells_len (L : List Nat) : (natCells L).length = L.length := by simp [natCells]
theorem natCells_more (L : List Nat) (k : Nat) : natCells (L ++ [k]) = natCells L ++ [.int .i64 (k : Int)] := by simp [natCells]
theorem nat_one {k : Int} : ∀ u ∈ [Value.int .i64 k], u.oneCell' = true := by
  intro u hu
  simp at hu
  subst hu
  rfl

set_option maxRecDepth 100000 in
set_option maxHeartbeats 2000000 in
theorem l3Shown_any (L : List Lf) (G c base : Nat) (w : World) (h : w.ownsRow base 44 4 (.slice (some ⟨G, 0, none⟩) L.length c) L.length (lfCells L)) (hn : L.length ≤ 1048576) (hc : L.length ≤ c) :
    Calls Tryd.prog 65 #[.slice (some ⟨G, 0, none⟩) L.length c] w fun e w' => ∃ S c', e = .returned (.slice (some ⟨S, 0, none⟩) (shownI L).length c') ∧ w'.ownsRow w.heap.size 3 1 (.slice (some ⟨S, 0, none⟩) (shownI L).length c') (shownI L).length (natCells (shownI L)) ∧ Below w.heap.size w w' := by
  have hG := (h.lt G rfl).2
  have HC : Hid (∀ j, j < L.length * 4 → w.cell? ⟨G, j, none⟩ = (lfCells L)[j]?) := fun j hj => h.cellAt j hj
  clear h
  obtain ⟨i0, hi, hz0', hz1', hz2⟩ := info_parts infoInt
  have HI1 := hideIt hi
  have HZ0 := hideIt hz0'
  have HZ1 := hideIt hz1'
  have HZ2 := hideIt hz2
  clear hi hz0' hz1' hz2
  go_enter Tryd.func65, Tryd.ntmps65
  go_wp2
  have HST : Hid ((w.alloc (.cells #[] 3)).ownsRow w.heap.size 3 1 (.slice (some ⟨w.heap.size, 0, none⟩) 0 0) 0 []) :=
    World.ownsRow_made (base := w.heap.size) (e := 3) (size := 1) w #[] 0 (Nat.le_refl _) (Nat.zero_le _) rfl
  go_loopw [3, 4] (fun v i wr => ∃ (k S c' : Nat), k ≤ L.length ∧ i = .int .i64 k ∧ v = .slice (some ⟨S, 0, none⟩) (shownTo L k).length c' ∧ wr.ownsRow w.heap.size 3 1 v (shownTo L k).length (natCells (shownTo L k)) ∧ Below w.heap.size w wr)
    (fun _ i _ => L.length - (intOf i).toNat)
  case atStart => exact ⟨0, w.heap.size, 0, Nat.zero_le _, rfl, rfl, HST.out, (Below.refl _ _).alloc (Nat.le_refl _) _⟩
  case round =>
    obtain ⟨k, Sb, cs, hk, rfl, rfl, hrow, hB⟩ := hrel
    have HB := hideIt hB
    have HRW := hideIt hrow
    have hzr := hB.size
    by_cases hlt : k < L.length
    · obtain ⟨i0', i1, i2, i3⟩ := lfCells_at L k L[k] (by simp [hlt])
      have y3 := ((bcell hB).1 G _ hG).trans ((HC.out (k * 4 + 3) (by omega)).trans i3)
      have hGr := Nat.lt_of_lt_of_le hG hB.size
      have hgone : Hid (L[k].z = true → shownTo L (k + 1) = shownTo L k) := shownTo_gone hlt
      have hthere : Hid (L[k].z = false → shownTo L (k + 1) = shownTo L k ++ [k]) := shownTo_there hlt
      have hsl : (shownTo L k).length ≤ 1048576 := by have := shownTo_len L k; omega
      generalize L[k].z = xz at *
      have hlt' : (k : Int) < (L.length : Int) := by omega
      have hk0 : (0 : Int) ≤ (k : Int) := by omega
      clear hB hrow i0' i1 i2 i3
      cases xz
      · have hsame := hideIt (hthere.out rfl)
        go_wp2_with (first
          | (at_builtin; refine wpList_append_own_at _ rfl _ _ 32 rfl w.heap.size 3 i0 _ 1 8 Tryd.underlying32 HI1.out HZ0.out HZ1.out HZ2.out rfl (by decide) _ _ _ rfl (HRW.out.alloc _) ⟨wr.heap.size, 0, none⟩ 1 1 [.int .i64 (k : Int)] rfl rfl (cells_new wr [.int .i64 (k : Int)] 3) nat_one (by unfold maxLen; omega) (by omega) (by simp; omega) ?_; intro v' w2 hown2 hg2 _ _;
              obtain ⟨g', cap', hv'⟩ := ownsRow_succ hown2; subst hv';
              have HO2 := hideIt hown2; have HB2 := hideIt (below_grown (HB.out.alloc HB.out.size _) hg2 (by simp; omega) (fun j e => (HRW.out.lt j e).1)); clear hown2 hg2))
        exact ⟨⟨k + 1, _, _, by omega, by go_num, by rw [hsame.out, List.length_append]; rfl, by rw [hsame.out, natCells_more, List.length_append]; exact HO2.out, HB2.out⟩, by simp [intOf]; omega⟩
      · have hsame := hideIt (hgone.out rfl)
        go_wp2
        exact ⟨⟨k + 1, _, _, by omega, by go_num, by rw [hsame.out], by rw [hsame.out]; exact HRW.out, HB.out⟩, by simp [intOf]; omega⟩
    · obtain rfl : k = L.length := by omega
      go_wp2
      go_ret
      exact ⟨_, _, rfl, HRW.out, HB.out⟩
end Go.Proofs.YtedanlmippfojaaDoor

namespace Go.Proofs.YtedanlmippfojaaDoor
open Go.RowKit
set_option linter.unusedSimpArgs false
set_option linter.unusedVariables false

set_option maxRecDepth 100000 in
set_option maxHeartbeats 4000000 in
theorem l1Seen_any (l : List Op7) (g cap : Nat) (w : World) (hl : OpsAt w g l) (hn : l.length ≤ 1048576) (hcap : l.length ≤ cap) (hok : l.all okO = true) (hord : ordB l = true) :
    Calls Tryd.prog 107 #[.slice (some ⟨g, 0, none⟩) l.length cap] w fun e w' => e = .returned (.slice (some ⟨w.heap.size, 0, none⟩) 3 3) ∧ IntsAt w' w.heap.size [cnt l 1, cnt l 2, cnt l 3] ∧ Below w.heap.size w w' := by
  have hgw : g < w.heap.size := hl.1
  have HL0 : Hid (OpsAt w g l) := hl
  have HO : Hid (l.all okO = true) := hok
  have HR : Hid (ordB l = true) := hord
  clear hl hok hord
  go_enter Tryd.func107, Tryd.ntmps107
  obtain ⟨i0, hi, hz0, hz1, hz2⟩ := info_parts infoInt
  go_wp2_with (first
    | (at_make; refine wpList_make_full _ rfl _ _ 32 rfl w.heap.size 3 i0 _ 1 Tryd.underlying32 hi hz0 hz1 .i64 .i64 _ _ 3 rfl rfl rfl rfl (by rw [hz2]; omega) (by unfold maxLen; omega) (Nat.le_refl _) ?_; intro w1 hown hgrow))
  clear hi hz0 hz1 hz2
  rw [made3] at hown
  have hB1 : Below w.heap.size w w1 := (Below.refl _ _).grown hgrow (Nat.le_refl _) (fun k h => by cases h)
  have c0 : w1.cell? ⟨w.heap.size, 0, none⟩ = some (.int .i64 0) := hown.cellAt 0 (by omega)
  have c1 : w1.cell? ⟨w.heap.size, 1, none⟩ = some (.int .i64 0) := hown.cellAt 1 (by omega)
  have c2 : w1.cell? ⟨w.heap.size, 2, none⟩ = some (.int .i64 0) := hown.cellAt 2 (by omega)
  have f0 : ∀ j, w1.frozen? ⟨w.heap.size, j, none⟩ = false := fun j => hown.frozenAt j
  have z0 : w.heap.size < w1.heap.size := (hown.lt _ rfl).2
  clear hown hgrow
  go_loopw [4] (fun i wr => ∃ k : Nat, k ≤ l.length ∧ i = .int .i64 k ∧ wr.cell? ⟨w.heap.size, 0, none⟩ = some (.int .i64 (cntTo l k 1)) ∧ wr.cell? ⟨w.heap.size, 1, none⟩ = some (.int .i64 (cntTo l k 2)) ∧ wr.cell? ⟨w.heap.size, 2, none⟩ = some (.int .i64 (cntTo l k 3)) ∧ (∀ j, wr.frozen? ⟨w.heap.size, j, none⟩ = false) ∧ w.heap.size < wr.heap.size ∧ Below w.heap.size w wr)
    (fun i _ => l.length - (intOf i).toNat)
  case atStart => exact ⟨0, Nat.zero_le _, rfl, by rw [cntTo_zero]; exact c0, by rw [cntTo_zero]; exact c1, by rw [cntTo_zero]; exact c2, f0, z0, hB1⟩
  case round =>
    obtain ⟨k, hk, rfl, q0, q1, q2, hfz, hws, hB⟩ := hrel
    have HB : Hid (Below w.heap.size w wr) := hB
    have HL : Hid (OpsAt wr g l) := HL0.out.below hB hgw
    have hgr : g < wr.heap.size := HL.out.1
    clear hB hB1 c0 c1 c2 f0 z0
    by_cases hlt : k < l.length
    · obtain ⟨h0, h1, _⟩ := HL.out.2 k l[k] (by simp [hlt])
      obtain ⟨ha1, ha3, hb1, hb12⟩ := okO_id (all_iff.1 HO.out k hlt)
      have hnum := num_is HO.out HR.out k hlt
      have s1 : Hid (∀ r, l[k].a = r → cntTo l (k + 1) r = cntTo l k r + 1) := fun r h => cntTo_same hlt h
      have s2 : Hid (∀ r, l[k].a ≠ r → cntTo l (k + 1) r = cntTo l k r) := fun r h => cntTo_other hlt h
      have b1 := cntTo_le l k 1
      have b2 := cntTo_le l k 2
      have b3 := cntTo_le l k 3
      generalize l[k] = o at *
      obtain ⟨xa, xb, xk, xc, xd, xs, xg⟩ := o
      simp only at *
      have hlt' : (k : Int) < (l.length : Int) := by omega
      have hk0 : (0 : Int) ≤ (k : Int) := by omega
      have hw0 : IntKind.i64.wrap 0 = 0 := by decide
      have hw1 : IntKind.i64.wrap 1 = 1 := by decide
      have hw2 : IntKind.i64.wrap 2 = 2 := by decide
      obtain rfl | rfl | rfl : xa = 1 ∨ xa = 2 ∨ xa = 3 := by omega
      · have E1 := hideIt (s1.out _ rfl)
        have hm1 : Hid (xb = cntTo l k 1 + 1) := hnum
        clear hnum s1
        generalize hc1 : cntTo l k 1 = n1 at *
        generalize hc2 : cntTo l k 2 = n2 at *
        generalize hc3 : cntTo l k 3 = n3 at *
        have C1 := hideIt hc1
        have C2 := hideIt hc2
        have C3 := hideIt hc3
        clear hc1 hc2 hc3
        obtain rfl := hm1.out
        go_wp2
        go_region
        go_wp2
        refine ⟨⟨k + 1, by omega, by go_num, ?_, ?_, ?_, fun j => by simp [hfz], by simpa using hws, by have := HB.out; go_grown⟩, by simp [intOf]; omega⟩
        · rw [E1.out]; simp [q0, q1, q2, go_sem]
        · rw [s2.out 2 (by decide), C2.out]; simp [q0, q1, q2, go_sem]
        · rw [s2.out 3 (by decide), C3.out]; simp [q0, q1, q2, go_sem]
      · have E1 := hideIt (s1.out _ rfl)
        have hm1 : Hid (xb = cntTo l k 2 + 1) := hnum
        clear hnum s1
        generalize hc1 : cntTo l k 1 = n1 at *
        generalize hc2 : cntTo l k 2 = n2 at *
        generalize hc3 : cntTo l k 3 = n3 at *
        have C1 := hideIt hc1
        have C2 := hideIt hc2
        have C3 := hideIt hc3
        clear hc1 hc2 hc3
        obtain rfl := hm1.out
        go_wp2
        go_region
        go_wp2
        refine ⟨⟨k + 1, by omega, by go_num, ?_, ?_, ?_, fun j => by simp [hfz], by simpa using hws, by have := HB.out; go_grown⟩, by simp [intOf]; omega⟩
        · rw [s2.out 1 (by decide), C1.out]; simp [q0, q1, q2, go_sem]
        · rw [E1.out]; simp [q0, q1, q2, go_sem]
        · rw [s2.out 3 (by decide), C3.out]; simp [q0, q1, q2, go_sem]
      · have E1 := hideIt (s1.out _ rfl)
        have hm1 : Hid (xb = cntTo l k 3 + 1) := hnum
        clear hnum s1
        generalize hc1 : cntTo l k 1 = n1 at *
        generalize hc2 : cntTo l k 2 = n2 at *
        generalize hc3 : cntTo l k 3 = n3 at *
        have C1 := hideIt hc1
        have C2 := hideIt hc2
        have C3 := hideIt hc3
        clear hc1 hc2 hc3
        obtain rfl := hm1.out
        go_wp2
        go_region
        go_wp2
        refine ⟨⟨k + 1, by omega, by go_num, ?_, ?_, ?_, fun j => by simp [hfz], by simpa using hws, by have := HB.out; go_grown⟩, by simp [intOf]; omega⟩
        · rw [s2.out 1 (by decide), C1.out]; simp [q0, q1, q2, go_sem]
        · rw [s2.out 2 (by decide), C2.out]; simp [q0, q1, q2, go_sem]
        · rw [E1.out]; simp [q0, q1, q2, go_sem]
    · obtain rfl : k = l.length := by omega
      rw [cntTo_len] at q0 q1 q2
      go_wp2
      go_ret
      exact ⟨rfl, ⟨hws, fun i x hx => by
        match i, hx with
        | 0, hx => simp at hx; subst hx; exact q0
        | 1, hx => simp at hx; subst hx; exact q1
        | 2, hx => simp at hx; subst hx; exact q2⟩, HB.out⟩
end Go.Proofs.YtedanlmippfojaaDoor

namespace Go.Proofs.YtedanlmippfojaaDoor
open Go.RowKit
set_option linter.unusedSimpArgs false
set_option linter.unusedVariables false
attribute [local go_sem ↓] Go.wp_at_zero Go.wp_at_succ

theorem in3 {r : Int} (h : inB r 1 3 = true) : r = 1 ∨ r = 2 ∨ r = 3 := by
  simp [inB] at h
  omega

set_option maxRecDepth 100000 in
set_option maxHeartbeats 2000000 in
theorem l3Next_any (l : List Op7) (g cap : Nat) (r : Int) (w : World) (hl : OpsAt w g l) (hn : l.length ≤ 1048576) (hcap : l.length ≤ cap) :
    Calls Tryd.prog 62 #[.slice (some ⟨g, 0, none⟩) l.length cap, .int .i64 r] w fun e w' =>
      (((opsB l && inB r 1 3) = false ∧ e = .returned (.tuple #[.agg #[.int .i64 0, .int .i64 0], .bool false])) ∨
       (opsB l = true ∧ inB r 1 3 = true ∧ e = .returned (.tuple #[.agg #[.int .i64 r, .int .i64 (cnt l r + 1)], .bool (decide (cnt l r + 1 ≤ 12))]))) ∧ Below w.heap.size w w' := by
  have HL := hideIt hl
  have hgw := hl.1
  clear hl
  cases ho : opsB l
  all_goals
    have HO := hideIt ho
    clear ho
    go_enter Tryd.func62, Tryd.ntmps62
    go_wp2_with fail
    have HB0 : Hid (Below w.heap.size w (w.alloc (.cells #[.int .i64 0, .int .i64 0] 27))) := (Below.refl _ _).alloc (Nat.le_refl _) _
    refine (specOps_any l _ _ _ (HL.out.below HB0.out hgw) hn hcap).mono ?_
    rintro e w1 ⟨rfl, hb1⟩
    rw [HO.out]
    have HB1 := hideIt (Bstep HB0.out hb1)
    have rc0 : w1.cell? ⟨w.heap.size, 0, none⟩ = some (.int .i64 0) := ((bcell hb1).1 _ _ (by simp)).trans (by simp [go_sem])
    have rc1 : w1.cell? ⟨w.heap.size, 1, none⟩ = some (.int .i64 0) := ((bcell hb1).1 _ _ (by simp)).trans (by simp [go_sem])
    have hwl : w.heap.size < w1.heap.size := by have := hb1.size; simp at this; omega
    have FZ : Hid (∀ j, w1.frozen? ⟨w.heap.size, j, none⟩ = false) := fun j => ((bcell hb1).2 _ _ (by simp)).trans (by simp [go_sem])
    clear hb1
  · have hfz : ∀ j, w1.frozen? ⟨w.heap.size, j, none⟩ = false := FZ.out
    go_wp2
    have hbb := HB1.out
    exact bodyPost_ret (v := .tuple #[.agg #[.int .i64 0, .int .i64 0], .bool false]) (by simp [results, Tryd.results62, go_sem, rc0, rc1]) rfl ⟨.inl ⟨rfl, rfl⟩, by go_grown⟩
  · cases hi : inB r 1 3
    all_goals
      have HI := hideIt hi
      clear hi
      have hfz : ∀ j, w1.frozen? ⟨w.heap.size, j, none⟩ = false := FZ.out
      go_wp2_with (first | (go_at_call 63; refine (l6In_any _ _ _ _).mono ?_; rintro e w' ⟨rfl, hw'⟩; subst hw'; rw [HI.out]))
    · have hbb := HB1.out
      exact bodyPost_ret (v := .tuple #[.agg #[.int .i64 0, .int .i64 0], .bool false]) (by simp [results, Tryd.results62, go_sem, rc0, rc1]) rfl ⟨.inl ⟨by simp [HI.out], rfl⟩, by go_grown⟩
    · obtain ⟨hok, hord⟩ := opsParts HO.out
      refine (l1Seen_any l _ _ _ (HL.out.below HB1.out hgw) hn hcap hok hord).mono ?_
      rintro e w2 ⟨rfl, hI, hb2⟩
      have HB2 := hideIt (Bstep HB1.out hb2)
      obtain ⟨c0, c1, c2⟩ := ints3 hI
      have hw2 : w.heap.size < w2.heap.size := Nat.lt_of_lt_of_le hwl hb2.size
      have rd0 := ((bcell hb2).1 _ _ hwl).trans rc0
      have rd1 := ((bcell hb2).1 _ _ hwl).trans rc1
      have hfy : ∀ j, w2.frozen? ⟨w.heap.size, j, none⟩ = false := fun j => ((bcell hb2).2 _ _ hwl).trans (hfz j)
      have hc := cnt_sum l
      have n1 := cnt_nonneg l 1
      have n2 := cnt_nonneg l 2
      have n3 := cnt_nonneg l 3
      clear hb2 hI hok hord
      obtain rfl | rfl | rfl := in3 HI.out
      all_goals
        generalize hx1 : cnt l 1 = x1 at *
        generalize hx2 : cnt l 2 = x2 at *
        generalize hx3 : cnt l 3 = x3 at *
        go_wp2
        have hbb := HB2.out
        first
          | exact bodyPost_ret (v := .tuple #[.agg #[.int .i64 1, .int .i64 (x1 + 1)], .bool (decide (x1 + 1 ≤ 12))]) (by simp [results, Tryd.results62, go_sem, rd0, rd1]) rfl ⟨.inr ⟨trivial, HI.out, by rw [hx1]⟩, by go_grown⟩
          | exact bodyPost_ret (v := .tuple #[.agg #[.int .i64 2, .int .i64 (x2 + 1)], .bool (decide (x2 + 1 ≤ 12))]) (by simp [results, Tryd.results62, go_sem, rd0, rd1]) rfl ⟨.inr ⟨trivial, HI.out, by rw [hx2]⟩, by go_grown⟩
          | exact bodyPost_ret (v := .tuple #[.agg #[.int .i64 3, .int .i64 (x3 + 1)], .bool (decide (x3 + 1 ≤ 12))]) (by simp [results, Tryd.results62, go_sem, rd0, rd1]) rfl ⟨.inr ⟨trivial, HI.out, by rw [hx3]⟩, by go_grown⟩
end Go.Proofs.YtedanlmippfojaaDoor

namespace Go.Proofs.YtedanlmippfojaaDoor
open Go.RowKit
set_option linter.unusedSimpArgs false
set_option linter.unusedVariables false
attribute [local go_sem ↓] Go.wp_at_zero Go.wp_at_succ

/-- The cells of things. -/
def opCells (L : List Op7) : List Value := L.flatMap fun o => [.int .i64 o.a, .int .i64 o.b, .int .i64 o.k, .int .i64 o.c, .int .i64 o.d, .int .i64 o.s, .int .i64 o.g]
theorem opCells_len : ∀ L : List Op7, (opCells L).length = L.length * 7
  | [] => rfl
  | x :: r => by have := opCells_len r; simp [opCells] at this ⊢; omega
theorem opCells_app (L M : List Op7) : opCells (L ++ M) = opCells L ++ opCells M := by simp [opCells]
theorem opCells_one : ∀ L, ∀ u ∈ opCells L, u.oneCell' = true := by
  intro L u hu
  unfold opCells at hu
  obtain ⟨o, _, ho⟩ := List.mem_flatMap.1 hu
  simp at ho
  rcases ho with rfl | rfl | rfl | rfl | rfl | rfl | rfl <;> rfl
theorem opCells_at : ∀ (L : List Op7) (i : Nat) (o : Op7), L[i]? = some o → (opCells L)[i * 7]? = some (.int .i64 o.a) ∧ (opCells L)[i * 7 + 1]? = some (.int .i64 o.b) ∧ (opCells L)[i * 7 + 2]? = some (.int .i64 o.k) ∧ (opCells L)[i * 7 + 3]? = some (.int .i64 o.c) ∧ (opCells L)[i * 7 + 4]? = some (.int .i64 o.d) ∧ (opCells L)[i * 7 + 5]? = some (.int .i64 o.s) ∧ (opCells L)[i * 7 + 6]? = some (.int .i64 o.g)
  | [], i, o, h => by simp at h
  | y :: r, 0, o, h => by simp at h; subst h; simp [opCells]
  | y :: r, i + 1, o, h => by
    have h' := opCells_at r i o (by simpa using h)
    have e : opCells (y :: r) = [.int .i64 y.a, .int .i64 y.b, .int .i64 y.k, .int .i64 y.c, .int .i64 y.d, .int .i64 y.s, .int .i64 y.g] ++ opCells r := by simp [opCells]
    have hs : ∀ j, (opCells (y :: r))[(i + 1) * 7 + j]? = (opCells r)[i * 7 + j]? := fun j => by
      rw [e, List.getElem?_append_right (by simp; omega)]
      congr 1
      simp
      omega
    have h0 := hs 0
    simp only [Nat.add_zero] at h0
    rw [h0, hs 1, hs 2, hs 3, hs 4, hs 5, hs 6]
    exact h'
/-- A row of things of one's own. -/
def OwnOps (w : World) (base : Nat) (g cap : Nat) (L : List Op7) : Prop := w.ownsRow base 29 7 (.slice (some ⟨g, 0, none⟩) L.length cap) L.length (opCells L)
theorem OwnOps.at {w : World} {base g cap : Nat} {L : List Op7} (h : OwnOps w base g cap L) : OpsAt w g L := by
  refine ⟨(World.ownsRow.lt h g rfl).2, fun i o ho => ?_⟩
  obtain ⟨h0, h1, h2, h3, h4, h5, h6⟩ := opCells_at L i o ho
  have hi : i < L.length := (List.getElem?_eq_some_iff.1 ho).1
  have hc : ∀ j, j < L.length * 7 → w.cell? ⟨g, j, none⟩ = (opCells L)[j]? := fun j hj => World.ownsRow.cellAt h j hj
  exact ⟨(hc _ (by omega)).trans h0, (hc _ (by omega)).trans h1, (hc _ (by omega)).trans h2, (hc _ (by omega)).trans h3, (hc _ (by omega)).trans h4, (hc _ (by omega)).trans h5, (hc _ (by omega)).trans h6⟩
theorem OwnOps.cap {w : World} {base g cap : Nat} {L : List Op7} (h : OwnOps w base g cap L) : L.length ≤ cap := by
  rcases h.2 with ⟨h, _⟩ | ⟨g', c', cur, h, _, _, h2, _⟩
  · cases h
  · cases h; exact h2
theorem OwnOps.below {w w' : World} {base g cap : Nat} {L : List Op7} (h : OwnOps w base g cap L) (hb : Below w.heap.size w w') : OwnOps w' base g cap L :=
  World.ownsRow.kept h (row := none) ⟨hb.os, hb.tape, hb.output, hb.size, fun i hi _ => hb.block i hi⟩ (.inr (by simp [Value.ownBlock]))
theorem infoOp : (Tryd.prog.info? 29).map (fun i => (i.zero, i.size, i.bytes)) = some (some (.agg #[.int .i64 0, .int .i64 0, .int .i64 0, .int .i64 0, .int .i64 0, .int .i64 0, .int .i64 0]), 7, 56) := by kernel_rfl

theorem blkCell {W : World} {b : Nat} {cur : Array Value} {T : TypeId} (h : W.heap[b]? = some (.cells cur T (0, 0))) (j : Nat) : W.cell? ⟨b, j, none⟩ = cur[j]? := by simp [World.cell?, h]
/-- One is ahead of another. -/
def lessB (p q : Op7) : Bool := decide (p.a < q.a ∨ (p.a = q.a ∧ p.b < q.b))
/-- What was done, with something more. -/
def withL (l : List Op7) (o : Op7) : List Op7 := l.filter (fun p => lessB p o) ++ [o] ++ l.filter (fun p => lessB o p)

set_option maxRecDepth 100000 in
set_option maxHeartbeats 2000000 in
theorem specLess_any (a b c d : Int) (w : World) :
    Calls Tryd.prog 121 #[.agg #[.int .i64 a, .int .i64 b], .agg #[.int .i64 c, .int .i64 d]] w fun e w' => e = .returned (.bool (decide (a < c ∨ (a = c ∧ b < d)))) ∧ Below w.heap.size w w' := by
  go_enter Tryd.func121, Tryd.ntmps121
  by_cases h1 : a < c
  · go_wp2
    go_ret
    exact ⟨by simp [h1], by go_grown⟩
  · by_cases h2 : a = c
    · subst h2
      go_wp2
      go_ret
      exact ⟨by simp, by go_grown⟩
    · go_wp2
      go_ret
      exact ⟨by simp [h1, h2], by go_grown⟩
end Go.Proofs.YtedanlmippfojaaDoor

namespace Go.Proofs.YtedanlmippfojaaDoor
open Go.RowKit
set_option linter.unusedSimpArgs false
set_option linter.unusedVariables false

theorem build_op0 (W : World) : (Instr.build 29 #[]).run Tryd.prog W = .ok (.agg #[.int .i64 0, .int .i64 0, .int .i64 0, .int .i64 0, .int .i64 0, .int .i64 0, .int .i64 0]) W := by
  kernel_rfl
theorem build_opTake (W : World) (a b c d : Int) : (Instr.build 29 #[(0, .agg #[.int .i64 a, .int .i64 b]), (1, .int .i64 2), (2, .agg #[.int .i64 c, .int .i64 d])]).run Tryd.prog W = .ok (.agg #[.int .i64 a, .int .i64 b, .int .i64 2, .int .i64 c, .int .i64 d, .int .i64 0, .int .i64 0]) W := by
  kernel_rfl
theorem build_opPut (W : World) (a b c d s g : Int) : (Instr.build 29 #[(0, .agg #[.int .i64 a, .int .i64 b]), (1, .int .i64 1), (2, .agg #[.int .i64 c, .int .i64 d]), (3, .int .i64 s), (4, .int .i64 g)]).run Tryd.prog W = .ok (.agg #[.int .i64 a, .int .i64 b, .int .i64 1, .int .i64 c, .int .i64 d, .int .i64 s, .int .i64 g]) W := by
  kernel_rfl
/-- A thing stored whole into its box. -/
theorem store_op (W : World) (b : Nat) (cur : Array Value) (h : W.heap[b]? = some (.cells cur 29 (0, 0))) (hs : cur.size = 7) (a1 a2 a3 a4 a5 a6 a7 : Int) :
    (Instr.storeAt 29 (.pointer (some ⟨b, 0, none⟩)) (.agg #[.int .i64 a1, .int .i64 a2, .int .i64 a3, .int .i64 a4, .int .i64 a5, .int .i64 a6, .int .i64 a7])).run Tryd.prog W = .ok () (W.setRow b #[.int .i64 a1, .int .i64 a2, .int .i64 a3, .int .i64 a4, .int .i64 a5, .int .i64 a6, .int .i64 a7]) := by
  simp only [Instr.storeAt, Instr.sureAddr, Sem.run_bind, Sem.run_pure, Result.andThen]
  exact run_storeVar_row _ _ _ _ cur _ h (by kernel_rfl) (by simp [hs]) (by simp [Value.oneCell'])
/-- An id stored whole into its new box. -/
theorem store_id_new (w : World) (a b : Int) : (Instr.storeAt 27 (.pointer (some ⟨w.heap.size, 0, none⟩)) (.agg #[.int .i64 a, .int .i64 b])).run Tryd.prog (w.alloc (.cells #[.int .i64 0, .int .i64 0] 27)) = .ok () (w.alloc (.cells #[.int .i64 a, .int .i64 b] 27)) :=
  run_storeAt_new w 27 #[.int .i64 0, .int .i64 0] #[.int .i64 a, .int .i64 b] (by kernel_rfl) rfl (by simp [Value.oneCell'])
end Go.Proofs.YtedanlmippfojaaDoor

namespace Go.Proofs.YtedanlmippfojaaDoor
open Go.RowKit
set_option linter.unusedSimpArgs false
set_option linter.unusedVariables false
attribute [local go_sem ↓] Go.wp_at_zero Go.wp_at_succ build_op0 build_opTake build_opPut

def opV (o : Op7) : Value := .agg #[.int .i64 o.a, .int .i64 o.b, .int .i64 o.k, .int .i64 o.c, .int .i64 o.d, .int .i64 o.s, .int .i64 o.g]
/-- The box of a thing that is to be returned, still nothing. -/
structure RB (w W : World) : Prop where
  box : W.heap[w.heap.size]? = some (.cells #[.int .i64 0, .int .i64 0, .int .i64 0, .int .i64 0, .int .i64 0, .int .i64 0, .int .i64 0] 29 (0, 0))
  bel : Below w.heap.size w W
theorem RB.lt {w W : World} (h : RB w W) : w.heap.size < W.heap.size := (Array.getElem?_eq_some_iff.1 h.box).1
theorem RB.start (w : World) : RB w (w.alloc (.cells #[.int .i64 0, .int .i64 0, .int .i64 0, .int .i64 0, .int .i64 0, .int .i64 0, .int .i64 0] 29)) := ⟨World.alloc_heap_new _ _, (Below.refl _ _).alloc (Nat.le_refl _) _⟩
theorem RB.below {w W W' : World} (h : RB w W) (hb : Below W.heap.size W W') : RB w W' := ⟨(hb.block _ h.lt).trans h.box, Bstep h.bel hb⟩
theorem RB.cells {w W : World} (h : RB w W) : W.cell? ⟨w.heap.size, 0, none⟩ = some (.int .i64 0) ∧ W.cell? ⟨w.heap.size, 1, none⟩ = some (.int .i64 0) ∧ W.cell? ⟨w.heap.size, 2, none⟩ = some (.int .i64 0) ∧ W.cell? ⟨w.heap.size, 3, none⟩ = some (.int .i64 0) ∧ W.cell? ⟨w.heap.size, 4, none⟩ = some (.int .i64 0) ∧ W.cell? ⟨w.heap.size, 5, none⟩ = some (.int .i64 0) ∧ W.cell? ⟨w.heap.size, 6, none⟩ = some (.int .i64 0) :=
  ⟨(blkCell h.box 0).trans rfl, (blkCell h.box 1).trans rfl, (blkCell h.box 2).trans rfl, (blkCell h.box 3).trans rfl, (blkCell h.box 4).trans rfl, (blkCell h.box 5).trans rfl, (blkCell h.box 6).trans rfl⟩
theorem RB.frozen {w W : World} (h : RB w W) (j : Nat) : W.frozen? ⟨w.heap.size, j, none⟩ = false := by simp [World.frozen?, h.box]
/-- The box behind its one store. -/
theorem RB.stored {w W : World} (h : RB w W) (a1 a2 a3 a4 a5 a6 a7 : Int) : (W.setRow w.heap.size #[.int .i64 a1, .int .i64 a2, .int .i64 a3, .int .i64 a4, .int .i64 a5, .int .i64 a6, .int .i64 a7]).heap[w.heap.size]? = some (.cells #[.int .i64 a1, .int .i64 a2, .int .i64 a3, .int .i64 a4, .int .i64 a5, .int .i64 a6, .int .i64 a7] 29 (0, 0)) ∧ Below w.heap.size w (W.setRow w.heap.size #[.int .i64 a1, .int .i64 a2, .int .i64 a3, .int .i64 a4, .int .i64 a5, .int .i64 a6, .int .i64 a7]) :=
  ⟨setRow_heap _ _ _ _ _ _ h.box, below_setRow h.bel (Nat.le_refl _) _⟩
theorem all7 (a1 a2 a3 a4 a5 a6 a7 : Int) : (#[Value.int .i64 a1, .int .i64 a2, .int .i64 a3, .int .i64 a4, .int .i64 a5, .int .i64 a6, .int .i64 a7].all fun x => x.oneCell') = true := by simp [Value.oneCell']
/-- A thing stored whole in a region that draws its order. -/
theorem store_arm {P : Program} {o : Oper} {A : Act} {w : World} {K' : Act → World → Prop} {Q : Exit → Act → World → Prop} {ys : Nat → Option Bool} {ty t : TypeId} {x y : Operand} {g : Nat} {cells old : Array Value}
    (ho : o.op = .store ty x y) (hw : Region.wanted o ys = true) (hx : A.eval x = .pointer (some ⟨g, 0, none⟩)) (hy : A.eval y = .agg cells) (hg : w.heap[g]? = some (.cells old t (0, 0))) (hi : (P.info? ty).map (·.size) = some cells.size)
    (hold : old.size = cells.size) (h1 : cells.all (·.oneCell') = true) (h : K' (A.put o.dst undef) (w.setRow g cells)) :
    if Region.wanted o ys = true then Oper.wp P o A w K' Q else K' (A.put o.dst undef) w := by
  rw [if_pos hw]
  exact wp_store_row ty x y ho g cells hx hy t old hg hi hold h1 h
theorem setRow_cell {W : World} {g b o : Nat} {cs : Array Value} {v : Value} (h : b ≠ g) (hv : W.cell? ⟨b, o, none⟩ = some v) : (W.setRow g cs).cell? ⟨b, o, none⟩ = some v := by
  rw [← hv]
  simp [World.cell?, setRow_other W g b cs h]
theorem rowKeep {w w' : World} {b : Nat} {T : TypeId} {m : Nat} {v : Value} {n : Nat} {xs : List Value} (h : w.ownsRow b T m v n xs) (hb : Below w.heap.size w w') : w'.ownsRow b T m v n xs :=
  h.kept (row := none) ⟨hb.os, hb.tape, hb.output, hb.size, fun i hi _ => hb.block i hi⟩ (by cases v.ownBlock <;> simp)
theorem natCells_at {L : List Nat} {i j : Nat} (h : L[i]? = some j) : (natCells L)[i]? = some (.int .i64 (j : Int)) := by simp [natCells, h]

attribute [-go_sem] Instr.storeAt
attribute [local go_sem ↓] store_id_new
set_option maxRecDepth 100000 in
set_option maxHeartbeats 1000000 in
theorem typeTake_any (l : List Op7) (g cap : Nat) (r t : Int) (w : World) (hl : OpsAt w g l) (hn : l.length ≤ 1048576) (hcap : l.length ≤ cap) :
    Calls Tryd.prog 20 #[.slice (some ⟨g, 0, none⟩) l.length cap, .int .i64 r, .int .i64 t] w fun e w' =>
      ((mayTake l r t = false ∧ e = .returned (.tuple #[.agg #[.int .i64 0, .int .i64 0, .int .i64 0, .int .i64 0, .int .i64 0, .int .i64 0, .int .i64 0], .bool false])) ∨
       (mayTake l r t = true ∧ e = .returned (.tuple #[opV (takeO l r t.toNat), .bool true]))) ∧ Below w.heap.size w w' := by
  have HL := hideIt hl
  have hgw := hl.1
  clear hl
  go_enter Tryd.func20, Tryd.ntmps20
  go_wp2_with fail
  have HRB := hideIt (RB.start w)
  refine (l3Next_any l _ _ _ _ (HL.out.below HRB.out.bel hgw) hn hcap).mono ?_
  rintro e w1 ⟨(⟨hno, rfl⟩ | ⟨hops, hin, rfl⟩), hb1⟩
  all_goals
    have HR1 := hideIt (HRB.out.below hb1)
    clear hb1 HRB
  · have HA := hideIt (HR1.out.below ((Below.refl _ _).alloc (Nat.le_refl _) (.cells #[.int .i64 0, .int .i64 0] 27)))
    have hwl := HR1.out.lt
    have HNO := hideIt hno
    clear hno
    go_wp2_with (first | (refine wpList_store_row rfl 29 _ _ rfl w.heap.size _ rfl rfl 29 _ HA.out.box (by kernel_rfl) rfl (all7 _ _ _ _ _ _ _) ?_; have HST := hideIt (HA.out.stored 0 0 0 0 0 0 0); generalize World.setRow _ _ _ = W9 at *))
    obtain ⟨hb9, hbel9⟩ := HST.out
    have r0 := (blkCell hb9 0).trans rfl
    have r1 := (blkCell hb9 1).trans rfl
    have r2 := (blkCell hb9 2).trans rfl
    have r3 := (blkCell hb9 3).trans rfl
    have r4 := (blkCell hb9 4).trans rfl
    have r5 := (blkCell hb9 5).trans rfl
    have r6 := (blkCell hb9 6).trans rfl
    exact bodyPost_ret (v := .tuple #[.agg #[.int .i64 0, .int .i64 0, .int .i64 0, .int .i64 0, .int .i64 0, .int .i64 0, .int .i64 0], .bool false]) (by simp [results, Tryd.results20, go_sem, r0, r1, r2, r3, r4, r5, r6]) rfl ⟨.inl ⟨by simp [mayTake, mayMore, HNO.out], rfl⟩, hbel9⟩
  · have HO := hideIt hops
    have HI := hideIt hin
    clear hops hin
    generalize hz : decide (cnt l r + 1 ≤ 12) = z
    have HZ := hideIt hz
    clear hz
    generalize hcn : cnt l r + 1 = cn
    have HCN := hideIt hcn
    clear hcn
    cases z
    · have HA := hideIt (HR1.out.below ((Below.refl _ _).alloc (Nat.le_refl _) (.cells #[.int .i64 r, .int .i64 cn] 27)))
      have hwl := HR1.out.lt
      go_wp2_with (first | (refine wpList_store_row rfl 29 _ _ rfl w.heap.size _ rfl rfl 29 _ HA.out.box (by kernel_rfl) rfl (all7 _ _ _ _ _ _ _) ?_; have HST := hideIt (HA.out.stored 0 0 0 0 0 0 0); generalize World.setRow _ _ _ = W9 at *))
      obtain ⟨hb9, hbel9⟩ := HST.out
      have r0 := (blkCell hb9 0).trans rfl
      have r1 := (blkCell hb9 1).trans rfl
      have r2 := (blkCell hb9 2).trans rfl
      have r3 := (blkCell hb9 3).trans rfl
      have r4 := (blkCell hb9 4).trans rfl
      have r5 := (blkCell hb9 5).trans rfl
      have r6 := (blkCell hb9 6).trans rfl
      exact bodyPost_ret (v := .tuple #[.agg #[.int .i64 0, .int .i64 0, .int .i64 0, .int .i64 0, .int .i64 0, .int .i64 0, .int .i64 0], .bool false]) (by simp [results, Tryd.results20, go_sem, r0, r1, r2, r3, r4, r5, r6]) rfl ⟨.inl ⟨by simp [mayTake, mayMore, HZ.out], rfl⟩, hbel9⟩
    · have HA1 := hideIt (HR1.out.below ((Below.refl _ _).alloc (Nat.le_refl _) (.cells #[.int .i64 r, .int .i64 cn] 27)))
      have D1 : Hid ((w1.alloc (.cells #[.int .i64 r, .int .i64 cn] 27)).cell? ⟨w1.heap.size, 0, none⟩ = some (.int .i64 r) ∧ (w1.alloc (.cells #[.int .i64 r, .int .i64 cn] 27)).cell? ⟨w1.heap.size, 1, none⟩ = some (.int .i64 cn) ∧ w1.heap.size < (w1.alloc (.cells #[.int .i64 r, .int .i64 cn] 27)).heap.size) := ⟨by simp [go_sem], by simp [go_sem], by simp⟩
      have hdd : w1.heap.size ≠ w.heap.size := by have := HR1.out.lt; omega
      have HOP := hideIt (HL.out.below HA1.out.bel hgw)
      go_wp2_with fail
      clear HR1
      generalize w1.alloc (.cells #[.int .i64 r, .int .i64 cn] 27) = Wi at *
      generalize w1.heap.size = B1 at *
      refine (l2Leaves_any l HO.out _ _ _ HOP.out hn hcap).mono ?_
      rintro e w2 ⟨G, c, rfl, hr, hb2⟩
      have HLN := hideIt (lvs_len HO.out)
      have hc : (lvs l).length ≤ c := by
        rcases hr.2 with ⟨h, _⟩ | ⟨g', c', cur, h, _, _, h2, _⟩
        · cases h
        · cases h; unfold lvs; rw [lfs_len]; exact h2
      rw [lfs_cells, ← lfs_len l (allO l)] at hr
      rw [← lfs_len l (allO l)]
      have HR : Hid (w2.ownsRow Wi.heap.size 44 4 (.slice (some ⟨G, 0, none⟩) (lvs l).length c) (lvs l).length (lfCells (lvs l))) := hr
      have HR2 := hideIt (HA1.out.below hb2)
      have D2 : Hid (w2.cell? ⟨B1, 0, none⟩ = some (.int .i64 r) ∧ w2.cell? ⟨B1, 1, none⟩ = some (.int .i64 cn) ∧ B1 < w2.heap.size) := ⟨((bcell hb2).1 _ _ D1.out.2.2).trans D1.out.1, ((bcell hb2).1 _ _ D1.out.2.2).trans D1.out.2.1, Nat.lt_of_lt_of_le D1.out.2.2 hb2.size⟩
      have hGw : Hid (w.heap.size < Wi.heap.size ∧ w.heap.size < w2.heap.size) := ⟨HA1.out.lt, HR2.out.lt⟩
      clear hr hb2 HA1 D1 HOP
      rw [show (lfs l (allO l)) = lvs l from rfl]
      go_wp2_with fail
      refine (l3Shown_any (lvs l) G c _ _ HR.out (by have := HLN.out; omega) hc).mono ?_
      rintro e w3 ⟨S, c3, rfl, hr3, hb3⟩
      have HS3 := hideIt hr3
      have HRR := hideIt (rowKeep HR.out hb3)
      have HA := hideIt (HR2.out.below hb3)
      have D3 : Hid (w3.cell? ⟨B1, 0, none⟩ = some (.int .i64 r) ∧ w3.cell? ⟨B1, 1, none⟩ = some (.int .i64 cn) ∧ B1 < w3.heap.size) := ⟨((bcell hb3).1 _ _ D2.out.2.2).trans D2.out.1, ((bcell hb3).1 _ _ D2.out.2.2).trans D2.out.2.1, Nat.lt_of_lt_of_le D2.out.2.2 hb3.size⟩
      have hsn : (shownI (lvs l)).length ≤ 36 := Nat.le_trans (shownTo_len _ _) HLN.out
      clear hr3 hb3 HR HR2 D2
      have hwl := HA.out.lt
      cases hi : inB t 0 ((shownI (lvs l)).length - 1)
      all_goals
        have HIN := hideIt hi
        clear hi
      · go_wp2_with (first | (go_at_call 63; refine (l6In_any _ _ _ _).mono ?_; rintro e w' ⟨rfl, hw'⟩; subst hw'; rw [HIN.out]) | (refine wpList_store_row rfl 29 _ _ rfl w.heap.size _ rfl rfl 29 _ HA.out.box (by kernel_rfl) rfl (all7 _ _ _ _ _ _ _) ?_; have HST := hideIt (HA.out.stored 0 0 0 0 0 0 0); generalize World.setRow _ _ _ = W9 at *))
        obtain ⟨hb9, hbel9⟩ := HST.out
        have r0 := (blkCell hb9 0).trans rfl
        have r1 := (blkCell hb9 1).trans rfl
        have r2 := (blkCell hb9 2).trans rfl
        have r3 := (blkCell hb9 3).trans rfl
        have r4 := (blkCell hb9 4).trans rfl
        have r5 := (blkCell hb9 5).trans rfl
        have r6 := (blkCell hb9 6).trans rfl
        exact bodyPost_ret (v := .tuple #[.agg #[.int .i64 0, .int .i64 0, .int .i64 0, .int .i64 0, .int .i64 0, .int .i64 0, .int .i64 0], .bool false]) (by simp [results, Tryd.results20, go_sem, r0, r1, r2, r3, r4, r5, r6]) rfl ⟨.inl ⟨by simp [mayTake, HIN.out], rfl⟩, hbel9⟩
      · obtain ⟨k, rfl, hk⟩ : ∃ k : Nat, t = k ∧ k < (shownI (lvs l)).length := by
          have h := HIN.out
          simp [inB] at h
          exact ⟨t.toNat, by omega, by omega⟩
        obtain ⟨j, x, hj, hx, hjl⟩ := shown_leaf hk
        have HTK : Hid (takeO l r k = ⟨r, cn, 2, x.a, x.b, 0, 0⟩) := by show takeO l r k = _; simp [takeO, takeId, hj, hx, HCN.out]
        have hS := (World.ownsRow.cellAt HS3.out k (by omega)).trans (natCells_at hj)
        obtain ⟨q0, q1, _, _⟩ := lfCells_at (lvs l) j x hx
        have z0 := (World.ownsRow.cellAt HRR.out (j * 4) (by omega)).trans q0
        have z1 := (World.ownsRow.cellAt HRR.out (j * 4 + 1) (by omega)).trans q1
        have hSl := (World.ownsRow.lt HS3.out S rfl).2
        have hGl := (World.ownsRow.lt HRR.out G rfl).2
        have hk' : (k : Int) < ((shownI (lvs l)).length : Int) := by omega
        have hj' : (j : Int) < ((lvs l).length : Int) := by omega
        have hj0 : (0 : Int) ≤ (j : Int) := by omega
        have hk0 : (0 : Int) ≤ (k : Int) := by omega
        obtain ⟨d0, d1, dl⟩ := D3.out
        generalize x.a = xa at *
        generalize x.b = xb at *
        clear q0 q1 hj hx
        go_wp2_with (first | (go_at_call 63; refine (l6In_any _ _ _ _).mono ?_; rintro e w' ⟨rfl, hw'⟩; subst hw'; rw [HIN.out]) | (refine wpList_store_row rfl 29 _ _ rfl w.heap.size _ rfl rfl 29 _ HA.out.box (by kernel_rfl) rfl (all7 _ _ _ _ _ _ _) ?_; have HST := hideIt (HA.out.stored r cn 2 xa xb 0 0); generalize World.setRow _ _ _ = W9 at *))
        have ks1 : (Instr.storeAt 29 (.pointer (some ⟨w.heap.size, 0, none⟩)) (.agg #[.int .i64 r, .int .i64 cn, .int .i64 2, .int .i64 xa, .int .i64 xb, .int .i64 0, .int .i64 0])).run Tryd.prog w'.drew = .ok () (w'.drew.setRow w.heap.size #[.int .i64 r, .int .i64 cn, .int .i64 2, .int .i64 xa, .int .i64 xb, .int .i64 0, .int .i64 0]) := store_op w'.drew w.heap.size _ HA.out.box rfl r cn 2 xa xb 0 0
        have HST := hideIt ((HA.out.below ((Below.refl _ _).drew)).stored r cn 2 xa xb 0 0)
        have nS : S ≠ w.heap.size := by have h1 := (World.ownsRow.lt HS3.out S rfl).1; have h2 := hGw.out.2; omega
        have nG : G ≠ w.heap.size := by have h1 := (World.ownsRow.lt HRR.out G rfl).1; have h2 := hGw.out.1; omega
        have K9 : Hid ((w'.drew.setRow w.heap.size #[.int .i64 r, .int .i64 cn, .int .i64 2, .int .i64 xa, .int .i64 xb, .int .i64 0, .int .i64 0]).cell? ⟨B1, 0, none⟩ = some (.int .i64 r) ∧ (w'.drew.setRow w.heap.size #[.int .i64 r, .int .i64 cn, .int .i64 2, .int .i64 xa, .int .i64 xb, .int .i64 0, .int .i64 0]).cell? ⟨B1, 1, none⟩ = some (.int .i64 cn) ∧ (w'.drew.setRow w.heap.size #[.int .i64 r, .int .i64 cn, .int .i64 2, .int .i64 xa, .int .i64 xb, .int .i64 0, .int .i64 0]).cell? ⟨S, k, none⟩ = some (.int .i64 j) ∧ (w'.drew.setRow w.heap.size #[.int .i64 r, .int .i64 cn, .int .i64 2, .int .i64 xa, .int .i64 xb, .int .i64 0, .int .i64 0]).cell? ⟨G, j * 4, none⟩ = some (.int .i64 xa) ∧ (w'.drew.setRow w.heap.size #[.int .i64 r, .int .i64 cn, .int .i64 2, .int .i64 xa, .int .i64 xb, .int .i64 0, .int .i64 0]).cell? ⟨G, j * 4 + 1, none⟩ = some (.int .i64 xb)) :=
          ⟨setRow_cell (W := w'.drew) hdd d0, setRow_cell (W := w'.drew) hdd d1, setRow_cell (W := w'.drew) nS hS, setRow_cell (W := w'.drew) nG z0, setRow_cell (W := w'.drew) nG z1⟩
        go_region_held3 (fun w' => w'.cell? ⟨B1, 0, none⟩ = some (.int .i64 r) ∧ w'.cell? ⟨B1, 1, none⟩ = some (.int .i64 cn) ∧ w'.cell? ⟨S, k, none⟩ = some (.int .i64 j) ∧ w'.cell? ⟨G, j * 4, none⟩ = some (.int .i64 xa) ∧ w'.cell? ⟨G, j * 4 + 1, none⟩ = some (.int .i64 xb))
          (first | exact ⟨d0, d1, hS, z0, z1⟩ | exact K9.out)
          (fail)
        rename_i hHH
        clear hHH K9
        generalize World.setRow _ _ _ = W9 at *
        go_wp2
        obtain ⟨hb9, hbel9⟩ := HST.out
        have r0 := (blkCell hb9 0).trans rfl
        have r1 := (blkCell hb9 1).trans rfl
        have r2 := (blkCell hb9 2).trans rfl
        have r3 := (blkCell hb9 3).trans rfl
        have r4 := (blkCell hb9 4).trans rfl
        have r5 := (blkCell hb9 5).trans rfl
        have r6 := (blkCell hb9 6).trans rfl
        exact bodyPost_ret (v := .tuple #[.agg #[.int .i64 r, .int .i64 cn, .int .i64 2, .int .i64 xa, .int .i64 xb, .int .i64 0, .int .i64 0], .bool true]) (by simp [results, Tryd.results20, go_sem, r0, r1, r2, r3, r4, r5, r6]) rfl ⟨.inr ⟨by simp [mayTake, mayMore, HO.out, HI.out, HZ.out, HIN.out], by rw [show ((k : Int)).toNat = k from rfl, HTK.out]; rfl⟩, hbel9⟩
end Go.Proofs.YtedanlmippfojaaDoor

namespace Go.Proofs.YtedanlmippfojaaDoor
open Go.RowKit
set_option linter.unusedSimpArgs false
set_option linter.unusedVariables false
attribute [local go_sem ↓] Go.wp_at_zero Go.wp_at_succ build_op0 build_opTake build_opPut

theorem row_len {W : World} {base : Nat} {T : TypeId} {m : Nat} {v : Value} {n : Nat} {xs : List Value} (h : W.ownsRow base T m v n xs) : ∃ p c, v = .slice p n c := by
  rcases h.2 with ⟨rfl, h0⟩ | ⟨g, c, cur, rfl, _⟩
  · exact ⟨none, 0, by rw [h0]⟩
  · exact ⟨_, _, rfl⟩
theorem putO_yes {l : List Op7} {r sg : Int} {t : Nat} (h : kidsL l ((leftOf l t).1, (leftOf l t).2.1, 1) = []) : putO l r t sg = ⟨r, cnt l r + 1, 1, (leftOf l t).1, (leftOf l t).2.1, 1, sg⟩ := by unfold putO; rw [if_pos h]
theorem putO_no {l : List Op7} {r sg : Int} {t : Nat} (h : kidsL l ((leftOf l t).1, (leftOf l t).2.1, 1) ≠ []) {x : Lf} (hx : (lvs l)[(leftOf l t).2.2]? = some x) : putO l r t sg = ⟨r, cnt l r + 1, 1, x.a, x.b, 0, sg⟩ := by unfold putO; rw [if_neg h]; simp [nextLf, hx]

attribute [-go_sem] Instr.storeAt
attribute [local go_sem ↓] store_id_new
set_option maxRecDepth 100000 in
set_option maxHeartbeats 2000000 in
theorem typePut_any (l : List Op7) (g cap : Nat) (r t sg : Int) (w : World) (hl : OpsAt w g l) (hn : l.length ≤ 1048576) (hcap : l.length ≤ cap) :
    Calls Tryd.prog 16 #[.slice (some ⟨g, 0, none⟩) l.length cap, .int .i64 r, .int .i64 t, .int .i64 sg] w fun e w' =>
      ((mayPut l r t sg = false ∧ e = .returned (.tuple #[.agg #[.int .i64 0, .int .i64 0, .int .i64 0, .int .i64 0, .int .i64 0, .int .i64 0, .int .i64 0], .bool false])) ∨
       (mayPut l r t sg = true ∧ e = .returned (.tuple #[opV (putO l r t.toNat sg), .bool true]))) ∧ Below w.heap.size w w' := by
  have HL := hideIt hl
  have hgw := hl.1
  clear hl
  go_enter Tryd.func16, Tryd.ntmps16
  go_wp2_with fail
  have HRB := hideIt (RB.start w)
  refine (l3Next_any l _ _ _ _ (HL.out.below HRB.out.bel hgw) hn hcap).mono ?_
  rintro e w1 ⟨(⟨hno, rfl⟩ | ⟨hops, hin, rfl⟩), hb1⟩
  all_goals
    have HR1 := hideIt (HRB.out.below hb1)
    clear hb1 HRB
  · have HA := hideIt (HR1.out.below ((Below.refl _ _).alloc (Nat.le_refl _) (.cells #[.int .i64 0, .int .i64 0] 27)))
    have hwl := HR1.out.lt
    have HNO := hideIt hno
    clear hno
    go_wp2_with (first | (refine wpList_store_row rfl 29 _ _ rfl w.heap.size _ rfl rfl 29 _ HA.out.box (by kernel_rfl) rfl (all7 _ _ _ _ _ _ _) ?_; have HST := hideIt (HA.out.stored 0 0 0 0 0 0 0); generalize World.setRow _ _ _ = W9 at *))
    obtain ⟨hb9, hbel9⟩ := HST.out
    have r0 := (blkCell hb9 0).trans rfl
    have r1 := (blkCell hb9 1).trans rfl
    have r2 := (blkCell hb9 2).trans rfl
    have r3 := (blkCell hb9 3).trans rfl
    have r4 := (blkCell hb9 4).trans rfl
    have r5 := (blkCell hb9 5).trans rfl
    have r6 := (blkCell hb9 6).trans rfl
    exact bodyPost_ret (v := .tuple #[.agg #[.int .i64 0, .int .i64 0, .int .i64 0, .int .i64 0, .int .i64 0, .int .i64 0, .int .i64 0], .bool false]) (by simp [results, Tryd.results16, go_sem, r0, r1, r2, r3, r4, r5, r6]) rfl ⟨.inl ⟨by simp [mayPut, mayMore, HNO.out], rfl⟩, hbel9⟩
  · have HO := hideIt hops
    have HI := hideIt hin
    clear hops hin
    generalize hz : decide (cnt l r + 1 ≤ 12) = z
    have HZ := hideIt hz
    clear hz
    generalize hcn : cnt l r + 1 = cn
    have HCN := hideIt hcn
    clear hcn
    cases z
    · have HA := hideIt (HR1.out.below ((Below.refl _ _).alloc (Nat.le_refl _) (.cells #[.int .i64 r, .int .i64 cn] 27)))
      have hwl := HR1.out.lt
      go_wp2_with (first | (refine wpList_store_row rfl 29 _ _ rfl w.heap.size _ rfl rfl 29 _ HA.out.box (by kernel_rfl) rfl (all7 _ _ _ _ _ _ _) ?_; have HST := hideIt (HA.out.stored 0 0 0 0 0 0 0); generalize World.setRow _ _ _ = W9 at *))
      obtain ⟨hb9, hbel9⟩ := HST.out
      have r0 := (blkCell hb9 0).trans rfl
      have r1 := (blkCell hb9 1).trans rfl
      have r2 := (blkCell hb9 2).trans rfl
      have r3 := (blkCell hb9 3).trans rfl
      have r4 := (blkCell hb9 4).trans rfl
      have r5 := (blkCell hb9 5).trans rfl
      have r6 := (blkCell hb9 6).trans rfl
      exact bodyPost_ret (v := .tuple #[.agg #[.int .i64 0, .int .i64 0, .int .i64 0, .int .i64 0, .int .i64 0, .int .i64 0, .int .i64 0], .bool false]) (by simp [results, Tryd.results16, go_sem, r0, r1, r2, r3, r4, r5, r6]) rfl ⟨.inl ⟨by simp [mayPut, mayMore, HZ.out], rfl⟩, hbel9⟩
    · cases hsg : inB sg 97 122
      all_goals
        have HSG := hideIt hsg
        clear hsg
      · have HA := hideIt (HR1.out.below ((Below.refl _ _).alloc (Nat.le_refl _) (.cells #[.int .i64 r, .int .i64 cn] 27)))
        have hwl := HR1.out.lt
        go_wp2_with (first | (go_at_call 63; refine (l6In_any _ _ _ _).mono ?_; rintro e w' ⟨rfl, hw'⟩; subst hw'; rw [HSG.out]) | (refine wpList_store_row rfl 29 _ _ rfl w.heap.size _ rfl rfl 29 _ HA.out.box (by kernel_rfl) rfl (all7 _ _ _ _ _ _ _) ?_; have HST := hideIt (HA.out.stored 0 0 0 0 0 0 0); generalize World.setRow _ _ _ = W9 at *))
        obtain ⟨hb9, hbel9⟩ := HST.out
        have r0 := (blkCell hb9 0).trans rfl
        have r1 := (blkCell hb9 1).trans rfl
        have r2 := (blkCell hb9 2).trans rfl
        have r3 := (blkCell hb9 3).trans rfl
        have r4 := (blkCell hb9 4).trans rfl
        have r5 := (blkCell hb9 5).trans rfl
        have r6 := (blkCell hb9 6).trans rfl
        exact bodyPost_ret (v := .tuple #[.agg #[.int .i64 0, .int .i64 0, .int .i64 0, .int .i64 0, .int .i64 0, .int .i64 0, .int .i64 0], .bool false]) (by simp [results, Tryd.results16, go_sem, r0, r1, r2, r3, r4, r5, r6]) rfl ⟨.inl ⟨by simp [mayPut, HSG.out], rfl⟩, hbel9⟩
      · have HA1 := hideIt (HR1.out.below ((Below.refl _ _).alloc (Nat.le_refl _) (.cells #[.int .i64 r, .int .i64 cn] 27)))
        have D1 : Hid ((w1.alloc (.cells #[.int .i64 r, .int .i64 cn] 27)).cell? ⟨w1.heap.size, 0, none⟩ = some (.int .i64 r) ∧ (w1.alloc (.cells #[.int .i64 r, .int .i64 cn] 27)).cell? ⟨w1.heap.size, 1, none⟩ = some (.int .i64 cn) ∧ w1.heap.size < (w1.alloc (.cells #[.int .i64 r, .int .i64 cn] 27)).heap.size) := ⟨by simp [go_sem], by simp [go_sem], by simp⟩
        have hdd : w1.heap.size ≠ w.heap.size := by have := HR1.out.lt; omega
        have HOP := hideIt (HL.out.below HA1.out.bel hgw)
        go_wp2_with (first | (go_at_call 63; refine (l6In_any _ _ _ _).mono ?_; rintro e w' ⟨rfl, hw'⟩; subst hw'; rw [HSG.out]))
        clear HR1
        generalize w1.alloc (.cells #[.int .i64 r, .int .i64 cn] 27) = Wi at *
        generalize w1.heap.size = B1 at *
        refine (l2Leaves_any l HO.out _ _ _ HOP.out hn hcap).mono ?_
        rintro e w2 ⟨G, c, rfl, hr, hb2⟩
        have HLN := hideIt (lvs_len HO.out)
        have hc : (lvs l).length ≤ c := by
          rcases hr.2 with ⟨h, _⟩ | ⟨g', c', cur, h, _, _, h2, _⟩
          · cases h
          · cases h; unfold lvs; rw [lfs_len]; exact h2
        rw [lfs_cells, ← lfs_len l (allO l)] at hr
        rw [← lfs_len l (allO l)]
        have HR : Hid (w2.ownsRow Wi.heap.size 44 4 (.slice (some ⟨G, 0, none⟩) (lvs l).length c) (lvs l).length (lfCells (lvs l))) := hr
        have HR2 := hideIt (HA1.out.below hb2)
        have D2 : Hid (w2.cell? ⟨B1, 0, none⟩ = some (.int .i64 r) ∧ w2.cell? ⟨B1, 1, none⟩ = some (.int .i64 cn) ∧ B1 < w2.heap.size) := ⟨((bcell hb2).1 _ _ D1.out.2.2).trans D1.out.1, ((bcell hb2).1 _ _ D1.out.2.2).trans D1.out.2.1, Nat.lt_of_lt_of_le D1.out.2.2 hb2.size⟩
        have hGw : Hid (w.heap.size < Wi.heap.size ∧ w.heap.size < w2.heap.size) := ⟨HA1.out.lt, HR2.out.lt⟩
        clear hr hb2 HA1 D1 HOP
        rw [show (lfs l (allO l)) = lvs l from rfl]
        go_wp2_with fail
        refine (l3Shown_any (lvs l) G c _ _ HR.out (by have := HLN.out; omega) hc).mono ?_
        rintro e w3 ⟨S, c3, rfl, hr3, hb3⟩
        have HS3 := hideIt hr3
        have HRR := hideIt (rowKeep HR.out hb3)
        have HA := hideIt (HR2.out.below hb3)
        have D3 : Hid (w3.cell? ⟨B1, 0, none⟩ = some (.int .i64 r) ∧ w3.cell? ⟨B1, 1, none⟩ = some (.int .i64 cn) ∧ B1 < w3.heap.size) := ⟨((bcell hb3).1 _ _ D2.out.2.2).trans D2.out.1, ((bcell hb3).1 _ _ D2.out.2.2).trans D2.out.2.1, Nat.lt_of_lt_of_le D2.out.2.2 hb3.size⟩
        have hsn : (shownI (lvs l)).length ≤ 36 := Nat.le_trans (shownTo_len _ _) HLN.out
        clear hr3 hb3 HR HR2 D2
        have hwl := HA.out.lt
        cases hi : inB t 0 (shownI (lvs l)).length
        all_goals
          have HIN := hideIt hi
          clear hi
        · go_wp2_with (first | (go_at_call 63; refine (l6In_any _ _ _ _).mono ?_; rintro e w' ⟨rfl, hw'⟩; subst hw'; rw [HIN.out]) | (refine wpList_store_row rfl 29 _ _ rfl w.heap.size _ rfl rfl 29 _ HA.out.box (by kernel_rfl) rfl (all7 _ _ _ _ _ _ _) ?_; have HST := hideIt (HA.out.stored 0 0 0 0 0 0 0); generalize World.setRow _ _ _ = W9 at *))
          obtain ⟨hb9, hbel9⟩ := HST.out
          have r0 := (blkCell hb9 0).trans rfl
          have r1 := (blkCell hb9 1).trans rfl
          have r2 := (blkCell hb9 2).trans rfl
          have r3 := (blkCell hb9 3).trans rfl
          have r4 := (blkCell hb9 4).trans rfl
          have r5 := (blkCell hb9 5).trans rfl
          have r6 := (blkCell hb9 6).trans rfl
          exact bodyPost_ret (v := .tuple #[.agg #[.int .i64 0, .int .i64 0, .int .i64 0, .int .i64 0, .int .i64 0, .int .i64 0, .int .i64 0], .bool false]) (by simp [results, Tryd.results16, go_sem, r0, r1, r2, r3, r4, r5, r6]) rfl ⟨.inl ⟨by simp [mayPut, HIN.out], rfl⟩, hbel9⟩
        · have hk : 0 ≤ t ∧ t ≤ (shownI (lvs l)).length := by
            have h := HIN.out
            simp [inB] at h
            exact h
          obtain ⟨d0, d1, dl⟩ := D3.out
          by_cases ht : t = 0
          · subst ht
            go_wp2_with (first | (go_at_call 63; refine (l6In_any _ _ _ _).mono ?_; rintro e w' ⟨rfl, hw'⟩; subst hw'; rw [HIN.out]))
            have HAL := hideIt (HA.out.below ((Below.refl _ _).alloc (Nat.le_refl _) (.cells #[.int .i64 0, .int .i64 0] 27)))
            have hb0 : Below w'.heap.size w' (w'.alloc (.cells #[.int .i64 0, .int .i64 0] 27)) := (Below.refl _ _).alloc (Nat.le_refl _) _
            have D4 : Hid ((w'.alloc (.cells #[.int .i64 0, .int .i64 0] 27)).cell? ⟨w'.heap.size, 0, none⟩ = some (.int .i64 0) ∧ (w'.alloc (.cells #[.int .i64 0, .int .i64 0] 27)).cell? ⟨w'.heap.size, 1, none⟩ = some (.int .i64 0) ∧ w'.heap.size < (w'.alloc (.cells #[.int .i64 0, .int .i64 0] 27)).heap.size) := ⟨by simp [go_sem], by simp [go_sem], by simp⟩
            have HRK := hideIt (rowKeep HRR.out hb0)
            have a0 := ((bcell hb0).1 _ _ dl).trans d0
            have a1 := ((bcell hb0).1 _ _ dl).trans d1
            have al := Nat.lt_of_lt_of_le dl hb0.size
            have hd2 : w'.heap.size ≠ w.heap.size := by have := HA.out.lt; omega
            clear hb0
            generalize w'.alloc (.cells #[.int .i64 0, .int .i64 0] 27) = Wj at *
            generalize w'.heap.size = B2 at *
            refine (l2Kids_any l g cap _ _ _ _ (HL.out.below HAL.out.bel hgw) hn hcap).mono ?_
            rintro e w4 ⟨v, rfl, hrk, hb4⟩
            obtain ⟨pk, ck, rfl⟩ := row_len hrk
            have d0 := ((bcell hb4).1 _ _ al).trans a0
            have d1 := ((bcell hb4).1 _ _ al).trans a1
            have e0 := ((bcell hb4).1 _ _ D4.out.2.2).trans D4.out.1
            have e1 := ((bcell hb4).1 _ _ D4.out.2.2).trans D4.out.2.1
            have HR4 := hideIt (rowKeep HRK.out hb4)
            have hB14 : B1 < w4.heap.size := Nat.lt_of_lt_of_le al hb4.size
            have hB24 : B2 < w4.heap.size := Nat.lt_of_lt_of_le D4.out.2.2 hb4.size
            have HA := hideIt (HAL.out.below hb4)
            have hwl4 := HA.out.lt
            have nG : G ≠ w.heap.size := by have h1 := (World.ownsRow.lt HRR.out G rfl).1; have h2 := hGw.out.1; omega
            have hGl4 := (World.ownsRow.lt HR4.out G rfl).2
            clear hrk hb4 HAL HRK
            by_cases hK : kidsL l (0, 0, 1) = []
            · have HOP : Hid (putO l r (0) sg = ⟨r, cn, 1, 0, 0, 1, sg⟩) := by
                have h := putO_yes (l := l) (r := r) (sg := sg) (t := 0) (by rw [leftOf_zero]; exact hK)
                rw [leftOf_zero, HCN.out] at h
                exact h
              have hkn : (kidsL l (0, 0, 1)).length = 0 := by rw [hK]; rfl
              rw [hkn]
              clear hK
              go_wp2_with (first | (refine wpList_store_row rfl 29 _ _ rfl w.heap.size _ rfl rfl 29 _ HA.out.box (by kernel_rfl) rfl (all7 _ _ _ _ _ _ _) ?_; have HST := hideIt (HA.out.stored r cn 1 0 0 1 sg); generalize World.setRow _ _ _ = W9 at *))
              obtain ⟨hb9, hbel9⟩ := HST.out
              have r0 := (blkCell hb9 0).trans rfl
              have r1 := (blkCell hb9 1).trans rfl
              have r2 := (blkCell hb9 2).trans rfl
              have r3 := (blkCell hb9 3).trans rfl
              have r4 := (blkCell hb9 4).trans rfl
              have r5 := (blkCell hb9 5).trans rfl
              have r6 := (blkCell hb9 6).trans rfl
              exact bodyPost_ret (v := .tuple #[.agg #[.int .i64 r, .int .i64 cn, .int .i64 1, .int .i64 0, .int .i64 0, .int .i64 1, .int .i64 sg], .bool true]) (by simp [results, Tryd.results16, go_sem, r0, r1, r2, r3, r4, r5, r6]) rfl ⟨.inr ⟨by simp [mayPut, mayMore, HO.out, HI.out, HZ.out, HIN.out, HSG.out], by rw [show ((0 : Int)).toNat = 0 from rfl, HOP.out]; rfl⟩, hbel9⟩
            · have hnx : 0 < (lvs l).length := by
                have h := left_next (l := l) HO.out (t := 0) (by omega) (by rw [leftOf_zero]; exact hK)
                rw [leftOf_zero] at h
                exact h
              have hxn : (lvs l)[0]? = some (lvs l)[0] := by simp [hnx]
              have HOP : Hid (putO l r (0) sg = ⟨r, cn, 1, (lvs l)[0].a, (lvs l)[0].b, 0, sg⟩) := by
                have h := putO_no (l := l) (r := r) (sg := sg) (t := 0) (by rw [leftOf_zero]; exact hK) (x := (lvs l)[0]) (by rw [leftOf_zero]; exact hxn)
                rw [HCN.out] at h
                exact h
              obtain ⟨q0, q1, _, _⟩ := lfCells_at (lvs l) (0) _ hxn
              have u0 := (World.ownsRow.cellAt HR4.out ((0) * 4) (by omega)).trans q0
              have u1 := (World.ownsRow.cellAt HR4.out ((0) * 4 + 1) (by omega)).trans q1
              have hkp : 0 < (kidsL l (0, 0, 1)).length := List.length_pos_iff.2 hK
              generalize (lvs l)[0].a = ya at *
              generalize (lvs l)[0].b = yb at *
              generalize (kidsL l (0, 0, 1)).length = kn at *
              clear hK hxn q0 q1
              have hkp' : ¬ ((kn : Int) = 0) := by omega
              have hnx' : (0 : Int) < ((lvs l).length : Int) := by omega
              have ks1 : (Instr.storeAt 29 (.pointer (some ⟨w.heap.size, 0, none⟩)) (.agg #[.int .i64 r, .int .i64 cn, .int .i64 1, .int .i64 ya, .int .i64 yb, .int .i64 0, .int .i64 sg])).run Tryd.prog w4.drew = .ok () (w4.drew.setRow w.heap.size #[.int .i64 r, .int .i64 cn, .int .i64 1, .int .i64 ya, .int .i64 yb, .int .i64 0, .int .i64 sg]) := store_op w4.drew w.heap.size _ HA.out.box rfl r cn 1 ya yb 0 sg
              have HST := hideIt ((HA.out.below ((Below.refl _ _).drew)).stored r cn 1 ya yb 0 sg)
              have K9 : Hid ((w4.drew.setRow w.heap.size #[.int .i64 r, .int .i64 cn, .int .i64 1, .int .i64 ya, .int .i64 yb, .int .i64 0, .int .i64 sg]).cell? ⟨B1, 0, none⟩ = some (.int .i64 r) ∧ (w4.drew.setRow w.heap.size #[.int .i64 r, .int .i64 cn, .int .i64 1, .int .i64 ya, .int .i64 yb, .int .i64 0, .int .i64 sg]).cell? ⟨B1, 1, none⟩ = some (.int .i64 cn) ∧ (w4.drew.setRow w.heap.size #[.int .i64 r, .int .i64 cn, .int .i64 1, .int .i64 ya, .int .i64 yb, .int .i64 0, .int .i64 sg]).cell? ⟨G, (0) * 4, none⟩ = some (.int .i64 ya) ∧ (w4.drew.setRow w.heap.size #[.int .i64 r, .int .i64 cn, .int .i64 1, .int .i64 ya, .int .i64 yb, .int .i64 0, .int .i64 sg]).cell? ⟨G, (0) * 4 + 1, none⟩ = some (.int .i64 yb)) :=
                ⟨setRow_cell (W := w4.drew) hdd d0, setRow_cell (W := w4.drew) hdd d1, setRow_cell (W := w4.drew) nG u0, setRow_cell (W := w4.drew) nG u1⟩
              go_wp2
              go_region_held3 (fun w' => w'.cell? ⟨B1, 0, none⟩ = some (.int .i64 r) ∧ w'.cell? ⟨B1, 1, none⟩ = some (.int .i64 cn) ∧ w'.cell? ⟨G, (0) * 4, none⟩ = some (.int .i64 ya) ∧ w'.cell? ⟨G, (0) * 4 + 1, none⟩ = some (.int .i64 yb))
                (first | exact ⟨d0, d1, u0, u1⟩ | exact K9.out)
                (fail)
              rename_i hHH
              clear hHH K9
              generalize World.setRow _ _ _ = W9 at *
              go_wp2
              obtain ⟨hb9, hbel9⟩ := HST.out
              have r0 := (blkCell hb9 0).trans rfl
              have r1 := (blkCell hb9 1).trans rfl
              have r2 := (blkCell hb9 2).trans rfl
              have r3 := (blkCell hb9 3).trans rfl
              have r4 := (blkCell hb9 4).trans rfl
              have r5 := (blkCell hb9 5).trans rfl
              have r6 := (blkCell hb9 6).trans rfl
              exact bodyPost_ret (v := .tuple #[.agg #[.int .i64 r, .int .i64 cn, .int .i64 1, .int .i64 ya, .int .i64 yb, .int .i64 0, .int .i64 sg], .bool true]) (by simp [results, Tryd.results16, go_sem, r0, r1, r2, r3, r4, r5, r6]) rfl ⟨.inr ⟨by simp [mayPut, mayMore, HO.out, HI.out, HZ.out, HIN.out, HSG.out], by rw [show ((0 : Int)).toNat = 0 from rfl, HOP.out]; rfl⟩, hbel9⟩
          · obtain ⟨k, rfl, hk1⟩ : ∃ k : Nat, t = (k : Int) + 1 ∧ k < (shownI (lvs l)).length := ⟨t.toNat - 1, by omega, by omega⟩
            obtain ⟨j, x, hj, hx, hjl⟩ := shown_leaf hk1
            have HLF : Hid (leftOf l (k + 1) = (x.a, x.b, j + 1)) := leftOf_succ hj hx
            have hS := (World.ownsRow.cellAt HS3.out k (by omega)).trans (natCells_at hj)
            obtain ⟨q0, q1, _, _⟩ := lfCells_at (lvs l) j x hx
            have z0 := (World.ownsRow.cellAt HRR.out (j * 4) (by omega)).trans q0
            have z1 := (World.ownsRow.cellAt HRR.out (j * 4 + 1) (by omega)).trans q1
            have hSl := (World.ownsRow.lt HS3.out S rfl).2
            have hGl := (World.ownsRow.lt HRR.out G rfl).2
            have hk' : (k : Int) < ((shownI (lvs l)).length : Int) := by omega
            have hj' : (j : Int) < ((lvs l).length : Int) := by omega
            have hj0 : (0 : Int) ≤ (j : Int) := by omega
            have hk0 : (0 : Int) ≤ (k : Int) := by omega
            have hk00 : (0 : Int) < (k : Int) + 1 := by omega
            have hjw : wrap64 ((j : Int) + 1) = (j : Int) + 1 := by have := HLN.out; simp only [wrap64]; omega
            generalize x.a = xa at *
            generalize x.b = xb at *
            clear q0 q1 hj hx
            go_wp2_with (first | (go_at_call 63; refine (l6In_any _ _ _ _).mono ?_; rintro e w' ⟨rfl, hw'⟩; subst hw'; rw [HIN.out]))
            have HAL := hideIt (HA.out.below ((Below.refl _ _).alloc (Nat.le_refl _) (.cells #[.int .i64 xa, .int .i64 xb] 27)))
            have hb0 : Below w'.heap.size w' (w'.alloc (.cells #[.int .i64 xa, .int .i64 xb] 27)) := (Below.refl _ _).alloc (Nat.le_refl _) _
            have D4 : Hid ((w'.alloc (.cells #[.int .i64 xa, .int .i64 xb] 27)).cell? ⟨w'.heap.size, 0, none⟩ = some (.int .i64 xa) ∧ (w'.alloc (.cells #[.int .i64 xa, .int .i64 xb] 27)).cell? ⟨w'.heap.size, 1, none⟩ = some (.int .i64 xb) ∧ w'.heap.size < (w'.alloc (.cells #[.int .i64 xa, .int .i64 xb] 27)).heap.size) := ⟨by simp [go_sem], by simp [go_sem], by simp⟩
            have HRK := hideIt (rowKeep HRR.out hb0)
            have a0 := ((bcell hb0).1 _ _ dl).trans d0
            have a1 := ((bcell hb0).1 _ _ dl).trans d1
            have al := Nat.lt_of_lt_of_le dl hb0.size
            have hd2 : w'.heap.size ≠ w.heap.size := by have := HA.out.lt; omega
            clear hb0
            generalize w'.alloc (.cells #[.int .i64 xa, .int .i64 xb] 27) = Wj at *
            generalize w'.heap.size = B2 at *
            refine (l2Kids_any l g cap _ _ _ _ (HL.out.below HAL.out.bel hgw) hn hcap).mono ?_
            rintro e w4 ⟨v, rfl, hrk, hb4⟩
            obtain ⟨pk, ck, rfl⟩ := row_len hrk
            have d0 := ((bcell hb4).1 _ _ al).trans a0
            have d1 := ((bcell hb4).1 _ _ al).trans a1
            have e0 := ((bcell hb4).1 _ _ D4.out.2.2).trans D4.out.1
            have e1 := ((bcell hb4).1 _ _ D4.out.2.2).trans D4.out.2.1
            have HR4 := hideIt (rowKeep HRK.out hb4)
            have hB14 : B1 < w4.heap.size := Nat.lt_of_lt_of_le al hb4.size
            have hB24 : B2 < w4.heap.size := Nat.lt_of_lt_of_le D4.out.2.2 hb4.size
            have HA := hideIt (HAL.out.below hb4)
            have hwl4 := HA.out.lt
            have nG : G ≠ w.heap.size := by have h1 := (World.ownsRow.lt HRR.out G rfl).1; have h2 := hGw.out.1; omega
            have hGl4 := (World.ownsRow.lt HR4.out G rfl).2
            clear hrk hb4 HAL HRK
            by_cases hK : kidsL l (xa, xb, 1) = []
            · have HOP : Hid (putO l r (k + 1) sg = ⟨r, cn, 1, xa, xb, 1, sg⟩) := by
                have h := putO_yes (l := l) (r := r) (sg := sg) (t := k + 1) (by rw [HLF.out]; exact hK)
                rw [HLF.out, HCN.out] at h
                exact h
              have hkn : (kidsL l (xa, xb, 1)).length = 0 := by rw [hK]; rfl
              rw [hkn]
              clear hK
              go_wp2_with (first | (refine wpList_store_row rfl 29 _ _ rfl w.heap.size _ rfl rfl 29 _ HA.out.box (by kernel_rfl) rfl (all7 _ _ _ _ _ _ _) ?_; have HST := hideIt (HA.out.stored r cn 1 xa xb 1 sg); generalize World.setRow _ _ _ = W9 at *))
              obtain ⟨hb9, hbel9⟩ := HST.out
              have r0 := (blkCell hb9 0).trans rfl
              have r1 := (blkCell hb9 1).trans rfl
              have r2 := (blkCell hb9 2).trans rfl
              have r3 := (blkCell hb9 3).trans rfl
              have r4 := (blkCell hb9 4).trans rfl
              have r5 := (blkCell hb9 5).trans rfl
              have r6 := (blkCell hb9 6).trans rfl
              exact bodyPost_ret (v := .tuple #[.agg #[.int .i64 r, .int .i64 cn, .int .i64 1, .int .i64 xa, .int .i64 xb, .int .i64 1, .int .i64 sg], .bool true]) (by simp [results, Tryd.results16, go_sem, r0, r1, r2, r3, r4, r5, r6]) rfl ⟨.inr ⟨by simp [mayPut, mayMore, HO.out, HI.out, HZ.out, HIN.out, HSG.out], by rw [show ((k : Int) + 1).toNat = k + 1 from (by omega), HOP.out]; rfl⟩, hbel9⟩
            · have hnx : (j + 1) < (lvs l).length := by
                have h := left_next (l := l) HO.out (t := k + 1) (by omega) (by rw [HLF.out]; exact hK)
                rw [HLF.out] at h
                exact h
              have hxn : (lvs l)[(j + 1)]? = some (lvs l)[(j + 1)] := by simp [hnx]
              have HOP : Hid (putO l r (k + 1) sg = ⟨r, cn, 1, (lvs l)[(j + 1)].a, (lvs l)[(j + 1)].b, 0, sg⟩) := by
                have h := putO_no (l := l) (r := r) (sg := sg) (t := k + 1) (by rw [HLF.out]; exact hK) (x := (lvs l)[(j + 1)]) (by rw [HLF.out]; exact hxn)
                rw [HCN.out] at h
                exact h
              obtain ⟨q0, q1, _, _⟩ := lfCells_at (lvs l) ((j + 1)) _ hxn
              have u0 := (World.ownsRow.cellAt HR4.out (((j + 1)) * 4) (by omega)).trans q0
              have u1 := (World.ownsRow.cellAt HR4.out (((j + 1)) * 4 + 1) (by omega)).trans q1
              have hkp : 0 < (kidsL l (xa, xb, 1)).length := List.length_pos_iff.2 hK
              generalize (lvs l)[(j + 1)].a = ya at *
              generalize (lvs l)[(j + 1)].b = yb at *
              generalize (kidsL l (xa, xb, 1)).length = kn at *
              clear hK hxn q0 q1
              have hkp' : ¬ ((kn : Int) = 0) := by omega
              have hnx' : ((j : Int) + 1 : Int) < ((lvs l).length : Int) := by omega
              have hnx0 : (0 : Int) ≤ (j : Int) + 1 := by omega
              have hnt : ((j : Int) + 1).toNat = j + 1 := by omega
              have ks1 : (Instr.storeAt 29 (.pointer (some ⟨w.heap.size, 0, none⟩)) (.agg #[.int .i64 r, .int .i64 cn, .int .i64 1, .int .i64 ya, .int .i64 yb, .int .i64 0, .int .i64 sg])).run Tryd.prog w4.drew = .ok () (w4.drew.setRow w.heap.size #[.int .i64 r, .int .i64 cn, .int .i64 1, .int .i64 ya, .int .i64 yb, .int .i64 0, .int .i64 sg]) := store_op w4.drew w.heap.size _ HA.out.box rfl r cn 1 ya yb 0 sg
              have HST := hideIt ((HA.out.below ((Below.refl _ _).drew)).stored r cn 1 ya yb 0 sg)
              have K9 : Hid ((w4.drew.setRow w.heap.size #[.int .i64 r, .int .i64 cn, .int .i64 1, .int .i64 ya, .int .i64 yb, .int .i64 0, .int .i64 sg]).cell? ⟨B1, 0, none⟩ = some (.int .i64 r) ∧ (w4.drew.setRow w.heap.size #[.int .i64 r, .int .i64 cn, .int .i64 1, .int .i64 ya, .int .i64 yb, .int .i64 0, .int .i64 sg]).cell? ⟨B1, 1, none⟩ = some (.int .i64 cn) ∧ (w4.drew.setRow w.heap.size #[.int .i64 r, .int .i64 cn, .int .i64 1, .int .i64 ya, .int .i64 yb, .int .i64 0, .int .i64 sg]).cell? ⟨G, (j + 1) * 4, none⟩ = some (.int .i64 ya) ∧ (w4.drew.setRow w.heap.size #[.int .i64 r, .int .i64 cn, .int .i64 1, .int .i64 ya, .int .i64 yb, .int .i64 0, .int .i64 sg]).cell? ⟨G, (j + 1) * 4 + 1, none⟩ = some (.int .i64 yb)) :=
                ⟨setRow_cell (W := w4.drew) hdd d0, setRow_cell (W := w4.drew) hdd d1, setRow_cell (W := w4.drew) nG u0, setRow_cell (W := w4.drew) nG u1⟩
              go_wp2
              go_region_held3 (fun w' => w'.cell? ⟨B1, 0, none⟩ = some (.int .i64 r) ∧ w'.cell? ⟨B1, 1, none⟩ = some (.int .i64 cn) ∧ w'.cell? ⟨G, (j + 1) * 4, none⟩ = some (.int .i64 ya) ∧ w'.cell? ⟨G, (j + 1) * 4 + 1, none⟩ = some (.int .i64 yb))
                (first | exact ⟨d0, d1, u0, u1⟩ | exact K9.out)
                (fail)
              rename_i hHH
              clear hHH K9
              generalize World.setRow _ _ _ = W9 at *
              go_wp2
              obtain ⟨hb9, hbel9⟩ := HST.out
              have r0 := (blkCell hb9 0).trans rfl
              have r1 := (blkCell hb9 1).trans rfl
              have r2 := (blkCell hb9 2).trans rfl
              have r3 := (blkCell hb9 3).trans rfl
              have r4 := (blkCell hb9 4).trans rfl
              have r5 := (blkCell hb9 5).trans rfl
              have r6 := (blkCell hb9 6).trans rfl
              exact bodyPost_ret (v := .tuple #[.agg #[.int .i64 r, .int .i64 cn, .int .i64 1, .int .i64 ya, .int .i64 yb, .int .i64 0, .int .i64 sg], .bool true]) (by simp [results, Tryd.results16, go_sem, r0, r1, r2, r3, r4, r5, r6]) rfl ⟨.inr ⟨by simp [mayPut, mayMore, HO.out, HI.out, HZ.out, HIN.out, HSG.out], by rw [show ((k : Int) + 1).toNat = k + 1 from (by omega), HOP.out]; rfl⟩, hbel9⟩
end Go.Proofs.YtedanlmippfojaaDoor

namespace Go.Proofs.YtedanlmippfojaaDoor
open Go.RowKit
set_option linter.unusedSimpArgs false
set_option linter.unusedVariables false
attribute [local go_sem ↓] Go.wp_at_zero Go.wp_at_succ

/-- Where l3With stands: what it has so far, and the thing in its box. -/
structure WL (w wr : World) (o : Op7) (v : Value) (L : List Op7) : Prop where
  row : wr.ownsRow (w.heap.size + 1) 29 7 v L.length (opCells L)
  box : wr.heap[w.heap.size]? = some (.cells #[.int .i64 o.a, .int .i64 o.b, .int .i64 o.k, .int .i64 o.c, .int .i64 o.d, .int .i64 o.s, .int .i64 o.g] 29 (0, 0))
  bel : Below w.heap.size w wr
theorem WL.lt {w wr : World} {o : Op7} {v : Value} {L : List Op7} (h : WL w wr o v L) : w.heap.size < wr.heap.size := (Array.getElem?_eq_some_iff.1 h.box).1
theorem WL.below {w wr w' : World} {o : Op7} {v : Value} {L : List Op7} (h : WL w wr o v L) (hb : Below wr.heap.size wr w') : WL w w' o v L :=
  ⟨h.row.kept (row := none) ⟨hb.os, hb.tape, hb.output, hb.size, fun i hi _ => hb.block i hi⟩ (by cases v.ownBlock <;> simp), (hb.block _ h.lt).trans h.box, Bstep h.bel hb⟩
theorem WL.app {w wr w' : World} {o : Op7} {v v' : Value} {L M : List Op7} (h : WL w wr o v L) (hg : wr.grownBy w' v.ownBlock) (hown : w'.ownsRow (w.heap.size + 1) 29 7 v' (L.length + M.length) (opCells L ++ opCells M)) : WL w w' o v' (L ++ M) :=
  ⟨by rw [opCells_app, List.length_append]; exact hown, (hg.block _ h.lt (fun e => by have := (h.row.lt _ e.symm).1; omega)).trans h.box, below_grown h.bel hg h.bel.size (fun j e => by have := (h.row.lt j e).1; omega)⟩
/-- The two cells of the thing's id. -/
theorem WL.id {w wr : World} {o : Op7} {v : Value} {L : List Op7} (h : WL w wr o v L) : wr.cell? ⟨w.heap.size, 0, none⟩ = some (.int .i64 o.a) ∧ wr.cell? ⟨w.heap.size, 1, none⟩ = some (.int .i64 o.b) ∧ wr.cell? ⟨w.heap.size, 2, none⟩ = some (.int .i64 o.k) ∧ wr.cell? ⟨w.heap.size, 3, none⟩ = some (.int .i64 o.c) ∧ wr.cell? ⟨w.heap.size, 4, none⟩ = some (.int .i64 o.d) ∧ wr.cell? ⟨w.heap.size, 5, none⟩ = some (.int .i64 o.s) ∧ wr.cell? ⟨w.heap.size, 6, none⟩ = some (.int .i64 o.g) :=
  ⟨(blkCell h.box 0).trans rfl, (blkCell h.box 1).trans rfl, (blkCell h.box 2).trans rfl, (blkCell h.box 3).trans rfl, (blkCell h.box 4).trans rfl, (blkCell h.box 5).trans rfl, (blkCell h.box 6).trans rfl⟩
/-- Of the first k those that are ahead; and those that are behind. -/
def fstL (l : List Op7) (o : Op7) (k : Nat) : List Op7 := (l.take k).filter fun p => lessB p o
def sndL (l : List Op7) (o : Op7) (k : Nat) : List Op7 := (l.take k).filter fun p => lessB o p
theorem fst_yes {l : List Op7} {o : Op7} {k : Nat} (hk : k < l.length) (h : lessB l[k] o = true) : fstL l o (k + 1) = fstL l o k ++ [l[k]] := by unfold fstL; rw [List.take_succ_eq_append_getElem hk, List.filter_append]; simp [h]
theorem fst_no {l : List Op7} {o : Op7} {k : Nat} (hk : k < l.length) (h : lessB l[k] o = false) : fstL l o (k + 1) = fstL l o k := by unfold fstL; rw [List.take_succ_eq_append_getElem hk, List.filter_append]; simp [h]
theorem snd_yes {l : List Op7} {o : Op7} {k : Nat} (hk : k < l.length) (h : lessB o l[k] = true) : sndL l o (k + 1) = sndL l o k ++ [l[k]] := by unfold sndL; rw [List.take_succ_eq_append_getElem hk, List.filter_append]; simp [h]
theorem snd_no {l : List Op7} {o : Op7} {k : Nat} (hk : k < l.length) (h : lessB o l[k] = false) : sndL l o (k + 1) = sndL l o k := by unfold sndL; rw [List.take_succ_eq_append_getElem hk, List.filter_append]; simp [h]
/-- All so far: those ahead, the thing, those behind. -/
def bothL (l : List Op7) (o : Op7) (k : Nat) : List Op7 := fstL l o l.length ++ [o] ++ sndL l o k
theorem both_yes {l : List Op7} {o : Op7} {k : Nat} (hk : k < l.length) (h : lessB o l[k] = true) : bothL l o (k + 1) = bothL l o k ++ [l[k]] := by unfold bothL; rw [snd_yes hk h, ← List.append_assoc]
theorem both_no {l : List Op7} {o : Op7} {k : Nat} (hk : k < l.length) (h : lessB o l[k] = false) : bothL l o (k + 1) = bothL l o k := by unfold bothL; rw [snd_no hk h]
theorem both_zero (l : List Op7) (o : Op7) : bothL l o 0 = fstL l o l.length ++ [o] := by simp [bothL, sndL]
theorem both_all (l : List Op7) (o : Op7) : bothL l o l.length = withL l o := by simp [bothL, fstL, sndL, withL]
theorem fst_len (l : List Op7) (o : Op7) (k : Nat) : (fstL l o k).length ≤ l.length := Nat.le_trans (List.length_filter_le _ _) (List.length_take_le' _ _)
theorem snd_len (l : List Op7) (o : Op7) (k : Nat) : (sndL l o k).length ≤ l.length := Nat.le_trans (List.length_filter_le _ _) (List.length_take_le' _ _)
theorem both_len (l : List Op7) (o : Op7) (k : Nat) : (bothL l o k).length ≤ 2 * l.length + 1 := by
  have h1 := fst_len l o l.length
  have h2 := snd_len l o k
  unfold bothL
  rw [List.length_append, List.length_append]
  simp only [List.length_cons, List.length_nil]
  omega

set_option maxRecDepth 100000 in
set_option maxHeartbeats 4000000 in
theorem l3With_any (l : List Op7) (g cap : Nat) (o : Op7) (w : World) (hl : OpsAt w g l) (hn : l.length ≤ 1048576) (hcap : l.length ≤ cap) :
    Calls Tryd.prog 81 #[.slice (some ⟨g, 0, none⟩) l.length cap, .agg #[.int .i64 o.a, .int .i64 o.b, .int .i64 o.k, .int .i64 o.c, .int .i64 o.d, .int .i64 o.s, .int .i64 o.g]] w fun e w' => ∃ G c, e = .returned (.slice (some ⟨G, 0, none⟩) (withL l o).length c) ∧ OwnOps w' w.heap.size G c (withL l o) ∧ Below w.heap.size w w' := by
  have HL := hideIt hl
  have hgw := hl.1
  clear hl
  obtain ⟨i0, hi, hz0', hz1', hz2⟩ := info_parts infoOp
  have HI1 := hideIt hi
  have HZ0 := hideIt hz0'
  have HZ1 := hideIt hz1'
  have HZ2 := hideIt hz2
  clear hi hz0' hz1' hz2
  go_enter Tryd.func81, Tryd.ntmps81
  go_wp2
  have HST : Hid (WL w ((w.alloc (.cells #[.int .i64 o.a, .int .i64 o.b, .int .i64 o.k, .int .i64 o.c, .int .i64 o.d, .int .i64 o.s, .int .i64 o.g] 29)).alloc (.cells #[] 29)) o (.slice (some ⟨w.heap.size + 1, 0, none⟩) 0 0) []) := by
    refine ⟨?_, ?_, ((Below.refl _ _).alloc (Nat.le_refl _) _).alloc (by simp) _⟩
    · have h := World.ownsRow_made (base := w.heap.size + 1) (e := 29) (size := 7) (w.alloc (.cells #[.int .i64 o.a, .int .i64 o.b, .int .i64 o.k, .int .i64 o.c, .int .i64 o.d, .int .i64 o.s, .int .i64 o.g] 29)) #[] 0 (by simp) (Nat.zero_le _) rfl
      simp only [World.size_alloc] at h
      exact h
    · exact (Below.heap_alloc _ _ _ (by simp)).trans (World.alloc_heap_new w _)
  go_loopw [5, 6] (fun v i wr => ∃ k G c : Nat, k ≤ l.length ∧ i = .int .i64 k ∧ v = .slice (some ⟨G, 0, none⟩) (fstL l o k).length c ∧ WL w wr o v (fstL l o k))
    (fun _ i _ => l.length - (intOf i).toNat)
  case atStart => exact ⟨0, _, _, Nat.zero_le _, rfl, rfl, HST.out⟩
  case round =>
    obtain ⟨k, Gb, cb, hk, rfl, rfl, hS⟩ := hrel
    have HS := hideIt hS
    have hgr : g < wr.heap.size := Nat.lt_of_lt_of_le hgw hS.bel.size
    have hwr := hS.lt
    have hfl := fst_len l o k
    clear hS
    by_cases hlt : k < l.length
    · obtain ⟨y0, y1, y2, y3, y4, y5, y6⟩ := (HL.out.below HS.out.bel hgw).2 k l[k] (by simp [hlt])
      obtain ⟨b0, b1, b2, b3, b4, b5, b6⟩ := HS.out.id
      have hpk : l[k]? = some l[k] := by simp [hlt]
      have hyes : Hid (lessB l[k] o = true → fstL l o (k + 1) = fstL l o k ++ [l[k]]) := fst_yes hlt
      have hno : Hid (lessB l[k] o = false → fstL l o (k + 1) = fstL l o k) := fst_no hlt
      generalize l[k] = p at *
      have hlt' : (k : Int) < (l.length : Int) := by omega
      have hk0 : (0 : Int) ≤ (k : Int) := by omega
      cases hz : lessB p o
      all_goals
        have HZ := hideIt hz
        clear hz
        go_wp2
        go_region_held3 (fun w' => w'.cell? ⟨g, k * 7, none⟩ = some (.int .i64 p.a) ∧ w'.cell? ⟨g, k * 7 + 1, none⟩ = some (.int .i64 p.b) ∧ w'.cell? ⟨w.heap.size, 0, none⟩ = some (.int .i64 o.a) ∧ w'.cell? ⟨w.heap.size, 1, none⟩ = some (.int .i64 o.b))
          (first | exact ⟨y0, y1, b0, b1⟩ | exact ⟨((bcell hb2).1 g _ hgr).trans y0, ((bcell hb2).1 g _ hgr).trans y1, ((bcell hb2).1 _ _ hwr).trans b0, ((bcell hb2).1 _ _ hwr).trans b1⟩)
          (first | (go_at_call 121; refine (specLess_any _ _ _ _ _).mono ?_; rintro e w2 ⟨rfl, hb2⟩; have HS2 : Hid (WL w w2 o (.slice (some ⟨Gb, 0, none⟩) (fstL l o k).length cb) (fstL l o k)) := (HS.out.below ((Below.refl _ _).drew)).below hb2; rw [show decide (p.a < o.a ∨ p.a = o.a ∧ p.b < o.b) = _ from HZ.out]))
        rename_i hHH
        clear hHH hb2 y0 y1 y2 y3 y4 y5 y6 b0 b1 b2 b3 b4 b5 b6
      · have HE := hideIt (hno.out HZ.out)
        go_wp2
        exact ⟨⟨k + 1, Gb, cb, by omega, by go_num, by rw [HE.out], by rw [HE.out]; exact HS2.out⟩, by simp [intOf]; omega⟩
      · have HE := hideIt (hyes.out HZ.out)
        obtain ⟨y0, y1, y2, y3, y4, y5, y6⟩ := (HL.out.below HS2.out.bel hgw).2 k p hpk
        have hgr2 : g < w2.heap.size := Nat.lt_of_lt_of_le hgw HS2.out.bel.size
        have hwr2 := HS2.out.lt
        go_wp2_with (first
          | (at_builtin; refine wpList_append_own_at _ rfl _ _ 23 rfl (w.heap.size + 1) 29 i0 _ 7 56 Tryd.underlying23 HI1.out HZ0.out HZ1.out HZ2.out rfl (by decide) _ _ _ rfl (HS2.out.row.alloc _) ⟨w2.heap.size, 0, none⟩ 1 1 (opCells [p]) rfl rfl (cells_new w2 (opCells [p]) 29) (opCells_one _) (by (try simp only [List.length_append, List.length_cons, List.length_nil]); unfold maxLen; omega) (by (try simp only [List.length_append, List.length_cons, List.length_nil]); omega) (by simp; omega) ?_; intro v' w3 hown3 hg3 _ _;
              obtain ⟨g', cap', hv'⟩ := ownsRow_succ hown3; subst hv';
              have HS3 := hideIt (WL.app (M := [p]) (HS2.out.below ((Below.refl _ _).alloc (Nat.le_refl _) _)) hg3 hown3); clear hown3 hg3))
        exact ⟨⟨k + 1, g', cap', by omega, by go_num, by rw [HE.out, List.length_append]; rfl, by rw [HE.out]; exact HS3.out⟩, by simp [intOf]; omega⟩
    · obtain rfl : k = l.length := by omega
      obtain ⟨b0, b1, b2, b3, b4, b5, b6⟩ := HS.out.id
      go_wp2_with (first
        | (at_builtin; refine wpList_append_own_at _ rfl _ _ 23 rfl (w.heap.size + 1) 29 i0 _ 7 56 Tryd.underlying23 HI1.out HZ0.out HZ1.out HZ2.out rfl (by decide) _ _ _ rfl (HS.out.row.alloc _) ⟨wr.heap.size, 0, none⟩ 1 1 (opCells [o]) rfl rfl (cells_new wr (opCells [o]) 29) (opCells_one _) (by unfold maxLen; omega) (by omega) (by simp; omega) ?_; intro v' w3 hown3 hg3 _ _;
            obtain ⟨g', cap', hv'⟩ := ownsRow_succ hown3; subst hv';
            have HS3 := hideIt (WL.app (M := [o]) (HS.out.below ((Below.refl _ _).alloc (Nat.le_refl _) _)) hg3 hown3); clear hown3 hg3))
      clear b0 b1 b2 b3 b4 b5 b6 hwr hgr
      have hfl' := fst_len l o l.length
      go_loopw [5, 7] (fun v i wr => ∃ k G c : Nat, k ≤ l.length ∧ i = .int .i64 k ∧ v = .slice (some ⟨G, 0, none⟩) (bothL l o k).length c ∧ WL w wr o v (bothL l o k))
        (fun _ i _ => l.length - (intOf i).toNat)
      case atStart => exact ⟨0, g', cap', Nat.zero_le _, rfl, by rw [both_zero, List.length_append]; rfl, by rw [both_zero]; exact HS3.out⟩
      case round =>
        clear HS HS3
        obtain ⟨k, Gb, cb, hk, rfl, rfl, hS⟩ := hrel
        have HS := hideIt hS
        have hgr : g < wr.heap.size := Nat.lt_of_lt_of_le hgw hS.bel.size
        have hwr := hS.lt
        have hsl := both_len l o k
        clear hS
        by_cases hlt : k < l.length
        · obtain ⟨y0, y1, y2, y3, y4, y5, y6⟩ := (HL.out.below HS.out.bel hgw).2 k l[k] (by simp [hlt])
          obtain ⟨b0, b1, b2, b3, b4, b5, b6⟩ := HS.out.id
          have hpk : l[k]? = some l[k] := by simp [hlt]
          have hyes : Hid (lessB o l[k] = true → bothL l o (k + 1) = bothL l o k ++ [l[k]]) := both_yes hlt
          have hno : Hid (lessB o l[k] = false → bothL l o (k + 1) = bothL l o k) := both_no hlt
          generalize l[k] = p at *
          have hlt' : (k : Int) < (l.length : Int) := by omega
          have hk0 : (0 : Int) ≤ (k : Int) := by omega
          cases hz : lessB o p
          all_goals
            have HZ := hideIt hz
            clear hz
            go_wp2
            go_region_held3 (fun w' => w'.cell? ⟨g, k * 7, none⟩ = some (.int .i64 p.a) ∧ w'.cell? ⟨g, k * 7 + 1, none⟩ = some (.int .i64 p.b) ∧ w'.cell? ⟨w.heap.size, 0, none⟩ = some (.int .i64 o.a) ∧ w'.cell? ⟨w.heap.size, 1, none⟩ = some (.int .i64 o.b))
              (first | exact ⟨y0, y1, b0, b1⟩ | exact ⟨((bcell hb2).1 g _ hgr).trans y0, ((bcell hb2).1 g _ hgr).trans y1, ((bcell hb2).1 _ _ hwr).trans b0, ((bcell hb2).1 _ _ hwr).trans b1⟩)
              (first | (go_at_call 121; refine (specLess_any _ _ _ _ _).mono ?_; rintro e w2 ⟨rfl, hb2⟩; have HS2 : Hid (WL w w2 o (.slice (some ⟨Gb, 0, none⟩) (bothL l o k).length cb) (bothL l o k)) := (HS.out.below ((Below.refl _ _).drew)).below hb2; rw [show decide (o.a < p.a ∨ o.a = p.a ∧ o.b < p.b) = _ from HZ.out]))
            rename_i hHH
            clear hHH hb2 y0 y1 y2 y3 y4 y5 y6 b0 b1 b2 b3 b4 b5 b6
          · have HE := hideIt (hno.out HZ.out)
            go_wp2
            exact ⟨⟨k + 1, Gb, cb, by omega, by go_num, by rw [HE.out], by rw [HE.out]; exact HS2.out⟩, by simp [intOf]; omega⟩
          · have HE := hideIt (hyes.out HZ.out)
            obtain ⟨y0, y1, y2, y3, y4, y5, y6⟩ := (HL.out.below HS2.out.bel hgw).2 k p hpk
            have hgr2 : g < w2.heap.size := Nat.lt_of_lt_of_le hgw HS2.out.bel.size
            have hwr2 := HS2.out.lt
            go_wp2_with (first
              | (at_builtin; refine wpList_append_own_at _ rfl _ _ 23 rfl (w.heap.size + 1) 29 i0 _ 7 56 Tryd.underlying23 HI1.out HZ0.out HZ1.out HZ2.out rfl (by decide) _ _ _ rfl (HS2.out.row.alloc _) ⟨w2.heap.size, 0, none⟩ 1 1 (opCells [p]) rfl rfl (cells_new w2 (opCells [p]) 29) (opCells_one _) (by (try simp only [List.length_append, List.length_cons, List.length_nil]); unfold maxLen; omega) (by (try simp only [List.length_append, List.length_cons, List.length_nil]); omega) (by simp; omega) ?_; intro v' w3 hown3 hg3 _ _;
                  obtain ⟨g', cap', hv'⟩ := ownsRow_succ hown3; subst hv';
                  have HS3 := hideIt (WL.app (M := [p]) (HS2.out.below ((Below.refl _ _).alloc (Nat.le_refl _) _)) hg3 hown3); clear hown3 hg3))
            exact ⟨⟨k + 1, g', cap', by omega, by go_num, by rw [HE.out, List.length_append]; rfl, by rw [HE.out]; exact HS3.out⟩, by simp [intOf]; omega⟩
        · obtain rfl : k = l.length := by omega
          go_wp2
          go_ret
          have hE := both_all l o
          have hR := HS.out.row
          rw [hE] at hR
          rw [hE]
          exact ⟨_, _, rfl, ownsRow_base (Nat.le_succ _) hR, HS.out.bel⟩
end Go.Proofs.YtedanlmippfojaaDoor

namespace Go.Proofs.YtedanlmippfojaaDoor
open Go.RowKit
set_option linter.unusedSimpArgs false
set_option linter.unusedVariables false

theorem add_plain (g j : Nat) : (⟨g, 0, none⟩ : Addr).add j = ⟨g, j, none⟩ := by
  unfold Addr.add
  split <;> simp_all
/-- What is copied from a block of things. -/
theorem OpsAt.cells {w : World} {g : Nat} {l : List Op7} (h : OpsAt w g l) : ∀ j u, (opCells l)[j]? = some u → w.cell? ((⟨g, 0, none⟩ : Addr).add j) = some u := by
  intro j u hj
  rw [add_plain]
  have hlt : j < l.length * 7 := by
    have := (List.getElem?_eq_some_iff.1 hj).1
    rwa [opCells_len] at this
  have hi : j / 7 < l.length := by omega
  have hx : l[j / 7]? = some l[j / 7] := by simp [hi]
  obtain ⟨h0, h1, h2, h3, h4, h5, h6⟩ := h.2 _ _ hx
  obtain ⟨o0, o1, o2, o3, o4, o5, o6⟩ := opCells_at l _ _ hx
  have hq : j % 7 = 0 ∨ j % 7 = 1 ∨ j % 7 = 2 ∨ j % 7 = 3 ∨ j % 7 = 4 ∨ j % 7 = 5 ∨ j % 7 = 6 := by omega
  have hd : j = j / 7 * 7 + j % 7 := by omega
  rcases hq with e | e | e | e | e | e | e <;> rw [e] at hd <;> (try simp only [Nat.add_zero] at hd) <;> rw [hd] at hj ⊢
  · rw [o0] at hj; rw [h0]; exact hj
  · rw [o1] at hj; rw [h1]; exact hj
  · rw [o2] at hj; rw [h2]; exact hj
  · rw [o3] at hj; rw [h3]; exact hj
  · rw [o4] at hj; rw [h4]; exact hj
  · rw [o5] at hj; rw [h5]; exact hj
  · rw [o6] at hj; rw [h6]; exact hj
end Go.Proofs.YtedanlmippfojaaDoor

namespace Go.Proofs.YtedanlmippfojaaDoor
open Go.RowKit
/-- A thing stored whole into its new box. -/
theorem store_op_new (w : World) (a1 a2 a3 a4 a5 a6 a7 : Int) : (Instr.storeAt 29 (.pointer (some ⟨w.heap.size, 0, none⟩)) (.agg #[.int .i64 a1, .int .i64 a2, .int .i64 a3, .int .i64 a4, .int .i64 a5, .int .i64 a6, .int .i64 a7])).run Tryd.prog (w.alloc (.cells #[.int .i64 0, .int .i64 0, .int .i64 0, .int .i64 0, .int .i64 0, .int .i64 0, .int .i64 0] 29)) = .ok () (w.alloc (.cells #[.int .i64 a1, .int .i64 a2, .int .i64 a3, .int .i64 a4, .int .i64 a5, .int .i64 a6, .int .i64 a7] 29)) :=
  run_storeAt_new w 29 #[.int .i64 0, .int .i64 0, .int .i64 0, .int .i64 0, .int .i64 0, .int .i64 0, .int .i64 0] #[.int .i64 a1, .int .i64 a2, .int .i64 a3, .int .i64 a4, .int .i64 a5, .int .i64 a6, .int .i64 a7] (by kernel_rfl) rfl (by simp [Value.oneCell'])
end Go.Proofs.YtedanlmippfojaaDoor

namespace Go.Proofs.YtedanlmippfojaaDoor
open Go.RowKit
set_option linter.unusedSimpArgs false
set_option linter.unusedVariables false
attribute [local go_sem ↓] Go.wp_at_zero Go.wp_at_succ store_op_new
attribute [-go_sem] Instr.storeAt

theorem withL_len (l : List Op7) (o : Op7) : (withL l o).length ≤ 2 * l.length + 1 := by
  have h := both_len l o l.length
  rw [both_all] at h
  exact h
theorem mayPut_ok {l : List Op7} {r t sg : Int} (h : mayPut l r t sg = true) : opsB l = true := by
  simp only [mayPut, mayMore, Bool.and_eq_true] at h
  exact h.1.1.1

set_option maxRecDepth 100000 in
set_option maxHeartbeats 2000000 in
theorem typeRun_any (l : List Op7) (g cap : Nat) (r t : Int) (s : ByteArray) (w : World) (hl : OpsAt w g l) (hn : l.length ≤ 1048576) (hcap : l.length ≤ cap) (hs : s.size ≤ 1048576) :
    Calls Tryd.prog 28 #[.slice (some ⟨g, 0, none⟩) l.length cap, .int .i64 r, .int .i64 t, .string s] w fun e w' =>
      ∃ G c L z, e = .returned (.tuple #[.slice (some ⟨G, 0, none⟩) L.length c, .bool z]) ∧ OwnOps w' w.heap.size G c L ∧ L.length ≤ 73 ∧ Below w.heap.size w w' := by
  have HL := hideIt hl
  have hgw := hl.1
  clear hl
  obtain ⟨i0, hi, hz0', hz1', hz2⟩ := info_parts infoOp
  have HI1 := hideIt hi
  have HZ0 := hideIt hz0'
  have HZ1 := hideIt hz1'
  have HZ2 := hideIt hz2
  clear hi hz0' hz1' hz2
  cases ho : opsB l
  all_goals
    have HO := hideIt ho
    clear ho
    go_enter Tryd.func28, Tryd.ntmps28
    go_wp2_with fail
    refine (specOps_any l _ _ _ HL.out hn hcap).mono ?_
    rintro e w1 ⟨rfl, hb1⟩
    rw [HO.out]
    have HB1 := hideIt hb1
    have HL1 := hideIt (HL.out.below hb1 hgw)
    clear hb1
  · go_wp2
    exact bodyPost_ret (v := .tuple #[.slice (some ⟨w1.heap.size, 0, none⟩) 0 0, .bool false]) (by simp [results, Tryd.results28, go_sem]) rfl ⟨_, _, [], _, rfl, World.ownsRow_made (base := w.heap.size) (e := 29) (size := 7) w1 #[] 0 HB1.out.size (Nat.zero_le _) rfl, by simp, HB1.out.alloc HB1.out.size _⟩
  · have h36 := ops_36 HO.out
    have hz1 := HB1.out.size
    have HST : Hid ((w1.alloc (.cells #[] 29)).ownsRow w.heap.size 29 7 (.slice (some ⟨w1.heap.size, 0, none⟩) 0 0) 0 []) :=
      World.ownsRow_made (base := w.heap.size) (e := 29) (size := 7) w1 #[] 0 HB1.out.size (Nat.zero_le _) rfl
    have HC := hideIt (HL1.out.below ((Below.refl _ _).alloc (Nat.le_refl _) (.cells #[] 29)) HL1.out.1).cells
    go_wp2_with (first
      | (at_builtin; refine wpList_append_own_at _ rfl _ _ 23 rfl w.heap.size 29 i0 _ 7 56 Tryd.underlying23 HI1.out HZ0.out HZ1.out HZ2.out rfl (by decide) _ _ _ rfl HST.out ⟨g, 0, none⟩ l.length cap (opCells l) rfl (opCells_len l) HC.out (opCells_one _) (by unfold maxLen; omega) (by omega) (by simp; omega) ?_; intro v' w3 hown3 hg3 hnil3 _))
    have HS0 : Hid (∃ G c, v' = .slice (some ⟨G, 0, none⟩) l.length c ∧ OwnOps w3 w.heap.size G c l) := by
      show ∃ G c, _
      rw [Nat.zero_add, List.nil_append] at hown3
      rcases hown3.2 with ⟨e, _⟩ | ⟨G, c, cur, e, _⟩
      · exact absurd (hnil3.1 e).1 (fun h => by cases h)
      · subst e; exact ⟨G, c, rfl, hown3⟩
    have HB3 := hideIt (below_grown (HB1.out.alloc HB1.out.size _) hg3 (by simp; omega) (fun j e => (HST.out.lt j e).1))
    clear hown3 hg3 hnil3
    go_loopw [10, 11] (fun v i wr => ∃ (k G c : Nat) (L : List Op7), k ≤ s.size ∧ i = .int .i64 k ∧ v = .slice (some ⟨G, 0, none⟩) L.length c ∧ OwnOps wr w.heap.size G c L ∧ L.length ≤ 73 ∧ Below w.heap.size w wr)
      (fun _ i _ => s.size - (intOf i).toNat)
    case atStart =>
      obtain ⟨G, c, e, h⟩ := HS0.out
      exact ⟨0, G, c, l, Nat.zero_le _, rfl, e, h, by omega, HB3.out⟩
    case round =>
      obtain ⟨k, G, c, L, hk, rfl, rfl, hS, hL73, hB⟩ := hrel
      have HS := hideIt hS
      have HB := hideIt hB
      have hzr := hB.size
      clear hS hB HS0 HB3
      by_cases hlt : k < s.size
      · have hlt' : (k : Int) < (s.size : Int) := by omega
        have hk0 : (0 : Int) ≤ (k : Int) := by omega
        by_cases h12 : 12 ≤ k
        · have h12' : (12 : Int) ≤ (k : Int) := by omega
          go_wp2
          exact bodyPost_ret (v := .tuple #[.slice (some ⟨wr.heap.size, 0, none⟩) 0 0, .bool false]) (by simp [results, Tryd.results28, go_sem]) rfl ⟨_, _, [], _, rfl, World.ownsRow_made (base := w.heap.size) (e := 29) (size := 7) wr #[] 0 HB.out.size (Nat.zero_le _) rfl, by simp, HB.out.alloc HB.out.size _⟩
        · have h12' : ¬ ((12 : Int) ≤ (k : Int)) := by omega
          go_wp2_with fail
          refine (typePut_any L G c r _ _ wr HS.out.at (by omega) HS.out.cap).mono ?_
          rintro e w4 ⟨(⟨hm, rfl⟩ | ⟨hm, rfl⟩), hb4⟩
          · have HB4 := hideIt (Bstep HB.out hb4)
            have hz4 := HB4.out.size
            clear hb4 hm
            have HM : Hid ((((w4.alloc (.cells #[.int .i64 0, .int .i64 0, .int .i64 0, .int .i64 0, .int .i64 0, .int .i64 0, .int .i64 0] 29)).alloc (.cells #[] 29))).ownsRow w.heap.size 29 7 (.slice (some ⟨w4.heap.size + 1, 0, none⟩) 0 0) 0 []) := by
              have h := World.ownsRow_made (base := w.heap.size) (e := 29) (size := 7) (w4.alloc (.cells #[.int .i64 0, .int .i64 0, .int .i64 0, .int .i64 0, .int .i64 0, .int .i64 0, .int .i64 0] 29)) #[] 0 (by simp; omega) (Nat.zero_le _) rfl
              rw [World.size_alloc] at h
              exact h
            go_wp2
            exact bodyPost_ret (v := .tuple #[.slice (some ⟨w4.heap.size + 1, 0, none⟩) 0 0, .bool false]) (by simp [results, Tryd.results28, go_sem]) rfl ⟨_, _, [], _, rfl, HM.out, by simp, (HB4.out.alloc HB4.out.size _).alloc (by simp; omega) _⟩
          · have h36L := ops_36 (mayPut_ok hm)
            have HB4 := hideIt (Bstep HB.out hb4)
            have HS4 := hideIt (HS.out.below hb4)
            have hz4 := HB4.out.size
            clear hb4 hm
            generalize putO L r _ _ = o
            unfold opV
            go_wp2_with fail
            refine (l3With_any L G c o _ (HS4.out.below ((Below.refl _ _).alloc (Nat.le_refl _) _)).at (by omega) HS4.out.cap).mono ?_
            rintro e w5 ⟨G5, c5, rfl, hS5, hb5⟩
            have HS5 : Hid (OwnOps w5 w.heap.size G5 c5 (withL L o)) := ownsRow_base (by simp; omega) hS5
            have HB5 := hideIt (Bstep (HB4.out.alloc HB4.out.size _) hb5)
            have hwl := withL_len L o
            clear hS5 hb5
            go_wp2
            exact ⟨⟨k + 1, G5, c5, withL L o, by omega, by go_num, rfl, HS5.out, by omega, HB5.out⟩, by simp [intOf]; omega⟩
      · obtain rfl : k = s.size := by omega
        go_wp2
        exact bodyPost_ret (v := .tuple #[.slice (some ⟨G, 0, none⟩) L.length c, .bool true]) (by simp [results, Tryd.results28, go_sem]) rfl ⟨_, _, L, _, rfl, HS.out, hL73, HB.out⟩
end Go.Proofs.YtedanlmippfojaaDoor

namespace Go.Proofs.YtedanlmippfojaaDoor
open Go.RowKit
set_option linter.unusedSimpArgs false
set_option linter.unusedVariables false
attribute [local go_sem ↓] Go.wp_at_zero Go.wp_at_succ

/-- With something more there is at most one more. -/
theorem withL_le (l : List Op7) (o : Op7) : (withL l o).length ≤ l.length + 1 := by
  have h : ∀ m : List Op7, (m.filter (fun p => lessB p o)).length + (m.filter (fun p => lessB o p)).length ≤ m.length := by
    intro m
    induction m with
    | nil => simp
    | cons x r ih =>
      have hx : lessB x o = true → lessB o x = false := by
        simp only [lessB, decide_eq_true_eq, decide_eq_false_iff_not]
        omega
      simp only [List.filter_cons]
      cases h1 : lessB x o
      · cases h2 : lessB o x <;> simp <;> omega
      · rw [hx h1]; simp; omega
  have := h l
  unfold withL
  simp only [List.length_append, List.length_cons, List.length_nil]
  omega
/-- What b tells of something is what a tells of it, if a does. -/
def agr (a : List Op7) (x : Op7) : Prop := findI a x.a x.b < 0 ∨ a[(findI a x.a x.b).toNat]? = some x
/-- a, and the first k of b. -/
def merL (a b : List Op7) (k : Nat) : List Op7 := ((b.take k).filter fun x => decide (findI a x.a x.b < 0)).foldl withL a
theorem mer_zero (a b : List Op7) : merL a b 0 = a := by simp [merL]
theorem mer_yes {a b : List Op7} {k : Nat} (hk : k < b.length) (h : findI a b[k].a b[k].b < 0) : merL a b (k + 1) = withL (merL a b k) b[k] := by
  unfold merL; rw [List.take_succ_eq_append_getElem hk, List.filter_append]; simp [h]
theorem mer_no {a b : List Op7} {k : Nat} (hk : k < b.length) (h : ¬ findI a b[k].a b[k].b < 0) : merL a b (k + 1) = merL a b k := by
  unfold merL; rw [List.take_succ_eq_append_getElem hk, List.filter_append]; simp [h]
theorem mer_len {a b : List Op7} : ∀ {k : Nat}, k ≤ b.length → (merL a b k).length ≤ a.length + k
  | 0, _ => by rw [mer_zero]; omega
  | k + 1, hk => by
    have ih := mer_len (a := a) (b := b) (k := k) (by omega)
    by_cases h : findI a b[k].a b[k].b < 0
    · rw [mer_yes hk h]
      have := withL_le (merL a b k) b[k]
      omega
    · rw [mer_no hk h]; omega
theorem findI_lt {l : List Op7} {r m : Int} (h : ¬ findI l r m < 0) : ∃ j : Nat, findI l r m = j ∧ j < l.length := by
  unfold findI at *
  split at h
  · rename_i i hi
    exact ⟨i, rfl, (List.findIdx?_eq_some_iff_getElem.1 hi).1⟩
  · omega
theorem findI_m1 {l : List Op7} {r m : Int} (h : findI l r m < 0) : findI l r m = -1 := by
  unfold findI at *
  split at h
  · rename_i i hi
    omega
  · rfl
/-- Two things that are not the same differ in a part. -/
theorem op_ne {p q : Op7} (h : ¬ q = p) : ¬ q.a = p.a ∨ (q.a = p.a ∧ ¬ q.b = p.b) ∨ (q.a = p.a ∧ q.b = p.b ∧ ¬ q.k = p.k) ∨ (q.a = p.a ∧ q.b = p.b ∧ q.k = p.k ∧ ¬ q.c = p.c) ∨ (q.a = p.a ∧ q.b = p.b ∧ q.k = p.k ∧ q.c = p.c ∧ ¬ q.d = p.d) ∨ (q.a = p.a ∧ q.b = p.b ∧ q.k = p.k ∧ q.c = p.c ∧ q.d = p.d ∧ ¬ q.s = p.s) ∨ (q.a = p.a ∧ q.b = p.b ∧ q.k = p.k ∧ q.c = p.c ∧ q.d = p.d ∧ q.s = p.s ∧ ¬ q.g = p.g) := by
  by_cases h0 : q.a = p.a <;> by_cases h1 : q.b = p.b <;> by_cases h2 : q.k = p.k <;> by_cases h3 : q.c = p.c <;> by_cases h4 : q.d = p.d <;> by_cases h5 : q.s = p.s <;> by_cases h6 : q.g = p.g <;> first | (exfalso; apply h; cases p; cases q; simp_all; done) | simp [h0, h1, h2, h3, h4, h5, h6]

/-- What OpsMerge answers. -/
def MergeSaid (a b L : List Op7) (z : Bool) : Prop := (z = true ∧ opsB a = true ∧ opsB b = true ∧ (∀ x ∈ b, agr a x) ∧ L = merL a b b.length) ∨ (z = false ∧ L = [] ∧ ¬ (opsB a = true ∧ opsB b = true ∧ ∀ x ∈ b, agr a x))

set_option maxRecDepth 100000 in
set_option maxHeartbeats 2000000 in
theorem opsMerge_any (a b : List Op7) (ga ca gb cb : Nat) (w : World) (ha : OpsAt w ga a) (hb : OpsAt w gb b) (hna : a.length ≤ 1048576) (hnb : b.length ≤ 1048576) (hca : a.length ≤ ca) (hcb : b.length ≤ cb) :
    Calls Tryd.prog 130 #[.slice (some ⟨ga, 0, none⟩) a.length ca, .slice (some ⟨gb, 0, none⟩) b.length cb] w fun e w' =>
      ∃ G c L z, e = .returned (.tuple #[.slice (some ⟨G, 0, none⟩) L.length c, .bool z]) ∧ OwnOps w' w.heap.size G c L ∧ MergeSaid a b L z ∧ Below w.heap.size w w' := by
  have HA := hideIt ha
  have HB := hideIt hb
  have hga := ha.1
  have hgb := hb.1
  clear ha hb
  obtain ⟨i0, hi, hz0', hz1', hz2⟩ := info_parts infoOp
  have HI1 := hideIt hi
  have HZ0 := hideIt hz0'
  have HZ1 := hideIt hz1'
  have HZ2 := hideIt hz2
  clear hi hz0' hz1' hz2
  cases hoa : opsB a
  · have HO := hideIt hoa
    clear hoa
    go_enter Tryd.func130, Tryd.ntmps130
    go_wp2_with fail
    refine (specOps_any a _ _ _ HA.out hna hca).mono ?_
    rintro e w1 ⟨rfl, hb1⟩
    rw [HO.out]
    have HB1 := hideIt hb1
    clear hb1
    go_wp2
    exact bodyPost_ret (v := .tuple #[.slice (some ⟨w1.heap.size, 0, none⟩) 0 0, .bool false]) (by simp [results, Tryd.results130, go_sem]) rfl ⟨_, _, [], _, rfl, World.ownsRow_made (base := w.heap.size) (e := 29) (size := 7) w1 #[] 0 HB1.out.size (Nat.zero_le _) rfl, .inr ⟨rfl, rfl, fun h => by rw [HO.out] at h; exact absurd h.1 (by decide)⟩, HB1.out.alloc HB1.out.size _⟩
  · cases hob : opsB b
    all_goals
      have HOA := hideIt hoa
      have HOB := hideIt hob
      clear hoa hob
      go_enter Tryd.func130, Tryd.ntmps130
      go_wp2_with fail
      refine (specOps_any a _ _ _ HA.out hna hca).mono ?_
      rintro e w1 ⟨rfl, hb1⟩
      rw [HOA.out]
      have hz1 := hb1.size
      have HB1 := hideIt hb1
      clear hb1
      go_wp2_with fail
      refine (specOps_any b _ _ _ (HB.out.below HB1.out hgb) hnb hcb).mono ?_
      rintro e w2 ⟨rfl, hb2⟩
      rw [HOB.out]
      have HB2 := hideIt (Bstep HB1.out hb2)
      have hz2 := HB2.out.size
      clear hb2 HB1 hz1
    · go_wp2
      exact bodyPost_ret (v := .tuple #[.slice (some ⟨w2.heap.size, 0, none⟩) 0 0, .bool false]) (by simp [results, Tryd.results130, go_sem]) rfl ⟨_, _, [], _, rfl, World.ownsRow_made (base := w.heap.size) (e := 29) (size := 7) w2 #[] 0 HB2.out.size (Nat.zero_le _) rfl, .inr ⟨rfl, rfl, fun h => by rw [HOB.out] at h; exact absurd h.2.1 (by decide)⟩, HB2.out.alloc HB2.out.size _⟩
    · have h36 := ops_36 HOA.out
      have h36b := ops_36 HOB.out
      have HST : Hid ((w2.alloc (.cells #[] 29)).ownsRow w.heap.size 29 7 (.slice (some ⟨w2.heap.size, 0, none⟩) 0 0) 0 []) :=
        World.ownsRow_made (base := w.heap.size) (e := 29) (size := 7) w2 #[] 0 HB2.out.size (Nat.zero_le _) rfl
      have HC := hideIt (HA.out.below (HB2.out.alloc HB2.out.size (.cells #[] 29)) hga).cells
      go_wp2_with (first
        | (at_builtin; refine wpList_append_own_at _ rfl _ _ 23 rfl w.heap.size 29 i0 _ 7 56 Tryd.underlying23 HI1.out HZ0.out HZ1.out HZ2.out rfl (by decide) _ _ _ rfl HST.out ⟨ga, 0, none⟩ a.length ca (opCells a) rfl (opCells_len a) HC.out (opCells_one _) (by unfold maxLen; omega) (by omega) (by simp; omega) ?_; intro v' w3 hown3 hg3 hnil3 _))
      have HS0 : Hid (∃ G c, v' = .slice (some ⟨G, 0, none⟩) a.length c ∧ OwnOps w3 w.heap.size G c a) := by
        show ∃ G c, _
        rw [Nat.zero_add, List.nil_append] at hown3
        rcases hown3.2 with ⟨e, _⟩ | ⟨G, c, cur, e, _⟩
        · exact absurd (hnil3.1 e).1 (fun h => by cases h)
        · subst e; exact ⟨G, c, rfl, hown3⟩
      have HB3 := hideIt (below_grown (HB2.out.alloc HB2.out.size _) hg3 (by simp; omega) (fun j e => (HST.out.lt j e).1))
      clear hown3 hg3 hnil3
      go_loopw [6, 7] (fun v i wr => ∃ (k G c : Nat), k ≤ b.length ∧ i = .int .i64 k ∧ v = .slice (some ⟨G, 0, none⟩) (merL a b k).length c ∧ OwnOps wr w.heap.size G c (merL a b k) ∧ (∀ j (hj : j < b.length), j < k → agr a b[j]) ∧ Below w.heap.size w wr)
        (fun _ i _ => b.length - (intOf i).toNat)
      case atStart =>
        obtain ⟨G, c, e, h⟩ := HS0.out
        exact ⟨0, G, c, Nat.zero_le _, rfl, by rw [mer_zero]; exact e, by rw [mer_zero]; exact h, fun j _ h => by omega, HB3.out⟩
      case round =>
        obtain ⟨k, G, c, hk, rfl, rfl, hS, hag, hBr⟩ := hrel
        have HS := hideIt hS
        have HAG : Hid (∀ j (hj : j < b.length), j < k → agr a b[j]) := hag
        have HBr := hideIt hBr
        have hzr := hBr.size
        have hml := mer_len (a := a) hk
        clear hS hBr HS0 HB3 hag
        by_cases hlt : k < b.length
        · have hlt' : (k : Int) < (b.length : Int) := by omega
          have hk0 : (0 : Int) ≤ (k : Int) := by omega
          have HY : Hid (findI a b[k].a b[k].b < 0 → merL a b (k + 1) = withL (merL a b k) b[k]) := mer_yes hlt
          have HN : Hid (¬ findI a b[k].a b[k].b < 0 → merL a b (k + 1) = merL a b k) := mer_no hlt
          have HX : Hid (agr a b[k] → ∀ j (hj : j < b.length), j < k + 1 → agr a b[j]) := fun h j hj hjk => by
            rcases Nat.lt_or_ge j k with h' | h'
            · exact HAG.out j hj h'
            · obtain rfl : j = k := by omega
              exact h
          have HM : Hid (b[k] ∈ b) := List.getElem_mem hlt
          have hpk : b[k]? = some b[k] := by simp [hlt]
          generalize b[k] = p at *
          have hgbr : gb < wr.heap.size := Nat.lt_of_lt_of_le hgb HBr.out.size
          have hgar : ga < wr.heap.size := Nat.lt_of_lt_of_le hga HBr.out.size
          have HBL := hideIt (HB.out.below HBr.out hgb)
          have HAL := hideIt (HA.out.below HBr.out hga)
          obtain ⟨y0, y1, y2, y3, y4, y5, y6⟩ := HBL.out.2 k p hpk
          go_wp2_with fail
          refine (l1Find_any a _ _ _ _ _ HAL.out hna hca).mono ?_
          rintro e w4 ⟨rfl, hb4⟩
          have HB4 := hideIt (Bstep HBr.out hb4)
          have HS4 := hideIt (HS.out.below hb4)
          have hz4 := HB4.out.size
          have HBL4 := hideIt (HB.out.below HB4.out hgb)
          have HAL4 := hideIt (HA.out.below HB4.out hga)
          clear hb4 y0 y1 y2 y3 y4 y5 y6 HAL HBL
          obtain ⟨y0, y1, y2, y3, y4, y5, y6⟩ := HBL4.out.2 k p hpk
          by_cases hf : findI a p.a p.b < 0
          · have HE := hideIt (HY.out hf)
            have HF : Hid (agr a p) := .inl hf
            have hf2 : findI a p.a p.b = -1 := findI_m1 hf
            clear HY HN hf
            rw [hf2]
            clear hf2
            go_wp2
            go_quiet (fail)
            go_wp2_with fail
            refine (l3With_any (merL a b k) G c p _ (HS4.out.below (below_drewN (Below.refl _ _) nq)).at (by omega) HS4.out.cap).mono ?_
            rintro e w5 ⟨G5, c5, rfl, hS5, hb5⟩
            have HS5 : Hid (OwnOps w5 w.heap.size G5 c5 (withL (merL a b k) p)) := ownsRow_base (below_drewN HB4.out nq).size hS5
            have HB5 := hideIt (Bstep (below_drewN HB4.out nq) hb5)
            clear hS5 hb5
            go_wp2
            exact ⟨⟨k + 1, G5, c5, by omega, by go_num, by rw [HE.out], by rw [HE.out]; exact HS5.out, HX.out HF.out, HB5.out⟩, by simp [intOf]; omega⟩
          · obtain ⟨j, hj, hjl⟩ := findI_lt hf
            have HE := hideIt (HN.out (by omega))
            have hj' : a[j]? = some a[j] := by simp [hjl]
            obtain ⟨z0, z1, z2, z3, z4, z5, z6⟩ := HAL4.out.2 j _ hj'
            have HF : Hid (a[j] = p → agr a p) := fun h => .inr (by rw [hj]; simp [hjl, h])
            have HG : Hid (a[j] ≠ p → ¬ agr a p) := fun h hh => by
              rcases hh with hh | hh
              · exact hf hh
              · rw [hj] at hh; simp [hjl] at hh; exact h hh
            rw [hj]
            clear HY HN hf hj hj'
            generalize a[j] = q at *
            have hj0 : (0 : Int) ≤ (j : Int) := by omega
            have hj1 : ¬ ((j : Int) < 0) := by omega
            have hjl' : (j : Int) < (a.length : Int) := by omega
            by_cases hq : q = p
            · have HFo := hideIt (HF.out hq)
              subst hq
              go_wp2
              go_quiet (fail)
              go_wp2
              exact ⟨⟨k + 1, G, c, by omega, by go_num, by rw [HE.out], by rw [HE.out]; exact HS4.out.below (below_drewN (Below.refl _ _) nq), HX.out HFo.out, below_drewN HB4.out _⟩, by simp [intOf]; omega⟩
            · have HFo := hideIt (HG.out hq)
              have HNO : Hid (¬ ∀ x ∈ b, agr a x) := fun h => HFo.out (h p HM.out)
              have hne := op_ne hq
              clear HF HG HE HX HM HFo hq hpk HAG HAL4 HBL4
              rcases hne with hne | ⟨e0, hne⟩ | ⟨e0, e1, hne⟩ | ⟨e0, e1, e2, hne⟩ | ⟨e0, e1, e2, e3, hne⟩ | ⟨e0, e1, e2, e3, e4, hne⟩ | ⟨e0, e1, e2, e3, e4, e5, hne⟩
              all_goals
                go_wp2
                go_quiet (fail)
                go_wp2
                exact bodyPost_ret (v := .tuple #[.slice (some ⟨w4.heap.size, 0, none⟩) 0 0, .bool false]) (by simp [results, Tryd.results130, go_sem]) rfl ⟨_, _, [], _, rfl, World.ownsRow_made (base := w.heap.size) (e := 29) (size := 7) (w4.drewN nq) #[] 0 HB4.out.size (Nat.zero_le _) rfl, .inr ⟨rfl, rfl, fun h => HNO.out h.2.2⟩, (below_drewN HB4.out nq).alloc HB4.out.size _⟩
        · obtain rfl : k = b.length := by omega
          go_wp2
          exact bodyPost_ret (v := .tuple #[.slice (some ⟨G, 0, none⟩) (merL a b b.length).length c, .bool true]) (by simp [results, Tryd.results130, go_sem]) rfl ⟨_, _, _, _, rfl, HS.out, .inl ⟨rfl, HOA.out, HOB.out, fun x hx => by obtain ⟨j, hj, rfl⟩ := List.getElem_of_mem hx; exact HAG.out j hj hj, rfl⟩, HBr.out⟩
end Go.Proofs.YtedanlmippfojaaDoor

namespace Go.Proofs.YtedanlmippfojaaDoor
open Go.RowKit
set_option linter.unusedSimpArgs false
set_option linter.unusedVariables false
attribute [local go_sem ↓] Go.wp_at_zero Go.wp_at_succ

theorem i64_xor_nat (a b : Nat) (ha : a < 9223372036854775808) (hb : b < 9223372036854775808) : bits .xor .i64 (a : Int) (b : Int) = ((a ^^^ b : Nat) : Int) := by
  have hx : a ^^^ b < 2 ^ 63 := Nat.xor_lt_two_pow (by omega) (by omega)
  show IntKind.i64.wrap ((BitVec.ofInt 64 (a : Int) ^^^ BitVec.ofInt 64 (b : Int)).toNat : Int) = _
  rw [BitVec.toNat_xor, ofInt_u64 a (by omega), ofInt_u64 b (by omega)]
  exact IntWalk.i64_in _ ⟨by omega, by omega⟩

/-- Bytes that came in. -/
def BytesAt (w : World) (q : Nat) (p : Option Addr) (n : Nat) : Prop := n = 0 ∨ ∃ b off, p = some ⟨b, off, none⟩ ∧ b ≠ q ∧ b < w.heap.size ∧ ∀ i, i < n → ∃ c : Int, 0 ≤ c ∧ c ≤ 255 ∧ w.cell? ⟨b, off + i, none⟩ = some (.int .u8 c)
/-- A reader that has drawn k numbers. -/
structure RdAt (w : World) (q : Nat) (p : Option Addr) (n cap k : Nat) : Prop where
  b : w.cell? ⟨q, 0, none⟩ = some (.slice p n cap)
  k : w.cell? ⟨q, 1, none⟩ = some (.int .i64 k)
  fz : ∀ j, w.frozen? ⟨q, j, none⟩ = false
  lt : q < w.heap.size
  few : n ≤ 2000
  bytes : BytesAt w q p n
/-- Only the reader's block turned, and what is behind all. -/
structure OnlyQ (q : Nat) (w w' : World) : Prop where
  size : w.heap.size ≤ w'.heap.size
  cell : ∀ b o, b < w.heap.size → b ≠ q → w'.cell? ⟨b, o, none⟩ = w.cell? ⟨b, o, none⟩
  frozen : ∀ b o, b < w.heap.size → b ≠ q → w'.frozen? ⟨b, o, none⟩ = w.frozen? ⟨b, o, none⟩
  below : Below q w w'
  block : ∀ b, b < w.heap.size → b ≠ q → w'.heap[b]? = w.heap[b]?
theorem BytesAt.only {w w' : World} {q n : Nat} {p : Option Addr} (h : BytesAt w q p n) (ho : OnlyQ q w w') : BytesAt w' q p n := by
  rcases h with h | ⟨b, off, hp, hq, hlt, hc⟩
  · exact .inl h
  · exact .inr ⟨b, off, hp, hq, Nat.lt_of_lt_of_le hlt ho.size, fun i hi => by
      obtain ⟨c, h0, h1, h2⟩ := hc i hi
      exact ⟨c, h0, h1, (ho.cell _ _ hlt hq).trans h2⟩⟩
theorem only_set (q : Nat) (w : World) (v : Value) (hq : q < w.heap.size) : OnlyQ q w (w.setCell ⟨q, 1, none⟩ v) :=
  ⟨by simp, fun b o hb hne => by simp [go_sem, hne, Ne.symm hne], fun b o hb hne => by simp, (Below.refl q w).setCell (p := ⟨q, 1, none⟩) (Nat.le_refl q) v, fun b hb hne => heap_setCell_other w ⟨q, 1, none⟩ b v (fun e => hne e)⟩
theorem OnlyQ.drew {q : Nat} {w w' : World} (h : OnlyQ q w w') : OnlyQ q w w'.drew :=
  ⟨by simpa using h.size, fun b o hb hne => by simpa using h.cell b o hb hne, fun b o hb hne => by simpa using h.frozen b o hb hne, h.below.drew, fun b hb hne => h.block b hb hne⟩
theorem RdAt.set {w : World} {q : Nat} {p : Option Addr} {n cap k : Nat} (h : RdAt w q p n cap k) : RdAt (w.setCell ⟨q, 1, none⟩ (.int .i64 ((k + 1 : Nat) : Int))) q p n cap (k + 1) :=
  ⟨by have := h.b; simp [go_sem, this], by have := h.k; simp [go_sem, this], fun j => by simp [h.fz], by simpa using h.lt, h.few, h.bytes.only (only_set q w _ h.lt)⟩

theorem OnlyQ.drewN {q : Nat} {w w' : World} (h : OnlyQ q w w') (j : Nat) : OnlyQ q w (w'.drewN j) :=
  ⟨by simpa using h.size, fun b o hb hne => by simpa using h.cell b o hb hne, fun b o hb hne => by simpa using h.frozen b o hb hne, below_drewN h.below _, fun b hb hne => by simpa using h.block b hb hne⟩
theorem OnlyQ.refl (q : Nat) (w : World) : OnlyQ q w w := ⟨Nat.le_refl _, fun _ _ _ _ => rfl, fun _ _ _ _ => rfl, Below.refl _ _, fun _ _ _ => rfl⟩
theorem OnlyQ.trans {q : Nat} {w w1 w2 : World} (h : OnlyQ q w w1) (h' : OnlyQ q w1 w2) : OnlyQ q w w2 :=
  ⟨Nat.le_trans h.size h'.size, fun b o hb hne => (h'.cell b o (Nat.lt_of_lt_of_le hb h.size) hne).trans (h.cell b o hb hne), fun b o hb hne => (h'.frozen b o (Nat.lt_of_lt_of_le hb h.size) hne).trans (h.frozen b o hb hne), h.below.trans h'.below, fun b hb hne => (h'.block b (Nat.lt_of_lt_of_le hb h.size) hne).trans (h.block b hb hne)⟩
theorem RdAt.drewN {w : World} {q : Nat} {p : Option Addr} {n cap k : Nat} (h : RdAt w q p n cap k) (j : Nat) : RdAt (w.drewN j) q p n cap k :=
  ⟨by simpa using h.b, by simpa using h.k, fun i => by simpa using h.fz i, by simpa using h.lt, h.few, h.bytes.only ((OnlyQ.refl q w).drewN j)⟩
theorem rem_xor (z m : Int) (h0 : 0 ≤ z) (h1 : z < 9223372036854775808) (hm : 1 ≤ m) : 0 ≤ (bits .xor .i64 z (z / 64)).tmod m ∧ (bits .xor .i64 z (z / 64)).tmod m < m := by
  obtain ⟨Z, rfl⟩ := Int.eq_ofNat_of_zero_le h0
  have e : ((Z : Int) / 64) = ((Z / 64 : Nat) : Int) := by simp
  rw [e, i64_xor_nat Z (Z / 64) (by omega) (by omega)]
  exact ⟨Int.tmod_nonneg _ (by omega), Int.tmod_lt_of_pos _ (by omega)⟩

set_option maxRecDepth 100000 in
set_option maxHeartbeats 1000000 in
theorem pick_any (w : World) (q : Nat) (p : Option Addr) (n cap k : Nat) (m : Int) (h : RdAt w q p n cap k) (hm : 1 ≤ m) (hm' : m ≤ 1048576) (hk : k ≤ 1073741824) :
    Calls Tryd.prog 59 #[.pointer (some ⟨q, 0, none⟩), .int .i64 m] w fun e w' => (∃ c : Int, 0 ≤ c ∧ c < m ∧ e = .returned (.int .i64 c)) ∧ RdAt w' q p n cap (k + 1) ∧ OnlyQ q w w' := by
  have H := hideIt h
  have c0 := h.b
  have c1 := h.k
  have f1 := h.fz
  have hlt := h.lt
  have few := h.few
  have hby := hideIt h.bytes
  clear h
  by_cases hn : n = 0
  · subst hn
    go_enter Tryd.func59, Tryd.ntmps59
    go_wp2
    go_ret
    exact ⟨⟨0, by omega, by omega, rfl⟩, H.out.set, only_set _ _ _ hlt⟩
  · obtain h | ⟨b, off, rfl, hbq, hbw, hcell⟩ := hby.out
    · exact absurd h hn
    have hbq' : ¬ q = b := fun h => hbq h.symm
    have hm1 : decide (m < 1) = false := by simpa using hm
    have hn1 : ((n : Int) == 0) = false := by simpa using hn
    by_cases hkn : k < n
    · obtain ⟨c, hc0, hc1, hc⟩ := hcell k hkn
      have hkn' : (k : Int) < (n : Int) := by omega
      have hk0 : (0 : Int) ≤ (k : Int) := by omega
      have ht1 := Int.emod_nonneg c (show m ≠ 0 by omega)
      have ht2 := Int.emod_lt_of_pos c (show 0 < m by omega)
      clear hcell
      go_enter Tryd.func59, Tryd.ntmps59
      go_wp2
      go_ret
      exact ⟨⟨_, ht1, ht2, rfl⟩, H.out.set, only_set _ _ _ hlt⟩
    · have hkn' : ¬ (k : Int) < (n : Int) := by omega
      have hk0 : (0 : Int) ≤ (k : Int) := by omega
      have hn0 : 0 < n := by omega
      obtain ⟨c, hc0, hc1, hc⟩ := hcell (k % n) (Nat.mod_lt _ hn0)
      obtain ⟨d, hd0, hd1, hd⟩ := hcell ((k * 7 + 3) % n) (Nat.mod_lt _ hn0)
      clear hcell
      have e1 : (k : Int) % (n : Int) = ((k % n : Nat) : Int) := by simp
      have e2 : ((k : Int) * 7 + 3) % (n : Int) = (((k * 7 + 3) % n : Nat) : Int) := by simp
      have e3 : (k : Int) / (n : Int) = ((k / n : Nat) : Int) := by simp
      have e4 : Int.tmod (k : Int) (n : Int) = ((k % n : Nat) : Int) := (Int.ofNat_tmod k n).symm
      have e5 : Int.tmod ((k : Int) * 7 + 3) (n : Int) = (((k * 7 + 3) % n : Nat) : Int) := by have h := Int.ofNat_tmod (k * 7 + 3) n; simpa using h.symm
      have e6 : Int.tdiv (k : Int) (n : Int) = ((k / n : Nat) : Int) := (Int.ofNat_tdiv k n).symm
      have l1 := Nat.mod_lt k hn0
      have l2 := Nat.mod_lt (k * 7 + 3) hn0
      have l3 := Nat.div_le_self k n
      generalize hr1 : k % n = r1 at *
      generalize hr2 : (k * 7 + 3) % n = r2 at *
      generalize hr3 : k / n = r3 at *
      clear hr1 hr2 hr3
      go_enter Tryd.func59, Tryd.ntmps59
      go_wp2
      go_quiet (fail)
      go_wp2
      go_ret
      obtain ⟨x1, x2⟩ := rem_xor (c * 131 + d * 1117 + ↑k * 29 + ↑r3 * 53) m (by omega) (by omega) (by omega)
      exact ⟨⟨_, x1, x2, rfl⟩, H.out.set.drewN nq, (only_set _ _ _ hlt).drewN nq⟩
end Go.Proofs.YtedanlmippfojaaDoor

namespace Go.Proofs.YtedanlmippfojaaDoor
open Go.RowKit
set_option linter.unusedSimpArgs false
set_option linter.unusedVariables false
attribute [local go_sem ↓] Go.wp_at_zero Go.wp_at_succ

/-- Bytes that came in, from an offset on. -/
def ArgBytes (w : World) (p : Option Addr) (n : Nat) : Prop := n = 0 ∨ ∃ b off, p = some ⟨b, off, none⟩ ∧ b < w.heap.size ∧ ∀ i, i < n → ∃ c : Int, 0 ≤ c ∧ c ≤ 255 ∧ w.cell? ⟨b, off + i, none⟩ = some (.int .u8 c)
theorem ArgBytes.below {w w' : World} {p : Option Addr} {n : Nat} (h : ArgBytes w p n) (hb : Below w.heap.size w w') : ArgBytes w' p n := by
  rcases h with h | ⟨b, off, hp, hlt, hc⟩
  · exact .inl h
  · exact .inr ⟨b, off, hp, Nat.lt_of_lt_of_le hlt hb.size, fun i hi => by
      obtain ⟨c, h0, h1, h2⟩ := hc i hi
      exact ⟨c, h0, h1, (hb.cell (p := ⟨b, _, none⟩) hlt).trans h2⟩⟩
theorem ArgBytes.at {w w' : World} {p : Option Addr} {n m q : Nat} (h : ArgBytes w p n) (hb : Below w.heap.size w w') (hq : w.heap.size ≤ q) (hm : m ≤ n) : BytesAt w' q p m := by
  rcases h with h | ⟨b, off, hp, hlt, hc⟩
  · exact .inl (by omega)
  · exact .inr ⟨b, off, hp, by omega, Nat.lt_of_lt_of_le hlt hb.size, fun i hi => by
      obtain ⟨c, h0, h1, h2⟩ := hc i (by omega)
      exact ⟨c, h0, h1, (hb.cell (p := ⟨b, _, none⟩) hlt).trans h2⟩⟩

set_option maxRecDepth 100000 in
theorem open_any (w : World) (p : Option Addr) (n cap : Nat) (h : ArgBytes w p n) (hcap : n ≤ cap) (hn : n ≤ 1048576) :
    Calls Tryd.prog 57 #[.slice p n cap] w fun e w' => ∃ n', e = .returned (.pointer (some ⟨w.heap.size, 0, none⟩)) ∧ RdAt w' w.heap.size p n' cap 0 ∧ Below w.heap.size w w' := by
  have H := hideIt h
  clear h
  by_cases hb : n ≤ 2000
  · go_enter Tryd.func57, Tryd.ntmps57
    go_wp2
    go_ret
    exact ⟨n, rfl, ⟨by simp [go_sem], by simp [go_sem], fun j => by simp [go_sem], by simp, hb, H.out.at ((Below.refl _ _).alloc (Nat.le_refl _) _) (Nat.le_refl _) (Nat.le_refl _)⟩, by go_grown⟩
  · go_enter Tryd.func57, Tryd.ntmps57
    go_wp2
    go_ret
    exact ⟨2000, rfl, ⟨by simp [go_sem], by simp [go_sem], fun j => by simp [go_sem], by simp, Nat.le_refl _, H.out.at ((Below.refl _ _).alloc (Nat.le_refl _) _) (Nat.le_refl _) (by omega)⟩, by go_grown⟩

theorem OnlyQ.alloc {q : Nat} {w w' : World} (h : OnlyQ q w w') (hq : q < w.heap.size) (o : Obj) : OnlyQ q w (w'.alloc o) :=
  ⟨Nat.le_trans h.size (by simp), fun b x hb hne => by rw [World.cell?_alloc_lt _ _ _ (show (Addr.mk b x none).block < _ from Nat.lt_of_lt_of_le hb h.size)]; exact h.cell b x hb hne,
    fun b x hb hne => by rw [World.frozen?_alloc_past _ _ _ (Nat.lt_of_lt_of_le hb h.size)]; exact h.frozen b x hb hne, h.below.alloc (by have := h.size; omega) _, fun b hb hne => (Below.heap_alloc _ _ _ (Nat.lt_of_lt_of_le hb h.size)).trans (h.block b hb hne)⟩
theorem RdAt.alloc {w : World} {q : Nat} {p : Option Addr} {n cap k : Nat} (h : RdAt w q p n cap k) (o : Obj) : RdAt (w.alloc o) q p n cap k :=
  ⟨by rw [World.cell?_alloc_lt _ _ _ (show (Addr.mk q _ none).block < _ from h.lt)]; exact h.b, by rw [World.cell?_alloc_lt _ _ _ (show (Addr.mk q _ none).block < _ from h.lt)]; exact h.k,
    fun j => by rw [World.frozen?_alloc_past _ _ _ h.lt]; exact h.fz j, Nat.lt_of_lt_of_le h.lt (by simp), h.few, h.bytes.only ((OnlyQ.refl q w).alloc h.lt o)⟩

theorem OnlyQ.set {q : Nat} {w w' : World} (h : OnlyQ q w w') (hq : q < w.heap.size) {g : Nat} (hg : w.heap.size ≤ g) (j : Nat) (v : Value) : OnlyQ q w (w'.setCell ⟨g, j, none⟩ v) :=
  ⟨by simpa using h.size, fun b o hb hne => by rw [World.cell?_setCell_other _ _ _ _ (by intro he; have := congrArg Addr.block he; simp at this; omega)]; exact h.cell b o hb hne,
    fun b o hb hne => by rw [World.frozen?_setCell]; exact h.frozen b o hb hne, h.below.setCell (p := ⟨g, j, none⟩) (show q ≤ g by omega) v, fun b hb hne => (heap_setCell_other w' ⟨g, j, none⟩ b v (by show ¬ b = g; omega)).trans (h.block b hb hne)⟩
theorem RdAt.fin {w w2 wf : World} {q : Nat} {p : Option Addr} {n cap k k2 : Nat} (H : RdAt w q p n cap k) (h2 : RdAt w2 q p n cap k2) (hO : OnlyQ q w wf) (hc : ∀ o, wf.cell? ⟨q, o, none⟩ = w2.cell? ⟨q, o, none⟩) (hf : ∀ o, wf.frozen? ⟨q, o, none⟩ = w2.frozen? ⟨q, o, none⟩) : RdAt wf q p n cap k2 :=
  ⟨(hc _).trans h2.b, (hc _).trans h2.k, fun j => (hf j).trans (h2.fz j), Nat.lt_of_lt_of_le H.lt hO.size, H.few, H.bytes.only hO⟩

set_option maxRecDepth 100000 in
set_option maxHeartbeats 1000000 in
theorem l71Id_any (w : World) (q : Nat) (p : Option Addr) (n cap k : Nat) (h : RdAt w q p n cap k) (hk : k ≤ 1073741800) :
    Calls Tryd.prog 104 #[.pointer (some ⟨q, 0, none⟩)] w fun e w' => (∃ r m : Int, e = .returned (.agg #[.int .i64 r, .int .i64 m])) ∧ (∃ k', k' ≤ k + 3 ∧ RdAt w' q p n cap k') ∧ OnlyQ q w w' := by
  have H := hideIt h
  clear h
  go_enter Tryd.func104, Tryd.ntmps104
  go_wp2_with fail
  refine (pick_any _ q p n cap k 12 (H.out.alloc _) (by omega) (by omega) (by omega)).mono ?_
  rintro e w1 ⟨⟨c, hc0, hc1, rfl⟩, hR, hO⟩
  have hqw := H.out.lt
  have r0 : w1.cell? ⟨w.heap.size, 0, none⟩ = some (.int .i64 0) := by rw [hO.cell _ _ (by simp) (by omega)]; simp [go_sem]
  have r1 : w1.cell? ⟨w.heap.size, 1, none⟩ = some (.int .i64 0) := by rw [hO.cell _ _ (by simp) (by omega)]; simp [go_sem]
  have rf : ∀ j, w1.frozen? ⟨w.heap.size, j, none⟩ = false := fun j => by rw [hO.frozen _ _ (by simp) (by omega)]; simp [go_sem]
  have hs1 : w.heap.size < w1.heap.size := by have := hO.size; simp at this; omega
  have HR := hideIt hR
  have HO := hideIt (((OnlyQ.refl q w).alloc H.out.lt _).trans hO)
  clear hR hO
  have hne : ¬ w.heap.size = q := by omega
  have hne' : ¬ q = w.heap.size := by omega
  by_cases hz : c = 0
  · subst hz
    go_wp2_with fail
    refine (pick_any _ q p n cap (k + 1) 5 (HR.out.alloc _) (by omega) (by omega) (by omega)).mono ?_
    rintro e w2 ⟨⟨d, hd0, hd1, rfl⟩, hR2, hO2⟩
    have s0 : w2.cell? ⟨w.heap.size, 0, none⟩ = some (.int .i64 0) := by rw [hO2.cell _ _ (by simp; omega) hne, World.cell?_alloc_lt _ _ _ hs1]; exact r0
    have s1 : w2.cell? ⟨w.heap.size, 1, none⟩ = some (.int .i64 0) := by rw [hO2.cell _ _ (by simp; omega) hne, World.cell?_alloc_lt _ _ _ hs1]; exact r1
    have sf : ∀ j, w2.frozen? ⟨w.heap.size, j, none⟩ = false := fun j => by rw [hO2.frozen _ _ (by simp; omega) hne, World.frozen?_alloc_past _ _ _ hs1]; exact rf j
    have sl : ∀ j, w2.cell? ⟨w1.heap.size, j, none⟩ = _ := fun j => hO2.cell w1.heap.size j (by simp) (by omega)
    have HO2 := hideIt ((HO.out.alloc hqw _).trans hO2)
    have HR2 := hideIt hR2
    clear hR2 hO2 r0 r1 rf
    obtain rfl | rfl | rfl | rfl | rfl : d = 0 ∨ d = 1 ∨ d = 2 ∨ d = 3 ∨ d = 4 := by omega
    all_goals
      go_wp2
      have hO3 : ∀ u v, OnlyQ q w ((w2.setCell ⟨w.heap.size, 0, none⟩ u).setCell ⟨w.heap.size, 1, none⟩ v) := fun u v => (HO2.out.set hqw (g := w.heap.size) (Nat.le_refl _) 0 u).set hqw (g := w.heap.size) (Nat.le_refl _) 1 v
      have hR3 : ∀ u v, RdAt ((w2.setCell ⟨w.heap.size, 0, none⟩ u).setCell ⟨w.heap.size, 1, none⟩ v) q p n cap (k + 2) := fun u v => H.out.fin HR2.out (hO3 u v) (fun o => by simp [go_sem, hne, hne']) (fun o => by simp)
    · exact bodyPost_ret (v := .agg #[.int .i64 0, .int .i64 0]) (by simp [results, Tryd.results104, go_sem, s0, s1]) rfl ⟨⟨_, _, rfl⟩, ⟨k + 2, by omega, hR3 _ _⟩, hO3 _ _⟩
    · exact bodyPost_ret (v := .agg #[.int .i64 4, .int .i64 1]) (by simp [results, Tryd.results104, go_sem, s0, s1]) rfl ⟨⟨_, _, rfl⟩, ⟨k + 2, by omega, hR3 _ _⟩, hO3 _ _⟩
    · exact bodyPost_ret (v := .agg #[.int .i64 1, .int .i64 0]) (by simp [results, Tryd.results104, go_sem, s0, s1]) rfl ⟨⟨_, _, rfl⟩, ⟨k + 2, by omega, hR3 _ _⟩, hO3 _ _⟩
    · exact bodyPost_ret (v := .agg #[.int .i64 1, .int .i64 13]) (by simp [results, Tryd.results104, go_sem, s0, s1]) rfl ⟨⟨_, _, rfl⟩, ⟨k + 2, by omega, hR3 _ _⟩, hO3 _ _⟩
    · exact bodyPost_ret (v := .agg #[.int .i64 (-1), .int .i64 2]) (by simp [results, Tryd.results104, go_sem, s0, s1]) rfl ⟨⟨_, _, rfl⟩, ⟨k + 2, by omega, hR3 _ _⟩, hO3 _ _⟩
  · go_wp2_with fail
    refine (pick_any _ q p n cap (k + 1) 3 HR.out (by omega) (by omega) (by omega)).mono ?_
    rintro e w2 ⟨⟨d, hd0, hd1, rfl⟩, hR2, hO2⟩
    have s0 : w2.cell? ⟨w.heap.size, 0, none⟩ = some (.int .i64 0) := by rw [hO2.cell _ _ hs1 hne]; exact r0
    have s1 : w2.cell? ⟨w.heap.size, 1, none⟩ = some (.int .i64 0) := by rw [hO2.cell _ _ hs1 hne]; exact r1
    have sf : ∀ j, w2.frozen? ⟨w.heap.size, j, none⟩ = false := fun j => by rw [hO2.frozen _ _ hs1 hne]; exact rf j
    have hs2 := Nat.lt_of_lt_of_le hs1 hO2.size
    have HO2 := hideIt (HO.out.trans hO2)
    have HR2 := hideIt hR2
    clear hR2 hO2 r0 r1 rf
    go_wp2_with fail
    refine (pick_any _ q p n cap (k + 2) 5 HR2.out (by omega) (by omega) (by omega)).mono ?_
    rintro e w3 ⟨⟨f, hf0, hf1, rfl⟩, hR3, hO3⟩
    have t0 : w3.cell? ⟨w.heap.size, 0, none⟩ = some (.int .i64 0) := by rw [hO3.cell _ _ hs2 hne]; exact s0
    have t1 : w3.cell? ⟨w.heap.size, 1, none⟩ = some (.int .i64 0) := by rw [hO3.cell _ _ hs2 hne]; exact s1
    have tf : ∀ j, w3.frozen? ⟨w.heap.size, j, none⟩ = false := fun j => by rw [hO3.frozen _ _ hs2 hne]; exact sf j
    have HO3 := hideIt (HO2.out.trans hO3)
    have HR3 := hideIt hR3
    clear hR3 hO3 s0 s1 sf
    go_wp2
    have hO4 := (HO3.out.set hqw (g := w.heap.size) (Nat.le_refl _) 0 (.int .i64 (1 + d))).set hqw (g := w.heap.size) (Nat.le_refl _) 1 (.int .i64 (1 + f))
    exact bodyPost_ret (v := .agg #[.int .i64 (1 + d), .int .i64 (1 + f)]) (by simp [results, Tryd.results104, go_sem, t0, t1]) rfl ⟨⟨_, _, rfl⟩, ⟨k + 3, by omega, H.out.fin HR3.out hO4 (fun o => by simp [go_sem, hne, hne']) (fun o => by simp)⟩, hO4⟩
end Go.Proofs.YtedanlmippfojaaDoor

namespace Go.Proofs.YtedanlmippfojaaDoor
open Go.RowKit
set_option linter.unusedSimpArgs false
set_option linter.unusedVariables false
attribute [local go_sem ↓] Go.wp_at_zero Go.wp_at_succ

/-- Bytes as a text. -/
def txtB (gs : List Int) : ByteArray := ⟨(gs.map fun n => UInt8.ofNat n.toNat).toArray⟩
theorem txtB_more (gs : List Int) (g : Int) : txtB gs ++ txtB [g] = txtB (gs ++ [g]) := by
  apply ByteArray.ext
  simp [txtB]
theorem txtB_size (gs : List Int) : (txtB gs).size = gs.length := by
  show (txtB gs).data.size = _
  simp [txtB]
/-- The signs of leaves that are not gone, as bytes. -/
def shown (L : List Lf) : List Int := (L.filter fun x => !x.z).map fun x => x.g % 256
theorem shown_len (L : List Lf) : (shown L).length ≤ L.length := by simp [shown]; exact List.length_filter_le _ _
theorem shown_gone {L : List Lf} {x : Lf} (h : x.z = true) : shown (L ++ [x]) = shown L := by simp [shown, List.filter_append, h]
theorem shown_there {L : List Lf} {x : Lf} (h : x.z = false) : shown (L ++ [x]) = shown L ++ [x.g % 256] := by simp [shown, List.filter_append, h]

theorem convT (W : World) (b : Nat) (c : Int) (h : W.cell? ⟨b, 0, none⟩ = some (.int .u8 c)) :
    (convert 22 9 (.slice (some ⟨b, 0, none⟩) 1 1)).run Tryd.prog W = .ok (.string (txtB [c])) W := by
  have h := run_convert_bytes_arg (P := Tryd.prog) W 22 5 Tryd.underlying22 Tryd.underlying5 b 0 1 1 [c] rfl (fun i hi => by
    obtain rfl : i = 0 := by omega
    exact h) 9 Tryd.underlying9
  rw [h]
  rfl

set_option maxRecDepth 100000 in
set_option maxHeartbeats 1000000 in
theorem l2Text_any (L : List Lf) (G c base : Nat) (w : World) (h : w.ownsRow base 44 4 (.slice (some ⟨G, 0, none⟩) L.length c) L.length (lfCells L)) (hn : L.length ≤ 1048576) (hc : L.length ≤ c) :
    Calls Tryd.prog 105 #[.slice (some ⟨G, 0, none⟩) L.length c] w fun e w' => e = .returned (.string (txtB (shown L))) ∧ Below w.heap.size w w' := by
  have hG := (h.lt G rfl).2
  have HC : Hid (∀ j, j < L.length * 4 → w.cell? ⟨G, j, none⟩ = (lfCells L)[j]?) := fun j hj => h.cellAt j hj
  clear h
  go_enter Tryd.func105, Tryd.ntmps105
  go_wp2
  go_loopw [3, 4] (fun v i wr => ∃ k : Nat, k ≤ L.length ∧ i = .int .i64 k ∧ v = .string (txtB (shown (L.take k))) ∧ Below w.heap.size w wr)
    (fun _ i _ => L.length - (intOf i).toNat)
  case atStart => exact ⟨0, Nat.zero_le _, rfl, rfl, Below.refl _ _⟩
  case round =>
    obtain ⟨k, hk, rfl, rfl, hB⟩ := hrel
    have HB := hideIt hB
    by_cases hlt : k < L.length
    · obtain ⟨i0, i1, i2, i3⟩ := lfCells_at L k L[k] (by simp [hlt])
      have y2 := ((bcell hB).1 G _ hG).trans ((HC.out (k * 4 + 2) (by omega)).trans i2)
      have y3 := ((bcell hB).1 G _ hG).trans ((HC.out (k * 4 + 3) (by omega)).trans i3)
      have hGr := Nat.lt_of_lt_of_le hG hB.size
      have htk : L.take (k + 1) = L.take k ++ [L[k]] := List.take_succ_eq_append_getElem hlt
      have hgone : Hid (L[k].z = true → shown (L.take (k + 1)) = shown (L.take k)) := fun h => by rw [htk, shown_gone h]
      have hthere : Hid (L[k].z = false → shown (L.take (k + 1)) = shown (L.take k) ++ [L[k].g % 256]) := fun h => by rw [htk, shown_there h]
      have hsz : (txtB (shown (L.take k))).size ≤ k := by rw [txtB_size]; exact Nat.le_trans (shown_len _) (List.length_take_le _ _)
      have ka := run_string_add_sum (P := Tryd.prog) (w := wr.alloc (.cells #[.int .u8 (L[k].g % 256)] 5)) (txtB (shown (L.take k))) (txtB [L[k].g % 256]) (by rw [txtB_size [_]]; simp; omega)
      have kc := convT (wr.alloc (.cells #[.int .u8 (L[k].g % 256)] 5)) wr.heap.size (L[k].g % 256) (by simp [go_sem])
      generalize L[k].g = xg at *
      generalize L[k].z = xz at *
      have hlt' : (k : Int) < (L.length : Int) := by omega
      have hk0 : (0 : Int) ≤ (k : Int) := by omega
      clear hB i0 i1 i2 i3 htk
      cases xz
      · have hsame := hideIt (hthere.out rfl)
        go_wp2
        exact ⟨⟨k + 1, by omega, by go_num, by rw [hsame.out, ← txtB_more], HB.out.alloc HB.out.size _⟩, by simp [intOf]; omega⟩
      · have hsame := hideIt (hgone.out rfl)
        go_wp2
        exact ⟨⟨k + 1, by omega, by go_num, by rw [hsame.out], HB.out⟩, by simp [intOf]; omega⟩
    · obtain rfl : k = L.length := by omega
      go_wp2
      go_ret
      exact ⟨by rw [List.take_length]; rfl, HB.out⟩

set_option maxRecDepth 100000 in
set_option maxHeartbeats 1000000 in
theorem specTxt_any (l : List Op7) (g cap : Nat) (w : World) (hl : OpsAt w g l) (hn : l.length ≤ 1048576) (hcap : l.length ≤ cap) :
    Calls Tryd.prog 61 #[.slice (some ⟨g, 0, none⟩) l.length cap] w fun e w' => e = .returned (.string (txtB (shown (lfs l (standL l))))) ∧ Below w.heap.size w w' := by
  have HL := hideIt hl
  clear hl
  go_enter Tryd.func61, Tryd.ntmps61
  go_wp2_with fail
  refine (specLeaves_any l _ _ _ HL.out hn hcap).mono ?_
  rintro e w1 ⟨G, c, rfl, hr, hb1⟩
  have hc : (lfs l (standL l)).length ≤ c := by
    rcases hr.2 with ⟨h, _⟩ | ⟨g', c', cur, h, _, _, h2, _⟩
    · cases h
    · cases h; rw [lfs_len]; exact h2
  rw [lfs_cells, ← lfs_len l (standL l)] at hr
  have HR := hideIt hr
  have HB1 := hideIt hb1
  have HN : Hid ((lfs l (standL l)).length ≤ 1048576) := by show (lfs l (standL l)).length ≤ 1048576; rw [lfs_len]; exact Nat.le_trans (stand_len l) hn
  rw [← lfs_len l (standL l)]
  clear hr hb1
  go_wp2_with fail
  refine (l2Text_any (lfs l (standL l)) G c _ _ HR.out HN.out hc).mono ?_
  rintro e w2 ⟨rfl, hb2⟩
  have HB2 := hideIt (Bstep HB1.out hb2)
  clear hb2
  go_wp2
  go_ret
  exact ⟨rfl, HB2.out⟩
end Go.Proofs.YtedanlmippfojaaDoor

namespace Go.Proofs.YtedanlmippfojaaDoor
open Go.RowKit
set_option linter.unusedSimpArgs false
set_option linter.unusedVariables false
attribute [local go_sem ↓] Go.wp_at_zero Go.wp_at_succ

theorem OnlyQ.grown {q : Nat} {w w' : World} (h : OnlyQ q w w') : w.grownBy w' (some q) :=
  ⟨h.below.os, h.below.tape, h.below.output, h.size, fun i hi hne => h.block i hi (fun e => hne (by rw [e]))⟩
theorem OnlyQ.then {q : Nat} {w w1 w2 : World} (h : OnlyQ q w w1) (hq : q < w.heap.size) (hb : Below w1.heap.size w1 w2) : OnlyQ q w w2 := by
  have hz := h.size
  exact ⟨Nat.le_trans hz hb.size, fun b o hb' hne => (hb.cell (p := ⟨b, o, none⟩) (show b < _ by omega)).trans (h.cell b o hb' hne),
    fun b o hb' hne => (World.frozen?_of_block (a := ⟨b, o, none⟩) (hb.block b (by omega))).trans (h.frozen b o hb' hne),
    ⟨hb.os.trans h.below.os, hb.tape.trans h.below.tape, hb.output.trans h.below.output, Nat.le_trans hz hb.size, fun i hi => (hb.block i (by omega)).trans (h.below.block i hi)⟩,
    fun b hb' hne => (hb.block b (by omega)).trans (h.block b hb' hne)⟩
theorem RdAt.below {w w' : World} {q : Nat} {p : Option Addr} {n cap k : Nat} (h : RdAt w q p n cap k) (hb : Below w.heap.size w w') : RdAt w' q p n cap k :=
  ⟨(hb.cell (p := ⟨q, _, none⟩) h.lt).trans h.b, (hb.cell (p := ⟨q, _, none⟩) h.lt).trans h.k, fun j => (World.frozen?_of_block (a := ⟨q, j, none⟩) (hb.block q h.lt)).trans (h.fz j), Nat.lt_of_lt_of_le h.lt hb.size, h.few, h.bytes.only ((OnlyQ.refl q w).then h.lt hb)⟩
theorem OwnOps.only {w w' : World} {q base g cap : Nat} {L : List Op7} (h : OwnOps w base g cap L) (ho : OnlyQ q w w') (hne : g ≠ q) : OwnOps w' base g cap L :=
  World.ownsRow.kept h ho.grown (.inr (by simp [Value.ownBlock]; exact hne))
theorem OwnOps.lt {w : World} {base g cap : Nat} {L : List Op7} (h : OwnOps w base g cap L) : base ≤ g ∧ g < w.heap.size := World.ownsRow.lt h g rfl

/-- Three rows of things, each of its own, and their slices in a block. -/
structure Docs (B : Nat) (w : World) (D : Nat) : Prop where
  lt : D < w.heap.size
  ge : B ≤ D
  fz : ∀ k, w.frozen? ⟨D, k, none⟩ = false
  row : ∀ k, k < 3 → ∃ G c L, w.cell? ⟨D, k, none⟩ = some (.slice (some ⟨G, 0, none⟩) (L : List Op7).length c) ∧ OwnOps w B G c L ∧ G ≠ D ∧ L.length ≤ 73
theorem Docs.only {B q D : Nat} {w w' : World} (h : Docs B w D) (ho : OnlyQ q w w') (hq : q < B) : Docs B w' D :=
  have hne : D ≠ q := by have := h.ge; omega
  ⟨Nat.lt_of_lt_of_le h.lt ho.size, h.ge, fun k => (ho.frozen D k h.lt hne).trans (h.fz k), fun k hk => by
    obtain ⟨G, c, L, h1, h2, h3, h4⟩ := h.row k hk
    exact ⟨G, c, L, (ho.cell D k h.lt hne).trans h1, h2.only ho (by have := h2.lt.1; omega), h3, h4⟩⟩
theorem Docs.below {B D : Nat} {w w' : World} (h : Docs B w D) (hb : Below w.heap.size w w') : Docs B w' D :=
  ⟨Nat.lt_of_lt_of_le h.lt hb.size, h.ge, fun k => (World.frozen?_of_block (a := ⟨D, k, none⟩) (hb.block D h.lt)).trans (h.fz k), fun k hk => by
    obtain ⟨G, c, L, h1, h2, h3, h4⟩ := h.row k hk
    exact ⟨G, c, L, (hb.cell (p := ⟨D, k, none⟩) h.lt).trans h1, h2.below hb, h3, h4⟩⟩
theorem OwnOps.set {w : World} {base g cap D k : Nat} {L : List Op7} (h : OwnOps w base g cap L) (hne : g ≠ D) (v : Value) : OwnOps (w.setCell ⟨D, k, none⟩ v) base g cap L :=
  World.ownsRow.kept (row := some D) h ⟨rfl, rfl, rfl, by simp, fun i _ hi => heap_setCell_other w ⟨D, k, none⟩ i v (fun e => hi (by rw [e]))⟩ (.inr (by simp [Value.ownBlock]; exact hne))
theorem Docs.put {B D k G c : Nat} {w : World} {L : List Op7} (h : Docs B w D) (hk : k < 3) (ho : OwnOps w B G c L) (hne : G ≠ D) (hL : L.length ≤ 73) : Docs B (w.setCell ⟨D, k, none⟩ (.slice (some ⟨G, 0, none⟩) L.length c)) D := by
  refine ⟨by simpa using h.lt, h.ge, fun j => by rw [World.frozen?_setCell]; exact h.fz j, fun j hj => ?_⟩
  by_cases e : j = k
  · subst e
    obtain ⟨G', c', L', h1, _⟩ := h.row j hj
    exact ⟨G, c, L, by simp [go_sem, h1], ho.set hne _, hne, hL⟩
  · obtain ⟨G', c', L', h1, h2, h3, h4⟩ := h.row j hj
    exact ⟨G', c', L', by rw [World.cell?_setCell_other _ _ _ _ (by intro he; have := congrArg Addr.off he; simp at this; exact e this.symm)]; exact h1, h2.set h3 _, h3, h4⟩
theorem OnlyQ.put {q B D : Nat} {w w' : World} (h : OnlyQ q w w') (hq : q < w.heap.size) (hD : w.heap.size ≤ D) (k : Nat) (v : Value) : OnlyQ q w (w'.setCell ⟨D, k, none⟩ v) := h.set hq hD k v
theorem RdAt.put {w : World} {q : Nat} {p : Option Addr} {n cap k D j : Nat} {v : Value} (h : RdAt w q p n cap k) (hne : D ≠ q) (hb : BytesAt (w.setCell ⟨D, j, none⟩ v) q p n) : RdAt (w.setCell ⟨D, j, none⟩ v) q p n cap k :=
  ⟨by rw [World.cell?_setCell_other _ _ _ _ (by intro he; have := congrArg Addr.block he; simp at this; exact hne this)]; exact h.b,
   by rw [World.cell?_setCell_other _ _ _ _ (by intro he; have := congrArg Addr.block he; simp at this; exact hne this)]; exact h.k,
   fun i => by rw [World.frozen?_setCell]; exact h.fz i, by simpa using h.lt, h.few, hb⟩

/-- A slice stored into its cell. -/
theorem store_sl (W : World) (D x G n c : Nat) (v0 : Value) (hc : W.cell? ⟨D, x, none⟩ = some v0) (hf : W.frozen? ⟨D, x, none⟩ = false) : (Instr.storeAt 23 (.pointer (some ⟨D, x, none⟩)) (.slice (some ⟨G, 0, none⟩) n c)).run Tryd.prog W = .ok () (W.setCell ⟨D, x, none⟩ (.slice (some ⟨G, 0, none⟩) n c)) := by
  simp [go_sem, hc, hf]

/-- Texts in a block. -/
def StrsAt (w : World) (g : Nat) (m : Nat) : Prop := g < w.heap.size ∧ ∀ i, i < m → ∃ s : ByteArray, s.size ≤ 1048576 ∧ w.cell? ⟨g, i, none⟩ = some (.string s)

set_option maxRecDepth 100000 in
set_option maxHeartbeats 1000000 in
theorem of_any (w : World) (q g : Nat) (p : Option Addr) (n cap k m mc : Nat) (h : RdAt w q p n cap k) (hs : StrsAt w g m) (hg : g ≠ q) (hm : 1 ≤ m) (hm' : m ≤ 1048576) (hmc : m ≤ mc) (hk : k ≤ 1073741824) :
    Calls Tryd.prog 80 #[.pointer (some ⟨q, 0, none⟩), .slice (some ⟨g, 0, none⟩) m mc] w fun e w' => (∃ s : ByteArray, s.size ≤ 1048576 ∧ e = .returned (.string s)) ∧ RdAt w' q p n cap (k + 1) ∧ OnlyQ q w w' := by
  have H := hideIt h
  have HS := hideIt hs
  have hglt := hs.1
  clear h hs
  go_enter Tryd.func80, Tryd.ntmps80
  go_wp2_with fail
  refine (pick_any _ q p n cap k m H.out (by omega) (by omega) (by omega)).mono ?_
  rintro e w1 ⟨⟨c, hc0, hc1, rfl⟩, hR, hO⟩
  have HR := hideIt hR
  have HO := hideIt hO
  obtain ⟨j, rfl⟩ := Int.eq_ofNat_of_zero_le hc0
  obtain ⟨s, hs, hj⟩ := HS.out.2 j (by omega)
  have hj1 : w1.cell? ⟨g, j, none⟩ = some (.string s) := (hO.cell g j hglt hg).trans hj
  clear hR hO hj
  go_wp2
  go_ret
  exact ⟨⟨s, hs, rfl⟩, HR.out, HO.out⟩
end Go.Proofs.YtedanlmippfojaaDoor
