/-
  PROVED: at every list of things and every place the program's MarkAt answers as the specification's does, and writes nothing into the list (the given card of FnExactMarkAt), for every input; the one listed variable, the program's error, reads as its own initialiser lays it.
-/
import Derived.Test.YtkbogcbppenaaaaDoorPackG
import Derived.Test.YtkbogcbppenaaaaDoorPackH
import Derived.Test.YtkbogcbppenaaaaDoorPackU
import Derived.Test.YtkbogcbppenaaaaDoorPackF
import Derived.Test.YtkbogcbppenaaaaDoorPackO
import Derived.Test.YtkbogcbppenaaaaDoorTie
import Derived.Test.YtkbogcbppenaaaaDoorCards
import Derived.SevenTiedAt
namespace Go.Proofs.YtkbogcbppenaaaaDoor
open Go.RowKit
set_option linter.unusedSimpArgs false
set_option linter.unusedVariables false
attribute [local go_sem ↓] Go.wp_at_zero Go.wp_at_succ

/-- Whether there is such a place. -/
def atB (l : List Op7) (t : Int) : Bool := opsB l && inB t 0 (shownI (lvs l)).length
/-- The sign ahead of it. -/
def atI (l : List Op7) (t : Int) : Int × Int := if atB l t = true then ((leftOf l t.toNat).1, (leftOf l t.toNat).2.1) else (0, 0)
def atV (l : List Op7) (t : Int) : Value := .tuple #[.agg #[.int .i64 (atI l t).1, .int .i64 (atI l t).2], .bool (atB l t)]
theorem atV_no {l : List Op7} {t : Int} (h : atB l t = false) : atV l t = .tuple #[.agg #[.int .i64 0, .int .i64 0], .bool false] := by unfold atV atI; rw [h]; rfl
theorem atV_yes {l : List Op7} {t : Int} {a b : Int} {k : Nat} (h : atB l t = true) (hl : leftOf l t.toNat = (a, b, k)) : atV l t = .tuple #[.agg #[.int .i64 a, .int .i64 b], .bool true] := by unfold atV atI; rw [h, if_pos rfl, hl]

set_option maxRecDepth 100000 in
set_option maxHeartbeats 1000000 in
theorem specAt_any (l : List Op7) (g cap : Nat) (t : Int) (w : World) (hl : OpsAt w g l) (hn : l.length ≤ 1048576) (hcap : l.length ≤ cap) :
    Calls Tryd.prog 21 #[.slice (some ⟨g, 0, none⟩) l.length cap, .int .i64 t] w fun e w' => e = .returned (atV l t) ∧ Below w.heap.size w w' := by
  have HL := hideIt hl
  have hgw := hl.1
  clear hl
  have HIB := hideIt (IB.start w)
  go_enter Tryd.func21, Tryd.ntmps21
  go_wp2_with fail
  refine (specLeaves_any l _ _ _ (HL.out.below HIB.out.bel hgw) hn hcap).mono ?_
  rintro e w1 ⟨G, c, rfl, hr, hb1⟩
  have hc : (lfs l (standL l)).length ≤ c := by
    rcases hr.2 with ⟨h, _⟩ | ⟨g', c', cur, h, _, _, h2, _⟩
    · cases h
    · cases h; rw [lfs_len]; exact h2
  rw [lfs_cells, ← lfs_len l (standL l)] at hr
  rw [← lfs_len l (standL l)]
  have hln : (lfs l (standL l)).length ≤ 1048576 := by rw [lfs_len]; exact Nat.le_trans (stand_len l) hn
  have HR := hideIt hr
  have HI1 := hideIt (HIB.out.below hb1)
  clear hr hb1 HIB
  go_wp2_with fail
  refine (l3Shown_any (lfs l (standL l)) G c _ _ HR.out hln hc).mono ?_
  rintro e w2 ⟨S, c3, rfl, hr2, hb2⟩
  have HS2 := hideIt hr2
  have HR2 := hideIt (rowKeep HR.out hb2)
  have HI2 := hideIt (HI1.out.below hb2)
  clear hr2 hb2 HI1 HR
  go_wp2_with fail
  refine (specOps_any l _ _ _ (HL.out.below HI2.out.bel hgw) hn hcap).mono ?_
  rintro e w3 ⟨rfl, hb3⟩
  have HS3 := hideIt (rowKeep HS2.out hb3)
  have HR3 := hideIt (rowKeep HR2.out hb3)
  have HI3 := hideIt (HI2.out.below hb3)
  clear hb3 HI2 HR2 HS2
  have hbx := HI3.out.box
  have i0 := (blk_cell hbx 0).trans rfl
  have i1 := (blk_cell hbx 1).trans rfl
  have fi : ∀ j, w3.frozen? ⟨w.heap.size, j, none⟩ = false := fun j => HI3.out.frozen j
  have hwl := HI3.out.lt
  have HB3 := hideIt HI3.out.bel
  clear hbx HI3
  cases ho : opsB l
  all_goals have HO := hideIt ho; clear ho
  · have HN := hideIt (atV_no (l := l) (t := t) (by unfold atB; rw [HO.out]; rfl))
    go_wp2
    exact bodyPost_ret (v := .tuple #[.agg #[.int .i64 0, .int .i64 0], .bool false]) (by simp [results, Tryd.results21, go_sem, i0, i1]) rfl ⟨by rw [HN.out], (HB3.out.setCell (p := ⟨w.heap.size, 0, none⟩) (Nat.le_refl _) _).setCell (p := ⟨w.heap.size, 1, none⟩) (Nat.le_refl _) _⟩
  · have HE : Hid (lfs l (standL l) = lvs l) := by show lfs l (standL l) = lvs l; unfold standL lvs; rw [HO.out]; rfl
    have HLN := hideIt (lvs_len HO.out)
    have hsn : (shownI (lvs l)).length ≤ 36 := Nat.le_trans (shownTo_len _ _) HLN.out
    rw [HE.out] at hc hln
    have HS4 : Hid (w3.ownsRow w1.heap.size 3 1 (.slice (some ⟨S, 0, none⟩) (shownI (lvs l)).length c3) (shownI (lvs l)).length (natCells (shownI (lvs l)))) := by have h := HS3.out; rw [HE.out] at h; exact h
    have HR4 : Hid (w3.ownsRow (w.alloc (.cells #[.int .i64 0, .int .i64 0] 30)).heap.size 81 4 (.slice (some ⟨G, 0, none⟩) (lvs l).length c) (lvs l).length (lfCells (lvs l))) := by have h := HR3.out; rw [HE.out] at h; exact h
    rw [HE.out]
    clear HS3 HR3
    cases hi : inB t 0 (shownI (lvs l)).length
    all_goals have HIN := hideIt hi; clear hi
    · have HN := hideIt (atV_no (l := l) (t := t) (by unfold atB; rw [HO.out, HIN.out]; rfl))
      go_wp2_with (first | (go_at_call 64; refine (l6In_any _ _ _ _).mono ?_; rintro e w' ⟨rfl, hw'⟩; subst hw'; rw [HIN.out]))
      exact bodyPost_ret (v := .tuple #[.agg #[.int .i64 0, .int .i64 0], .bool false]) (by simp [results, Tryd.results21, go_sem, i0, i1]) rfl ⟨by rw [HN.out], (HB3.out.setCell (p := ⟨w.heap.size, 0, none⟩) (Nat.le_refl _) _).setCell (p := ⟨w.heap.size, 1, none⟩) (Nat.le_refl _) _⟩
    · have HAB : Hid (atB l t = true) := by show atB l t = true; unfold atB; rw [HO.out, HIN.out]; rfl
      by_cases ht0 : t = 0
      · subst ht0
        have HN := hideIt (atV_yes (l := l) (t := 0) HAB.out (leftOf_zero l))
        go_wp2_with (first | (go_at_call 64; refine (l6In_any _ _ _ _).mono ?_; rintro e w' ⟨rfl, hw'⟩; subst hw'; rw [HIN.out]))
        exact bodyPost_ret (v := .tuple #[.agg #[.int .i64 0, .int .i64 0], .bool true]) (by simp [results, Tryd.results21, go_sem, i0, i1]) rfl ⟨(congrArg Ending.returned HN.out).symm, (HB3.out.setCell (p := ⟨w.heap.size, 0, none⟩) (Nat.le_refl _) _).setCell (p := ⟨w.heap.size, 1, none⟩) (Nat.le_refl _) _⟩
      · obtain ⟨k, hkt, hk⟩ : ∃ k : Nat, t = (k : Int) + 1 ∧ k + 1 ≤ (shownI (lvs l)).length := by
          have h := HIN.out
          simp [inB] at h
          exact ⟨t.toNat - 1, by omega, by omega⟩
        obtain ⟨j, x, hj, hx, hjl⟩ := shown_leaf (l := l) (k := k) (by omega)
        have HN := hideIt (atV_yes (l := l) (t := t) HAB.out ((congrArg (leftOf l) (show t.toNat = k + 1 by omega)).trans (leftOf_succ hj hx)))
        have hS := (World.ownsRow.cellAt HS4.out k (by omega)).trans (natCells_at hj)
        obtain ⟨q0, q1, _, _⟩ := lfCells_at (lvs l) j x hx
        have z0 := (World.ownsRow.cellAt HR4.out (j * 4) (by omega)).trans q0
        have z1 := (World.ownsRow.cellAt HR4.out (j * 4 + 1) (by omega)).trans q1
        have hSl := (World.ownsRow.lt HS4.out S rfl).2
        have hGl := (World.ownsRow.lt HR4.out G rfl).2
        have hk' : (k : Int) < ((shownI (lvs l)).length : Int) := by omega
        have hj' : (j : Int) < ((lvs l).length : Int) := by omega
        have hj0 : (0 : Int) ≤ (j : Int) := by omega
        have hk0 : (0 : Int) ≤ (k : Int) := by omega
        have hwi : IntKind.i64.wrap (t - 1) = k := by rw [show t - 1 = k by omega]; exact IntWalk.i64_in (k : Int) ⟨by omega, by omega⟩
        generalize x.a = xa at *
        generalize x.b = xb at *
        clear q0 q1 hj hx hkt
        go_wp2_with (first | (go_at_call 64; refine (l6In_any _ _ _ _).mono ?_; rintro e w' ⟨rfl, hw'⟩; subst hw'; rw [HIN.out]))
        exact bodyPost_ret (v := .tuple #[.agg #[.int .i64 xa, .int .i64 xb], .bool true]) (by simp [results, Tryd.results21, go_sem, i0, i1]) rfl ⟨(congrArg Ending.returned HN.out).symm, (HB3.out.setCell (p := ⟨w.heap.size, 0, none⟩) (Nat.le_refl _) _).setCell (p := ⟨w.heap.size, 1, none⟩) (Nat.le_refl _) _⟩
end Go.Proofs.YtkbogcbppenaaaaDoor

namespace Go.Proofs.YtkbogcbppenaaaaDoor
open Go.RowKit Go.Shelf
set_option linter.unusedSimpArgs false
set_option linter.unusedVariables false
attribute [local go_sem ↓] Go.wp_at_zero Go.wp_at_succ

set_option maxRecDepth 100000 in
set_option maxHeartbeats 2000000 in
theorem implAt_any (l : List Op7) (g cap : Nat) (t : Int) (hwf : wf64 t) (x : Addr) (w : World) (hl : OpsAt w g l) (hn : l.length ≤ 1048576) (hcap : l.length ≤ cap)
    (he : w.cell? ⟨0, 0, none⟩ = some (.iface 191 (.pointer (some x)))) (h0 : 0 < w.heap.size) :
    Calls Tryd.prog 22 #[.slice (some ⟨g, 0, none⟩) l.length cap, .int .i64 t] w fun e w' => e = .returned (atV l t) ∧ Below w.heap.size w w' := by
  have HL := hideIt hl
  have hgw := hl.1
  clear hl
  have HIB := hideIt (IB.start w)
  go_enter Tryd.func22, Tryd.ntmps22
  go_wp2_with fail
  generalize w.alloc (.cells #[.int .i64 0, .int .i64 0] 30) = W0 at *
  refine (treeOf_any l g cap x _ (HL.out.below HIB.out.bel hgw) hn hcap (errB HIB.out.bel h0 he) (posB HIB.out.bel h0)).mono ?_
  rintro e w1 ⟨(⟨ht, b1, b2, b3, base, rfl, hT⟩ | ⟨ht, rfl⟩), hb1⟩
  all_goals
    have HO := hideIt ht
    have HI1 := hideIt (HIB.out.below hb1)
    have herr1 : w1.cell? ⟨0, 0, none⟩ = some (.iface 191 (.pointer (some x))) := errB HI1.out.bel h0 he
    have hp1 : 0 < w1.heap.size := posB HI1.out.bel h0
    have hmw : w.heap.size < w1.heap.size := HI1.out.lt
    have hbx := HI1.out.box
    have i0 := (blk_cell hbx 0).trans rfl
    have i1 := (blk_cell hbx 1).trans rfl
    have fi : ∀ j, w1.frozen? ⟨w.heap.size, j, none⟩ = false := fun j => HI1.out.frozen j
    clear ht hb1 HIB hbx
  · have HTT := hideIt hT
    clear hT
    go_wp2_with (first | (go_at_call 59; refine (is_nil x _).mono ?_; rintro e w'' ⟨rfl, rfl⟩))
    have HB2 : Hid (Below w1.heap.size w1 (w1.alloc (.cells #[.map (some b1), .map (some b2), .map (some b3)] 86))) := (Below.refl _ _).alloc (Nat.le_refl _) _
    refine (signAhead_any l HO.out hn w1 b1 b2 b3 base HTT.out t hwf x _ HB2.out (errB HB2.out hp1 herr1) (posB HB2.out hp1)).mono ?_
    rintro e w3 ⟨(⟨hk, rfl⟩ | ⟨hk, rfl⟩), hb3⟩
    all_goals
      have HI3 := hideIt (HI1.out.below (Bstep HB2.out hb3))
      have HK := hideIt hk
      have herr3 : w3.cell? ⟨0, 0, none⟩ = some (.iface 191 (.pointer (some x))) := errB HI3.out.bel h0 he
      have hw3 : w.heap.size < w3.heap.size := HI3.out.lt
      have hbx := HI3.out.box
      have j0 := (blk_cell hbx 0).trans rfl
      have j1 := (blk_cell hbx 1).trans rfl
      have fj : ∀ j, w3.frozen? ⟨w.heap.size, j, none⟩ = false := fun j => HI3.out.frozen j
      clear hk hb3 hbx i0 i1 fi
    · obtain ⟨la, lb, lk, hlf⟩ : ∃ la lb lk, leftOf l t.toNat = (la, lb, lk) := ⟨_, _, _, rfl⟩
      have HN := hideIt (atV_yes (l := l) (t := t) (by unfold atB; rw [HO.out, HK.out]; rfl) hlf)
      rw [hlf]
      clear hlf
      dsimp only
      go_wp2_with fail
      obtain ⟨Wm, hWm⟩ : ∃ Wm, w3.alloc (.cells #[.int .i64 la, .int .i64 lb] 30) = Wm := ⟨_, rfl⟩
      have hbm : Below w3.heap.size w3 Wm := by rw [← hWm]; exact (Below.refl _ _).alloc (Nat.le_refl _) _
      have hmk : Wm.heap[w3.heap.size]? = some (.cells #[.int .i64 la, .int .i64 lb] 30 (0, 0)) := by rw [← hWm]; exact World.alloc_heap_new _ _
      have HIM := hideIt (HI3.out.below hbm)
      have k0 := (blk_cell HIM.out.box 0).trans rfl
      have k1 := (blk_cell HIM.out.box 1).trans rfl
      have fk : ∀ j, Wm.frozen? ⟨w.heap.size, j, none⟩ = false := fun j => HIM.out.frozen j
      have m0 := (blk_cell hmk 0).trans rfl
      have m1 := (blk_cell hmk 1).trans rfl
      have herrm : Wm.cell? ⟨0, 0, none⟩ = some (.iface 191 (.pointer (some x))) := errB HIM.out.bel h0 he
      rw [hWm]
      clear hWm hbm hmk j0 j1 fj herr3
      generalize w3.heap.size = M at *
      have n1 : ¬ M = w.heap.size := by omega
      have n2 : ¬ w.heap.size = M := by omega
      have n3 : ¬ 0 = w.heap.size := by omega
      have n4 : ¬ w.heap.size = 0 := by omega
      go_region_held3 (fun w' => w'.cell? ⟨M, 0, none⟩ = some (.int .i64 la) ∧ w'.cell? ⟨M, 1, none⟩ = some (.int .i64 lb) ∧ w'.cell? ⟨0, 0, none⟩ = some (.iface 191 (.pointer (some x))))
        (first | exact ⟨m0, m1, herrm⟩ | (simp [go_sem, m0, m1, herrm, n1, n2, n3, n4]))
        (first | (go_at_call 59; refine (is_nil x _).mono ?_; rintro e w'' ⟨rfl, rfl⟩))
      go_wp2
      exact bodyPost_ret (v := .tuple #[.agg #[.int .i64 la, .int .i64 lb], .bool true]) (by simp [results, Tryd.results22, go_sem, k0, k1]) rfl ⟨by rw [HN.out], ((HIM.out.bel.setCell (p := ⟨w.heap.size, 0, none⟩) (Nat.le_refl _) _).setCell (p := ⟨w.heap.size, 1, none⟩) (Nat.le_refl _) _).drew⟩
    · have HN := hideIt (atV_no (l := l) (t := t) (by unfold atB; rw [HO.out, HK.out]; rfl))
      go_wp2_with fail
      obtain ⟨Wm, hWm⟩ : ∃ Wm, w3.alloc (.cells #[.int .i64 0, .int .i64 0] 30) = Wm := ⟨_, rfl⟩
      have hbm : Below w3.heap.size w3 Wm := by rw [← hWm]; exact (Below.refl _ _).alloc (Nat.le_refl _) _
      have hmk : Wm.heap[w3.heap.size]? = some (.cells #[.int .i64 0, .int .i64 0] 30 (0, 0)) := by rw [← hWm]; exact World.alloc_heap_new _ _
      have HIM := hideIt (HI3.out.below hbm)
      have k0 := (blk_cell HIM.out.box 0).trans rfl
      have k1 := (blk_cell HIM.out.box 1).trans rfl
      have fk : ∀ j, Wm.frozen? ⟨w.heap.size, j, none⟩ = false := fun j => HIM.out.frozen j
      have m0 := (blk_cell hmk 0).trans rfl
      have m1 := (blk_cell hmk 1).trans rfl
      have herrm : Wm.cell? ⟨0, 0, none⟩ = some (.iface 191 (.pointer (some x))) := errB HIM.out.bel h0 he
      rw [hWm]
      clear hWm hbm hmk j0 j1 fj herr3
      generalize w3.heap.size = M at *
      have n1 : ¬ M = w.heap.size := by omega
      have n2 : ¬ w.heap.size = M := by omega
      have n3 : ¬ 0 = w.heap.size := by omega
      have n4 : ¬ w.heap.size = 0 := by omega
      go_region_held3 (fun w' => w'.cell? ⟨M, 0, none⟩ = some (.int .i64 0) ∧ w'.cell? ⟨M, 1, none⟩ = some (.int .i64 0) ∧ w'.cell? ⟨0, 0, none⟩ = some (.iface 191 (.pointer (some x))))
        (first | exact ⟨m0, m1, herrm⟩ | (simp [go_sem, m0, m1, herrm, n1, n2, n3, n4]))
        (first | (go_at_call 59; refine (is_same x _).mono ?_; rintro e w'' ⟨rfl, rfl⟩))
      go_wp2
      exact bodyPost_ret (v := .tuple #[.agg #[.int .i64 0, .int .i64 0], .bool false]) (by simp [results, Tryd.results22, go_sem, k0, k1]) rfl ⟨by rw [HN.out], ((HIM.out.bel.setCell (p := ⟨w.heap.size, 0, none⟩) (Nat.le_refl _) _).setCell (p := ⟨w.heap.size, 1, none⟩) (Nat.le_refl _) _).drew⟩
  · have HN := hideIt (atV_no (l := l) (t := t) (by unfold atB; rw [HO.out]; rfl))
    go_wp2_with (first | (go_at_call 59; refine (is_same x _).mono ?_; rintro e w'' ⟨rfl, rfl⟩))
    have hbz := blk_below (set_two (u' := .int .i64 0) (v' := .int .i64 0) HI1.out.box) ((Below.refl _ _).alloc (Nat.le_refl _) (.cells #[.map none, .map none, .map none] 86))
    have v0 := (blk_cell hbz 0).trans rfl
    have v1 := (blk_cell hbz 1).trans rfl
    exact bodyPost_ret (v := .tuple #[.agg #[.int .i64 0, .int .i64 0], .bool false]) (by simp [results, Tryd.results22, go_sem, v0, v1]) rfl ⟨by rw [HN.out], ((HI1.out.bel.setCell (p := ⟨w.heap.size, 0, none⟩) (Nat.le_refl _) _).setCell (p := ⟨w.heap.size, 1, none⟩) (Nat.le_refl _) _).alloc (by simp [World.setCell]; omega) _⟩
end Go.Proofs.YtkbogcbppenaaaaDoor

namespace Go.Proofs.YtkbogcbppenaaaaDoor
open Go.RowKit
set_option linter.unusedSimpArgs false
set_option linter.unusedVariables false
attribute [local go_sem ↓] Go.wp_at_zero Go.wp_at_succ

theorem eqId_one (a b : Int) (w : World) :
    Calls Tryd.prog 23 #[.agg #[.int .i64 a, .int .i64 b], .agg #[.int .i64 a, .int .i64 b]] w fun e w' => e = .returned (.bool true) ∧ Below w.heap.size w w' := by
  go_enter Tryd.func23, Tryd.ntmps23
  go_wp2
  go_ret
  exact ⟨rfl, by go_grown⟩
/-- A box with an id in it, in memory that has grown. -/
structure IX (b : Nat) (u v : Int) (w W : World) : Prop where
  box : W.heap[b]? = some (.cells #[.int .i64 u, .int .i64 v] 30 (0, 0))
  bel : Below w.heap.size w W
theorem IX.below {b : Nat} {u v : Int} {w W W' : World} (h : IX b u v w W) (hb : Below W.heap.size W W') : IX b u v w W' := ⟨blk_below h.box hb, Bstep h.bel hb⟩

set_option maxRecDepth 100000 in
set_option maxHeartbeats 1000000 in
theorem walkMarkAt (l : List Op7) (p : Option Addr) (cap : Nat) (t : Int) (x : Addr) (w : World) (hl : ArgOps w p l) (hcap : l.length ≤ cap) (hmax : cap ≤ maxLen)
    (he : w.cell? ⟨0, 0, none⟩ = some (.iface 191 (.pointer (some x)))) (h0 : 0 < w.heap.size) (hwf : wf64 t) :
    Calls Tryd.prog 4 #[.slice p l.length cap, .int .i64 t] w fun e w' => e = .returned (.bool true) ∧ Below w.heap.size w w' := by
  have HA := hideIt hl
  clear hl
  by_cases hn : l.length ≤ 1048576
  · go_enter Tryd.func4, Tryd.ntmps4
    go_wp2_with (first | (go_at_call 15; refine (sz_small _ _ _ _ hn).mono ?_; rintro e w' ⟨rfl, hw'⟩; rw [hw']; clear hw'))
    refine (toOpS_any l p cap _ HA.out hn hcap).mono ?_
    rintro e w1 ⟨rfl, hA1, hB1⟩
    have HA1 := hideIt hA1
    have HB1 := hideIt hB1
    clear hA1 hB1
    go_wp2_with fail
    refine (specAt_any l _ _ _ _ HA1.out hn (Nat.le_refl _)).mono ?_
    rintro e w2 ⟨rfl, hB2⟩
    unfold atV
    obtain ⟨ia, hia⟩ : ∃ ia, (atI l t).1 = ia := ⟨_, rfl⟩
    obtain ⟨ib, hib⟩ : ∃ ib, (atI l t).2 = ib := ⟨_, rfl⟩
    obtain ⟨zz, hzz⟩ : ∃ zz, atB l t = zz := ⟨_, rfl⟩
    have HE : Hid (atV l t = .tuple #[.agg #[.int .i64 ia, .int .i64 ib], .bool zz]) := by show atV l t = _; unfold atV; rw [hia, hib, hzz]
    rw [hia, hib, hzz]
    clear hia hib hzz
    have HB2 := hideIt (Bstep HB1.out hB2)
    clear hB2 HA1 HB1
    go_wp2_with fail
    have HX2 : Hid (IX w2.heap.size ia ib w (w2.alloc (.cells #[.int .i64 ia, .int .i64 ib] 30))) := ⟨World.alloc_heap_new _ _, HB2.out.alloc HB2.out.size _⟩
    refine (toOpS_any l p cap _ (HA.out.below HX2.out.bel) hn hcap).mono ?_
    rintro e w4 ⟨rfl, hA4, hB4⟩
    have HA4 : Hid (OpsAt w4 (w2.heap.size + 1) l) := (by have h := hA4; simp only [World.size_alloc] at h; exact h)
    have HX4 := hideIt (HX2.out.below hB4)
    clear hA4 hB4 HX2
    go_wp2_with fail
    refine (implAt_any l _ _ _ hwf x _ HA4.out hn (Nat.le_refl _) (errB HX4.out.bel h0 he) (posB HX4.out.bel h0)).mono ?_
    rintro e w6 ⟨rfl, hB6⟩
    rw [HE.out]
    have HA6 := hideIt (HA4.out.below hB6 HA4.out.1)
    have HX6 := hideIt (HX4.out.below hB6)
    have i0 := (blk_cell HX6.out.box 0).trans rfl
    have i1 := (blk_cell HX6.out.box 1).trans rfl
    have hbl := (Array.getElem?_eq_some_iff.1 HX6.out.box).1
    have HY6 : Hid (IX w6.heap.size ia ib w (w6.alloc (.cells #[.int .i64 ia, .int .i64 ib] 30))) := ⟨World.alloc_heap_new _ _, HX6.out.bel.alloc HX6.out.bel.size _⟩
    have HA7 := hideIt (HA6.out.below ((Below.refl _ _).alloc (Nat.le_refl _) (.cells #[.int .i64 ia, .int .i64 ib] 30)) HA6.out.1)
    clear hB6 HA4 HX4 HA6
    go_wp2_with fail
    refine (eqId_one _ _ _).mono ?_
    rintro e w7 ⟨rfl, hB7⟩
    have HB7 := hideIt (Bstep HY6.out.bel hB7)
    have HA8 := hideIt (HA7.out.below hB7 HA7.out.1)
    clear hB7 HA7 HY6 HX6 i0 i1 hbl
    go_wp2_with fail
    refine (toOpS_any l p cap _ (HA.out.below HB7.out) hn hcap).mono ?_
    rintro e w8 ⟨rfl, hA9, hB8⟩
    have HA89 := hideIt (HA8.out.below hB8 HA8.out.1)
    have HA9 := hideIt hA9
    have HB8 := hideIt (Bstep HB7.out hB8)
    clear hA9 hB8
    go_wp2_with fail
    refine (eqOpS_same l _ _ _ _ _ HA89.out HA9.out hn (Nat.le_refl _) (Nat.le_refl _)).mono ?_
    rintro e w9 ⟨rfl, hB9⟩
    have HB9 := hideIt (Bstep HB8.out hB9)
    clear hB9
    go_wp2
    go_ret
    exact ⟨rfl, HB9.out⟩
  · go_enter Tryd.func4, Tryd.ntmps4
    go_wp2_with (first | (go_at_call 15; refine (sz_big _ _ _ _ (by omega) (by omega)).mono ?_; rintro e w' ⟨rfl, rfl⟩))
    go_ret
    exact ⟨rfl, Below.refl _ _⟩
end Go.Proofs.YtkbogcbppenaaaaDoor

namespace Go.Proofs.YtkbogcbppenaaaaDoor
open Go.ChangeShapes Go.WideShapes Go.ChangeAt Go.RowKit Go.Joins

set_option maxRecDepth 100000 in
theorem fnExactMarkAt_lifted (os : Os) (started : os.Started) (H : Type) (enc : TypeId × Value → H) :
    ReturnsInHanded {} Tryd.checked os 4 .any (fun w args => (Rows.fnExactMarkAtSpec.pre enc Tryd.prog Tryd.f4 [] false w args ∧ laidMetH Tryd.prog laid1 w) ∧ sizedMet enc Tryd.prog Tryd.f4 (OpenSpec.ofChange Rows.fnExactMarkAtSpec) false w args)
      (Rows.fnExactMarkAtSpec.post enc Tryd.prog Tryd.f4 false true false false) := by
  refine returnsInHanded_of_change_and (C := Tryd.checked) (X := fun w _ => laidMetH Tryd.prog laid1 w) (fun _ _ _ hh h => h.of_heap hh) own started (by kernel_rfl) Tryd.func4
    (ChangeSpec.witness_shaped (enc := enc) (C := Tryd.checked) (os := os) (X := fun w _ => laidMetH Tryd.prog laid1 w) false (World.doorLaid Tryd.prog 28 os) #[.slice none 0 0, .int .i64 0] 8 rfl (World.shaped_of_RefB (by kernel_rfl) (by kernel_rfl)) (by kernel_rfl) (by kernel_rfl) (by kernel_rfl) (door_met os _)) ?_
  intro W base args ds gs before hval0 hW _ _ hL _
  have hval : ∀ (j : Nat) t v, Tryd.f4.params[j]? = some t → args[j]? = some v → Value.okWide Tryd.prog W .any base t v := hval0
  have hW' := hW
  obtain ⟨p, q, hA0, hV0, rfl, hfz, hnd⟩ := hW
  have hA : DataW.TrodAll enc Tryd.prog W 0 (fun _ => true) true Tryd.f4.params.toList args.toList ds p := hA0
  have hV : DataW.TrodVars enc Tryd.prog W (fun _ => true) [errName] gs q := hV0
  rw [Tryd.params4] at hA hval
  obtain ⟨v0, v1, d0, d1, p0, p1, rfl, rfl, rfl, h0, h1⟩ := trodAll_two hA
  have kk0 := h0
  have lt0 : ∀ x ∈ p0, x.block < W.heap.size := by obtain ⟨m, hm⟩ := kk0; exact DataW.trod_lt m _ _ _ hm
  have kk1 := h1
  have lt1 : ∀ x ∈ p1, x.block < W.heap.size := by obtain ⟨m, hm⟩ := kk1; exact DataW.trod_lt m _ _ _ hm
  obtain ⟨x, hv, hc, hpos⟩ := of_laid hL
  obtain ⟨rfl, rfl⟩ := hV.unique (vars_read1 enc gErr tErr Tryd.underlying88 hv trivial _)
  obtain ⟨pa0, l0, cap0, rfl, hcap0, hmax0, hargs0⟩ := open_ops (hval 0 22 v0 rfl rfl) h0
  obtain ⟨n1, rfl, wn1⟩ := open_int (hval 1 3 v1 rfl rfl) h1
  clear hA0 hV0 hval0
  refine (walkMarkAt l0 pa0 cap0 n1 x W hargs0 hcap0 hmax0 hc hpos wn1).mono fun e W' ⟨he, bel⟩ => ?_
  subst he
  exact ⟨_, rfl, _, _, _, [], _, [.cell 0 0], hW', trodAll_mk1 (shut_bool Tryd.underlying4 _), (trodAll_cons_mk (Below.trod laidOut (by kernel_rfl) (of_decide_eq_true (by kernel_rfl)) kk0 bel lt0) (trodAll_cons_mk (Below.trod laidOut (by kernel_rfl) (of_decide_eq_true (by kernel_rfl)) kk1 bel lt1) trodAll_mk0)), vars_read1 enc gErr tErr Tryd.underlying88 (var_kept bel hpos hv) trivial _, bel.frame _, fun h => by cases h⟩

theorem fnExactMarkAt_row : Rows.FnExactMarkAtSaid :=
  OpenClaim.holds_of_wide 4 Tryd.f4 rfl rfl rfl rfl rfl rfl rfl ⟨rfl, rfl, rfl, rfl, rfl⟩ rfl rfl rfl rfl rfl (by kernel_rfl) Tryd.func4 (by kernel_rfl)
    (of_decide_eq_true (by kernel_rfl)) (by unfold Func.isWrapper; first | (rw [if_pos (by decide +kernel)]; kernel_rfl) | (rw [if_neg (by decide +kernel)]; exact ⟨rfl, rfl⟩))
    (fun os started H enc _ => fnExactMarkAt_lifted os started H enc)

/-- THE STATEMENT. -/
theorem fnExactMarkAt_holds : Rows.FnExactMarkAtCardSaid :=
  Claim7.holds_tied_plain_at .later [] Rows.fnExactMarkAtCard.laidKinds true Rows.fnExactMarkAtCard.stood.harness true
    fnExactMarkAt_row (fun _ h => by cases h) (by kernel_rfl) (fun _ h => by cases h) fnExactMarkAt_row_tie rfl ⟨rfl, rfl⟩ (by kernel_rfl) rfl
    (fun f fn hf hfn => by
      obtain rfl : f = 4 := Option.some.inj ((show Tryd.prog.funcNamed Rows.fnExactMarkAtRow.func = some 4 by kernel_rfl).symm.trans hf) |>.symm
      obtain rfl : fn = Tryd.f4 := (Option.some.inj (Tryd.func4.symm.trans hfn)).symm
      exact ⟨by kernel_rfl, fun j t ht => by
        rw [Tryd.params4] at ht
        have hm : t ∈ [22, 3] := by simpa using Array.mem_of_getElem? ht
        have hall : ([22, 3].all fun u => !Tryd.prog.wantsStandIn u) = true := by kernel_rfl
        exact (show Tryd.prog.wantsStandIn t = false by simpa using List.all_eq_true.1 hall t hm)⟩)
    (by kernel_rfl)
#print axioms fnExactMarkAt_holds
end Go.Proofs.YtkbogcbppenaaaaDoor
