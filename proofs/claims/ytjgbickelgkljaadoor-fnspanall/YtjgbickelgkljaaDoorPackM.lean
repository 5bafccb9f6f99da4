/- The contract of the program's MarkAt. -/
import Derived.Test.YtjgbickelgkljaaDoorPackG
import Derived.Test.YtjgbickelgkljaaDoorPackH
namespace Go.Proofs.YtjgbickelgkljaaDoor
open Go.RowKit Go.Shelf
set_option linter.unusedSimpArgs false
set_option linter.unusedVariables false
attribute [local go_sem ↓] Go.wp_at_zero Go.wp_at_succ

theorem wf64_iff {n : Int} : wf64 n ↔ -9223372036854775808 ≤ n ∧ n ≤ 9223372036854775807 := by
  constructor
  · intro h
    simp [wf64, Lit.wf, IntKind.min, IntKind.max, IntKind.signed, IntKind.bits] at h
    omega
  · exact wf_small
/-- A box that is to be answered, still nothing, in memory that has grown. -/
structure IB (w W : World) : Prop where
  box : W.heap[w.heap.size]? = some (.cells #[.int .i64 0, .int .i64 0] 31 (0, 0))
  bel : Below w.heap.size w W
theorem IB.start (w : World) : IB w (w.alloc (.cells #[.int .i64 0, .int .i64 0] 31)) := ⟨World.alloc_heap_new _ _, (Below.refl _ _).alloc (Nat.le_refl _) _⟩
theorem IB.below {w W W' : World} (h : IB w W) (hb : Below W.heap.size W W') : IB w W' := ⟨blk_below h.box hb, Bstep h.bel hb⟩
theorem IB.lt {w W : World} (h : IB w W) : w.heap.size < W.heap.size := (Array.getElem?_eq_some_iff.1 h.box).1
theorem IB.frozen {w W : World} (h : IB w W) (j : Nat) : W.frozen? ⟨w.heap.size, j, none⟩ = false := by simp [World.frozen?, h.box]

set_option maxRecDepth 100000 in
set_option maxHeartbeats 2000000 in
theorem signAhead_any (l : List Op7) (hops : opsB l = true) (hn : l.length ≤ 1048576) (w0 : World) (b1 b2 b3 base : Nat) (hT : TreeAt w0 b1 b2 b3 base l) (t : Int) (ht : wf64 t) (x : Addr) (w : World) (hW : Below w0.heap.size w0 w)
    (he : w.cell? ⟨0, 0, none⟩ = some (.iface 183 (.pointer (some x)))) (h0 : 0 < w.heap.size) :
    Calls Tryd.prog 93 #[.agg #[.map (some b1), .map (some b2), .map (some b3)], .int .i64 t] w fun e w' =>
      ((inB t 0 (shownI (lvs l)).length = true ∧ e = .returned (.tuple #[.agg #[.int .i64 (leftOf l t.toNat).1, .int .i64 (leftOf l t.toNat).2.1], .nilIface])) ∨ (inB t 0 (shownI (lvs l)).length = false ∧ e = .returned (.tuple #[.agg #[.int .i64 0, .int .i64 0], .iface 183 (.pointer (some x))]))) ∧ Below w.heap.size w w' := by
  have HW := hideIt hW
  have HTT := hideIt hT
  have HO := hideIt hops
  clear hW hT hops
  go_enter Tryd.func93, Tryd.ntmps93
  have A2 : Hid (∃ W2, ((w.alloc (.cells #[.map (some b1), .map (some b2), .map (some b3)] 108)).alloc (.cells #[.int .i64 0, .int .i64 0] 31)) = W2 ∧ W2.heap[w.heap.size + 1]? = some (.cells #[.int .i64 0, .int .i64 0] 31 (0, 0)) ∧ Below w.heap.size w W2) := by
    refine ⟨_, rfl, ?_, ((Below.refl _ _).alloc (Nat.le_refl _) _).alloc (by simp) _⟩
    have h := World.alloc_heap_new (w.alloc (.cells #[.map (some b1), .map (some b2), .map (some b3)] 108)) (.cells #[.int .i64 0, .int .i64 0] 31)
    rw [World.size_alloc] at h
    exact h
  by_cases hneg : t < 0
  · go_wp2
    obtain ⟨W2, hW2, hbx, hb2⟩ := A2.out
    rw [hW2]
    have herr := errB hb2 h0 he
    have i0 := (blk_cell hbx 0).trans rfl
    have i1 := (blk_cell hbx 1).trans rfl
    have fi : ∀ j, W2.frozen? ⟨w.heap.size + 1, j, none⟩ = false := fun j => by simp [World.frozen?, hbx]
    have HB := hideIt hb2
    clear hW2 A2 hbx hb2
    generalize hS1 : w.heap.size + 1 = S1 at *
    have n0 : ¬ 0 = S1 := by omega
    have n1 : ¬ S1 = 0 := by omega
    go_region_held3 (fun w' => w'.cell? ⟨0, 0, none⟩ = some (.iface 183 (.pointer (some x)))) (first | exact herr | (simp [go_sem, herr, n0, n1])) (fail)
    go_wp2
    exact bodyPost_ret (v := .tuple #[.agg #[.int .i64 0, .int .i64 0], .iface 183 (.pointer (some x))]) (by simp [results, Tryd.results93, go_sem, i0, i1]) rfl ⟨.inr ⟨by simp [inB]; omega, rfl⟩, ((HB.out.setCell (p := ⟨S1, 0, none⟩) (by show w.heap.size ≤ S1; omega) _).setCell (p := ⟨S1, 1, none⟩) (by show w.heap.size ≤ S1; omega) _).drew⟩
  · by_cases hz : t = 0
    · subst hz
      go_wp2
      obtain ⟨W2, hW2, hbx, hb2⟩ := A2.out
      rw [hW2]
      have i0 := (blk_cell hbx 0).trans rfl
      have i1 := (blk_cell hbx 1).trans rfl
      exact bodyPost_ret (v := .tuple #[.agg #[.int .i64 0, .int .i64 0], .nilIface]) (by simp [results, Tryd.results93, go_sem, i0, i1]) rfl ⟨.inl ⟨by simp [inB], rfl⟩, hb2⟩
    · have hwi : IntKind.i64.wrap (t - 1) = t - 1 := by
        obtain ⟨h1, h2⟩ := wf64_iff.1 ht
        exact IntWalk.i64_in (t - 1) ⟨by omega, by omega⟩
      go_wp2_with fail
      obtain ⟨W2, hW2, hbx, hb2⟩ := A2.out
      rw [hW2]
      have HBX := hideIt hbx
      have HB2 := hideIt hb2
      clear hW2 A2 hbx hb2
      refine (callsIn_wide.1 (signAt_in l HO.out hn w0 b1 b2 b3 base HTT.out 3 (Nat.le_refl _) (t - 1) x _ (HW.out.trans (HB2.out.mono HW.out.size)) (errB HB2.out h0 he) (posB HB2.out h0))).mono ?_
      rintro e w3 ⟨(⟨k, j, y, hk, hj, hy, rfl⟩ | ⟨hno, rfl⟩), hb3⟩
      all_goals
        have hbx3 := blk_below HBX.out hb3
        have HB3 := hideIt (Bstep HB2.out hb3)
        have i0 := (blk_cell hbx3 0).trans rfl
        have i1 := (blk_cell hbx3 1).trans rfl
        have fi : ∀ j, w3.frozen? ⟨w.heap.size + 1, j, none⟩ = false := fun j => by simp [World.frozen?, hbx3]
        clear hb3 hbx3 HBX HB2
        generalize hS1 : w.heap.size + 1 = S1 at *
      · have HTT' : Hid (inB t 0 (shownI (lvs l)).length = true ∧ leftOf l t.toNat = (y.a, y.b, j + 1)) := by
          have hlt := (List.getElem?_eq_some_iff.1 hj).1
          refine ⟨by simp [inB]; omega, ?_⟩
          rw [show t.toNat = k + 1 by omega]
          exact leftOf_succ hj hy
        clear hk hj hy hwi ht
        generalize y.a = ya at *
        generalize y.b = yb at *
        go_wp2
        exact bodyPost_ret (v := .tuple #[.agg #[.int .i64 ya, .int .i64 yb], .nilIface]) (by simp [results, Tryd.results93, go_sem, i0, i1]) rfl ⟨.inl ⟨HTT'.out.1, by rw [HTT'.out.2]⟩, (HB3.out.setCell (p := ⟨S1, 0, none⟩) (by show w.heap.size ≤ S1; omega) _).setCell (p := ⟨S1, 1, none⟩) (by show w.heap.size ≤ S1; omega) _⟩
      · have HNO : Hid (inB t 0 (shownI (lvs l)).length = false) := by
          have h := hno
          simp [inB] at h
          show inB t 0 (shownI (lvs l)).length = false
          simp [inB]
          omega
        clear hno hwi ht
        go_wp2
        exact bodyPost_ret (v := .tuple #[.agg #[.int .i64 0, .int .i64 0], .iface 183 (.pointer (some x))]) (by simp [results, Tryd.results93, go_sem, i0, i1]) rfl ⟨.inr ⟨HNO.out, rfl⟩, (HB3.out.setCell (p := ⟨S1, 0, none⟩) (by show w.heap.size ≤ S1; omega) _).setCell (p := ⟨S1, 1, none⟩) (by show w.heap.size ≤ S1; omega) _⟩
end Go.Proofs.YtjgbickelgkljaaDoor

namespace Go.Proofs.YtjgbickelgkljaaDoor
open Go.RowKit
set_option linter.unusedSimpArgs false
set_option linter.unusedVariables false
attribute [local go_sem ↓] Go.wp_at_zero Go.wp_at_succ

/-- Whether there is such a place. -/
def atB (l : List Op7) (t : Int) : Bool := opsB l && inB t 0 (shownI (lvs l)).length
/-- The sign ahead of it. -/
def atQ (l : List Op7) (t : Int) : Int × Int := if atB l t = true then ((leftOf l t.toNat).1, (leftOf l t.toNat).2.1) else (0, 0)
def atV (l : List Op7) (t : Int) : Value := .tuple #[.agg #[.int .i64 (atQ l t).1, .int .i64 (atQ l t).2], .bool (atB l t)]
theorem atV_no {l : List Op7} {t : Int} (h : atB l t = false) : atV l t = .tuple #[.agg #[.int .i64 0, .int .i64 0], .bool false] := by unfold atV atQ; rw [h]; rfl
theorem atV_yes {l : List Op7} {t : Int} {a b : Int} {k : Nat} (h : atB l t = true) (hl : leftOf l t.toNat = (a, b, k)) : atV l t = .tuple #[.agg #[.int .i64 a, .int .i64 b], .bool true] := by unfold atV atQ; rw [h, if_pos rfl, hl]

set_option maxRecDepth 100000 in
set_option maxHeartbeats 1000000 in
theorem specAt_any (l : List Op7) (g cap : Nat) (t : Int) (w : World) (hl : OpsAt w g l) (hn : l.length ≤ 1048576) (hcap : l.length ≤ cap) :
    Calls Tryd.prog 50 #[.slice (some ⟨g, 0, none⟩) l.length cap, .int .i64 t] w fun e w' => e = .returned (atV l t) ∧ Below w.heap.size w w' := by
  have HL := hideIt hl
  have hgw := hl.1
  clear hl
  have HIB := hideIt (IB.start w)
  go_enter Tryd.func50, Tryd.ntmps50
  go_wp2_with fail
  refine (specLeaves_any l _ _ _ (HL.out.below HIB.out.bel hgw) hn hcap).mono ?_
  rintro e w1 ⟨G, c, rfl, hr, hb1⟩
  have hc : (lfs l (standL l)).length ≤ c := by
    rcases hr.2 with ⟨h, _⟩ | ⟨g', c', cur, h, _, _, h2, _⟩
    · cases h
    · cases h; rw [lfs_len]; exact h2
  rw [lfs_cells, ← lfs_len l (standL l)] at hr
  rw [← lfs_len l (standL l)]
  have hln : (lfs l (standL l)).length ≤ 1048576 := by rw [lfs_len]; exact Nat.le_trans (stand_len l) hn
  have HR := hideIt hr
  have HI1 := hideIt (HIB.out.below hb1)
  clear hr hb1 HIB
  go_wp2_with fail
  refine (l3Shown_any (lfs l (standL l)) G c _ _ HR.out hln hc).mono ?_
  rintro e w2 ⟨S, c3, rfl, hr2, hb2⟩
  have HS2 := hideIt hr2
  have HR2 := hideIt (rowKeep HR.out hb2)
  have HI2 := hideIt (HI1.out.below hb2)
  clear hr2 hb2 HI1 HR
  go_wp2_with fail
  refine (specOps_any l _ _ _ (HL.out.below HI2.out.bel hgw) hn hcap).mono ?_
  rintro e w3 ⟨rfl, hb3⟩
  have HS3 := hideIt (rowKeep HS2.out hb3)
  have HR3 := hideIt (rowKeep HR2.out hb3)
  have HI3 := hideIt (HI2.out.below hb3)
  clear hb3 HI2 HR2 HS2
  have hbx := HI3.out.box
  have i0 := (blk_cell hbx 0).trans rfl
  have i1 := (blk_cell hbx 1).trans rfl
  have fi : ∀ j, w3.frozen? ⟨w.heap.size, j, none⟩ = false := fun j => HI3.out.frozen j
  have hwl := HI3.out.lt
  have HB3 := hideIt HI3.out.bel
  clear hbx HI3
  cases ho : opsB l
  all_goals have HO := hideIt ho; clear ho
  · have HN := hideIt (atV_no (l := l) (t := t) (by unfold atB; rw [HO.out]; rfl))
    go_wp2
    exact bodyPost_ret (v := .tuple #[.agg #[.int .i64 0, .int .i64 0], .bool false]) (by simp [results, Tryd.results50, go_sem, i0, i1]) rfl ⟨by rw [HN.out], (HB3.out.setCell (p := ⟨w.heap.size, 0, none⟩) (Nat.le_refl _) _).setCell (p := ⟨w.heap.size, 1, none⟩) (Nat.le_refl _) _⟩
  · have HE : Hid (lfs l (standL l) = lvs l) := by show lfs l (standL l) = lvs l; unfold standL lvs; rw [HO.out]; rfl
    have HLN := hideIt (lvs_len HO.out)
    have hsn : (shownI (lvs l)).length ≤ 36 := Nat.le_trans (shownTo_len _ _) HLN.out
    rw [HE.out] at hc hln
    have HS4 : Hid (w3.ownsRow w1.heap.size 3 1 (.slice (some ⟨S, 0, none⟩) (shownI (lvs l)).length c3) (shownI (lvs l)).length (natCells (shownI (lvs l)))) := by have h := HS3.out; rw [HE.out] at h; exact h
    have HR4 : Hid (w3.ownsRow (w.alloc (.cells #[.int .i64 0, .int .i64 0] 31)).heap.size 72 4 (.slice (some ⟨G, 0, none⟩) (lvs l).length c) (lvs l).length (lfCells (lvs l))) := by have h := HR3.out; rw [HE.out] at h; exact h
    rw [HE.out]
    clear HS3 HR3
    cases hi : inB t 0 (shownI (lvs l)).length
    all_goals have HIN := hideIt hi; clear hi
    · have HN := hideIt (atV_no (l := l) (t := t) (by unfold atB; rw [HO.out, HIN.out]; rfl))
      go_wp2_with (first | (go_at_call 86; refine (l6In_any _ _ _ _).mono ?_; rintro e w' ⟨rfl, hw'⟩; subst hw'; rw [HIN.out]))
      exact bodyPost_ret (v := .tuple #[.agg #[.int .i64 0, .int .i64 0], .bool false]) (by simp [results, Tryd.results50, go_sem, i0, i1]) rfl ⟨by rw [HN.out], (HB3.out.setCell (p := ⟨w.heap.size, 0, none⟩) (Nat.le_refl _) _).setCell (p := ⟨w.heap.size, 1, none⟩) (Nat.le_refl _) _⟩
    · have HAB : Hid (atB l t = true) := by show atB l t = true; unfold atB; rw [HO.out, HIN.out]; rfl
      by_cases ht0 : t = 0
      · subst ht0
        have HN := hideIt (atV_yes (l := l) (t := 0) HAB.out (leftOf_zero l))
        go_wp2_with (first | (go_at_call 86; refine (l6In_any _ _ _ _).mono ?_; rintro e w' ⟨rfl, hw'⟩; subst hw'; rw [HIN.out]))
        exact bodyPost_ret (v := .tuple #[.agg #[.int .i64 0, .int .i64 0], .bool true]) (by simp [results, Tryd.results50, go_sem, i0, i1]) rfl ⟨(congrArg Ending.returned HN.out).symm, (HB3.out.setCell (p := ⟨w.heap.size, 0, none⟩) (Nat.le_refl _) _).setCell (p := ⟨w.heap.size, 1, none⟩) (Nat.le_refl _) _⟩
      · obtain ⟨k, hkt, hk⟩ : ∃ k : Nat, t = (k : Int) + 1 ∧ k + 1 ≤ (shownI (lvs l)).length := by
          have h := HIN.out
          simp [inB] at h
          exact ⟨t.toNat - 1, by omega, by omega⟩
        obtain ⟨j, x, hj, hx, hjl⟩ := shown_leaf (l := l) (k := k) (by omega)
        have HN := hideIt (atV_yes (l := l) (t := t) HAB.out ((congrArg (leftOf l) (show t.toNat = k + 1 by omega)).trans (leftOf_succ hj hx)))
        have hS := (World.ownsRow.cellAt HS4.out k (by omega)).trans (natCells_at hj)
        obtain ⟨q0, q1, _, _⟩ := lfCells_at (lvs l) j x hx
        have z0 := (World.ownsRow.cellAt HR4.out (j * 4) (by omega)).trans q0
        have z1 := (World.ownsRow.cellAt HR4.out (j * 4 + 1) (by omega)).trans q1
        have hSl := (World.ownsRow.lt HS4.out S rfl).2
        have hGl := (World.ownsRow.lt HR4.out G rfl).2
        have hk' : (k : Int) < ((shownI (lvs l)).length : Int) := by omega
        have hj' : (j : Int) < ((lvs l).length : Int) := by omega
        have hj0 : (0 : Int) ≤ (j : Int) := by omega
        have hk0 : (0 : Int) ≤ (k : Int) := by omega
        have hwi : IntKind.i64.wrap (t - 1) = k := by rw [show t - 1 = k by omega]; exact IntWalk.i64_in (k : Int) ⟨by omega, by omega⟩
        generalize x.a = xa at *
        generalize x.b = xb at *
        clear q0 q1 hj hx hkt
        go_wp2_with (first | (go_at_call 86; refine (l6In_any _ _ _ _).mono ?_; rintro e w' ⟨rfl, hw'⟩; subst hw'; rw [HIN.out]))
        exact bodyPost_ret (v := .tuple #[.agg #[.int .i64 xa, .int .i64 xb], .bool true]) (by simp [results, Tryd.results50, go_sem, i0, i1]) rfl ⟨(congrArg Ending.returned HN.out).symm, (HB3.out.setCell (p := ⟨w.heap.size, 0, none⟩) (Nat.le_refl _) _).setCell (p := ⟨w.heap.size, 1, none⟩) (Nat.le_refl _) _⟩
end Go.Proofs.YtjgbickelgkljaaDoor

namespace Go.Proofs.YtjgbickelgkljaaDoor
open Go.RowKit Go.Shelf
set_option linter.unusedSimpArgs false
set_option linter.unusedVariables false
attribute [local go_sem ↓] Go.wp_at_zero Go.wp_at_succ

set_option maxRecDepth 100000 in
set_option maxHeartbeats 2000000 in
theorem implAt_any (l : List Op7) (g cap : Nat) (t : Int) (hwf : wf64 t) (x : Addr) (w : World) (hl : OpsAt w g l) (hn : l.length ≤ 1048576) (hcap : l.length ≤ cap)
    (he : w.cell? ⟨0, 0, none⟩ = some (.iface 183 (.pointer (some x)))) (h0 : 0 < w.heap.size) :
    Calls Tryd.prog 51 #[.slice (some ⟨g, 0, none⟩) l.length cap, .int .i64 t] w fun e w' => e = .returned (atV l t) ∧ Below w.heap.size w w' := by
  have HL := hideIt hl
  have hgw := hl.1
  clear hl
  have HIB := hideIt (IB.start w)
  go_enter Tryd.func51, Tryd.ntmps51
  go_wp2_with fail
  generalize w.alloc (.cells #[.int .i64 0, .int .i64 0] 31) = W0 at *
  refine (treeOf_any l g cap x _ (HL.out.below HIB.out.bel hgw) hn hcap (errB HIB.out.bel h0 he) (posB HIB.out.bel h0)).mono ?_
  rintro e w1 ⟨(⟨ht, b1, b2, b3, base, rfl, hT⟩ | ⟨ht, rfl⟩), hb1⟩
  all_goals
    have HO := hideIt ht
    have HI1 := hideIt (HIB.out.below hb1)
    have herr1 : w1.cell? ⟨0, 0, none⟩ = some (.iface 183 (.pointer (some x))) := errB HI1.out.bel h0 he
    have hp1 : 0 < w1.heap.size := posB HI1.out.bel h0
    have hmw : w.heap.size < w1.heap.size := HI1.out.lt
    have hbx := HI1.out.box
    have i0 := (blk_cell hbx 0).trans rfl
    have i1 := (blk_cell hbx 1).trans rfl
    have fi : ∀ j, w1.frozen? ⟨w.heap.size, j, none⟩ = false := fun j => HI1.out.frozen j
    clear ht hb1 HIB hbx
  · have HTT := hideIt hT
    clear hT
    go_wp2_with (first | (go_at_call 66; refine (is_nil x _).mono ?_; rintro e w'' ⟨rfl, rfl⟩))
    have HB2 : Hid (Below w1.heap.size w1 (w1.alloc (.cells #[.map (some b1), .map (some b2), .map (some b3)] 108))) := (Below.refl _ _).alloc (Nat.le_refl _) _
    refine (signAhead_any l HO.out hn w1 b1 b2 b3 base HTT.out t hwf x _ HB2.out (errB HB2.out hp1 herr1) (posB HB2.out hp1)).mono ?_
    rintro e w3 ⟨(⟨hk, rfl⟩ | ⟨hk, rfl⟩), hb3⟩
    all_goals
      have HI3 := hideIt (HI1.out.below (Bstep HB2.out hb3))
      have HK := hideIt hk
      have herr3 : w3.cell? ⟨0, 0, none⟩ = some (.iface 183 (.pointer (some x))) := errB HI3.out.bel h0 he
      have hw3 : w.heap.size < w3.heap.size := HI3.out.lt
      have hbx := HI3.out.box
      have j0 := (blk_cell hbx 0).trans rfl
      have j1 := (blk_cell hbx 1).trans rfl
      have fj : ∀ j, w3.frozen? ⟨w.heap.size, j, none⟩ = false := fun j => HI3.out.frozen j
      clear hk hb3 hbx i0 i1 fi
    · obtain ⟨la, lb, lk, hlf⟩ : ∃ la lb lk, leftOf l t.toNat = (la, lb, lk) := ⟨_, _, _, rfl⟩
      have HN := hideIt (atV_yes (l := l) (t := t) (by unfold atB; rw [HO.out, HK.out]; rfl) hlf)
      rw [hlf]
      clear hlf
      dsimp only
      go_wp2_with fail
      obtain ⟨Wm, hWm⟩ : ∃ Wm, w3.alloc (.cells #[.int .i64 la, .int .i64 lb] 31) = Wm := ⟨_, rfl⟩
      have hbm : Below w3.heap.size w3 Wm := by rw [← hWm]; exact (Below.refl _ _).alloc (Nat.le_refl _) _
      have hmk : Wm.heap[w3.heap.size]? = some (.cells #[.int .i64 la, .int .i64 lb] 31 (0, 0)) := by rw [← hWm]; exact World.alloc_heap_new _ _
      have HIM := hideIt (HI3.out.below hbm)
      have k0 := (blk_cell HIM.out.box 0).trans rfl
      have k1 := (blk_cell HIM.out.box 1).trans rfl
      have fk : ∀ j, Wm.frozen? ⟨w.heap.size, j, none⟩ = false := fun j => HIM.out.frozen j
      have m0 := (blk_cell hmk 0).trans rfl
      have m1 := (blk_cell hmk 1).trans rfl
      have herrm : Wm.cell? ⟨0, 0, none⟩ = some (.iface 183 (.pointer (some x))) := errB HIM.out.bel h0 he
      rw [hWm]
      clear hWm hbm hmk j0 j1 fj herr3
      generalize w3.heap.size = M at *
      have n1 : ¬ M = w.heap.size := by omega
      have n2 : ¬ w.heap.size = M := by omega
      have n3 : ¬ 0 = w.heap.size := by omega
      have n4 : ¬ w.heap.size = 0 := by omega
      go_region_held3 (fun w' => w'.cell? ⟨M, 0, none⟩ = some (.int .i64 la) ∧ w'.cell? ⟨M, 1, none⟩ = some (.int .i64 lb) ∧ w'.cell? ⟨0, 0, none⟩ = some (.iface 183 (.pointer (some x))))
        (first | exact ⟨m0, m1, herrm⟩ | (simp [go_sem, m0, m1, herrm, n1, n2, n3, n4]))
        (first | (go_at_call 66; refine (is_nil x _).mono ?_; rintro e w'' ⟨rfl, rfl⟩))
      go_wp2
      exact bodyPost_ret (v := .tuple #[.agg #[.int .i64 la, .int .i64 lb], .bool true]) (by simp [results, Tryd.results51, go_sem, k0, k1]) rfl ⟨by rw [HN.out], ((HIM.out.bel.setCell (p := ⟨w.heap.size, 0, none⟩) (Nat.le_refl _) _).setCell (p := ⟨w.heap.size, 1, none⟩) (Nat.le_refl _) _).drew⟩
    · have HN := hideIt (atV_no (l := l) (t := t) (by unfold atB; rw [HO.out, HK.out]; rfl))
      go_wp2_with fail
      obtain ⟨Wm, hWm⟩ : ∃ Wm, w3.alloc (.cells #[.int .i64 0, .int .i64 0] 31) = Wm := ⟨_, rfl⟩
      have hbm : Below w3.heap.size w3 Wm := by rw [← hWm]; exact (Below.refl _ _).alloc (Nat.le_refl _) _
      have hmk : Wm.heap[w3.heap.size]? = some (.cells #[.int .i64 0, .int .i64 0] 31 (0, 0)) := by rw [← hWm]; exact World.alloc_heap_new _ _
      have HIM := hideIt (HI3.out.below hbm)
      have k0 := (blk_cell HIM.out.box 0).trans rfl
      have k1 := (blk_cell HIM.out.box 1).trans rfl
      have fk : ∀ j, Wm.frozen? ⟨w.heap.size, j, none⟩ = false := fun j => HIM.out.frozen j
      have m0 := (blk_cell hmk 0).trans rfl
      have m1 := (blk_cell hmk 1).trans rfl
      have herrm : Wm.cell? ⟨0, 0, none⟩ = some (.iface 183 (.pointer (some x))) := errB HIM.out.bel h0 he
      rw [hWm]
      clear hWm hbm hmk j0 j1 fj herr3
      generalize w3.heap.size = M at *
      have n1 : ¬ M = w.heap.size := by omega
      have n2 : ¬ w.heap.size = M := by omega
      have n3 : ¬ 0 = w.heap.size := by omega
      have n4 : ¬ w.heap.size = 0 := by omega
      go_region_held3 (fun w' => w'.cell? ⟨M, 0, none⟩ = some (.int .i64 0) ∧ w'.cell? ⟨M, 1, none⟩ = some (.int .i64 0) ∧ w'.cell? ⟨0, 0, none⟩ = some (.iface 183 (.pointer (some x))))
        (first | exact ⟨m0, m1, herrm⟩ | (simp [go_sem, m0, m1, herrm, n1, n2, n3, n4]))
        (first | (go_at_call 66; refine (is_same x _).mono ?_; rintro e w'' ⟨rfl, rfl⟩))
      go_wp2
      exact bodyPost_ret (v := .tuple #[.agg #[.int .i64 0, .int .i64 0], .bool false]) (by simp [results, Tryd.results51, go_sem, k0, k1]) rfl ⟨by rw [HN.out], ((HIM.out.bel.setCell (p := ⟨w.heap.size, 0, none⟩) (Nat.le_refl _) _).setCell (p := ⟨w.heap.size, 1, none⟩) (Nat.le_refl _) _).drew⟩
  · have HN := hideIt (atV_no (l := l) (t := t) (by unfold atB; rw [HO.out]; rfl))
    go_wp2_with (first | (go_at_call 66; refine (is_same x _).mono ?_; rintro e w'' ⟨rfl, rfl⟩))
    have hbz := blk_below (set_two (u' := .int .i64 0) (v' := .int .i64 0) HI1.out.box) ((Below.refl _ _).alloc (Nat.le_refl _) (.cells #[.map none, .map none, .map none] 108))
    have v0 := (blk_cell hbz 0).trans rfl
    have v1 := (blk_cell hbz 1).trans rfl
    exact bodyPost_ret (v := .tuple #[.agg #[.int .i64 0, .int .i64 0], .bool false]) (by simp [results, Tryd.results51, go_sem, v0, v1]) rfl ⟨by rw [HN.out], ((HI1.out.bel.setCell (p := ⟨w.heap.size, 0, none⟩) (Nat.le_refl _) _).setCell (p := ⟨w.heap.size, 1, none⟩) (Nat.le_refl _) _).alloc (by simp [World.setCell]; omega) _⟩
end Go.Proofs.YtjgbickelgkljaaDoor
