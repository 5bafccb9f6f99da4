/-
  PROVED: marks stand as signs do: whoever stands ahead has a place that is not behind, the text between is as long as it is from place to place, and a mark is told just if its sign was put, or it is nothing, whatever bytes what was done and the marks are drawn from; and MarkSpan answers as the specification's does (the given card of FnMarkOrder), for every input; the one listed variable, the program's error, reads as its own initialiser lays it.
-/
import Derived.Test.YtjgbickelgkljaaDoorPackP
import Derived.Test.YtjgbickelgkljaaDoorPackF
import Derived.Test.YtjgbickelgkljaaDoorPackOrder
import Derived.Test.YtjgbickelgkljaaDoorPackA
import Derived.Test.YtjgbickelgkljaaDoorPackC
import Derived.Test.YtjgbickelgkljaaDoorPackO
import Derived.Test.YtjgbickelgkljaaDoorTie
import Derived.Test.YtjgbickelgkljaaDoorCards
import Derived.SevenTiedAt
namespace Go.Proofs.YtjgbickelgkljaaDoor
open Go.RowKit
set_option linter.unusedSimpArgs false
set_option linter.unusedVariables false
attribute [local go_sem ↓] Go.wp_at_zero Go.wp_at_succ

set_option maxRecDepth 100000 in
set_option maxHeartbeats 4000000 in
theorem drawMarkSpan_any (w : World) (p : Option Addr) (n cap : Nat) (h : ArgBytes w p n) (hcap : n ≤ cap) (hn : n ≤ 1048576) :
    Calls Tryd.prog 53 #[.slice p n cap] w fun e w' => ∃ G c L, ∃ ar am br bm : Int, e = .returned (.tuple #[.slice (some ⟨G, 0, none⟩) (L : List Op7).length c, .agg #[.int .i64 ar, .int .i64 am], .agg #[.int .i64 br, .int .i64 bm]]) ∧ L.length ≤ 74 ∧ IdIn L ar am ∧ IdIn L br bm ∧ OwnOps w' w.heap.size G c L ∧ Below w.heap.size w w' := by
  have H := hideIt h
  clear h
  go_enter Tryd.func53, Tryd.ntmps53
  go_wp2_with fail
  have hB0 : Below w.heap.size w ((w.alloc (.cells #[.int .i64 0, .int .i64 0] 31)).alloc (.cells #[.int .i64 0, .int .i64 0] 31)) := ((Below.refl _ _).alloc (Nat.le_refl _) _).alloc (by simp) _
  have hX0 : Bx ((w.alloc (.cells #[.int .i64 0, .int .i64 0] 31)).alloc (.cells #[.int .i64 0, .int .i64 0] 31)) w.heap.size 0 0 := (Bx.new w 0 0 _).below ((Below.refl _ _).alloc (Nat.le_refl _) _)
  have hX1 : Bx ((w.alloc (.cells #[.int .i64 0, .int .i64 0] 31)).alloc (.cells #[.int .i64 0, .int .i64 0] 31)) (w.heap.size + 1) 0 0 := by
    have := Bx.new (w.alloc (.cells #[.int .i64 0, .int .i64 0] 31)) 0 0 31
    rw [World.size_alloc] at this
    exact this
  have hne01 : ¬ w.heap.size + 1 = w.heap.size := by omega
  have hb01 : w.heap.size ≤ w.heap.size + 1 := by omega
  generalize (w.alloc (.cells #[.int .i64 0, .int .i64 0] 31)).alloc (.cells #[.int .i64 0, .int .i64 0] 31) = W0 at *
  generalize hR1 : w.heap.size + 1 = r1 at *
  refine (open_any _ p n cap (H.out.below hB0) hcap hn).mono ?_
  rintro e wS ⟨n', rfl, hRS, hbS⟩
  have HX0 := hideIt (hX0.below hbS)
  have HX1 := hideIt (hX1.below hbS)
  have HBS := hideIt (hB0.trans (hbS.mono hB0.size))
  have HRS := hideIt hRS
  have hqS := hRS.lt
  have hl0 := hX0.lt
  have hl1 := hX1.lt
  have hzS := hbS.size
  clear hRS hbS hX0 hX1 hB0
  generalize W0.heap.size = q at *
  go_wp2_with fail
  refine (l71Off_any _ _ p n' cap 0 HRS.out (by omega)).mono ?_
  rintro e w2 ⟨⟨G, c, _, rfl, ⟨L, rfl, hL, hS2⟩⟩, ⟨k2, hk2, hR2⟩, hO2⟩
  have HS2 := hideIt hS2
  have HR2 := hideIt hR2
  have HO2 := hideIt hO2
  have hG2 := hS2.lt
  have hz2 := hO2.size
  clear hS2 hR2 hO2
  go_wp2_with fail
  refine (l71SomeL_any _ _ p n' cap k2 _ G c L hL HR2.out (by omega) HS2.out hqS HR2.out.lt).mono ?_
  rintro e w3 ⟨⟨ar, am, hia, rfl⟩, ⟨k3, hk3, hR3⟩, hO3⟩
  have hz3 := hO3.size
  have HIA := hideIt hia
  have HS3 := hideIt ((HS2.out.only hO3 (by omega)).below ((Below.refl _ _).alloc (Nat.le_refl _) (.cells #[.int .i64 ar, .int .i64 am] 31)))
  have HR3 := hideIt (hR3.alloc (.cells #[.int .i64 ar, .int .i64 am] 31))
  have HO3 := hideIt ((HO2.out.trans hO3).alloc hqS (.cells #[.int .i64 ar, .int .i64 am] 31))
  have HA3 := hideIt (Bx.new w3 ar am 31)
  clear hR3 hO3 hia HS2 HR2 HO2
  go_wp2_with fail
  have hA3 : wS.heap.size ≤ w3.heap.size := by omega
  have hAG : G ≠ w3.heap.size := by omega
  have hW3 : w3.heap.size < (w3.alloc (.cells #[.int .i64 ar, .int .i64 am] 31)).heap.size := by simp
  generalize w3.alloc (.cells #[.int .i64 ar, .int .i64 am] 31) = W3 at *
  generalize w3.heap.size = A at *
  refine (l71SomeL_any _ _ p n' cap k3 _ G c L hL HR3.out (by omega) HS3.out hqS HR3.out.lt).mono ?_
  rintro e w4 ⟨⟨br, bm, hib, rfl⟩, ⟨k4, hk4, hR4⟩, hO4⟩
  have hz4 := hO4.size
  have HU4 : Hid (DU w wS (w4.alloc (.cells #[.int .i64 br, .int .i64 bm] 31)) q G c L A w4.heap.size ar am br bm) :=
    ⟨(HO3.out.trans hO4).alloc hqS _, (HS3.out.only hO4 (by omega)).below ((Below.refl _ _).alloc (Nat.le_refl _) _), (HA3.out.only hO4 (by omega)).below ((Below.refl _ _).alloc (Nat.le_refl _) _), Bx.new w4 br bm _, HIA.out, hib⟩
  have HR4 := hideIt (hR4.alloc (.cells #[.int .i64 br, .int .i64 bm] 31))
  clear hR4 hO4 hib HS3 HR3 HO3 HA3 HIA
  go_wp2_with fail
  have hAB : A ≠ w4.heap.size := by omega
  have hB4 : wS.heap.size ≤ w4.heap.size := by omega
  have hBG : G ≠ w4.heap.size := by omega
  generalize w4.alloc (.cells #[.int .i64 br, .int .i64 bm] 31) = W4 at *
  generalize w4.heap.size = B at *
  go_loopw [9] (fun i wr => ∃ k j : Nat, k ≤ 8 ∧ j ≤ k4 + 20 * k ∧ i = .int .i64 k ∧ RdAt wr q p n' cap j ∧ ∃ ar am br bm : Int, DU w wS wr q G c L A B ar am br bm) (fun i _ => 9 - (intOf i).toNat)
  case atStart => exact ⟨0, k4, by omega, by omega, rfl, HR4.out, ar, am, br, bm, HU4.out⟩
  case round =>
    clear HR4 HU4
    obtain ⟨k, j, hk, hj, rfl, hR, ar, am, br, bm, hU⟩ := hrel
    have HR := hideIt hR
    have HU := hideIt hU
    clear hR hU
    by_cases hk8 : k < 8
    · have hk' : (k : Int) < 8 := by omega
      go_wp2_with fail
      refine (pick_any _ q p n' cap j 10 HR.out (by omega) (by omega) (by omega)).mono ?_
      rintro e w5 ⟨⟨x, hx0, hx1, rfl⟩, hR5, hO5⟩
      have HR := hideIt hR5
      have HU := hideIt (HU.out.next hqS hA3 hB4 hO5)
      clear hR5 hO5
      by_cases hz : x = 0
      · subst hz
        have hxa0 := HU.out.a.x0
        have hxa1 := HU.out.a.x1
        have hxb0 := HU.out.b.x0
        have hxb1 := HU.out.b.x1
        have hr0 := HX0.out.only HU.out.only (by omega)
        have hr1 := HX1.out.only HU.out.only (by omega)
        have c0 := hr0.x0
        have c1 := hr0.x1
        have cf := hr0.fz
        have d0 := hr1.x0
        have d1 := hr1.x1
        have df := hr1.fz
        have HOWN : Hid (OwnOps w5 w.heap.size G c L) := ownsRow_base (by omega) HU.out.own
        have HBEL : Hid (Below w.heap.size w w5) := HBS.out.trans (HU.out.only.below.mono (by omega))
        have HIA := hideIt HU.out.ia
        have HIB := hideIt HU.out.ib
        clear HU HR hr0 hr1
        have hn1 : ¬ A = w.heap.size := by omega
        have hn2 : ¬ B = w.heap.size := by omega
        have hn3 : ¬ A = r1 := by omega
        have hn4 : ¬ B = r1 := by omega
        have hn5 : ¬ w.heap.size = A := by omega
        have hn6 : ¬ w.heap.size = B := by omega
        have hn7 : ¬ r1 = A := by omega
        have hn8 : ¬ r1 = B := by omega
        have hne10 : ¬ w.heap.size = r1 := by omega
        go_wp2
        go_region_with (fail)
        all_goals
          go_wp2
          refine bodyPost_ret (v := .tuple #[.slice (some ⟨G, 0, none⟩) L.length c, .agg #[.int .i64 ar, .int .i64 am], .agg #[.int .i64 br, .int .i64 bm]]) (by simp [results, Tryd.results53, go_sem, c0, c1, d0, d1, hne01, hne10]) rfl ⟨G, c, L, ar, am, br, bm, rfl, hL, HIA.out, HIB.out, ?_, ?_⟩
          · exact fin4o HOWN.out (by omega) (by omega) _ _ _ _
          · exact fin4b HBEL.out hb01 _ _ _ _
      · have hpos : (0 : Int) < x := by omega
        have xa0 := HU.out.a.x0
        have xa1 := HU.out.a.x1
        have xb0 := HU.out.b.x0
        have xb1 := HU.out.b.x1
        have hlA := HU.out.a.lt
        have hlB := HU.out.b.lt
        rcases hund : (spanT L ar am br bm).toList.isEmpty.not with _ | _
        all_goals
          have hund : (spanT L ar am br bm).toList.isEmpty = _ := Bool.not_inj (hund.trans (Bool.not_not _).symm)
          simp only [Bool.not_true, Bool.not_false] at hund
          have HUN := hideIt hund
          clear hund
          go_wp2_with fail
          refine (specSpan_any L G c ar am br bm _ HU.out.own.at (by omega) HU.out.own.cap).mono ?_
          rintro e w6 ⟨rfl, hb6⟩
          have hTE := HUN.out
          generalize spanT L ar am br bm = TT at *
          clear HUN
          have HR := hideIt (HR.out.below hb6)
          have HU := hideIt (HU.out.below hqS hb6)
          clear hb6 xa0 xa1 xb0 xb1 hlA hlB
        · go_wp2_with fail
          refine (l71SomeL_any _ _ p n' cap (j + 1) _ G c L hL HR.out (by omega) HU.out.own hqS HR.out.lt).mono ?_
          rintro e w7 ⟨⟨ar', am', hia', rfl⟩, ⟨k7, hk7, hR7⟩, hO7⟩
          have HU := hideIt (HU.out.next hqS hA3 hB4 hO7)
          have HR := hideIt hR7
          have HIA' := hideIt hia'
          clear hR7 hO7 hia'
          have xa0 := HU.out.a.x0
          have xa1 := HU.out.a.x1
          have xaf := HU.out.a.fz
          go_wp2_with fail
          have HU := hideIt (HU.out.setA hqS hA3 hAB hAG ar' am' HIA'.out)
          have HR := hideIt (HRS.out.fin HR.out HU.out.only (fun y => by simp [go_sem, show ¬ A = q by omega, show ¬ q = A by omega]) (fun y => by simp))
          clear xa0 xa1 xaf
          generalize (w7.setCell ⟨A, 0, none⟩ (.int .i64 ar')).setCell ⟨A, 1, none⟩ (.int .i64 am') = W7 at *
          refine (l71SomeL_any _ _ p n' cap k7 _ G c L hL HR.out (by omega) HU.out.own hqS HR.out.lt).mono ?_
          rintro e w8 ⟨⟨br', bm', hib', rfl⟩, ⟨k8, hk8, hR8⟩, hO8⟩
          have HU := hideIt (HU.out.next hqS hA3 hB4 hO8)
          have HR := hideIt hR8
          have HIB' := hideIt hib'
          clear hR8 hO8 hib'
          have xb0 := HU.out.b.x0
          have xb1 := HU.out.b.x1
          have xbf := HU.out.b.fz
          go_wp2
          have HU := hideIt (HU.out.setB hqS hB4 hAB hBG br' bm' HIB'.out)
          have HR := hideIt (HRS.out.fin HR.out HU.out.only (fun y => by simp [go_sem, show ¬ B = q by omega, show ¬ q = B by omega]) (fun y => by simp))
          exact ⟨⟨k + 1, k8, by omega, by omega, by go_num, HR.out, ar', am', br', bm', HU.out⟩, by simp [intOf]; omega⟩
        · have hxa0 := HU.out.a.x0
          have hxa1 := HU.out.a.x1
          have hxb0 := HU.out.b.x0
          have hxb1 := HU.out.b.x1
          have hr0 := HX0.out.only HU.out.only (by omega)
          have hr1 := HX1.out.only HU.out.only (by omega)
          have c0 := hr0.x0
          have c1 := hr0.x1
          have cf := hr0.fz
          have d0 := hr1.x0
          have d1 := hr1.x1
          have df := hr1.fz
          have HOWN : Hid (OwnOps w6 w.heap.size G c L) := ownsRow_base (by omega) HU.out.own
          have HBEL : Hid (Below w.heap.size w w6) := HBS.out.trans (HU.out.only.below.mono (by omega))
          have HIA := hideIt HU.out.ia
          have HIB := hideIt HU.out.ib
          clear HU HR hr0 hr1
          have hn1 : ¬ A = w.heap.size := by omega
          have hn2 : ¬ B = w.heap.size := by omega
          have hn3 : ¬ A = r1 := by omega
          have hn4 : ¬ B = r1 := by omega
          have hn5 : ¬ w.heap.size = A := by omega
          have hn6 : ¬ w.heap.size = B := by omega
          have hn7 : ¬ r1 = A := by omega
          have hn8 : ¬ r1 = B := by omega
          have hne10 : ¬ w.heap.size = r1 := by omega
          go_wp2
          go_region_with (fail)
          all_goals
            go_wp2
            refine bodyPost_ret (v := .tuple #[.slice (some ⟨G, 0, none⟩) L.length c, .agg #[.int .i64 ar, .int .i64 am], .agg #[.int .i64 br, .int .i64 bm]]) (by simp [results, Tryd.results53, go_sem, c0, c1, d0, d1, hne01, hne10]) rfl ⟨G, c, L, ar, am, br, bm, rfl, hL, HIA.out, HIB.out, ?_, ?_⟩
            · exact fin4o HOWN.out (by omega) (by omega) _ _ _ _
            · exact fin4b HBEL.out hb01 _ _ _ _
    · have hk' : ¬ ((k : Int) < 8) := by omega
      have hxa0 := HU.out.a.x0
      have hxa1 := HU.out.a.x1
      have hxb0 := HU.out.b.x0
      have hxb1 := HU.out.b.x1
      have hr0 := HX0.out.only HU.out.only (by omega)
      have hr1 := HX1.out.only HU.out.only (by omega)
      have c0 := hr0.x0
      have c1 := hr0.x1
      have cf := hr0.fz
      have d0 := hr1.x0
      have d1 := hr1.x1
      have df := hr1.fz
      have HOWN : Hid (OwnOps wr w.heap.size G c L) := ownsRow_base (by omega) HU.out.own
      have HBEL : Hid (Below w.heap.size w wr) := HBS.out.trans (HU.out.only.below.mono (by omega))
      have HIA := hideIt HU.out.ia
      have HIB := hideIt HU.out.ib
      clear HU HR hr0 hr1
      have hn1 : ¬ A = w.heap.size := by omega
      have hn2 : ¬ B = w.heap.size := by omega
      have hn3 : ¬ A = r1 := by omega
      have hn4 : ¬ B = r1 := by omega
      have hn5 : ¬ w.heap.size = A := by omega
      have hn6 : ¬ w.heap.size = B := by omega
      have hn7 : ¬ r1 = A := by omega
      have hn8 : ¬ r1 = B := by omega
      have hne10 : ¬ w.heap.size = r1 := by omega
      go_wp2
      go_region_with (fail)
      all_goals
        go_wp2
        refine bodyPost_ret (v := .tuple #[.slice (some ⟨G, 0, none⟩) L.length c, .agg #[.int .i64 ar, .int .i64 am], .agg #[.int .i64 br, .int .i64 bm]]) (by simp [results, Tryd.results53, go_sem, c0, c1, d0, d1, hne01, hne10]) rfl ⟨G, c, L, ar, am, br, bm, rfl, hL, HIA.out, HIB.out, ?_, ?_⟩
        · exact fin4o HOWN.out (by omega) (by omega) _ _ _ _
        · exact fin4b HBEL.out hb01 _ _ _ _
end Go.Proofs.YtjgbickelgkljaaDoor

namespace Go.Proofs.YtjgbickelgkljaaDoor
open Go.RowKit
set_option linter.unusedSimpArgs false
set_option linter.unusedVariables false
attribute [local go_sem ↓] Go.wp_at_zero Go.wp_at_succ

set_option maxRecDepth 100000 in
set_option maxHeartbeats 4000000 in
theorem walkMarkOrder (w : World) (p : Option Addr) (n cap : Nat) (h : ArgBytes w p n) (hcap : n ≤ cap) (hmax : cap ≤ maxLen) (x : Addr)
    (he : w.cell? ⟨0, 0, none⟩ = some (.iface 183 (.pointer (some x)))) (h0 : 0 < w.heap.size) :
    Calls Tryd.prog 14 #[.slice p n cap] w fun e w' => e = .returned (.bool true) ∧ Below w.heap.size w w' := by
  have H := hideIt h
  clear h
  unfold maxLen at *
  by_cases hn : n ≤ 1048576
  · go_enter Tryd.func14, Tryd.ntmps14
    go_wp2_with fail
    refine (drawMarkSpan_any _ p n cap H.out hcap hn).mono ?_
    rintro e w1 ⟨G, c, L, ar, am, br, bm, rfl, hL, hia, hib, hS, hb1⟩
    have HS := hideIt hS
    have HB := hideIt hb1
    clear hS hb1 hia hib
    go_wp2_with fail
    have hB0 : Below w1.heap.size w1 ((w1.alloc (.cells #[.int .i64 ar, .int .i64 am] 31)).alloc (.cells #[.int .i64 br, .int .i64 bm] 31)) := ((Below.refl _ _).alloc (Nat.le_refl _) _).alloc (by simp) _
    have HW : Hid (SW w ((w1.alloc (.cells #[.int .i64 ar, .int .i64 am] 31)).alloc (.cells #[.int .i64 br, .int .i64 bm] 31)) G c w1.heap.size (w1.heap.size + 1) L ar am br bm) :=
      ⟨HS.out.below hB0, (Bx.new w1 ar am _).below ((Below.refl _ _).alloc (Nat.le_refl _) _), by
        have := Bx.new (w1.alloc (.cells #[.int .i64 ar, .int .i64 am] 31)) br bm 31
        rw [World.size_alloc] at this
        exact this, Bstep HB.out hB0⟩
    clear hB0 HS HB
    generalize (w1.alloc (.cells #[.int .i64 ar, .int .i64 am] 31)).alloc (.cells #[.int .i64 br, .int .i64 bm] 31) = w2 at *
    generalize w1.heap.size + 1 = B at *
    generalize w1.heap.size = A at *
    refine (implSpan_any L G c _ _ _ _ x _ HW.out.own.at (by omega) HW.out.own.cap (errB HW.out.bel h0 he) (posB HW.out.bel h0)).mono ?_
    rintro e w3 ⟨rfl, hb3⟩
    have HW := hideIt (HW.out.below hb3)
    clear hb3
    obtain ⟨a0, a1, af, al⟩ := HW.out.a
    obtain ⟨b0, b1, bf, bl⟩ := HW.out.b
    go_wp2_with fail
    refine (specSpan_any L G c _ _ _ _ _ HW.out.own.at (by omega) HW.out.own.cap).mono ?_
    rintro e w4 ⟨rfl, hb4⟩
    have HW := hideIt (HW.out.below hb4)
    clear hb4 a0 a1 af al b0 b1 bf bl
    obtain ⟨a0, a1, af, al⟩ := HW.out.a
    obtain ⟨b0, b1, bf, bl⟩ := HW.out.b
    obtain ⟨TS, hTS⟩ : ∃ TS, spanT L ar am br bm = TS := ⟨_, rfl⟩
    have HTS := hideIt hTS
    rw [hTS]
    clear hTS
    go_wp2_with fail
    refine (specOps_any L G c _ HW.out.own.at (by omega) HW.out.own.cap).mono ?_
    rintro e w5 ⟨rfl, hb5⟩
    have HW := hideIt (HW.out.below hb5)
    clear hb5 a0 a1 af al b0 b1 bf bl
    obtain ⟨a0, a1, af, al⟩ := HW.out.a
    obtain ⟨b0, b1, bf, bl⟩ := HW.out.b
    cases ho : opsB L
    all_goals have HO := hideIt ho; clear ho
    · go_wp2_with fail
      refine (specSpan_any L G c _ _ _ _ _ HW.out.own.at (by omega) HW.out.own.cap).mono ?_
      rintro e w6 ⟨rfl, hb6⟩
      have HW := hideIt (HW.out.below hb6)
      rw [HTS.out]
      clear hb6 a0 a1 af al b0 b1 bf bl
      go_wp2
      go_ret
      exact ⟨by simp, HW.out.bel⟩
    · have hle : (lvs L).length ≤ 1048576 := Nat.le_trans (lvs_len HO.out) (by omega)
      have hA := at_mark4 HO.out ar am
      have hB := at_mark4 HO.out br bm
      have HA := hideIt hA
      have HBm := hideIt hB
      clear hA hB a0 a1 af al b0 b1 bf bl
      go_wp2_with fail
      refine (implLeaves_any L G c x _ HW.out.own.at (by omega) HW.out.own.cap (errB HW.out.bel h0 he) (posB HW.out.bel h0)).mono ?_
      rintro e w6 ⟨v, rfl, hrow, hb6⟩
      rw [show standL L = allO L by unfold standL; rw [if_pos HO.out]] at hrow
      have HR : Hid (w6.ownsRow w.heap.size 72 4 v (lvs L).length (lfCells (lvs L))) := ownsRow_base HW.out.bel.size hrow
      have HW := hideIt (HW.out.below hb6)
      clear hb6 hrow
      obtain ⟨a0, a1, af, al⟩ := HW.out.a
      obtain ⟨b0, b1, bf, bl⟩ := HW.out.b
      go_wp2_with fail
      refine (ltAt_any (lvs L) v _ ar am _ HR.out hle).mono ?_
      rintro e w7 ⟨rfl, hb7⟩
      have HR := hideIt (rowKeep HR.out hb7)
      have HW := hideIt (HW.out.below hb7)
      clear hb7 a0 a1 af al b0 b1 bf bl
      obtain ⟨a0, a1, af, al⟩ := HW.out.a
      obtain ⟨b0, b1, bf, bl⟩ := HW.out.b
      go_wp2_with fail
      refine (ltAt_any (lvs L) v _ br bm _ HR.out hle).mono ?_
      rintro e w8 ⟨rfl, hb8⟩
      have HW := hideIt (HW.out.below hb8)
      clear hb8 HR a0 a1 af al b0 b1 bf bl
      obtain ⟨a0, a1, af, al⟩ := HW.out.a
      obtain ⟨b0, b1, bf, bl⟩ := HW.out.b
      go_wp2_with fail
      refine (implPlace_any L G c ar am x _ HW.out.own.at (by omega) HW.out.own.cap (errB HW.out.bel h0 he) (posB HW.out.bel h0)).mono ?_
      rintro e w9 ⟨rfl, hb9⟩
      unfold plV
      have HW := hideIt (HW.out.below hb9)
      clear hb9 a0 a1 af al b0 b1 bf bl
      obtain ⟨a0, a1, af, al⟩ := HW.out.a
      obtain ⟨b0, b1, bf, bl⟩ := HW.out.b
      go_wp2_with fail
      refine (implPlace_any L G c br bm x _ HW.out.own.at (by omega) HW.out.own.cap (errB HW.out.bel h0 he) (posB HW.out.bel h0)).mono ?_
      rintro e w10 ⟨rfl, hb10⟩
      unfold plV
      have HW := hideIt (HW.out.below hb10)
      clear hb10 a0 a1 af al b0 b1 bf bl
      obtain ⟨a0, a1, af, al⟩ := HW.out.a
      obtain ⟨b0, b1, bf, bl⟩ := HW.out.b
      have hSZ : ∀ f t : Nat, markP L ar am = some f → markP L br bm = some t → f ≤ t → TS.size = t - f := fun f t h1 h2 h3 => by rw [← HTS.out]; exact span_size h1 h2 h3
      have HSZ := hideIt hSZ
      clear hSZ
      obtain ⟨j1, hj1, e1, e2⟩ | ⟨e1, rfl, rfl, e2⟩ | ⟨e1, ha1, e2⟩ | ⟨e1, rfl, hb1, e2⟩ := HA.out
      all_goals
        obtain ⟨j2, hj2, e3, e4⟩ | ⟨e3, rfl, rfl, e4⟩ | ⟨e3, ha2, e4⟩ | ⟨e3, rfl, hb2, e4⟩ := HBm.out
      all_goals
        (try rw [e1])
        (try rw [e2])
        (try rw [e3])
        (try rw [e4])
        simp only [pN, pB]
      · have hj10 : (0 : Int) ≤ (j1 : Int) := by omega
        have hj20 : (0 : Int) ≤ (j2 : Int) := by omega
        by_cases hgt : j2 < j1
        · have hgt' : (j2 : Int) < (j1 : Int) := by omega
          clear e1 e2 e3 e4
          generalize nShown ((lvs L).take (j1 + 1)) = n1 at *
          generalize nShown ((lvs L).take (j2 + 1)) = n2 at *
          go_wp2
          go_ret
          exact ⟨rfl, HW.out.bel⟩
        · have hgt' : ¬ (j2 : Int) < (j1 : Int) := by omega
          have hle12 := shown_mono (lvs L) (show j1 + 1 ≤ j2 + 1 by omega)
          have hsz := HSZ.out _ _ e2 e4 hle12
          have hn36 : nShown ((lvs L).take (j2 + 1)) ≤ 36 := Nat.le_trans (nShown_le _) (Nat.le_trans (List.length_take_le' _ _) (lvs_len HO.out))
          clear e1 e2 e3 e4
          generalize nShown ((lvs L).take (j1 + 1)) = n1 at *
          generalize nShown ((lvs L).take (j2 + 1)) = n2 at *
          have hsz' : (TS.size : Int) = (n2 : Int) - (n1 : Int) := by omega
          have hwr : IntKind.i64.wrap ((n2 : Int) - (n1 : Int)) = (n2 : Int) - (n1 : Int) := IntWalk.i64_in _ ⟨by omega, by omega⟩
          have hle' : (n1 : Int) ≤ (n2 : Int) := by omega
          clear hsz
          go_wp2
          go_ret
          exact ⟨rfl, HW.out.bel⟩
      all_goals
        (try (have hj10 : (0 : Int) ≤ (j1 : Int) := by omega))
        (try (have hj20 : (0 : Int) ≤ (j2 : Int) := by omega))
        clear e1 e2 e3 e4
        go_wp2
        go_ret
        exact ⟨rfl, HW.out.bel⟩
  · go_enter Tryd.func14, Tryd.ntmps14
    go_wp2
    go_ret
    exact ⟨rfl, Below.refl _ _⟩
end Go.Proofs.YtjgbickelgkljaaDoor

namespace Go.Proofs.YtjgbickelgkljaaDoor
open Go.ChangeShapes Go.WideShapes Go.ChangeAt Go.RowKit Go.Joins

set_option maxRecDepth 100000 in
theorem liftedFnMarkOrder (os : Os) (started : os.Started) (H : Type) (enc : TypeId × Value → H) :
    ReturnsInHanded {} Tryd.checked os 14 .any (fun w args => (Rows.fnMarkOrderSpec.pre enc Tryd.prog Tryd.f14 [] false w args ∧ laidMetH Tryd.prog laid1 w) ∧ sizedMet enc Tryd.prog Tryd.f14 (OpenSpec.ofChange Rows.fnMarkOrderSpec) false w args)
      (Rows.fnMarkOrderSpec.post enc Tryd.prog Tryd.f14 false true false false) := by
  refine returnsInHanded_of_change_and (C := Tryd.checked) (X := fun w _ => laidMetH Tryd.prog laid1 w) (fun _ _ _ hh h => h.of_heap hh) own started (by kernel_rfl) Tryd.func14
    (ChangeSpec.witness_shaped (enc := enc) (C := Tryd.checked) (os := os) (X := fun w _ => laidMetH Tryd.prog laid1 w) false (World.doorLaid Tryd.prog 28 os) #[.slice none 0 0] 8 rfl (World.shaped_of_RefB (by kernel_rfl) (by kernel_rfl)) (by kernel_rfl) (by kernel_rfl) (by kernel_rfl) (door_met os _)) ?_
  intro W base args ds gs before hval0 hW _ _ hL _
  have hval : ∀ (j : Nat) t v, Tryd.f14.params[j]? = some t → args[j]? = some v → Value.okWide Tryd.prog W .any base t v := hval0
  have hW' := hW
  obtain ⟨p, q, hA0, hV0, rfl, hfz, hnd⟩ := hW
  have hA : DataW.TrodAll enc Tryd.prog W 0 (fun _ => true) true Tryd.f14.params.toList args.toList ds p := hA0
  have hV : DataW.TrodVars enc Tryd.prog W (fun _ => true) [errName] gs q := hV0
  rw [Tryd.params14] at hA hval
  obtain ⟨v0, d0, rfl, rfl, h0⟩ := trodAll_one hA
  have k0 := h0
  have lt0 : ∀ x ∈ p, x.block < W.heap.size := by obtain ⟨m, hm⟩ := k0; exact DataW.trod_lt m _ _ _ hm
  obtain ⟨x, hv, hc, hpos⟩ := of_laid hL
  obtain ⟨rfl, rfl⟩ := hV.unique (vars_read1 enc gErr tErr Tryd.underlying83 hv trivial _)
  obtain ⟨q0, n0, c0, rfl, hc0, hm0, ha0⟩ := open_bytes (hval 0 22 v0 rfl rfl) h0
  clear hA0 hV0 hval0
  refine (walkMarkOrder W q0 n0 c0 ha0 hc0 hm0 x hc hpos).mono fun e W' ⟨he, bel⟩ => ?_
  subst he
  exact ⟨_, rfl, _, _, _, [], p, [.cell 0 0], hW', trodAll_mk1 (shut_bool Tryd.underlying4 _), trodAll_mk1 (Below.trod laidOut (by kernel_rfl) (of_decide_eq_true (by kernel_rfl)) k0 bel lt0), vars_read1 enc gErr tErr Tryd.underlying83 (var_kept bel hpos hv) trivial _, bel.frame _, fun h => by cases h⟩

theorem fnMarkOrder_row : Rows.FnMarkOrderSaid :=
  OpenClaim.holds_of_wide 14 Tryd.f14 rfl rfl rfl rfl rfl rfl rfl ⟨rfl, rfl, rfl, rfl, rfl⟩ rfl rfl rfl rfl rfl (by kernel_rfl) Tryd.func14 (by kernel_rfl)
    (of_decide_eq_true (by kernel_rfl)) (by unfold Func.isWrapper; first | (rw [if_pos (by decide +kernel)]; kernel_rfl) | (rw [if_neg (by decide +kernel)]; exact ⟨rfl, rfl⟩))
    (fun os started H enc _ => liftedFnMarkOrder os started H enc)

/-- THE STATEMENT. -/
theorem fnMarkOrder_holds : Rows.FnMarkOrderCardSaid :=
  Claim7.holds_tied_plain_at .later [] Rows.fnMarkOrderCard.laidKinds true Rows.fnMarkOrderCard.stood.harness true
    fnMarkOrder_row (fun _ h => by cases h) (by kernel_rfl) (fun _ h => by cases h) fnMarkOrder_row_tie rfl ⟨rfl, rfl⟩ (by kernel_rfl) rfl
    (fun f fn hf hfn => by
      obtain rfl : f = 14 := Option.some.inj ((show Tryd.prog.funcNamed Rows.fnMarkOrderRow.func = some 14 by kernel_rfl).symm.trans hf) |>.symm
      obtain rfl : fn = Tryd.f14 := (Option.some.inj (Tryd.func14.symm.trans hfn)).symm
      exact ⟨by kernel_rfl, fun j t ht => by
        rw [Tryd.params14] at ht
        have hm : t ∈ [22] := by simpa using Array.mem_of_getElem? ht
        have hall : ([22].all fun u => !Tryd.prog.wantsStandIn u) = true := by kernel_rfl
        exact (show Tryd.prog.wantsStandIn t = false by simpa using List.all_eq_true.1 hall t hm)⟩)
    (by kernel_rfl)
#print axioms fnMarkOrder_holds
end Go.Proofs.YtjgbickelgkljaaDoor
