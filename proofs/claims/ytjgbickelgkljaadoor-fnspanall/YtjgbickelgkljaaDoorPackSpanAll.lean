/-
  PROVED: from the beginning to the last mark is the text, and it is made whole of what is ahead of a mark and what is behind it, whatever bytes what was done and the marks are drawn from; and MarkSpan answers as the specification's does (the given card of FnSpanAll), for every input; the one listed variable, the program's error, reads as its own initialiser lays it.
-/
import Derived.Test.YtjgbickelgkljaaDoorPackP
import Derived.Test.YtjgbickelgkljaaDoorPackF
import Derived.Test.YtjgbickelgkljaaDoorPackM
import Derived.Test.YtjgbickelgkljaaDoorPackA
import Derived.Test.YtjgbickelgkljaaDoorPackC
import Derived.Test.YtjgbickelgkljaaDoorPackO
import Derived.Test.YtjgbickelgkljaaDoorTie
import Derived.Test.YtjgbickelgkljaaDoorCards
import Derived.SevenTiedAt
namespace Go.Proofs.YtjgbickelgkljaaDoor
open Go.RowKit
set_option linter.unusedSimpArgs false
set_option linter.unusedVariables false
attribute [local go_sem ↓] Go.wp_at_zero Go.wp_at_succ

set_option maxRecDepth 100000 in
set_option maxHeartbeats 4000000 in
theorem drawMarkSpan_any (w : World) (p : Option Addr) (n cap : Nat) (h : ArgBytes w p n) (hcap : n ≤ cap) (hn : n ≤ 1048576) :
    Calls Tryd.prog 53 #[.slice p n cap] w fun e w' => ∃ G c L, ∃ ar am br bm : Int, e = .returned (.tuple #[.slice (some ⟨G, 0, none⟩) (L : List Op7).length c, .agg #[.int .i64 ar, .int .i64 am], .agg #[.int .i64 br, .int .i64 bm]]) ∧ L.length ≤ 74 ∧ IdIn L ar am ∧ IdIn L br bm ∧ OwnOps w' w.heap.size G c L ∧ Below w.heap.size w w' := by
  have H := hideIt h
  clear h
  go_enter Tryd.func53, Tryd.ntmps53
  go_wp2_with fail
  have hB0 : Below w.heap.size w ((w.alloc (.cells #[.int .i64 0, .int .i64 0] 31)).alloc (.cells #[.int .i64 0, .int .i64 0] 31)) := ((Below.refl _ _).alloc (Nat.le_refl _) _).alloc (by simp) _
  have hX0 : Bx ((w.alloc (.cells #[.int .i64 0, .int .i64 0] 31)).alloc (.cells #[.int .i64 0, .int .i64 0] 31)) w.heap.size 0 0 := (Bx.new w 0 0 _).below ((Below.refl _ _).alloc (Nat.le_refl _) _)
  have hX1 : Bx ((w.alloc (.cells #[.int .i64 0, .int .i64 0] 31)).alloc (.cells #[.int .i64 0, .int .i64 0] 31)) (w.heap.size + 1) 0 0 := by
    have := Bx.new (w.alloc (.cells #[.int .i64 0, .int .i64 0] 31)) 0 0 31
    rw [World.size_alloc] at this
    exact this
  have hne01 : ¬ w.heap.size + 1 = w.heap.size := by omega
  have hb01 : w.heap.size ≤ w.heap.size + 1 := by omega
  generalize (w.alloc (.cells #[.int .i64 0, .int .i64 0] 31)).alloc (.cells #[.int .i64 0, .int .i64 0] 31) = W0 at *
  generalize hR1 : w.heap.size + 1 = r1 at *
  refine (open_any _ p n cap (H.out.below hB0) hcap hn).mono ?_
  rintro e wS ⟨n', rfl, hRS, hbS⟩
  have HX0 := hideIt (hX0.below hbS)
  have HX1 := hideIt (hX1.below hbS)
  have HBS := hideIt (hB0.trans (hbS.mono hB0.size))
  have HRS := hideIt hRS
  have hqS := hRS.lt
  have hl0 := hX0.lt
  have hl1 := hX1.lt
  have hzS := hbS.size
  clear hRS hbS hX0 hX1 hB0
  generalize W0.heap.size = q at *
  go_wp2_with fail
  refine (l71Off_any _ _ p n' cap 0 HRS.out (by omega)).mono ?_
  rintro e w2 ⟨⟨G, c, _, rfl, ⟨L, rfl, hL, hS2⟩⟩, ⟨k2, hk2, hR2⟩, hO2⟩
  have HS2 := hideIt hS2
  have HR2 := hideIt hR2
  have HO2 := hideIt hO2
  have hG2 := hS2.lt
  have hz2 := hO2.size
  clear hS2 hR2 hO2
  go_wp2_with fail
  refine (l71SomeL_any _ _ p n' cap k2 _ G c L hL HR2.out (by omega) HS2.out hqS HR2.out.lt).mono ?_
  rintro e w3 ⟨⟨ar, am, hia, rfl⟩, ⟨k3, hk3, hR3⟩, hO3⟩
  have hz3 := hO3.size
  have HIA := hideIt hia
  have HS3 := hideIt ((HS2.out.only hO3 (by omega)).below ((Below.refl _ _).alloc (Nat.le_refl _) (.cells #[.int .i64 ar, .int .i64 am] 31)))
  have HR3 := hideIt (hR3.alloc (.cells #[.int .i64 ar, .int .i64 am] 31))
  have HO3 := hideIt ((HO2.out.trans hO3).alloc hqS (.cells #[.int .i64 ar, .int .i64 am] 31))
  have HA3 := hideIt (Bx.new w3 ar am 31)
  clear hR3 hO3 hia HS2 HR2 HO2
  go_wp2_with fail
  have hA3 : wS.heap.size ≤ w3.heap.size := by omega
  have hAG : G ≠ w3.heap.size := by omega
  have hW3 : w3.heap.size < (w3.alloc (.cells #[.int .i64 ar, .int .i64 am] 31)).heap.size := by simp
  generalize w3.alloc (.cells #[.int .i64 ar, .int .i64 am] 31) = W3 at *
  generalize w3.heap.size = A at *
  refine (l71SomeL_any _ _ p n' cap k3 _ G c L hL HR3.out (by omega) HS3.out hqS HR3.out.lt).mono ?_
  rintro e w4 ⟨⟨br, bm, hib, rfl⟩, ⟨k4, hk4, hR4⟩, hO4⟩
  have hz4 := hO4.size
  have HU4 : Hid (DU w wS (w4.alloc (.cells #[.int .i64 br, .int .i64 bm] 31)) q G c L A w4.heap.size ar am br bm) :=
    ⟨(HO3.out.trans hO4).alloc hqS _, (HS3.out.only hO4 (by omega)).below ((Below.refl _ _).alloc (Nat.le_refl _) _), (HA3.out.only hO4 (by omega)).below ((Below.refl _ _).alloc (Nat.le_refl _) _), Bx.new w4 br bm _, HIA.out, hib⟩
  have HR4 := hideIt (hR4.alloc (.cells #[.int .i64 br, .int .i64 bm] 31))
  clear hR4 hO4 hib HS3 HR3 HO3 HA3 HIA
  go_wp2_with fail
  have hAB : A ≠ w4.heap.size := by omega
  have hB4 : wS.heap.size ≤ w4.heap.size := by omega
  have hBG : G ≠ w4.heap.size := by omega
  generalize w4.alloc (.cells #[.int .i64 br, .int .i64 bm] 31) = W4 at *
  generalize w4.heap.size = B at *
  go_loopw [9] (fun i wr => ∃ k j : Nat, k ≤ 8 ∧ j ≤ k4 + 20 * k ∧ i = .int .i64 k ∧ RdAt wr q p n' cap j ∧ ∃ ar am br bm : Int, DU w wS wr q G c L A B ar am br bm) (fun i _ => 9 - (intOf i).toNat)
  case atStart => exact ⟨0, k4, by omega, by omega, rfl, HR4.out, ar, am, br, bm, HU4.out⟩
  case round =>
    clear HR4 HU4
    obtain ⟨k, j, hk, hj, rfl, hR, ar, am, br, bm, hU⟩ := hrel
    have HR := hideIt hR
    have HU := hideIt hU
    clear hR hU
    by_cases hk8 : k < 8
    · have hk' : (k : Int) < 8 := by omega
      go_wp2_with fail
      refine (pick_any _ q p n' cap j 10 HR.out (by omega) (by omega) (by omega)).mono ?_
      rintro e w5 ⟨⟨x, hx0, hx1, rfl⟩, hR5, hO5⟩
      have HR := hideIt hR5
      have HU := hideIt (HU.out.next hqS hA3 hB4 hO5)
      clear hR5 hO5
      by_cases hz : x = 0
      · subst hz
        have hxa0 := HU.out.a.x0
        have hxa1 := HU.out.a.x1
        have hxb0 := HU.out.b.x0
        have hxb1 := HU.out.b.x1
        have hr0 := HX0.out.only HU.out.only (by omega)
        have hr1 := HX1.out.only HU.out.only (by omega)
        have c0 := hr0.x0
        have c1 := hr0.x1
        have cf := hr0.fz
        have d0 := hr1.x0
        have d1 := hr1.x1
        have df := hr1.fz
        have HOWN : Hid (OwnOps w5 w.heap.size G c L) := ownsRow_base (by omega) HU.out.own
        have HBEL : Hid (Below w.heap.size w w5) := HBS.out.trans (HU.out.only.below.mono (by omega))
        have HIA := hideIt HU.out.ia
        have HIB := hideIt HU.out.ib
        clear HU HR hr0 hr1
        have hn1 : ¬ A = w.heap.size := by omega
        have hn2 : ¬ B = w.heap.size := by omega
        have hn3 : ¬ A = r1 := by omega
        have hn4 : ¬ B = r1 := by omega
        have hn5 : ¬ w.heap.size = A := by omega
        have hn6 : ¬ w.heap.size = B := by omega
        have hn7 : ¬ r1 = A := by omega
        have hn8 : ¬ r1 = B := by omega
        have hne10 : ¬ w.heap.size = r1 := by omega
        go_wp2
        go_region_with (fail)
        all_goals
          go_wp2
          refine bodyPost_ret (v := .tuple #[.slice (some ⟨G, 0, none⟩) L.length c, .agg #[.int .i64 ar, .int .i64 am], .agg #[.int .i64 br, .int .i64 bm]]) (by simp [results, Tryd.results53, go_sem, c0, c1, d0, d1, hne01, hne10]) rfl ⟨G, c, L, ar, am, br, bm, rfl, hL, HIA.out, HIB.out, ?_, ?_⟩
          · exact fin4o HOWN.out (by omega) (by omega) _ _ _ _
          · exact fin4b HBEL.out hb01 _ _ _ _
      · have hpos : (0 : Int) < x := by omega
        have xa0 := HU.out.a.x0
        have xa1 := HU.out.a.x1
        have xb0 := HU.out.b.x0
        have xb1 := HU.out.b.x1
        have hlA := HU.out.a.lt
        have hlB := HU.out.b.lt
        rcases hund : (spanT L ar am br bm).toList.isEmpty.not with _ | _
        all_goals
          have hund : (spanT L ar am br bm).toList.isEmpty = _ := Bool.not_inj (hund.trans (Bool.not_not _).symm)
          simp only [Bool.not_true, Bool.not_false] at hund
          have HUN := hideIt hund
          clear hund
          go_wp2_with fail
          refine (specSpan_any L G c ar am br bm _ HU.out.own.at (by omega) HU.out.own.cap).mono ?_
          rintro e w6 ⟨rfl, hb6⟩
          have hTE := HUN.out
          generalize spanT L ar am br bm = TT at *
          clear HUN
          have HR := hideIt (HR.out.below hb6)
          have HU := hideIt (HU.out.below hqS hb6)
          clear hb6 xa0 xa1 xb0 xb1 hlA hlB
        · go_wp2_with fail
          refine (l71SomeL_any _ _ p n' cap (j + 1) _ G c L hL HR.out (by omega) HU.out.own hqS HR.out.lt).mono ?_
          rintro e w7 ⟨⟨ar', am', hia', rfl⟩, ⟨k7, hk7, hR7⟩, hO7⟩
          have HU := hideIt (HU.out.next hqS hA3 hB4 hO7)
          have HR := hideIt hR7
          have HIA' := hideIt hia'
          clear hR7 hO7 hia'
          have xa0 := HU.out.a.x0
          have xa1 := HU.out.a.x1
          have xaf := HU.out.a.fz
          go_wp2_with fail
          have HU := hideIt (HU.out.setA hqS hA3 hAB hAG ar' am' HIA'.out)
          have HR := hideIt (HRS.out.fin HR.out HU.out.only (fun y => by simp [go_sem, show ¬ A = q by omega, show ¬ q = A by omega]) (fun y => by simp))
          clear xa0 xa1 xaf
          generalize (w7.setCell ⟨A, 0, none⟩ (.int .i64 ar')).setCell ⟨A, 1, none⟩ (.int .i64 am') = W7 at *
          refine (l71SomeL_any _ _ p n' cap k7 _ G c L hL HR.out (by omega) HU.out.own hqS HR.out.lt).mono ?_
          rintro e w8 ⟨⟨br', bm', hib', rfl⟩, ⟨k8, hk8, hR8⟩, hO8⟩
          have HU := hideIt (HU.out.next hqS hA3 hB4 hO8)
          have HR := hideIt hR8
          have HIB' := hideIt hib'
          clear hR8 hO8 hib'
          have xb0 := HU.out.b.x0
          have xb1 := HU.out.b.x1
          have xbf := HU.out.b.fz
          go_wp2
          have HU := hideIt (HU.out.setB hqS hB4 hAB hBG br' bm' HIB'.out)
          have HR := hideIt (HRS.out.fin HR.out HU.out.only (fun y => by simp [go_sem, show ¬ B = q by omega, show ¬ q = B by omega]) (fun y => by simp))
          exact ⟨⟨k + 1, k8, by omega, by omega, by go_num, HR.out, ar', am', br', bm', HU.out⟩, by simp [intOf]; omega⟩
        · have hxa0 := HU.out.a.x0
          have hxa1 := HU.out.a.x1
          have hxb0 := HU.out.b.x0
          have hxb1 := HU.out.b.x1
          have hr0 := HX0.out.only HU.out.only (by omega)
          have hr1 := HX1.out.only HU.out.only (by omega)
          have c0 := hr0.x0
          have c1 := hr0.x1
          have cf := hr0.fz
          have d0 := hr1.x0
          have d1 := hr1.x1
          have df := hr1.fz
          have HOWN : Hid (OwnOps w6 w.heap.size G c L) := ownsRow_base (by omega) HU.out.own
          have HBEL : Hid (Below w.heap.size w w6) := HBS.out.trans (HU.out.only.below.mono (by omega))
          have HIA := hideIt HU.out.ia
          have HIB := hideIt HU.out.ib
          clear HU HR hr0 hr1
          have hn1 : ¬ A = w.heap.size := by omega
          have hn2 : ¬ B = w.heap.size := by omega
          have hn3 : ¬ A = r1 := by omega
          have hn4 : ¬ B = r1 := by omega
          have hn5 : ¬ w.heap.size = A := by omega
          have hn6 : ¬ w.heap.size = B := by omega
          have hn7 : ¬ r1 = A := by omega
          have hn8 : ¬ r1 = B := by omega
          have hne10 : ¬ w.heap.size = r1 := by omega
          go_wp2
          go_region_with (fail)
          all_goals
            go_wp2
            refine bodyPost_ret (v := .tuple #[.slice (some ⟨G, 0, none⟩) L.length c, .agg #[.int .i64 ar, .int .i64 am], .agg #[.int .i64 br, .int .i64 bm]]) (by simp [results, Tryd.results53, go_sem, c0, c1, d0, d1, hne01, hne10]) rfl ⟨G, c, L, ar, am, br, bm, rfl, hL, HIA.out, HIB.out, ?_, ?_⟩
            · exact fin4o HOWN.out (by omega) (by omega) _ _ _ _
            · exact fin4b HBEL.out hb01 _ _ _ _
    · have hk' : ¬ ((k : Int) < 8) := by omega
      have hxa0 := HU.out.a.x0
      have hxa1 := HU.out.a.x1
      have hxb0 := HU.out.b.x0
      have hxb1 := HU.out.b.x1
      have hr0 := HX0.out.only HU.out.only (by omega)
      have hr1 := HX1.out.only HU.out.only (by omega)
      have c0 := hr0.x0
      have c1 := hr0.x1
      have cf := hr0.fz
      have d0 := hr1.x0
      have d1 := hr1.x1
      have df := hr1.fz
      have HOWN : Hid (OwnOps wr w.heap.size G c L) := ownsRow_base (by omega) HU.out.own
      have HBEL : Hid (Below w.heap.size w wr) := HBS.out.trans (HU.out.only.below.mono (by omega))
      have HIA := hideIt HU.out.ia
      have HIB := hideIt HU.out.ib
      clear HU HR hr0 hr1
      have hn1 : ¬ A = w.heap.size := by omega
      have hn2 : ¬ B = w.heap.size := by omega
      have hn3 : ¬ A = r1 := by omega
      have hn4 : ¬ B = r1 := by omega
      have hn5 : ¬ w.heap.size = A := by omega
      have hn6 : ¬ w.heap.size = B := by omega
      have hn7 : ¬ r1 = A := by omega
      have hn8 : ¬ r1 = B := by omega
      have hne10 : ¬ w.heap.size = r1 := by omega
      go_wp2
      go_region_with (fail)
      all_goals
        go_wp2
        refine bodyPost_ret (v := .tuple #[.slice (some ⟨G, 0, none⟩) L.length c, .agg #[.int .i64 ar, .int .i64 am], .agg #[.int .i64 br, .int .i64 bm]]) (by simp [results, Tryd.results53, go_sem, c0, c1, d0, d1, hne01, hne10]) rfl ⟨G, c, L, ar, am, br, bm, rfl, hL, HIA.out, HIB.out, ?_, ?_⟩
        · exact fin4o HOWN.out (by omega) (by omega) _ _ _ _
        · exact fin4b HBEL.out hb01 _ _ _ _
end Go.Proofs.YtjgbickelgkljaaDoor

namespace Go.Proofs.YtjgbickelgkljaaDoor
open Go.RowKit
set_option linter.unusedSimpArgs false
set_option linter.unusedVariables false
attribute [local go_sem ↓] Go.wp_at_zero Go.wp_at_succ

set_option maxRecDepth 100000 in
set_option maxHeartbeats 4000000 in
theorem walkSpanAll (w : World) (p p' : Option Addr) (n cap n' cap' : Nat) (h : ArgBytes w p n) (hcap : n ≤ cap) (hmax : cap ≤ maxLen) (h' : ArgBytes w p' n') (hcap' : n' ≤ cap') (hmax' : cap' ≤ maxLen) (x : Addr)
    (he : w.cell? ⟨0, 0, none⟩ = some (.iface 183 (.pointer (some x)))) (h0 : 0 < w.heap.size) :
    Calls Tryd.prog 13 #[.slice p n cap, .slice p' n' cap'] w fun e w' => e = .returned (.bool true) ∧ Below w.heap.size w w' := by
  have H := hideIt h
  clear h h'
  unfold maxLen at *
  by_cases hn : n ≤ 1048576
  · by_cases hn' : n' ≤ 1048576
    · go_enter Tryd.func13, Tryd.ntmps13
      go_wp2_with fail
      refine (drawMarkSpan_any _ p n cap H.out hcap hn).mono ?_
      rintro e w1 ⟨G, c, L, ar, am, br, bm, rfl, hL, hia, hib, hS, hb1⟩
      have HS := hideIt hS
      have HB := hideIt hb1
      clear hS hb1 hia hib
      go_wp2_with fail
      have hB0 : Below w1.heap.size w1 ((w1.alloc (.cells #[.int .i64 ar, .int .i64 am] 31)).alloc (.cells #[.int .i64 br, .int .i64 bm] 31)) := ((Below.refl _ _).alloc (Nat.le_refl _) _).alloc (by simp) _
      have HW : Hid (SW w ((w1.alloc (.cells #[.int .i64 ar, .int .i64 am] 31)).alloc (.cells #[.int .i64 br, .int .i64 bm] 31)) G c w1.heap.size (w1.heap.size + 1) L ar am br bm) :=
        ⟨HS.out.below hB0, (Bx.new w1 ar am _).below ((Below.refl _ _).alloc (Nat.le_refl _) _), by
          have := Bx.new (w1.alloc (.cells #[.int .i64 ar, .int .i64 am] 31)) br bm 31
          rw [World.size_alloc] at this
          exact this, Bstep HB.out hB0⟩
      clear hB0 HS HB
      generalize (w1.alloc (.cells #[.int .i64 ar, .int .i64 am] 31)).alloc (.cells #[.int .i64 br, .int .i64 bm] 31) = w2 at *
      generalize w1.heap.size + 1 = B at *
      generalize w1.heap.size = A at *
      refine (implSpan_any L G c _ _ _ _ x _ HW.out.own.at (by omega) HW.out.own.cap (errB HW.out.bel h0 he) (posB HW.out.bel h0)).mono ?_
      rintro e w3 ⟨rfl, hb3⟩
      have HW := hideIt (HW.out.below hb3)
      clear hb3
      obtain ⟨a0, a1, af, al⟩ := HW.out.a
      obtain ⟨b0, b1, bf, bl⟩ := HW.out.b
      go_wp2_with fail
      refine (specSpan_any L G c _ _ _ _ _ HW.out.own.at (by omega) HW.out.own.cap).mono ?_
      rintro e w4 ⟨rfl, hb4⟩
      have HW := hideIt (HW.out.below hb4)
      clear hb4 a0 a1 af al b0 b1 bf bl
      obtain ⟨a0, a1, af, al⟩ := HW.out.a
      obtain ⟨b0, b1, bf, bl⟩ := HW.out.b
      obtain ⟨TS, hTS⟩ : ∃ TS, spanT L ar am br bm = TS := ⟨_, rfl⟩
      have HTS := hideIt hTS
      rw [hTS]
      clear hTS
      go_wp2_with fail
      refine (specOps_any L G c _ HW.out.own.at (by omega) HW.out.own.cap).mono ?_
      rintro e w5 ⟨rfl, hb5⟩
      have HW := hideIt (HW.out.below hb5)
      clear hb5 a0 a1 af al b0 b1 bf bl
      obtain ⟨a0, a1, af, al⟩ := HW.out.a
      obtain ⟨b0, b1, bf, bl⟩ := HW.out.b
      cases ho : opsB L
      all_goals have HO := hideIt ho; clear ho
      · go_wp2_with fail
        refine (specSpan_any L G c _ _ _ _ _ HW.out.own.at (by omega) HW.out.own.cap).mono ?_
        rintro e w6 ⟨rfl, hb6⟩
        have HW := hideIt (HW.out.below hb6)
        rw [HTS.out]
        clear hb6 a0 a1 af al b0 b1 bf bl
        go_wp2
        go_ret
        exact ⟨by simp, HW.out.bel⟩
      · clear a0 a1 af al b0 b1 bf bl
        have HS5 := hideIt HW.out.own
        have HB5 := hideIt HW.out.bel
        clear HW
        go_wp2_with fail
        refine (implTxt_any L G c x _ HS5.out.at (by omega) HS5.out.cap (errB HB5.out h0 he) (posB HB5.out h0)).mono ?_
        rintro e w6 ⟨rfl, hb6⟩
        have HS6 := hideIt (HS5.out.below hb6)
        have HB6 := hideIt (Bstep HB5.out hb6)
        clear hb6 HS5 HB5
        have hsz := txt_shown HO.out
        have hts : (txtB (shown (lfs L (standL L)))).size ≤ 74 := by
          rw [txtB_size]
          exact Nat.le_trans (shown_len _) (by rw [lfs_len]; exact Nat.le_trans (stand_len L) hL)
        have hkl : n' % ((txtB (shown (lfs L (standL L)))).size + 1) ≤ (txtB (shown (lfs L (standL L)))).size := by have := Nat.mod_lt n' (show 0 < (txtB (shown (lfs L (standL L)))).size + 1 by omega); omega
        obtain ⟨k, hkk⟩ : ∃ k, n' % ((txtB (shown (lfs L (standL L)))).size + 1) = k := ⟨_, rfl⟩
        have hrem : (n' : Int) % (((txtB (shown (lfs L (standL L)))).size : Int) + 1) = (k : Int) := by rw [← hkk]; simp
        rw [hkk] at hkl
        obtain ⟨ma, mb, mk, hm⟩ : ∃ ma mb mk, leftOf L (txtB (shown (lfs L (standL L)))).size = (ma, mb, mk) := ⟨_, _, _, rfl⟩
        obtain ⟨na, nb, nk, hnn⟩ : ∃ na nb nk, leftOf L k = (na, nb, nk) := ⟨_, _, _, rfl⟩
        have HA1 : Hid (atV L ((txtB (shown (lfs L (standL L)))).size : Int) = .tuple #[.agg #[.int .i64 ma, .int .i64 mb], .bool true]) := atV_yes (by unfold atB; rw [HO.out, ← hsz]; simp [inB]) (by rw [Int.toNat_natCast]; exact hm)
        have HA2 : Hid (atV L (k : Int) = .tuple #[.agg #[.int .i64 na, .int .i64 nb], .bool true]) := atV_yes (by unfold atB; rw [HO.out, ← hsz]; simp [inB]; omega) (by rw [Int.toNat_natCast]; exact hnn)
        have E1 := span_from HO.out (k := (txtB (shown (lfs L (standL L)))).size) (by omega)
        have E2 := span_from HO.out (k := k) (by omega)
        have E3 := span_to HO.out (k := k) (m := (txtB (shown (lfs L (standL L)))).size) hkl (by omega)
        rw [hm] at E1
        rw [hnn] at E2
        rw [hm, hnn] at E3
        rw [bytes_whole] at E1
        have E1 := hideIt E1
        have E2 := hideIt E2
        have E3 := hideIt E3
        clear hm hnn hsz hkk
        generalize hTT : txtB (shown (lfs L (standL L))) = T at *
        clear hTT
        have hwT : IntKind.i64.wrap ((T.size : Int) + 1) = (T.size : Int) + 1 := IntWalk.i64_in ((T.size : Int) + 1) ⟨by omega, by omega⟩
        have hnz : ¬ (T.size : Int) + 1 = 0 := by omega
        go_wp2_with fail
        refine (implAt_any L G c (T.size : Int) (wf_small (by omega)) x _ HS6.out.at (by omega) HS6.out.cap (errB HB6.out h0 he) (posB HB6.out h0)).mono ?_
        rintro e w7 ⟨rfl, hb7⟩
        rw [HA1.out]
        have HS7 := hideIt (HS6.out.below hb7)
        have HB7 := hideIt (Bstep HB6.out hb7)
        clear hb7 HS6 HB6
        go_wp2_with fail
        have hBm : Below w7.heap.size w7 (w7.alloc (.cells #[.int .i64 ma, .int .i64 mb] 31)) := (Below.refl _ _).alloc (Nat.le_refl _) _
        have HXM : Hid (Bx (w7.alloc (.cells #[.int .i64 ma, .int .i64 mb] 31)) w7.heap.size ma mb) := Bx.new w7 ma mb _
        have HS8 := hideIt (HS7.out.below hBm)
        have HB8 := hideIt (Bstep HB7.out hBm)
        clear hBm HS7 HB7
        generalize w7.alloc (.cells #[.int .i64 ma, .int .i64 mb] 31) = W8 at *
        generalize w7.heap.size = Am at *
        refine (implAt_any L G c (k : Int) (wf_small (by omega)) x _ HS8.out.at (by omega) HS8.out.cap (errB HB8.out h0 he) (posB HB8.out h0)).mono ?_
        rintro e w9 ⟨rfl, hb9⟩
        rw [HA2.out]
        have HS9 := hideIt (HS8.out.below hb9)
        have HB9 := hideIt (Bstep HB8.out hb9)
        have HXM9 := hideIt (HXM.out.below hb9)
        have hlm : Am < w9.heap.size := HXM9.out.lt
        clear hb9 HS8 HB8 HXM
        have hB2 : Below w9.heap.size w9 ((w9.alloc (.cells #[.int .i64 na, .int .i64 nb] 31)).alloc (.cells #[.int .i64 0, .int .i64 0] 31)) := ((Below.refl _ _).alloc (Nat.le_refl _) _).alloc (by simp) _
        have hXN : Bx ((w9.alloc (.cells #[.int .i64 na, .int .i64 nb] 31)).alloc (.cells #[.int .i64 0, .int .i64 0] 31)) w9.heap.size na nb := (Bx.new w9 na nb _).below ((Below.refl _ _).alloc (Nat.le_refl _) _)
        have hXZ : Bx ((w9.alloc (.cells #[.int .i64 na, .int .i64 nb] 31)).alloc (.cells #[.int .i64 0, .int .i64 0] 31)) (w9.heap.size + 1) 0 0 := by
          have := Bx.new (w9.alloc (.cells #[.int .i64 na, .int .i64 nb] 31)) 0 0 31
          rw [World.size_alloc] at this
          exact this
        have HSW : Hid (R5 w G c (w9.heap.size + 1) Am w9.heap.size L ((w9.alloc (.cells #[.int .i64 na, .int .i64 nb] 31)).alloc (.cells #[.int .i64 0, .int .i64 0] 31))) := ⟨HS9.out.below hB2, hXZ.lt, (HXM9.out.below hB2).lt, hXN.lt, Bstep HB9.out hB2⟩
        have HXN := hideIt hXN
        have HXZ := hideIt hXZ
        have HXM2 := hideIt (HXM9.out.below hB2)
        have hll : L.length ≤ 1048576 := by omega
        have hcl := HS9.out.cap
        have hcat : T.extract 0 k ++ T.extract k T.size = T := bytes_cut T hkl
        have ka : ∀ W : World, _ := fun W => run_string_add_sum (P := Tryd.prog) (w := W) (T.extract 0 k) (T.extract k T.size) (by simp only [ByteArray.size_extract]; omega)
        clear hXN hXZ hB2 HS9 HB9 HXM9 HA1 HA2
        go_wp2_with fail
        generalize (w9.alloc (.cells #[.int .i64 na, .int .i64 nb] 31)).alloc (.cells #[.int .i64 0, .int .i64 0] 31) = w10 at *
        generalize w9.heap.size + 1 = N at *
        generalize w9.heap.size = Bn at *
        have HS0 : Hid (w10.cell? ⟨N, 0, none⟩ = some (.int .i64 0) ∧ w10.cell? ⟨N, 1, none⟩ = some (.int .i64 0) ∧ w10.cell? ⟨Am, 0, none⟩ = some (.int .i64 ma) ∧ w10.cell? ⟨Am, 1, none⟩ = some (.int .i64 mb) ∧ w10.cell? ⟨Bn, 0, none⟩ = some (.int .i64 na) ∧ w10.cell? ⟨Bn, 1, none⟩ = some (.int .i64 nb) ∧ R5 w G c N Am Bn L w10) := ⟨HXZ.out.x0, HXZ.out.x1, HXM2.out.x0, HXM2.out.x1, HXN.out.x0, HXN.out.x1, HSW.out⟩
        have HSd : Hid (w10.drew.cell? ⟨N, 0, none⟩ = some (.int .i64 0) ∧ w10.drew.cell? ⟨N, 1, none⟩ = some (.int .i64 0) ∧ w10.drew.cell? ⟨Am, 0, none⟩ = some (.int .i64 ma) ∧ w10.drew.cell? ⟨Am, 1, none⟩ = some (.int .i64 mb) ∧ w10.drew.cell? ⟨Bn, 0, none⟩ = some (.int .i64 na) ∧ w10.drew.cell? ⟨Bn, 1, none⟩ = some (.int .i64 nb) ∧ R5 w G c N Am Bn L w10.drew) := keep7 ((Below.refl _ _).drew) HS0.out
        clear HSW HXN HXZ HXM2
        go_region_held3 (fun W' => W'.cell? ⟨N, 0, none⟩ = some (.int .i64 0) ∧ W'.cell? ⟨N, 1, none⟩ = some (.int .i64 0) ∧ W'.cell? ⟨Am, 0, none⟩ = some (.int .i64 ma) ∧ W'.cell? ⟨Am, 1, none⟩ = some (.int .i64 mb) ∧ W'.cell? ⟨Bn, 0, none⟩ = some (.int .i64 na) ∧ W'.cell? ⟨Bn, 1, none⟩ = some (.int .i64 nb) ∧ R5 w G c N Am Bn L W')
          (first | with_reducible assumption | with_reducible exact HSd.out | with_reducible exact HS0.out | exact keep7 hb2 (by with_reducible assumption))
          (first
            | (go_at_call 54; with_reducible refine (implSpan_any L G c 0 0 ma mb x _ (R5.at (rest7 (ar := ma) (am := mb) (br := na) (bm := nb) (by with_reducible assumption) : R5 w G c N Am Bn L _)) hll hcl (errB (R5.bel (rest7 (ar := ma) (am := mb) (br := na) (bm := nb) (by with_reducible assumption) : R5 w G c N Am Bn L _)) h0 he) (posB (R5.bel (rest7 (ar := ma) (am := mb) (br := na) (bm := nb) (by with_reducible assumption) : R5 w G c N Am Bn L _)) h0)).mono ?_; rintro e w8 ⟨rfl, hb2⟩; rw [E1.out])
            | (go_at_call 54; with_reducible refine (implSpan_any L G c 0 0 na nb x _ (R5.at (rest7 (ar := ma) (am := mb) (br := na) (bm := nb) (by with_reducible assumption) : R5 w G c N Am Bn L _)) hll hcl (errB (R5.bel (rest7 (ar := ma) (am := mb) (br := na) (bm := nb) (by with_reducible assumption) : R5 w G c N Am Bn L _)) h0 he) (posB (R5.bel (rest7 (ar := ma) (am := mb) (br := na) (bm := nb) (by with_reducible assumption) : R5 w G c N Am Bn L _)) h0)).mono ?_; rintro e w8 ⟨rfl, hb2⟩; rw [E2.out])
            | (go_at_call 54; with_reducible refine (implSpan_any L G c na nb ma mb x _ (R5.at (rest7 (ar := ma) (am := mb) (br := na) (bm := nb) (by with_reducible assumption) : R5 w G c N Am Bn L _)) hll hcl (errB (R5.bel (rest7 (ar := ma) (am := mb) (br := na) (bm := nb) (by with_reducible assumption) : R5 w G c N Am Bn L _)) h0 he) (posB (R5.bel (rest7 (ar := ma) (am := mb) (br := na) (bm := nb) (by with_reducible assumption) : R5 w G c N Am Bn L _)) h0)).mono ?_; rintro e w8 ⟨rfl, hb2⟩; rw [E3.out]))
        all_goals
          rename_i hS
          have HB9 := hideIt (R5.bel (rest7 hS))
          clear hS
          go_wp2
          go_ret
          exact ⟨rfl, HB9.out⟩
    · go_enter Tryd.func13, Tryd.ntmps13
      go_wp2
      go_ret
      exact ⟨rfl, Below.refl _ _⟩
  · go_enter Tryd.func13, Tryd.ntmps13
    go_wp2
    go_ret
    exact ⟨rfl, Below.refl _ _⟩
end Go.Proofs.YtjgbickelgkljaaDoor

namespace Go.Proofs.YtjgbickelgkljaaDoor
open Go.ChangeShapes Go.WideShapes Go.ChangeAt Go.RowKit Go.Joins

set_option maxRecDepth 100000 in
theorem liftedFnSpanAll (os : Os) (started : os.Started) (H : Type) (enc : TypeId × Value → H) :
    ReturnsInHanded {} Tryd.checked os 13 .any (fun w args => (Rows.fnSpanAllSpec.pre enc Tryd.prog Tryd.f13 [] false w args ∧ laidMetH Tryd.prog laid1 w) ∧ sizedMet enc Tryd.prog Tryd.f13 (OpenSpec.ofChange Rows.fnSpanAllSpec) false w args)
      (Rows.fnSpanAllSpec.post enc Tryd.prog Tryd.f13 false true false false) := by
  refine returnsInHanded_of_change_and (C := Tryd.checked) (X := fun w _ => laidMetH Tryd.prog laid1 w) (fun _ _ _ hh h => h.of_heap hh) own started (by kernel_rfl) Tryd.func13
    (ChangeSpec.witness_shaped (enc := enc) (C := Tryd.checked) (os := os) (X := fun w _ => laidMetH Tryd.prog laid1 w) false (World.doorLaid Tryd.prog 28 os) #[.slice none 0 0, .slice none 0 0] 8 rfl (World.shaped_of_RefB (by kernel_rfl) (by kernel_rfl)) (by kernel_rfl) (by kernel_rfl) (by kernel_rfl) (door_met os _)) ?_
  intro W base args ds gs before hval0 hW _ _ hL _
  have hval : ∀ (j : Nat) t v, Tryd.f13.params[j]? = some t → args[j]? = some v → Value.okWide Tryd.prog W .any base t v := hval0
  have hW' := hW
  obtain ⟨p, q, hA0, hV0, rfl, hfz, hnd⟩ := hW
  have hA : DataW.TrodAll enc Tryd.prog W 0 (fun _ => true) true Tryd.f13.params.toList args.toList ds p := hA0
  have hV : DataW.TrodVars enc Tryd.prog W (fun _ => true) [errName] gs q := hV0
  rw [Tryd.params13] at hA hval
  obtain ⟨v0, v1, d0, d1, p0, p1, rfl, rfl, rfl, h0, h1⟩ := trodAll_two hA
  have k0 := h0
  have k1 := h1
  have lt0 : ∀ x ∈ p0, x.block < W.heap.size := by obtain ⟨m, hm⟩ := k0; exact DataW.trod_lt m _ _ _ hm
  have lt1 : ∀ x ∈ p1, x.block < W.heap.size := by obtain ⟨m, hm⟩ := k1; exact DataW.trod_lt m _ _ _ hm
  obtain ⟨x, hv, hc, hpos⟩ := of_laid hL
  obtain ⟨rfl, rfl⟩ := hV.unique (vars_read1 enc gErr tErr Tryd.underlying83 hv trivial _)
  obtain ⟨q0, n0, c0, rfl, hc0, hm0, ha0⟩ := open_bytes (hval 0 22 v0 rfl rfl) h0
  obtain ⟨q1, n1, c1, rfl, hc1, hm1, ha1⟩ := open_bytes (hval 1 22 v1 rfl rfl) h1
  clear hA0 hV0 hval0
  refine (walkSpanAll W q0 q1 n0 c0 n1 c1 ha0 hc0 hm0 ha1 hc1 hm1 x hc hpos).mono fun e W' ⟨he, bel⟩ => ?_
  subst he
  exact ⟨_, rfl, _, _, _, [], _, [.cell 0 0], hW', trodAll_mk1 (shut_bool Tryd.underlying4 _), (trodAll_cons_mk (Below.trod laidOut (by kernel_rfl) (of_decide_eq_true (by kernel_rfl)) k0 bel lt0) (trodAll_cons_mk (Below.trod laidOut (by kernel_rfl) (of_decide_eq_true (by kernel_rfl)) k1 bel lt1) trodAll_mk0)), vars_read1 enc gErr tErr Tryd.underlying83 (var_kept bel hpos hv) trivial _, bel.frame _, fun h => by cases h⟩

theorem fnSpanAll_row : Rows.FnSpanAllSaid :=
  OpenClaim.holds_of_wide 13 Tryd.f13 rfl rfl rfl rfl rfl rfl rfl ⟨rfl, rfl, rfl, rfl, rfl⟩ rfl rfl rfl rfl rfl (by kernel_rfl) Tryd.func13 (by kernel_rfl)
    (of_decide_eq_true (by kernel_rfl)) (by unfold Func.isWrapper; first | (rw [if_pos (by decide +kernel)]; kernel_rfl) | (rw [if_neg (by decide +kernel)]; exact ⟨rfl, rfl⟩))
    (fun os started H enc _ => liftedFnSpanAll os started H enc)

/-- THE STATEMENT. -/
theorem fnSpanAll_holds : Rows.FnSpanAllCardSaid :=
  Claim7.holds_tied_plain_at .later [] Rows.fnSpanAllCard.laidKinds true Rows.fnSpanAllCard.stood.harness true
    fnSpanAll_row (fun _ h => by cases h) (by kernel_rfl) (fun _ h => by cases h) fnSpanAll_row_tie rfl ⟨rfl, rfl⟩ (by kernel_rfl) rfl
    (fun f fn hf hfn => by
      obtain rfl : f = 13 := Option.some.inj ((show Tryd.prog.funcNamed Rows.fnSpanAllRow.func = some 13 by kernel_rfl).symm.trans hf) |>.symm
      obtain rfl : fn = Tryd.f13 := (Option.some.inj (Tryd.func13.symm.trans hfn)).symm
      exact ⟨by kernel_rfl, fun j t ht => by
        rw [Tryd.params13] at ht
        have hm : t ∈ [22, 22] := by simpa using Array.mem_of_getElem? ht
        have hall : ([22, 22].all fun u => !Tryd.prog.wantsStandIn u) = true := by kernel_rfl
        exact (show Tryd.prog.wantsStandIn t = false by simpa using List.all_eq_true.1 hall t hm)⟩)
    (by kernel_rfl)
#print axioms fnSpanAll_holds
end Go.Proofs.YtjgbickelgkljaaDoor
