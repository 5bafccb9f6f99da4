/-
  PROVED: from mark to mark is the text between, what is ahead of both is made whole by it, and nothing is between a mark and itself, whatever bytes what was done and the marks are drawn from; and MarkSpan answers as the specification's does (the given card of FnMarkSpan), for every input; the one listed variable, the program's error, reads as its own initialiser lays it.
-/
import Derived.Test.YtjadkhejdbdpoaaDoorPackP
import Derived.Test.YtjadkhejdbdpoaaDoorPackF
import Derived.Test.YtjadkhejdbdpoaaDoorPackO
import Derived.Test.YtjadkhejdbdpoaaDoorTie
import Derived.Test.YtjadkhejdbdpoaaDoorCards
import Derived.SevenTiedAt
namespace Go.Proofs.YtjadkhejdbdpoaaDoor
open Go.RowKit
set_option linter.unusedSimpArgs false
set_option linter.unusedVariables false
attribute [local go_sem ↓] Go.wp_at_zero Go.wp_at_succ

set_option maxRecDepth 100000 in
set_option maxHeartbeats 4000000 in
theorem drawMarkSpan_any (w : World) (p : Option Addr) (n cap : Nat) (h : ArgBytes w p n) (hcap : n ≤ cap) (hn : n ≤ 1048576) :
    Calls Tryd.prog 29 #[.slice p n cap] w fun e w' => ∃ G c L, ∃ ar am br bm : Int, e = .returned (.tuple #[.slice (some ⟨G, 0, none⟩) (L : List Op7).length c, .agg #[.int .i64 ar, .int .i64 am], .agg #[.int .i64 br, .int .i64 bm]]) ∧ L.length ≤ 74 ∧ IdIn L ar am ∧ IdIn L br bm ∧ OwnOps w' w.heap.size G c L ∧ Below w.heap.size w w' := by
  have H := hideIt h
  clear h
  go_enter Tryd.func29, Tryd.ntmps29
  go_wp2_with fail
  have hB0 : Below w.heap.size w ((w.alloc (.cells #[.int .i64 0, .int .i64 0] 27)).alloc (.cells #[.int .i64 0, .int .i64 0] 27)) := ((Below.refl _ _).alloc (Nat.le_refl _) _).alloc (by simp) _
  have hX0 : Bx ((w.alloc (.cells #[.int .i64 0, .int .i64 0] 27)).alloc (.cells #[.int .i64 0, .int .i64 0] 27)) w.heap.size 0 0 := (Bx.new w 0 0 _).below ((Below.refl _ _).alloc (Nat.le_refl _) _)
  have hX1 : Bx ((w.alloc (.cells #[.int .i64 0, .int .i64 0] 27)).alloc (.cells #[.int .i64 0, .int .i64 0] 27)) (w.heap.size + 1) 0 0 := by
    have := Bx.new (w.alloc (.cells #[.int .i64 0, .int .i64 0] 27)) 0 0 27
    rw [World.size_alloc] at this
    exact this
  have hne01 : ¬ w.heap.size + 1 = w.heap.size := by omega
  have hb01 : w.heap.size ≤ w.heap.size + 1 := by omega
  generalize (w.alloc (.cells #[.int .i64 0, .int .i64 0] 27)).alloc (.cells #[.int .i64 0, .int .i64 0] 27) = W0 at *
  generalize hR1 : w.heap.size + 1 = r1 at *
  refine (open_any _ p n cap (H.out.below hB0) hcap hn).mono ?_
  rintro e wS ⟨n', rfl, hRS, hbS⟩
  have HX0 := hideIt (hX0.below hbS)
  have HX1 := hideIt (hX1.below hbS)
  have HBS := hideIt (hB0.trans (hbS.mono hB0.size))
  have HRS := hideIt hRS
  have hqS := hRS.lt
  have hl0 := hX0.lt
  have hl1 := hX1.lt
  have hzS := hbS.size
  clear hRS hbS hX0 hX1 hB0
  generalize W0.heap.size = q at *
  go_wp2_with fail
  refine (l71Off_any _ _ p n' cap 0 HRS.out (by omega)).mono ?_
  rintro e w2 ⟨⟨G, c, _, rfl, ⟨L, rfl, hL, hS2⟩⟩, ⟨k2, hk2, hR2⟩, hO2⟩
  have HS2 := hideIt hS2
  have HR2 := hideIt hR2
  have HO2 := hideIt hO2
  have hG2 := hS2.lt
  have hz2 := hO2.size
  clear hS2 hR2 hO2
  go_wp2_with fail
  refine (l71SomeL_any _ _ p n' cap k2 _ G c L hL HR2.out (by omega) HS2.out hqS HR2.out.lt).mono ?_
  rintro e w3 ⟨⟨ar, am, hia, rfl⟩, ⟨k3, hk3, hR3⟩, hO3⟩
  have hz3 := hO3.size
  have HIA := hideIt hia
  have HS3 := hideIt ((HS2.out.only hO3 (by omega)).below ((Below.refl _ _).alloc (Nat.le_refl _) (.cells #[.int .i64 ar, .int .i64 am] 27)))
  have HR3 := hideIt (hR3.alloc (.cells #[.int .i64 ar, .int .i64 am] 27))
  have HO3 := hideIt ((HO2.out.trans hO3).alloc hqS (.cells #[.int .i64 ar, .int .i64 am] 27))
  have HA3 := hideIt (Bx.new w3 ar am 27)
  clear hR3 hO3 hia HS2 HR2 HO2
  go_wp2_with fail
  have hA3 : wS.heap.size ≤ w3.heap.size := by omega
  have hAG : G ≠ w3.heap.size := by omega
  have hW3 : w3.heap.size < (w3.alloc (.cells #[.int .i64 ar, .int .i64 am] 27)).heap.size := by simp
  generalize w3.alloc (.cells #[.int .i64 ar, .int .i64 am] 27) = W3 at *
  generalize w3.heap.size = A at *
  refine (l71SomeL_any _ _ p n' cap k3 _ G c L hL HR3.out (by omega) HS3.out hqS HR3.out.lt).mono ?_
  rintro e w4 ⟨⟨br, bm, hib, rfl⟩, ⟨k4, hk4, hR4⟩, hO4⟩
  have hz4 := hO4.size
  have HU4 : Hid (DU w wS (w4.alloc (.cells #[.int .i64 br, .int .i64 bm] 27)) q G c L A w4.heap.size ar am br bm) :=
    ⟨(HO3.out.trans hO4).alloc hqS _, (HS3.out.only hO4 (by omega)).below ((Below.refl _ _).alloc (Nat.le_refl _) _), (HA3.out.only hO4 (by omega)).below ((Below.refl _ _).alloc (Nat.le_refl _) _), Bx.new w4 br bm _, HIA.out, hib⟩
  have HR4 := hideIt (hR4.alloc (.cells #[.int .i64 br, .int .i64 bm] 27))
  clear hR4 hO4 hib HS3 HR3 HO3 HA3 HIA
  go_wp2_with fail
  have hAB : A ≠ w4.heap.size := by omega
  have hB4 : wS.heap.size ≤ w4.heap.size := by omega
  have hBG : G ≠ w4.heap.size := by omega
  generalize w4.alloc (.cells #[.int .i64 br, .int .i64 bm] 27) = W4 at *
  generalize w4.heap.size = B at *
  go_loopw [9] (fun i wr => ∃ k j : Nat, k ≤ 8 ∧ j ≤ k4 + 20 * k ∧ i = .int .i64 k ∧ RdAt wr q p n' cap j ∧ ∃ ar am br bm : Int, DU w wS wr q G c L A B ar am br bm) (fun i _ => 9 - (intOf i).toNat)
  case atStart => exact ⟨0, k4, by omega, by omega, rfl, HR4.out, ar, am, br, bm, HU4.out⟩
  case round =>
    clear HR4 HU4
    obtain ⟨k, j, hk, hj, rfl, hR, ar, am, br, bm, hU⟩ := hrel
    have HR := hideIt hR
    have HU := hideIt hU
    clear hR hU
    by_cases hk8 : k < 8
    · have hk' : (k : Int) < 8 := by omega
      go_wp2_with fail
      refine (pick_any _ q p n' cap j 10 HR.out (by omega) (by omega) (by omega)).mono ?_
      rintro e w5 ⟨⟨x, hx0, hx1, rfl⟩, hR5, hO5⟩
      have HR := hideIt hR5
      have HU := hideIt (HU.out.next hqS hA3 hB4 hO5)
      clear hR5 hO5
      by_cases hz : x = 0
      · subst hz
        have hxa0 := HU.out.a.x0
        have hxa1 := HU.out.a.x1
        have hxb0 := HU.out.b.x0
        have hxb1 := HU.out.b.x1
        have hr0 := HX0.out.only HU.out.only (by omega)
        have hr1 := HX1.out.only HU.out.only (by omega)
        have c0 := hr0.x0
        have c1 := hr0.x1
        have cf := hr0.fz
        have d0 := hr1.x0
        have d1 := hr1.x1
        have df := hr1.fz
        have HOWN : Hid (OwnOps w5 w.heap.size G c L) := ownsRow_base (by omega) HU.out.own
        have HBEL : Hid (Below w.heap.size w w5) := HBS.out.trans (HU.out.only.below.mono (by omega))
        have HIA := hideIt HU.out.ia
        have HIB := hideIt HU.out.ib
        clear HU HR hr0 hr1
        have hn1 : ¬ A = w.heap.size := by omega
        have hn2 : ¬ B = w.heap.size := by omega
        have hn3 : ¬ A = r1 := by omega
        have hn4 : ¬ B = r1 := by omega
        have hn5 : ¬ w.heap.size = A := by omega
        have hn6 : ¬ w.heap.size = B := by omega
        have hn7 : ¬ r1 = A := by omega
        have hn8 : ¬ r1 = B := by omega
        have hne10 : ¬ w.heap.size = r1 := by omega
        go_wp2
        go_region_with (fail)
        all_goals
          go_wp2
          refine bodyPost_ret (v := .tuple #[.slice (some ⟨G, 0, none⟩) L.length c, .agg #[.int .i64 ar, .int .i64 am], .agg #[.int .i64 br, .int .i64 bm]]) (by simp [results, Tryd.results29, go_sem, c0, c1, d0, d1, hne01, hne10]) rfl ⟨G, c, L, ar, am, br, bm, rfl, hL, HIA.out, HIB.out, ?_, ?_⟩
          · exact fin4o HOWN.out (by omega) (by omega) _ _ _ _
          · exact fin4b HBEL.out hb01 _ _ _ _
      · have hpos : (0 : Int) < x := by omega
        have xa0 := HU.out.a.x0
        have xa1 := HU.out.a.x1
        have xb0 := HU.out.b.x0
        have xb1 := HU.out.b.x1
        have hlA := HU.out.a.lt
        have hlB := HU.out.b.lt
        rcases hund : (spanT L ar am br bm).toList.isEmpty.not with _ | _
        all_goals
          have hund : (spanT L ar am br bm).toList.isEmpty = _ := Bool.not_inj (hund.trans (Bool.not_not _).symm)
          simp only [Bool.not_true, Bool.not_false] at hund
          have HUN := hideIt hund
          clear hund
          go_wp2_with fail
          refine (specSpan_any L G c ar am br bm _ HU.out.own.at (by omega) HU.out.own.cap).mono ?_
          rintro e w6 ⟨rfl, hb6⟩
          have hTE := HUN.out
          generalize spanT L ar am br bm = TT at *
          clear HUN
          have HR := hideIt (HR.out.below hb6)
          have HU := hideIt (HU.out.below hqS hb6)
          clear hb6 xa0 xa1 xb0 xb1 hlA hlB
        · go_wp2_with fail
          refine (l71SomeL_any _ _ p n' cap (j + 1) _ G c L hL HR.out (by omega) HU.out.own hqS HR.out.lt).mono ?_
          rintro e w7 ⟨⟨ar', am', hia', rfl⟩, ⟨k7, hk7, hR7⟩, hO7⟩
          have HU := hideIt (HU.out.next hqS hA3 hB4 hO7)
          have HR := hideIt hR7
          have HIA' := hideIt hia'
          clear hR7 hO7 hia'
          have xa0 := HU.out.a.x0
          have xa1 := HU.out.a.x1
          have xaf := HU.out.a.fz
          go_wp2_with fail
          have HU := hideIt (HU.out.setA hqS hA3 hAB hAG ar' am' HIA'.out)
          have HR := hideIt (HRS.out.fin HR.out HU.out.only (fun y => by simp [go_sem, show ¬ A = q by omega, show ¬ q = A by omega]) (fun y => by simp))
          clear xa0 xa1 xaf
          generalize (w7.setCell ⟨A, 0, none⟩ (.int .i64 ar')).setCell ⟨A, 1, none⟩ (.int .i64 am') = W7 at *
          refine (l71SomeL_any _ _ p n' cap k7 _ G c L hL HR.out (by omega) HU.out.own hqS HR.out.lt).mono ?_
          rintro e w8 ⟨⟨br', bm', hib', rfl⟩, ⟨k8, hk8, hR8⟩, hO8⟩
          have HU := hideIt (HU.out.next hqS hA3 hB4 hO8)
          have HR := hideIt hR8
          have HIB' := hideIt hib'
          clear hR8 hO8 hib'
          have xb0 := HU.out.b.x0
          have xb1 := HU.out.b.x1
          have xbf := HU.out.b.fz
          go_wp2
          have HU := hideIt (HU.out.setB hqS hB4 hAB hBG br' bm' HIB'.out)
          have HR := hideIt (HRS.out.fin HR.out HU.out.only (fun y => by simp [go_sem, show ¬ B = q by omega, show ¬ q = B by omega]) (fun y => by simp))
          exact ⟨⟨k + 1, k8, by omega, by omega, by go_num, HR.out, ar', am', br', bm', HU.out⟩, by simp [intOf]; omega⟩
        · have hxa0 := HU.out.a.x0
          have hxa1 := HU.out.a.x1
          have hxb0 := HU.out.b.x0
          have hxb1 := HU.out.b.x1
          have hr0 := HX0.out.only HU.out.only (by omega)
          have hr1 := HX1.out.only HU.out.only (by omega)
          have c0 := hr0.x0
          have c1 := hr0.x1
          have cf := hr0.fz
          have d0 := hr1.x0
          have d1 := hr1.x1
          have df := hr1.fz
          have HOWN : Hid (OwnOps w6 w.heap.size G c L) := ownsRow_base (by omega) HU.out.own
          have HBEL : Hid (Below w.heap.size w w6) := HBS.out.trans (HU.out.only.below.mono (by omega))
          have HIA := hideIt HU.out.ia
          have HIB := hideIt HU.out.ib
          clear HU HR hr0 hr1
          have hn1 : ¬ A = w.heap.size := by omega
          have hn2 : ¬ B = w.heap.size := by omega
          have hn3 : ¬ A = r1 := by omega
          have hn4 : ¬ B = r1 := by omega
          have hn5 : ¬ w.heap.size = A := by omega
          have hn6 : ¬ w.heap.size = B := by omega
          have hn7 : ¬ r1 = A := by omega
          have hn8 : ¬ r1 = B := by omega
          have hne10 : ¬ w.heap.size = r1 := by omega
          go_wp2
          go_region_with (fail)
          all_goals
            go_wp2
            refine bodyPost_ret (v := .tuple #[.slice (some ⟨G, 0, none⟩) L.length c, .agg #[.int .i64 ar, .int .i64 am], .agg #[.int .i64 br, .int .i64 bm]]) (by simp [results, Tryd.results29, go_sem, c0, c1, d0, d1, hne01, hne10]) rfl ⟨G, c, L, ar, am, br, bm, rfl, hL, HIA.out, HIB.out, ?_, ?_⟩
            · exact fin4o HOWN.out (by omega) (by omega) _ _ _ _
            · exact fin4b HBEL.out hb01 _ _ _ _
    · have hk' : ¬ ((k : Int) < 8) := by omega
      have hxa0 := HU.out.a.x0
      have hxa1 := HU.out.a.x1
      have hxb0 := HU.out.b.x0
      have hxb1 := HU.out.b.x1
      have hr0 := HX0.out.only HU.out.only (by omega)
      have hr1 := HX1.out.only HU.out.only (by omega)
      have c0 := hr0.x0
      have c1 := hr0.x1
      have cf := hr0.fz
      have d0 := hr1.x0
      have d1 := hr1.x1
      have df := hr1.fz
      have HOWN : Hid (OwnOps wr w.heap.size G c L) := ownsRow_base (by omega) HU.out.own
      have HBEL : Hid (Below w.heap.size w wr) := HBS.out.trans (HU.out.only.below.mono (by omega))
      have HIA := hideIt HU.out.ia
      have HIB := hideIt HU.out.ib
      clear HU HR hr0 hr1
      have hn1 : ¬ A = w.heap.size := by omega
      have hn2 : ¬ B = w.heap.size := by omega
      have hn3 : ¬ A = r1 := by omega
      have hn4 : ¬ B = r1 := by omega
      have hn5 : ¬ w.heap.size = A := by omega
      have hn6 : ¬ w.heap.size = B := by omega
      have hn7 : ¬ r1 = A := by omega
      have hn8 : ¬ r1 = B := by omega
      have hne10 : ¬ w.heap.size = r1 := by omega
      go_wp2
      go_region_with (fail)
      all_goals
        go_wp2
        refine bodyPost_ret (v := .tuple #[.slice (some ⟨G, 0, none⟩) L.length c, .agg #[.int .i64 ar, .int .i64 am], .agg #[.int .i64 br, .int .i64 bm]]) (by simp [results, Tryd.results29, go_sem, c0, c1, d0, d1, hne01, hne10]) rfl ⟨G, c, L, ar, am, br, bm, rfl, hL, HIA.out, HIB.out, ?_, ?_⟩
        · exact fin4o HOWN.out (by omega) (by omega) _ _ _ _
        · exact fin4b HBEL.out hb01 _ _ _ _
end Go.Proofs.YtjadkhejdbdpoaaDoor

namespace Go.Proofs.YtjadkhejdbdpoaaDoor
open Go.RowKit
set_option linter.unusedSimpArgs false
set_option linter.unusedVariables false
attribute [local go_sem ↓] Go.wp_at_zero Go.wp_at_succ

set_option maxRecDepth 100000 in
set_option maxHeartbeats 4000000 in
theorem walkSpanCut (w : World) (p : Option Addr) (n cap : Nat) (h : ArgBytes w p n) (hcap : n ≤ cap) (hmax : cap ≤ maxLen) (x : Addr)
    (he : w.cell? ⟨0, 0, none⟩ = some (.iface 164 (.pointer (some x)))) (h0 : 0 < w.heap.size) :
    Calls Tryd.prog 9 #[.slice p n cap] w fun e w' => e = .returned (.bool true) ∧ Below w.heap.size w w' := by
  have H := hideIt h
  clear h
  unfold maxLen at *
  by_cases hn : n ≤ 1048576
  · go_enter Tryd.func9, Tryd.ntmps9
    go_wp2_with fail
    refine (drawMarkSpan_any _ p n cap H.out hcap hn).mono ?_
    rintro e w1 ⟨G, c, L, ar, am, br, bm, rfl, hL, hia, hib, hS, hb1⟩
    have HS := hideIt hS
    have HB := hideIt hb1
    clear hS hb1 hia hib
    go_wp2_with fail
    have hB0 : Below w1.heap.size w1 ((w1.alloc (.cells #[.int .i64 ar, .int .i64 am] 27)).alloc (.cells #[.int .i64 br, .int .i64 bm] 27)) := ((Below.refl _ _).alloc (Nat.le_refl _) _).alloc (by simp) _
    have HW : Hid (SW w ((w1.alloc (.cells #[.int .i64 ar, .int .i64 am] 27)).alloc (.cells #[.int .i64 br, .int .i64 bm] 27)) G c w1.heap.size (w1.heap.size + 1) L ar am br bm) :=
      ⟨HS.out.below hB0, (Bx.new w1 ar am _).below ((Below.refl _ _).alloc (Nat.le_refl _) _), by
        have := Bx.new (w1.alloc (.cells #[.int .i64 ar, .int .i64 am] 27)) br bm 27
        rw [World.size_alloc] at this
        exact this, Bstep HB.out hB0⟩
    clear hB0 HS HB
    generalize (w1.alloc (.cells #[.int .i64 ar, .int .i64 am] 27)).alloc (.cells #[.int .i64 br, .int .i64 bm] 27) = w2 at *
    generalize w1.heap.size + 1 = B at *
    generalize w1.heap.size = A at *
    refine (implSpan_any L G c _ _ _ _ x _ HW.out.own.at (by omega) HW.out.own.cap (errB HW.out.bel h0 he) (posB HW.out.bel h0)).mono ?_
    rintro e w3 ⟨rfl, hb3⟩
    have HW := hideIt (HW.out.below hb3)
    clear hb3
    obtain ⟨a0, a1, af, al⟩ := HW.out.a
    obtain ⟨b0, b1, bf, bl⟩ := HW.out.b
    go_wp2_with fail
    refine (specSpan_any L G c _ _ _ _ _ HW.out.own.at (by omega) HW.out.own.cap).mono ?_
    rintro e w4 ⟨rfl, hb4⟩
    have HW := hideIt (HW.out.below hb4)
    clear hb4 a0 a1 af al b0 b1 bf bl
    obtain ⟨a0, a1, af, al⟩ := HW.out.a
    obtain ⟨b0, b1, bf, bl⟩ := HW.out.b
    go_wp2_with fail
    refine (implPlace_any L G c ar am x _ HW.out.own.at (by omega) HW.out.own.cap (errB HW.out.bel h0 he) (posB HW.out.bel h0)).mono ?_
    rintro e w5 ⟨rfl, hb5⟩
    have HW := hideIt (HW.out.below hb5)
    clear hb5 a0 a1 af al b0 b1 bf bl
    obtain ⟨a0, a1, af, al⟩ := HW.out.a
    obtain ⟨b0, b1, bf, bl⟩ := HW.out.b
    unfold plV
    go_wp2_with fail
    refine (implPlace_any L G c br bm x _ HW.out.own.at (by omega) HW.out.own.cap (errB HW.out.bel h0 he) (posB HW.out.bel h0)).mono ?_
    rintro e w6 ⟨rfl, hb6⟩
    have HW := hideIt (HW.out.below hb6)
    clear hb6 a0 a1 af al b0 b1 bf bl
    obtain ⟨a0, a1, af, al⟩ := HW.out.a
    obtain ⟨b0, b1, bf, bl⟩ := HW.out.b
    unfold plV
    cases h1 : markP L ar am with
    | none =>
      have hE := span_no1 (c := br) (d := bm) h1
      have HE := hideIt (show (spanT L ar am br bm).toList.isEmpty = true by rw [hE]; exact txt_none)
      clear hE
      generalize spanT L ar am br bm = TT at *
      generalize pN (markP L br bm) = q at *
      generalize pB (markP L br bm) = z at *
      have hE := HE.out
      simp only [pN, pB]
      go_wp2
      go_ret
      exact ⟨rfl, HW.out.bel⟩
    | some f =>
      cases h2 : markP L br bm with
      | none =>
        have hE := span_no2 (a := ar) (b := am) h2
        have HE := hideIt (show (spanT L ar am br bm).toList.isEmpty = true by rw [hE]; exact txt_none)
        clear hE h1
        generalize spanT L ar am br bm = TT at *
        have hE := HE.out
        simp only [pN, pB]
        go_wp2
        go_ret
        exact ⟨rfl, HW.out.bel⟩
      | some g =>
        by_cases hfg : g < f
        · have hE := span_back h1 h2 hfg
          have HE := hideIt (show (spanT L ar am br bm).toList.isEmpty = true by rw [hE]; exact txt_none)
          have hfg' : (g : Int) < (f : Int) := by omega
          clear hE h1 h2
          generalize spanT L ar am br bm = TT at *
          have hE := HE.out
          simp only [pN, pB]
          go_wp2
          go_ret
          exact ⟨rfl, HW.out.bel⟩
        · have hfg' : ¬ (g : Int) < (f : Int) := by omega
          have ho := mark_ops h1
          have hgs := markP_le h2
          rw [← nShown_text] at hgs
          have E1 := hideIt (span_yes (mark_zero ho) h1 (Nat.zero_le f))
          have E2 := hideIt (span_yes h1 h2 (by omega))
          have E3 := hideIt (span_yes (mark_zero ho) h2 (Nat.zero_le g))
          have E4 := hideIt (span_yes h1 h1 (Nat.le_refl f))
          rw [E2.out]
          clear h1 h2
          simp only [pN, pB]
          have hts : (txtB (shown (lfs L (standL L)))).size ≤ 74 := by
            rw [txtB_size]
            exact Nat.le_trans (shown_len _) (by rw [lfs_len]; exact Nat.le_trans (stand_len L) hL)
          generalize hTT : txtB (shown (lfs L (standL L))) = T at *
          clear hTT
          have hll : L.length ≤ 1048576 := by omega
          have hcl := HW.out.own.cap
          have hcat : T.extract 0 f ++ T.extract f g = T.extract 0 g := bytes_two T (by omega) hgs
          have hemp : (T.extract f f).toList.isEmpty = true := bytes_none T f
          have ka : ∀ W : World, _ := fun W => run_string_add_sum (P := Tryd.prog) (w := W) (T.extract 0 f) (T.extract f g) (by simp only [ByteArray.size_extract]; omega)
          have hBa : Below w6.heap.size w6 (w6.alloc (.cells #[.int .i64 0, .int .i64 0] 27)) := (Below.refl _ _).alloc (Nat.le_refl _) _
          obtain ⟨N, hN⟩ : ∃ N, w6.heap.size = N := ⟨_, rfl⟩
          have hnl : w6.heap.size < (w6.alloc (.cells #[.int .i64 0, .int .i64 0] 27)).heap.size := by simp
          have hn0 : (w6.alloc (.cells #[.int .i64 0, .int .i64 0] 27)).cell? ⟨w6.heap.size, 0, none⟩ = some (.int .i64 0) := by simp [go_sem]
          have hn1 : (w6.alloc (.cells #[.int .i64 0, .int .i64 0] 27)).cell? ⟨w6.heap.size, 1, none⟩ = some (.int .i64 0) := by simp [go_sem]
          have HW7 := HW.out.below hBa
          go_wp2_with fail
          rw [hN] at hn0 hn1 hnl
          clear hBa hN
          generalize w6.alloc (.cells #[.int .i64 0, .int .i64 0] 27) = w7 at *
          have HS0 : Hid (w7.cell? ⟨N, 0, none⟩ = some (.int .i64 0) ∧ w7.cell? ⟨N, 1, none⟩ = some (.int .i64 0) ∧ w7.cell? ⟨A, 0, none⟩ = some (.int .i64 ar) ∧ w7.cell? ⟨A, 1, none⟩ = some (.int .i64 am) ∧ w7.cell? ⟨B, 0, none⟩ = some (.int .i64 br) ∧ w7.cell? ⟨B, 1, none⟩ = some (.int .i64 bm) ∧ R5 w G c N A B L w7) := ⟨hn0, hn1, HW7.a.x0, HW7.a.x1, HW7.b.x0, HW7.b.x1, HW7.own, hnl, HW7.a.lt, HW7.b.lt, HW7.bel⟩
          have HSd : Hid (w7.drew.cell? ⟨N, 0, none⟩ = some (.int .i64 0) ∧ w7.drew.cell? ⟨N, 1, none⟩ = some (.int .i64 0) ∧ w7.drew.cell? ⟨A, 0, none⟩ = some (.int .i64 ar) ∧ w7.drew.cell? ⟨A, 1, none⟩ = some (.int .i64 am) ∧ w7.drew.cell? ⟨B, 0, none⟩ = some (.int .i64 br) ∧ w7.drew.cell? ⟨B, 1, none⟩ = some (.int .i64 bm) ∧ R5 w G c N A B L w7.drew) := keep7 ((Below.refl _ _).drew) HS0.out
          clear HW7 hn0 hn1 hnl HW a0 a1 af al b0 b1 bf bl
          go_region_held3 (fun W' => W'.cell? ⟨N, 0, none⟩ = some (.int .i64 0) ∧ W'.cell? ⟨N, 1, none⟩ = some (.int .i64 0) ∧ W'.cell? ⟨A, 0, none⟩ = some (.int .i64 ar) ∧ W'.cell? ⟨A, 1, none⟩ = some (.int .i64 am) ∧ W'.cell? ⟨B, 0, none⟩ = some (.int .i64 br) ∧ W'.cell? ⟨B, 1, none⟩ = some (.int .i64 bm) ∧ R5 w G c N A B L W')
            (first | with_reducible assumption | with_reducible exact HSd.out | with_reducible exact HS0.out | exact keep7 hb2 (by with_reducible assumption))
            (first
              | (go_at_call 30; with_reducible refine (implSpan_any L G c 0 0 ar am x _ (R5.at (rest7 (ar := ar) (am := am) (br := br) (bm := bm) (by with_reducible assumption) : R5 w G c N A B L _)) hll hcl (errB (R5.bel (rest7 (ar := ar) (am := am) (br := br) (bm := bm) (by with_reducible assumption) : R5 w G c N A B L _)) h0 he) (posB (R5.bel (rest7 (ar := ar) (am := am) (br := br) (bm := bm) (by with_reducible assumption) : R5 w G c N A B L _)) h0)).mono ?_; rintro e w8 ⟨rfl, hb2⟩; rw [E1.out])
              | (go_at_call 30; with_reducible refine (implSpan_any L G c 0 0 br bm x _ (R5.at (rest7 (ar := ar) (am := am) (br := br) (bm := bm) (by with_reducible assumption) : R5 w G c N A B L _)) hll hcl (errB (R5.bel (rest7 (ar := ar) (am := am) (br := br) (bm := bm) (by with_reducible assumption) : R5 w G c N A B L _)) h0 he) (posB (R5.bel (rest7 (ar := ar) (am := am) (br := br) (bm := bm) (by with_reducible assumption) : R5 w G c N A B L _)) h0)).mono ?_; rintro e w8 ⟨rfl, hb2⟩; rw [E3.out])
              | (go_at_call 30; with_reducible refine (implSpan_any L G c ar am ar am x _ (R5.at (rest7 (ar := ar) (am := am) (br := br) (bm := bm) (by with_reducible assumption) : R5 w G c N A B L _)) hll hcl (errB (R5.bel (rest7 (ar := ar) (am := am) (br := br) (bm := bm) (by with_reducible assumption) : R5 w G c N A B L _)) h0 he) (posB (R5.bel (rest7 (ar := ar) (am := am) (br := br) (bm := bm) (by with_reducible assumption) : R5 w G c N A B L _)) h0)).mono ?_; rintro e w8 ⟨rfl, hb2⟩; rw [E4.out]))
          all_goals
            rename_i hS
            have HB9 := hideIt (R5.bel (rest7 hS))
            clear hS
            go_wp2
            go_ret
            exact ⟨rfl, HB9.out⟩
  · go_enter Tryd.func9, Tryd.ntmps9
    go_wp2
    go_ret
    exact ⟨rfl, Below.refl _ _⟩
end Go.Proofs.YtjadkhejdbdpoaaDoor

namespace Go.Proofs.YtjadkhejdbdpoaaDoor
open Go.ChangeShapes Go.WideShapes Go.ChangeAt Go.RowKit Go.Joins

set_option maxRecDepth 100000 in
theorem liftedFnMarkSpan (os : Os) (started : os.Started) (H : Type) (enc : TypeId × Value → H) :
    ReturnsInHanded {} Tryd.checked os 9 .any (fun w args => (Rows.fnMarkSpanSpec.pre enc Tryd.prog Tryd.f9 [] false w args ∧ laidMetH Tryd.prog laid1 w) ∧ sizedMet enc Tryd.prog Tryd.f9 (OpenSpec.ofChange Rows.fnMarkSpanSpec) false w args)
      (Rows.fnMarkSpanSpec.post enc Tryd.prog Tryd.f9 false true false false) := by
  refine returnsInHanded_of_change_and (C := Tryd.checked) (X := fun w _ => laidMetH Tryd.prog laid1 w) (fun _ _ _ hh h => h.of_heap hh) own started (by kernel_rfl) Tryd.func9
    (ChangeSpec.witness_shaped (enc := enc) (C := Tryd.checked) (os := os) (X := fun w _ => laidMetH Tryd.prog laid1 w) false (World.doorLaid Tryd.prog 28 os) #[.slice none 0 0] 8 rfl (World.shaped_of_RefB (by kernel_rfl) (by kernel_rfl)) (by kernel_rfl) (by kernel_rfl) (by kernel_rfl) (door_met os _)) ?_
  intro W base args ds gs before hval0 hW _ _ hL _
  have hval : ∀ (j : Nat) t v, Tryd.f9.params[j]? = some t → args[j]? = some v → Value.okWide Tryd.prog W .any base t v := hval0
  have hW' := hW
  obtain ⟨p, q, hA0, hV0, rfl, hfz, hnd⟩ := hW
  have hA : DataW.TrodAll enc Tryd.prog W 0 (fun _ => true) true Tryd.f9.params.toList args.toList ds p := hA0
  have hV : DataW.TrodVars enc Tryd.prog W (fun _ => true) [errName] gs q := hV0
  rw [Tryd.params9] at hA hval
  obtain ⟨v0, d0, rfl, rfl, h0⟩ := trodAll_one hA
  have k0 := h0
  have lt0 : ∀ x ∈ p, x.block < W.heap.size := by obtain ⟨m, hm⟩ := k0; exact DataW.trod_lt m _ _ _ hm
  obtain ⟨x, hv, hc, hpos⟩ := of_laid hL
  obtain ⟨rfl, rfl⟩ := hV.unique (vars_read1 enc gErr tErr Tryd.underlying71 hv trivial _)
  obtain ⟨q0, n0, c0, rfl, hc0, hm0, ha0⟩ := open_bytes (hval 0 22 v0 rfl rfl) h0
  clear hA0 hV0 hval0
  refine (walkSpanCut W q0 n0 c0 ha0 hc0 hm0 x hc hpos).mono fun e W' ⟨he, bel⟩ => ?_
  subst he
  exact ⟨_, rfl, _, _, _, [], p, [.cell 0 0], hW', trodAll_mk1 (shut_bool Tryd.underlying4 _), trodAll_mk1 (Below.trod laidOut (by kernel_rfl) (of_decide_eq_true (by kernel_rfl)) k0 bel lt0), vars_read1 enc gErr tErr Tryd.underlying71 (var_kept bel hpos hv) trivial _, bel.frame _, fun h => by cases h⟩

theorem fnMarkSpan_row : Rows.FnMarkSpanSaid :=
  OpenClaim.holds_of_wide 9 Tryd.f9 rfl rfl rfl rfl rfl rfl rfl ⟨rfl, rfl, rfl, rfl, rfl⟩ rfl rfl rfl rfl rfl (by kernel_rfl) Tryd.func9 (by kernel_rfl)
    (of_decide_eq_true (by kernel_rfl)) (by unfold Func.isWrapper; first | (rw [if_pos (by decide +kernel)]; kernel_rfl) | (rw [if_neg (by decide +kernel)]; exact ⟨rfl, rfl⟩))
    (fun os started H enc _ => liftedFnMarkSpan os started H enc)

/-- THE STATEMENT. -/
theorem fnMarkSpan_holds : Rows.FnMarkSpanCardSaid :=
  Claim7.holds_tied_plain_at .later [] Rows.fnMarkSpanCard.laidKinds true Rows.fnMarkSpanCard.stood.harness true
    fnMarkSpan_row (fun _ h => by cases h) (by kernel_rfl) (fun _ h => by cases h) fnMarkSpan_row_tie rfl ⟨rfl, rfl⟩ (by kernel_rfl) rfl
    (fun f fn hf hfn => by
      obtain rfl : f = 9 := Option.some.inj ((show Tryd.prog.funcNamed Rows.fnMarkSpanRow.func = some 9 by kernel_rfl).symm.trans hf) |>.symm
      obtain rfl : fn = Tryd.f9 := (Option.some.inj (Tryd.func9.symm.trans hfn)).symm
      exact ⟨by kernel_rfl, fun j t ht => by
        rw [Tryd.params9] at ht
        have hm : t ∈ [22] := by simpa using Array.mem_of_getElem? ht
        have hall : ([22].all fun u => !Tryd.prog.wantsStandIn u) = true := by kernel_rfl
        exact (show Tryd.prog.wantsStandIn t = false by simpa using List.all_eq_true.1 hall t hm)⟩)
    (by kernel_rfl)
#print axioms fnMarkSpan_holds
end Go.Proofs.YtjadkhejdbdpoaaDoor
