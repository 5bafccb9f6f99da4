/-
  PROVED: TypePut is true just where there is such a place, such a letter, and somebody who did less than twelve things, whatever bytes what was done, who puts, where and what are drawn from; and TypePut answers as the specification's does (the given card of FnPutCan), for every input; the one listed variable, the program's error, reads as its own initialiser lays it.
-/
import Derived.Test.YtedanlmippfojaaDoorP3
import Derived.Test.YtedanlmippfojaaDoorP2
import Derived.Test.YtedanlmippfojaaDoorP5
import Derived.Test.YtedanlmippfojaaDoorP0
import Derived.Test.YtedanlmippfojaaDoorP4
import Derived.Test.YtedanlmippfojaaDoorP6
import Derived.Test.YtedanlmippfojaaDoorRows
import Derived.WalkKit
import Derived.ProofKit
import Derived.OpenShut
import Derived.ChangeOld
import Derived.Below
import Derived.Lib.SmallJoins
import Derived.Stop.LaidErr
import Derived.LaidMore
import Derived.Stop.Joined
import Derived.ChangeSlices
import Derived.Test.YtedanlmippfojaaDoorTie
import Derived.Test.YtedanlmippfojaaDoorCards
import Derived.SevenTiedAt
namespace Go.Proofs.YtedanlmippfojaaDoor
open Go.RowKit
set_option linter.unusedSimpArgs false
set_option linter.unusedVariables false
attribute [local go_sem ↓] Go.wp_at_zero Go.wp_at_succ

set_option maxRecDepth 100000 in
set_option maxHeartbeats 2000000 in
theorem drawPut_any (w : World) (p : Option Addr) (n cap : Nat) (h : ArgBytes w p n) (hcap : n ≤ cap) (hn : n ≤ 1048576) :
    Calls Tryd.prog 15 #[.slice p n cap] w fun e w' => ∃ G c m r t sg, e = .returned (.tuple #[.slice (some ⟨G, 0, none⟩) m c, .int .i64 r, .int .i64 t, .int .i64 sg]) ∧ (0 ≤ r ∧ r ≤ 4) ∧ (-1 ≤ t ∧ t ≤ 1000) ∧ (0 ≤ sg ∧ sg ≤ 130) ∧ SomeOps w' w.heap.size G c m 74 ∧ Below w.heap.size w w' := by
  have H := hideIt h
  clear h
  go_enter Tryd.func15, Tryd.ntmps15
  go_wp2_with fail
  refine (open_any _ p n cap H.out hcap hn).mono ?_
  rintro e w1 ⟨n', rfl, hR1, hb1⟩
  have HR1 := hideIt hR1
  have HB1 := hideIt hb1
  clear hR1 hb1
  go_wp2_with fail
  refine (l71Off_any _ _ p n' cap 0 HR1.out (by omega)).mono ?_
  rintro e w2 ⟨⟨G, c, m, rfl, hS2⟩, ⟨k2, hk2, hR2⟩, hO2⟩
  have hq1 : w.heap.size < w1.heap.size := HR1.out.lt
  have hz1 : w.heap.size ≤ w1.heap.size := by omega
  have HS2 := hideIt hS2
  have HB2 := hideIt (HB1.out.trans hO2.below)
  have HR2 := hideIt hR2
  clear hS2 hR2 hO2 HR1 HB1
  go_wp2_with fail
  refine (pick_any _ _ p n' cap k2 26 HR2.out (by omega) (by omega) (by omega)).mono ?_
  rintro e w3 ⟨⟨y, hy0, hy1, rfl⟩, hR3, hO3⟩
  have HS2 := hideIt (HS2.out.only hO3 hq1)
  have HB2 := hideIt (HB2.out.trans hO3.below)
  have HR2 := hideIt hR3
  clear hR3 hO3
  have hwy : IntKind.i64.wrap (97 + y) = 97 + y := IntWalk.i64_in (97 + y) ⟨by omega, by omega⟩
  go_wp2_with fail
  refine (pick_any _ _ p n' cap (k2 + 1) 24 HR2.out (by omega) (by omega) (by omega)).mono ?_
  rintro e w4 ⟨⟨x, hx0, hx1, rfl⟩, hR4, hO4⟩
  have HS2 := hideIt (HS2.out.only hO4 hq1)
  have HB2 := hideIt (HB2.out.trans hO4.below)
  have HR2 := hideIt hR4
  clear hR4 hO4
  by_cases hz : x = 0
  · subst hz
    go_wp2_with fail
    refine (pick_any _ _ p n' cap (k2 + 1 + 1) 3 (HR2.out.alloc _) (by omega) (by omega) (by omega)).mono ?_
    rintro e w5 ⟨⟨dd, hdd0, hdd1, rfl⟩, hR5, hO5⟩
    have hqw := HR2.out.lt
    have sl : ∃ sg : Int, (0 ≤ sg ∧ sg ≤ 130) ∧ w5.cell? ⟨w4.heap.size, dd.toNat, none⟩ = some (.int .i64 sg) := by
      have hs : ∀ j, w5.cell? ⟨w4.heap.size, j, none⟩ = _ := fun j => hO5.cell w4.heap.size j (by simp) (by omega)
      obtain rfl | rfl | rfl : dd = 0 ∨ dd = 1 ∨ dd = 2 := by omega
      · exact ⟨0, by omega, (hs 0).trans (by simp [go_sem])⟩
      · exact ⟨65, by omega, (hs 1).trans (by simp [go_sem])⟩
      · exact ⟨123, by omega, (hs 2).trans (by simp [go_sem])⟩
    obtain ⟨sg, hsg, hsl⟩ := sl
    have hb4 : Below w4.heap.size w4 (w4.alloc (.cells #[.int .i64 0, .int .i64 65, .int .i64 123] 3)) := (Below.refl _ _).alloc (Nat.le_refl _) _
    have HS2 := hideIt ((HS2.out.below hb4).only hO5 hq1)
    have HB2 := hideIt ((Bstep HB2.out hb4).trans hO5.below)
    have HR2 := hideIt hR5
    clear hR5 hO5 hb4
    go_wp2_with fail
    refine (l71Rep_any _ _ p n' cap (k2 + 1 + 1 + 1) HR2.out (by omega)).mono ?_
    rintro e w2b ⟨⟨r, hr, rfl⟩, hR2b, hO2b⟩
    have HS2 := hideIt (HS2.out.only hO2b hq1)
    have HB2 := hideIt (HB2.out.trans hO2b.below)
    have HR2 := hideIt hR2b
    have HRR := hideIt hr
    clear hR2b hO2b hr
    obtain ⟨L, hLm, hL74, hOw⟩ := HS2.out
    subst hLm
    have HL := hideIt hOw
    clear hOw
    go_wp2_with fail
    refine (specTxt_any L G c _ HL.out.at (by omega) HL.out.cap).mono ?_
    rintro e w3 ⟨rfl, hb3⟩
    have hts : (txtB (shown (lfs L (standL L)))).size ≤ 74 := by
      rw [txtB_size]
      have h1 := shown_len (lfs L (standL L))
      rw [lfs_len] at h1
      have h2 := stand_len L
      omega
    have HS3 := hideIt (HS2.out.below hb3)
    have HR3 := hideIt (HR2.out.below hb3)
    have HB3 := hideIt (Bstep HB2.out hb3)
    clear hb3 HS2 HR2 HB2 HL
    generalize txtB (shown (lfs L (standL L))) = T at *
    have hwT : IntKind.i64.wrap ((T.size : Int) + 1) = (T.size : Int) + 1 := IntWalk.i64_in ((T.size : Int) + 1) ⟨by omega, by omega⟩
    go_wp2_with fail
    refine (pick_any _ _ p n' cap (k2 + 1 + 1 + 1 + 2) _ HR3.out (by omega) (by omega) (by omega)).mono ?_
    rintro e w4 ⟨⟨d, hd0, hd1, rfl⟩, hR4, hO4⟩
    have HS4 := hideIt (HS3.out.only hO4 hq1)
    have HR4 := hideIt hR4
    have HB4 := hideIt (HB3.out.trans hO4.below)
    clear hR4 hO4 HS3 HR3 HB3
    go_wp2_with fail
    refine (pick_any _ _ p n' cap (k2 + 1 + 1 + 1 + 2 + 1) _ HR4.out (by omega) (by omega) (by omega)).mono ?_
    rintro e w5 ⟨⟨u, hu0, hu1, rfl⟩, hR5, hO5⟩
    have HS5 := hideIt (HS4.out.only hO5 hq1)
    have HR5 := hideIt hR5
    have HB5 := hideIt (HB4.out.trans hO5.below)
    clear hR5 hO5 HS4 HR4 HB4
    have hw2 : IntKind.i64.wrap (d + u / 23) = d + u / 23 := IntWalk.i64_in (d + u / 23) ⟨by omega, by omega⟩
    go_wp2_with fail
    refine (pick_any _ _ p n' cap (k2 + 1 + 1 + 1 + 2 + 1 + 1) _ HR5.out (by omega) (by omega) (by omega)).mono ?_
    rintro e w6 ⟨⟨v, hv0, hv1, rfl⟩, hR6, hO6⟩
    have HS6 := hideIt ((HS5.out.only hO6 hq1).base hz1)
    have HB6 := hideIt (HB5.out.trans hO6.below)
    clear hR6 hO6 HS5 HR5 HB5
    have hw3 : IntKind.i64.wrap (d + u / 23 - v / 23) = d + u / 23 - v / 23 := IntWalk.i64_in (d + u / 23 - v / 23) ⟨by omega, by omega⟩
    go_wp2
    exact bodyPost_ret (v := .tuple #[.slice (some ⟨G, 0, none⟩) L.length c, .int .i64 r, .int .i64 (d + u / 23 - v / 23), .int .i64 (sg)]) (by simp [results, Tryd.results15, go_sem]) rfl ⟨G, c, _, _, _, _, rfl, HRR.out, by omega, hsg, HS6.out, HB6.out⟩
  · have hxp : ¬ x = 0 := hz
    have hsg : 0 ≤ 97 + y ∧ 97 + y ≤ 130 := by omega
    go_wp2_with fail
    refine (l71Rep_any _ _ p n' cap (k2 + 1 + 1) HR2.out (by omega)).mono ?_
    rintro e w2b ⟨⟨r, hr, rfl⟩, hR2b, hO2b⟩
    have HS2 := hideIt (HS2.out.only hO2b hq1)
    have HB2 := hideIt (HB2.out.trans hO2b.below)
    have HR2 := hideIt hR2b
    have HRR := hideIt hr
    clear hR2b hO2b hr
    obtain ⟨L, hLm, hL74, hOw⟩ := HS2.out
    subst hLm
    have HL := hideIt hOw
    clear hOw
    go_wp2_with fail
    refine (specTxt_any L G c _ HL.out.at (by omega) HL.out.cap).mono ?_
    rintro e w3 ⟨rfl, hb3⟩
    have hts : (txtB (shown (lfs L (standL L)))).size ≤ 74 := by
      rw [txtB_size]
      have h1 := shown_len (lfs L (standL L))
      rw [lfs_len] at h1
      have h2 := stand_len L
      omega
    have HS3 := hideIt (HS2.out.below hb3)
    have HR3 := hideIt (HR2.out.below hb3)
    have HB3 := hideIt (Bstep HB2.out hb3)
    clear hb3 HS2 HR2 HB2 HL
    generalize txtB (shown (lfs L (standL L))) = T at *
    have hwT : IntKind.i64.wrap ((T.size : Int) + 1) = (T.size : Int) + 1 := IntWalk.i64_in ((T.size : Int) + 1) ⟨by omega, by omega⟩
    go_wp2_with fail
    refine (pick_any _ _ p n' cap (k2 + 1 + 1 + 2) _ HR3.out (by omega) (by omega) (by omega)).mono ?_
    rintro e w4 ⟨⟨d, hd0, hd1, rfl⟩, hR4, hO4⟩
    have HS4 := hideIt (HS3.out.only hO4 hq1)
    have HR4 := hideIt hR4
    have HB4 := hideIt (HB3.out.trans hO4.below)
    clear hR4 hO4 HS3 HR3 HB3
    go_wp2_with fail
    refine (pick_any _ _ p n' cap (k2 + 1 + 1 + 2 + 1) _ HR4.out (by omega) (by omega) (by omega)).mono ?_
    rintro e w5 ⟨⟨u, hu0, hu1, rfl⟩, hR5, hO5⟩
    have HS5 := hideIt (HS4.out.only hO5 hq1)
    have HR5 := hideIt hR5
    have HB5 := hideIt (HB4.out.trans hO5.below)
    clear hR5 hO5 HS4 HR4 HB4
    have hw2 : IntKind.i64.wrap (d + u / 23) = d + u / 23 := IntWalk.i64_in (d + u / 23) ⟨by omega, by omega⟩
    go_wp2_with fail
    refine (pick_any _ _ p n' cap (k2 + 1 + 1 + 2 + 1 + 1) _ HR5.out (by omega) (by omega) (by omega)).mono ?_
    rintro e w6 ⟨⟨v, hv0, hv1, rfl⟩, hR6, hO6⟩
    have HS6 := hideIt ((HS5.out.only hO6 hq1).base hz1)
    have HB6 := hideIt (HB5.out.trans hO6.below)
    clear hR6 hO6 HS5 HR5 HB5
    have hw3 : IntKind.i64.wrap (d + u / 23 - v / 23) = d + u / 23 - v / 23 := IntWalk.i64_in (d + u / 23 - v / 23) ⟨by omega, by omega⟩
    go_wp2
    exact bodyPost_ret (v := .tuple #[.slice (some ⟨G, 0, none⟩) L.length c, .int .i64 r, .int .i64 (d + u / 23 - v / 23), .int .i64 (97 + y)]) (by simp [results, Tryd.results15, go_sem]) rfl ⟨G, c, _, _, _, _, rfl, HRR.out, by omega, hsg, HS6.out, HB6.out⟩
end Go.Proofs.YtedanlmippfojaaDoor

namespace Go.Proofs.YtedanlmippfojaaDoor
open Go.RowKit
set_option linter.unusedSimpArgs false
set_option linter.unusedVariables false
/-- A box with a thing in it, in memory that has grown. -/
structure OX (b : Nat) (o : Op7) (w W : World) : Prop where
  box : W.heap[b]? = some (.cells #[.int .i64 o.a, .int .i64 o.b, .int .i64 o.k, .int .i64 o.c, .int .i64 o.d, .int .i64 o.s, .int .i64 o.g] 29 (0, 0))
  bel : Below w.heap.size w W
theorem OX.below {b : Nat} {o : Op7} {w W W' : World} (h : OX b o w W) (hb : Below W.heap.size W W') : OX b o w W' := ⟨blk_below h.box hb, Bstep h.bel hb⟩
end Go.Proofs.YtedanlmippfojaaDoor

namespace Go.Proofs.YtedanlmippfojaaDoor
open Go.RowKit
set_option linter.unusedSimpArgs false
set_option linter.unusedVariables false
attribute [local go_sem ↓] Go.wp_at_zero Go.wp_at_succ

/-- A box of a thing: what lies in it. -/
def O7 (M : Nat) (o : Op7) (W : World) : Prop := W.cell? ⟨M, 0, none⟩ = some (.int .i64 o.a) ∧ W.cell? ⟨M, 1, none⟩ = some (.int .i64 o.b) ∧ W.cell? ⟨M, 2, none⟩ = some (.int .i64 o.k) ∧ W.cell? ⟨M, 3, none⟩ = some (.int .i64 o.c) ∧ W.cell? ⟨M, 4, none⟩ = some (.int .i64 o.d) ∧ W.cell? ⟨M, 5, none⟩ = some (.int .i64 o.s) ∧ W.cell? ⟨M, 6, none⟩ = some (.int .i64 o.g)
theorem O7.of {M : Nat} {o : Op7} {W : World} (h : W.heap[M]? = some (.cells #[.int .i64 o.a, .int .i64 o.b, .int .i64 o.k, .int .i64 o.c, .int .i64 o.d, .int .i64 o.s, .int .i64 o.g] 29 (0, 0))) : O7 M o W :=
  ⟨(blk_cell h 0).trans rfl, (blk_cell h 1).trans rfl, (blk_cell h 2).trans rfl, (blk_cell h 3).trans rfl, (blk_cell h 4).trans rfl, (blk_cell h 5).trans rfl, (blk_cell h 6).trans rfl⟩

/-- Things, and two boxes of one thing. -/
structure PW (w W : World) (G c O P : Nat) (L : List Op7) (o : Op7) : Prop where
  own : OwnOps W w.heap.size G c L
  one : W.heap[O]? = some (.cells #[.int .i64 o.a, .int .i64 o.b, .int .i64 o.k, .int .i64 o.c, .int .i64 o.d, .int .i64 o.s, .int .i64 o.g] 29 (0, 0))
  two : W.heap[P]? = some (.cells #[.int .i64 o.a, .int .i64 o.b, .int .i64 o.k, .int .i64 o.c, .int .i64 o.d, .int .i64 o.s, .int .i64 o.g] 29 (0, 0))
  bel : Below w.heap.size w W
theorem PW.below {w W W' : World} {G c O P : Nat} {L : List Op7} {o : Op7} (h : PW w W G c O P L o) (hb : Below W.heap.size W W') : PW w W' G c O P L o := ⟨h.own.below hb, blk_below h.one hb, blk_below h.two hb, Bstep h.bel hb⟩

theorem nShown_text' (L : List Lf) : (txtB (shown L)).size = nShown L := by rw [txtB_size]; simp [shown, nShown]
theorem txt_shown' {l : List Op7} (h : opsB l = true) : (txtB (shown (lfs l (standL l)))).size = (shownI (lvs l)).length := by
  rw [nShown_text', shownI_len]
  unfold lvs standL
  rw [if_pos h]

set_option maxRecDepth 100000 in
set_option maxHeartbeats 8000000 in
theorem walkPutCan (w : World) (p : Option Addr) (n cap : Nat) (h : ArgBytes w p n) (hcap : n ≤ cap) (hmax : cap ≤ maxLen) (x : Addr)
    (he : w.cell? ⟨0, 0, none⟩ = some (.iface 203 (.pointer (some x)))) (h0 : 0 < w.heap.size) :
    Calls Tryd.prog 5 #[.slice p n cap] w fun e w' => e = .returned (.bool true) ∧ Below w.heap.size w w' := by
  have H := hideIt h
  clear h
  unfold maxLen at *
  by_cases hn : n ≤ 1048576
  · go_enter Tryd.func5, Tryd.ntmps5
    go_wp2_with fail
    refine (drawPut_any _ p n cap H.out hcap hn).mono ?_
    rintro e w1 ⟨G, c, _, r, t, sg, rfl, hr, ht, hsg0, ⟨L, rfl, hL, hS⟩, hb1⟩
    have hwf : wf64 t := wf_small (by omega)
    have HS := hideIt hS
    have HB := hideIt hb1
    clear hS hb1
    obtain ⟨o, ho⟩ : ∃ o, putA L r t sg = o := ⟨_, rfl⟩
    obtain ⟨zz, hzz⟩ : ∃ zz, mayPut L r t sg = zz := ⟨_, rfl⟩
    have HO := hideIt ho
    have HZ := hideIt hzz
    clear ho hzz
    go_wp2_with fail
    refine (typePut_any L G c r t sg _ HS.out.at (by omega) HS.out.cap).mono ?_
    rintro e w2 ⟨hd, hb2⟩
    have hE := putA_of hd
    rw [HO.out, HZ.out] at hE
    subst hE
    unfold opV
    have HS2 := hideIt (HS.out.below hb2)
    have HB2 := hideIt (Bstep HB.out hb2)
    clear hb2 hd HS HB
    go_wp2_with fail
    have HX2 : Hid (OX w2.heap.size o w (w2.alloc (.cells #[.int .i64 o.a, .int .i64 o.b, .int .i64 o.k, .int .i64 o.c, .int .i64 o.d, .int .i64 o.s, .int .i64 o.g] 29))) := ⟨World.alloc_heap_new _ _, HB2.out.alloc HB2.out.size _⟩
    have HS3 := hideIt (HS2.out.below ((Below.refl _ _).alloc (Nat.le_refl _) (.cells #[.int .i64 o.a, .int .i64 o.b, .int .i64 o.k, .int .i64 o.c, .int .i64 o.d, .int .i64 o.s, .int .i64 o.g] 29)))
    clear HS2 HB2
    refine (implPut_any L G c r t sg hwf x _ HS3.out.at (by omega) HS3.out.cap (errB HX2.out.bel h0 he) (posB HX2.out.bel h0)).mono ?_
    rintro e w4 ⟨hd, hb4⟩
    have hE := putA_of hd
    rw [HO.out, HZ.out] at hE
    subst hE
    unfold opV
    have HX4 := hideIt (HX2.out.below hb4)
    have HS4 := hideIt (HS3.out.below hb4)
    clear hb4 hd HX2 HS3
    generalize w2.heap.size = O at *
    have HT : Hid (PW w (w4.alloc (.cells #[.int .i64 o.a, .int .i64 o.b, .int .i64 o.k, .int .i64 o.c, .int .i64 o.d, .int .i64 o.s, .int .i64 o.g] 29)) G c O w4.heap.size L o) :=
      ⟨HS4.out.below ((Below.refl _ _).alloc (Nat.le_refl _) _), blk_below HX4.out.box ((Below.refl _ _).alloc (Nat.le_refl _) _), World.alloc_heap_new _ _, HX4.out.bel.alloc HX4.out.bel.size _⟩
    have HBX : Hid (∀ W', W' = w4.alloc (.cells #[.int .i64 o.a, .int .i64 o.b, .int .i64 o.k, .int .i64 o.c, .int .i64 o.d, .int .i64 o.s, .int .i64 o.g] 29) → O7 O o W' ∧ O7 w4.heap.size o W') := fun W' e => by
      subst e
      exact ⟨O7.of HT.out.one, O7.of HT.out.two⟩
    obtain ⟨⟨x0, x1, x2, x3, x4, x5, x6⟩, ⟨y0, y1, y2, y3, y4, y5, y6⟩⟩ := HBX.out _ rfl
    have hlO := (Array.getElem?_eq_some_iff.1 HX4.out.box).1
    have z0 := (blk_cell HX4.out.box 0).trans rfl
    have z1 := (blk_cell HX4.out.box 1).trans rfl
    have z2 := (blk_cell HX4.out.box 2).trans rfl
    have z3 := (blk_cell HX4.out.box 3).trans rfl
    have z4 := (blk_cell HX4.out.box 4).trans rfl
    have z5 := (blk_cell HX4.out.box 5).trans rfl
    have z6 := (blk_cell HX4.out.box 6).trans rfl
    go_wp2_with fail
    refine (specOps_any L _ _ _ HT.out.own.at (by omega) HT.out.own.cap).mono ?_
    rintro e w5 ⟨rfl, hb5⟩
    have HT5 := hideIt (HT.out.below hb5)
    clear hb5 HT HBX x0 x1 x2 x3 x4 x5 x6 y0 y1 y2 y3 y4 y5 y6 z0 z1 z2 z3 z4 z5 z6 hlO HX4 HS4
    generalize w4.heap.size = P at *
    clear w4
    obtain ⟨x0, x1, x2, x3, x4, x5, x6⟩ := O7.of HT5.out.one
    obtain ⟨y0, y1, y2, y3, y4, y5, y6⟩ := O7.of HT5.out.two
    cases hop : opsB L
    · go_wp2
      go_ret
      exact ⟨by simp, HT5.out.bel⟩
    · have HOP := hideIt hop
      clear hop
      by_cases hr1 : r < 1
      · go_wp2
        go_ret
        exact ⟨by simp, HT5.out.bel⟩
      · by_cases hr3 : 3 < r
        · go_wp2
          go_ret
          exact ⟨by simp, HT5.out.bel⟩
        · have hr13 : inB r 1 3 = true := by unfold inB; exact decide_eq_true (by omega)
          have HZE : Hid (zz = (decide (cnt L r + 1 ≤ 12) && (inB sg 97 122 && inB t 0 (shownI (lvs L)).length))) := by
            show zz = _
            rw [← HZ.out]
            unfold mayPut mayMore
            rw [HOP.out, hr13]
            simp
          have hts := txt_shown' HOP.out
          clear hr13 HZ HO
          by_cases ht0 : t < 0
          · have hz : zz = false := by rw [HZE.out]; simp [inB]; omega
            subst hz
            go_wp2
            go_ret
            exact ⟨by simp, HT5.out.bel⟩
          · go_wp2_with fail
            refine (implTxt_any L G c x _ HT5.out.own.at (by omega) HT5.out.own.cap (errB HT5.out.bel h0 he) (posB HT5.out.bel h0)).mono ?_
            rintro e w6 ⟨rfl, hb6⟩
            have HT6 := hideIt (HT5.out.below hb6)
            clear hb6 x0 x1 x2 x3 x4 x5 x6 y0 y1 y2 y3 y4 y5 y6 HT5
            generalize txtB (shown (lfs L (standL L))) = T at *
            rw [← hts] at HZE
            by_cases ht1 : (T.size : Int) < t
            · have hz : zz = false := by rw [HZE.out]; simp [inB]; omega
              subst hz
              have ht1' : ¬ (t ≤ (T.size : Int)) := by omega
              go_wp2
              go_ret
              exact ⟨by simp, HT6.out.bel⟩
            · have ht1' : t ≤ (T.size : Int) := by omega
              by_cases hs0 : sg < 97
              · have hz : zz = false := by rw [HZE.out]; simp [inB]; omega
                subst hz
                go_wp2
                go_ret
                exact ⟨by simp, HT6.out.bel⟩
              · by_cases hs1 : 122 < sg
                · have hz : zz = false := by rw [HZE.out]; simp [inB]; omega
                  subst hz
                  go_wp2
                  go_ret
                  exact ⟨by simp, HT6.out.bel⟩
                · have hz : zz = decide (cnt L r + 1 ≤ 12) := by
                    rw [HZE.out]
                    have e1 : inB sg 97 122 = true := by unfold inB; exact decide_eq_true (by omega)
                    have e2 : inB t 0 T.size = true := by unfold inB; exact decide_eq_true (by omega)
                    rw [e1, e2]; simp
                  have HZZ := hideIt hz
                  clear hz HZE
                  go_wp2_with fail
                  refine (implSeen_any L G c x _ HT6.out.own.at (by omega) HT6.out.own.cap (errB HT6.out.bel h0 he) (posB HT6.out.bel h0)).mono ?_
                  rintro e w7 ⟨(⟨_, A, _, rfl, hI, _⟩ | ⟨hf, _⟩), hb7⟩
                  · have HT7 := hideIt (HT6.out.below hb7)
                    obtain ⟨c1, c2, c3⟩ := ints3 hI
                    clear hI hb7 HT6
                    obtain rfl | rfl | rfl : r = 1 ∨ r = 2 ∨ r = 3 := by omega
                    all_goals
                      go_wp2
                      go_ret
                      exact ⟨by rw [HZZ.out]; simp; omega, HT7.out.bel⟩
                  · rw [HOP.out] at hf; cases hf
  · go_enter Tryd.func5, Tryd.ntmps5
    go_wp2
    go_ret
    exact ⟨rfl, Below.refl _ _⟩
end Go.Proofs.YtedanlmippfojaaDoor

namespace Go.Proofs.YtedanlmippfojaaDoor
open Go.ChangeShapes Go.WideShapes Go.ChangeAt Go.RowKit Go.Joins

theorem own : ownKnob Tryd.prog.godebug = none := by kernel_rfl
theorem laidOut : laidOutB Tryd.prog = true := by kernel_rfl
theorem cells_int : Tryd.prog.cellsOf 3 = 1 := by kernel_rfl

/-- The name of the one listed variable. -/
abbrev errName : String := Rows.fnTypeAnyoneSpec.vars.headD ""
/-- What the rows list. -/
abbrev laid1 : List (String × DataW Unit) := Rows.fnTypeAnyoneRow.laid
theorem gErr : Tryd.prog.globalNamed errName = some 0 := by kernel_rfl
theorem tErr : (Tryd.prog.globals[0]?).map (·.type) = some 93 := by kernel_rfl
def nmOf : DataW Unit → String
  | .iface n _ => n
  | _ => ""
theorem star : "*" ++ "errors.errorString" = nmOf Rows.laid_loop_example_tatting_impl_errNoThing := by decide
theorem nameErr (u : TypeId) (h : Tryd.prog.typeName? 3 u = some (nmOf Rows.laid_loop_example_tatting_impl_errNoThing)) : u = 203 :=
  typeName_ptr_named (nm := "errors.errorString") (by rw [star]; kernel_rfl) (by kernel_rfl) (by decide) u (by rw [star]; exact h)

theorem door_met (os : Os) (args : Array Value) : laidMetH Tryd.prog laid1 ((World.doorLaid Tryd.prog 28 os).forCall (fun _ _ => 0) ⟨#[], args, []⟩).memory :=
  laidMetH_of_parts3 (fuel := 8) (laidMet_of_run' 8 (by kernel_rfl) (by kernel_rfl)) (by kernel_rfl) (by kernel_rfl)

/-- WHAT THE CONDITION GIVES THE WALKS: the one error's cell. -/
theorem of_laid {W : World} (h : laidMetH Tryd.prog laid1 W) : ∃ x : Addr, W.var? Tryd.prog errName = some #[.iface 203 (.pointer (some x))] ∧ W.cell? ⟨0, 0, none⟩ = some (.iface 203 (.pointer (some x))) ∧ 0 < W.heap.size := by
  rw [MakeChecks.laidMetH_plain _ _ _ (by kernel_rfl)] at h
  obtain ⟨x, s, hv, hc, _, _⟩ := laid_sentinel h gErr tErr Tryd.underlying93 nameErr Tryd.underlying203 Tryd.underlying230 rfl rfl Tryd.underlying9 (by kernel_rfl) (by kernel_rfl)
  have hcell : W.cell? ⟨0, 0, none⟩ = some (.iface 203 (.pointer (some x))) := by simpa using World.var?_cell gErr hv 0
  refine ⟨x, hv, hcell, ?_⟩
  rcases Nat.eq_zero_or_pos W.heap.size with h0 | h0
  · exfalso
    simp [World.cell?, Array.eq_empty_of_size_eq_zero h0] at hcell
  · exact h0

/-- The variable holds what it held, where nothing that was there has turned. -/
theorem var_kept {W W' : World} {x : Value} (hb : Below W.heap.size W W') (h0 : 0 < W.heap.size) (hv : W.var? Tryd.prog errName = some #[x]) : W'.var? Tryd.prog errName = some #[x] := by
  unfold World.var? at hv ⊢
  rw [gErr] at hv ⊢
  simp only [Option.bind_some] at hv ⊢
  rw [hb.block 0 h0]
  exact hv
end Go.Proofs.YtedanlmippfojaaDoor

namespace Go.Proofs.YtedanlmippfojaaDoor
open Go.ChangeShapes Go.WideShapes Go.ChangeAt Go.RowKit Go.Joins

theorem cells_byte : Tryd.prog.cellsOf 5 = 1 := by kernel_rfl

set_option maxRecDepth 100000 in
theorem open_bytes {H : Type} {enc : TypeId × Value → H} {w : World} {r : Reach} {b0 : Nat} {spare : Nat → Bool} {held : Bool} {v : Value} {d : DataW H} {p : List MemPlace}
    (hv : Value.okWide Tryd.prog w r b0 22 v) (h : DataW.Trod enc Tryd.prog w 0 spare held 22 v d p) :
    ∃ (q : Option Addr) (n cap : Nat), v = .slice q n cap ∧ n ≤ cap ∧ cap ≤ maxLen ∧ ArgBytes w q n := by
  obtain ⟨q, len, cap, rfl⟩ := okWide_slice Tryd.underlying22 hv
  obtain ⟨fuel, hf⟩ := h
  rcases open_ints Tryd.underlying22 Tryd.underlying5 cells_byte hf with ⟨hcs, _⟩ | ⟨a, len', cap', zs, hcs, _, hl, hm, hz, _, hcell, hwz⟩
  · simp [Value.cells] at hcs
    obtain ⟨rfl, rfl, rfl⟩ := hcs
    exact ⟨none, 0, 0, rfl, Nat.le_refl _, Nat.zero_le _, .inl rfl⟩
  · simp [Value.cells] at hcs
    obtain ⟨rfl, rfl, rfl⟩ := hcs
    refine ⟨some a, len, cap, rfl, hl, hm, ?_⟩
    have hlz : len ≤ zs.length := by rw [hz]; split <;> omega
    rcases Nat.eq_zero_or_pos len with h0 | h0
    · exact .inl h0
    obtain ⟨b, off, spot⟩ := a
    have hspot : spot = none := by simpa [Addr.add] using World.cell?_spot (hcell 0 (by omega))
    subst hspot
    refine .inr ⟨b, off, rfl, ?_, fun i hi => ?_⟩
    · have := World.block_lt_of_cell? w _ (hcell 0 (by omega))
      simpa [Addr.add_lit] using this
    · have hc := hcell i (by omega)
      rw [Addr.add_lit] at hc
      have hb := range_u8 hwz i
      exact ⟨zs.getD i 0, by simpa [List.getD] using hb.1, by simpa [List.getD] using hb.2, hc⟩

end Go.Proofs.YtedanlmippfojaaDoor

namespace Go.Proofs.YtedanlmippfojaaDoor
open Go.ChangeShapes Go.WideShapes Go.ChangeAt Go.RowKit Go.Joins

set_option maxRecDepth 100000 in
theorem liftedFnPutCan (os : Os) (started : os.Started) (H : Type) (enc : TypeId × Value → H) :
    ReturnsInHanded {} Tryd.checked os 5 .any (fun w args => (Rows.fnPutCanSpec.pre enc Tryd.prog Tryd.f5 [] false w args ∧ laidMetH Tryd.prog laid1 w) ∧ sizedMet enc Tryd.prog Tryd.f5 (OpenSpec.ofChange Rows.fnPutCanSpec) false w args)
      (Rows.fnPutCanSpec.post enc Tryd.prog Tryd.f5 false true false false) := by
  refine returnsInHanded_of_change_and (C := Tryd.checked) (X := fun w _ => laidMetH Tryd.prog laid1 w) (fun _ _ _ hh h => h.of_heap hh) own started (by kernel_rfl) Tryd.func5
    (ChangeSpec.witness_shaped (enc := enc) (C := Tryd.checked) (os := os) (X := fun w _ => laidMetH Tryd.prog laid1 w) false (World.doorLaid Tryd.prog 28 os) #[.slice none 0 0] 8 rfl (World.shaped_of_RefB (by kernel_rfl) (by kernel_rfl)) (by kernel_rfl) (by kernel_rfl) (by kernel_rfl) (door_met os _)) ?_
  intro W base args ds gs before hval0 hW _ _ hL _
  have hval : ∀ (j : Nat) t v, Tryd.f5.params[j]? = some t → args[j]? = some v → Value.okWide Tryd.prog W .any base t v := hval0
  have hW' := hW
  obtain ⟨p, q, hA0, hV0, rfl, hfz, hnd⟩ := hW
  have hA : DataW.TrodAll enc Tryd.prog W 0 (fun _ => true) true Tryd.f5.params.toList args.toList ds p := hA0
  have hV : DataW.TrodVars enc Tryd.prog W (fun _ => true) [errName] gs q := hV0
  rw [Tryd.params5] at hA hval
  obtain ⟨v0, d0, rfl, rfl, h0⟩ := trodAll_one hA
  have k0 := h0
  have lt0 : ∀ x ∈ p, x.block < W.heap.size := by obtain ⟨m, hm⟩ := k0; exact DataW.trod_lt m _ _ _ hm
  obtain ⟨x, hv, hc, hpos⟩ := of_laid hL
  obtain ⟨rfl, rfl⟩ := hV.unique (vars_read1 enc gErr tErr Tryd.underlying93 hv trivial _)
  obtain ⟨q0, n0, c0, rfl, hc0, hm0, ha0⟩ := open_bytes (hval 0 22 v0 rfl rfl) h0
  clear hA0 hV0 hval0
  refine (walkPutCan W q0 n0 c0 ha0 hc0 hm0 x hc hpos).mono fun e W' ⟨he, bel⟩ => ?_
  subst he
  exact ⟨_, rfl, _, _, _, [], p, [.cell 0 0], hW', trodAll_mk1 (shut_bool Tryd.underlying4 _), trodAll_mk1 (Below.trod laidOut (by kernel_rfl) (of_decide_eq_true (by kernel_rfl)) k0 bel lt0), vars_read1 enc gErr tErr Tryd.underlying93 (var_kept bel hpos hv) trivial _, bel.frame _, fun h => by cases h⟩

theorem fnPutCan_row : Rows.FnPutCanSaid :=
  OpenClaim.holds_of_wide 5 Tryd.f5 rfl rfl rfl rfl rfl rfl rfl ⟨rfl, rfl, rfl, rfl, rfl⟩ rfl rfl rfl rfl rfl (by kernel_rfl) Tryd.func5 (by kernel_rfl)
    (of_decide_eq_true (by kernel_rfl)) (by unfold Func.isWrapper; first | (rw [if_pos (by decide +kernel)]; kernel_rfl) | (rw [if_neg (by decide +kernel)]; exact ⟨rfl, rfl⟩))
    (fun os started H enc _ => liftedFnPutCan os started H enc)

/-- THE STATEMENT. -/
theorem fnPutCan_holds : Rows.FnPutCanCardSaid :=
  Claim7.holds_tied_plain_at .later [] Rows.fnPutCanCard.laidKinds true Rows.fnPutCanCard.stood.harness true
    fnPutCan_row (fun _ h => by cases h) (by kernel_rfl) (fun _ h => by cases h) fnPutCan_row_tie rfl ⟨rfl, rfl⟩ (by kernel_rfl) rfl
    (fun f fn hf hfn => by
      obtain rfl : f = 5 := Option.some.inj ((show Tryd.prog.funcNamed Rows.fnPutCanRow.func = some 5 by kernel_rfl).symm.trans hf) |>.symm
      obtain rfl : fn = Tryd.f5 := (Option.some.inj (Tryd.func5.symm.trans hfn)).symm
      exact ⟨by kernel_rfl, fun j t ht => by
        rw [Tryd.params5] at ht
        have hm : t ∈ [22] := by simpa using Array.mem_of_getElem? ht
        have hall : ([22].all fun u => !Tryd.prog.wantsStandIn u) = true := by kernel_rfl
        exact (show Tryd.prog.wantsStandIn t = false by simpa using List.all_eq_true.1 hall t hm)⟩)
    (by kernel_rfl)
#print axioms fnPutCan_holds
end Go.Proofs.YtedanlmippfojaaDoor
