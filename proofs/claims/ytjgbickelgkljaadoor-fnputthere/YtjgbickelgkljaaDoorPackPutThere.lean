/-
  PROVED: with the sign that one puts the text is as it was, with that sign at that place, and who put it did it, whatever bytes what was done, who puts, where and which sign are drawn from; and TypePut answers as the specification's does (the given card of FnPutThere), for every input; the one listed variable, the program's error, reads as its own initialiser lays it.
-/
import Derived.Test.YtjgbickelgkljaaDoorPackD
import Derived.Test.YtjgbickelgkljaaDoorPackW
import Derived.Test.YtjgbickelgkljaaDoorPackJ
import Derived.Test.YtjgbickelgkljaaDoorPackC
import Derived.Test.YtjgbickelgkljaaDoorPackL
import Derived.Test.YtjgbickelgkljaaDoorPackA
import Derived.Test.YtjgbickelgkljaaDoorPackO
import Derived.Test.YtjgbickelgkljaaDoorTie
import Derived.Test.YtjgbickelgkljaaDoorCards
import Derived.SevenTiedAt
namespace Go.Proofs.YtjgbickelgkljaaDoor
open Go.RowKit
set_option linter.unusedSimpArgs false
set_option linter.unusedVariables false
attribute [local go_sem ↓] Go.wp_at_zero Go.wp_at_succ

set_option maxRecDepth 100000 in
set_option maxHeartbeats 1000000 in
theorem pick_none (w : World) (q : Nat) (p : Option Addr) (n cap k : Nat) (h : RdAt w q p n cap k) (hk : k ≤ 1073741824) :
    Calls Tryd.prog 75 #[.pointer (some ⟨q, 0, none⟩), .int .i64 0] w fun e w' => e = .returned (.int .i64 0) ∧ RdAt w' q p n cap (k + 1) ∧ OnlyQ q w w' := by
  have H := hideIt h
  have c0 := h.b
  have c1 := h.k
  have f1 := h.fz
  have hlt := h.lt
  clear h
  go_enter Tryd.func75, Tryd.ntmps75
  go_wp2
  go_ret
  exact ⟨rfl, H.out.set, only_set _ _ _ hlt⟩
/-- Of so many, or of none. -/
theorem pick_all (w : World) (q : Nat) (p : Option Addr) (n cap k : Nat) (m : Nat) (h : RdAt w q p n cap k) (hm' : m ≤ 1048576) (hk : k ≤ 1073741824) :
    Calls Tryd.prog 75 #[.pointer (some ⟨q, 0, none⟩), .int .i64 m] w fun e w' => (∃ c : Int, 0 ≤ c ∧ c ≤ m ∧ e = .returned (.int .i64 c)) ∧ RdAt w' q p n cap (k + 1) ∧ OnlyQ q w w' := by
  by_cases hz : m = 0
  · subst hz
    refine (pick_none w q p n cap k h hk).mono ?_
    rintro e w' ⟨rfl, h1, h2⟩
    exact ⟨⟨0, by omega, by omega, rfl⟩, h1, h2⟩
  · refine (pick_any w q p n cap k m h (by omega) (by omega) hk).mono ?_
    rintro e w' ⟨⟨c, h0, h1, rfl⟩, h2, h3⟩
    exact ⟨⟨c, h0, by omega, rfl⟩, h2, h3⟩

set_option maxRecDepth 100000 in
set_option maxHeartbeats 2000000 in
theorem drawTake_any (w : World) (p : Option Addr) (n cap : Nat) (h : ArgBytes w p n) (hcap : n ≤ cap) (hn : n ≤ 1048576) :
    Calls Tryd.prog 46 #[.slice p n cap] w fun e w' => ∃ G c m r t, e = .returned (.tuple #[.slice (some ⟨G, 0, none⟩) m c, .int .i64 r, .int .i64 t]) ∧ (0 ≤ r ∧ r ≤ 4) ∧ (-1 ≤ t ∧ t ≤ 1000) ∧ SomeOps w' w.heap.size G c m 74 ∧ Below w.heap.size w w' := by
  have H := hideIt h
  clear h
  go_enter Tryd.func46, Tryd.ntmps46
  go_wp2_with fail
  refine (open_any _ p n cap H.out hcap hn).mono ?_
  rintro e w1 ⟨n', rfl, hR1, hb1⟩
  have HR1 := hideIt hR1
  have HB1 := hideIt hb1
  clear hR1 hb1
  go_wp2_with fail
  refine (l71Off_any _ _ p n' cap 0 HR1.out (by omega)).mono ?_
  rintro e w2 ⟨⟨G, c, m, rfl, hS2⟩, ⟨k2, hk2, hR2⟩, hO2⟩
  have hq1 : w.heap.size < w1.heap.size := HR1.out.lt
  have hz1 : w.heap.size ≤ w1.heap.size := by omega
  have HS2 := hideIt hS2
  have HB2 := hideIt (HB1.out.trans hO2.below)
  have HR2 := hideIt hR2
  clear hS2 hR2 hO2 HR1 HB1
  go_wp2_with fail
  refine (l71Rep_any _ _ p n' cap k2 HR2.out (by omega)).mono ?_
  rintro e w2b ⟨⟨r, hr, rfl⟩, hR2b, hO2b⟩
  have HS2 := hideIt (HS2.out.only hO2b hq1)
  have HB2 := hideIt (HB2.out.trans hO2b.below)
  have HR2 := hideIt hR2b
  have HRR := hideIt hr
  clear hR2b hO2b hr
  obtain ⟨L, hLm, hL74, hOw⟩ := HS2.out
  subst hLm
  have HL := hideIt hOw
  clear hOw
  go_wp2_with fail
  refine (specTxt_any L G c _ HL.out.at (by omega) HL.out.cap).mono ?_
  rintro e w3 ⟨rfl, hb3⟩
  have hts : (txtB (shown (lfs L (standL L)))).size ≤ 74 := by
    rw [txtB_size]
    have h1 := shown_len (lfs L (standL L))
    rw [lfs_len] at h1
    have h2 := stand_len L
    omega
  have HS3 := hideIt (HS2.out.below hb3)
  have HR3 := hideIt (HR2.out.below hb3)
  have HB3 := hideIt (Bstep HB2.out hb3)
  clear hb3 HS2 HR2 HB2 HL
  generalize txtB (shown (lfs L (standL L))) = T at *
  go_wp2_with fail
  refine (pick_all _ _ p n' cap (k2 + 2) T.size HR3.out (by omega) (by omega)).mono ?_
  rintro e w4 ⟨⟨d, hd0, hd1, rfl⟩, hR4, hO4⟩
  have HS4 := hideIt (HS3.out.only hO4 hq1)
  have HR4 := hideIt hR4
  have HB4 := hideIt (HB3.out.trans hO4.below)
  clear hR4 hO4 HS3 HR3 HB3
  go_wp2_with fail
  refine (pick_any _ _ p n' cap (k2 + 2 + 1) _ HR4.out (by omega) (by omega) (by omega)).mono ?_
  rintro e w5 ⟨⟨u, hu0, hu1, rfl⟩, hR5, hO5⟩
  have HS5 := hideIt (HS4.out.only hO5 hq1)
  have HR5 := hideIt hR5
  have HB5 := hideIt (HB4.out.trans hO5.below)
  clear hR5 hO5 HS4 HR4 HB4
  have hw2 : IntKind.i64.wrap (d + u / 23) = d + u / 23 := IntWalk.i64_in (d + u / 23) ⟨by omega, by omega⟩
  go_wp2_with fail
  refine (pick_any _ _ p n' cap (k2 + 2 + 1 + 1) _ HR5.out (by omega) (by omega) (by omega)).mono ?_
  rintro e w6 ⟨⟨v, hv0, hv1, rfl⟩, hR6, hO6⟩
  have HS6 := hideIt ((HS5.out.only hO6 hq1).base hz1)
  have HB6 := hideIt (HB5.out.trans hO6.below)
  clear hR6 hO6 HS5 HR5 HB5
  have hw3 : IntKind.i64.wrap (d + u / 23 - v / 23) = d + u / 23 - v / 23 := IntWalk.i64_in (d + u / 23 - v / 23) ⟨by omega, by omega⟩
  go_wp2
  exact bodyPost_ret (v := .tuple #[.slice (some ⟨G, 0, none⟩) L.length c, .int .i64 r, .int .i64 (d + u / 23 - v / 23)]) (by simp [results, Tryd.results46, go_sem]) rfl ⟨G, c, _, _, _, rfl, HRR.out, by omega, HS6.out, HB6.out⟩
end Go.Proofs.YtjgbickelgkljaaDoor

namespace Go.Proofs.YtjgbickelgkljaaDoor
open Go.RowKit
set_option linter.unusedSimpArgs false
set_option linter.unusedVariables false
attribute [local go_sem ↓] Go.wp_at_zero Go.wp_at_succ

set_option maxRecDepth 100000 in
set_option maxHeartbeats 2000000 in
theorem drawPut_any (w : World) (p : Option Addr) (n cap : Nat) (h : ArgBytes w p n) (hcap : n ≤ cap) (hn : n ≤ 1048576) :
    Calls Tryd.prog 41 #[.slice p n cap] w fun e w' => ∃ G c m r t sg, e = .returned (.tuple #[.slice (some ⟨G, 0, none⟩) m c, .int .i64 r, .int .i64 t, .int .i64 sg]) ∧ (0 ≤ r ∧ r ≤ 4) ∧ (-1 ≤ t ∧ t ≤ 1000) ∧ (0 ≤ sg ∧ sg ≤ 130) ∧ SomeOps w' w.heap.size G c m 74 ∧ Below w.heap.size w w' := by
  have H := hideIt h
  clear h
  go_enter Tryd.func41, Tryd.ntmps41
  go_wp2_with fail
  refine (open_any _ p n cap H.out hcap hn).mono ?_
  rintro e w1 ⟨n', rfl, hR1, hb1⟩
  have HR1 := hideIt hR1
  have HB1 := hideIt hb1
  clear hR1 hb1
  go_wp2_with fail
  refine (l71Off_any _ _ p n' cap 0 HR1.out (by omega)).mono ?_
  rintro e w2 ⟨⟨G, c, m, rfl, hS2⟩, ⟨k2, hk2, hR2⟩, hO2⟩
  have hq1 : w.heap.size < w1.heap.size := HR1.out.lt
  have hz1 : w.heap.size ≤ w1.heap.size := by omega
  have HS2 := hideIt hS2
  have HB2 := hideIt (HB1.out.trans hO2.below)
  have HR2 := hideIt hR2
  clear hS2 hR2 hO2 HR1 HB1
  go_wp2_with fail
  refine (pick_any _ _ p n' cap k2 26 HR2.out (by omega) (by omega) (by omega)).mono ?_
  rintro e w3 ⟨⟨y, hy0, hy1, rfl⟩, hR3, hO3⟩
  have HS2 := hideIt (HS2.out.only hO3 hq1)
  have HB2 := hideIt (HB2.out.trans hO3.below)
  have HR2 := hideIt hR3
  clear hR3 hO3
  have hwy : IntKind.i64.wrap (97 + y) = 97 + y := IntWalk.i64_in (97 + y) ⟨by omega, by omega⟩
  go_wp2_with fail
  refine (pick_any _ _ p n' cap (k2 + 1) 24 HR2.out (by omega) (by omega) (by omega)).mono ?_
  rintro e w4 ⟨⟨x, hx0, hx1, rfl⟩, hR4, hO4⟩
  have HS2 := hideIt (HS2.out.only hO4 hq1)
  have HB2 := hideIt (HB2.out.trans hO4.below)
  have HR2 := hideIt hR4
  clear hR4 hO4
  by_cases hz : x = 0
  · subst hz
    go_wp2_with fail
    refine (pick_any _ _ p n' cap (k2 + 1 + 1) 3 (HR2.out.alloc _) (by omega) (by omega) (by omega)).mono ?_
    rintro e w5 ⟨⟨dd, hdd0, hdd1, rfl⟩, hR5, hO5⟩
    have hqw := HR2.out.lt
    have sl : ∃ sg : Int, (0 ≤ sg ∧ sg ≤ 130) ∧ w5.cell? ⟨w4.heap.size, dd.toNat, none⟩ = some (.int .i64 sg) := by
      have hs : ∀ j, w5.cell? ⟨w4.heap.size, j, none⟩ = _ := fun j => hO5.cell w4.heap.size j (by simp) (by omega)
      obtain rfl | rfl | rfl : dd = 0 ∨ dd = 1 ∨ dd = 2 := by omega
      · exact ⟨0, by omega, (hs 0).trans (by simp [go_sem])⟩
      · exact ⟨65, by omega, (hs 1).trans (by simp [go_sem])⟩
      · exact ⟨123, by omega, (hs 2).trans (by simp [go_sem])⟩
    obtain ⟨sg, hsg, hsl⟩ := sl
    have hb4 : Below w4.heap.size w4 (w4.alloc (.cells #[.int .i64 0, .int .i64 65, .int .i64 123] 3)) := (Below.refl _ _).alloc (Nat.le_refl _) _
    have HS2 := hideIt ((HS2.out.below hb4).only hO5 hq1)
    have HB2 := hideIt ((Bstep HB2.out hb4).trans hO5.below)
    have HR2 := hideIt hR5
    clear hR5 hO5 hb4
    go_wp2_with fail
    refine (l71Rep_any _ _ p n' cap (k2 + 1 + 1 + 1) HR2.out (by omega)).mono ?_
    rintro e w2b ⟨⟨r, hr, rfl⟩, hR2b, hO2b⟩
    have HS2 := hideIt (HS2.out.only hO2b hq1)
    have HB2 := hideIt (HB2.out.trans hO2b.below)
    have HR2 := hideIt hR2b
    have HRR := hideIt hr
    clear hR2b hO2b hr
    obtain ⟨L, hLm, hL74, hOw⟩ := HS2.out
    subst hLm
    have HL := hideIt hOw
    clear hOw
    go_wp2_with fail
    refine (specTxt_any L G c _ HL.out.at (by omega) HL.out.cap).mono ?_
    rintro e w3 ⟨rfl, hb3⟩
    have hts : (txtB (shown (lfs L (standL L)))).size ≤ 74 := by
      rw [txtB_size]
      have h1 := shown_len (lfs L (standL L))
      rw [lfs_len] at h1
      have h2 := stand_len L
      omega
    have HS3 := hideIt (HS2.out.below hb3)
    have HR3 := hideIt (HR2.out.below hb3)
    have HB3 := hideIt (Bstep HB2.out hb3)
    clear hb3 HS2 HR2 HB2 HL
    generalize txtB (shown (lfs L (standL L))) = T at *
    have hwT : IntKind.i64.wrap ((T.size : Int) + 1) = (T.size : Int) + 1 := IntWalk.i64_in ((T.size : Int) + 1) ⟨by omega, by omega⟩
    go_wp2_with fail
    refine (pick_any _ _ p n' cap (k2 + 1 + 1 + 1 + 2) _ HR3.out (by omega) (by omega) (by omega)).mono ?_
    rintro e w4 ⟨⟨d, hd0, hd1, rfl⟩, hR4, hO4⟩
    have HS4 := hideIt (HS3.out.only hO4 hq1)
    have HR4 := hideIt hR4
    have HB4 := hideIt (HB3.out.trans hO4.below)
    clear hR4 hO4 HS3 HR3 HB3
    go_wp2_with fail
    refine (pick_any _ _ p n' cap (k2 + 1 + 1 + 1 + 2 + 1) _ HR4.out (by omega) (by omega) (by omega)).mono ?_
    rintro e w5 ⟨⟨u, hu0, hu1, rfl⟩, hR5, hO5⟩
    have HS5 := hideIt (HS4.out.only hO5 hq1)
    have HR5 := hideIt hR5
    have HB5 := hideIt (HB4.out.trans hO5.below)
    clear hR5 hO5 HS4 HR4 HB4
    have hw2 : IntKind.i64.wrap (d + u / 23) = d + u / 23 := IntWalk.i64_in (d + u / 23) ⟨by omega, by omega⟩
    go_wp2_with fail
    refine (pick_any _ _ p n' cap (k2 + 1 + 1 + 1 + 2 + 1 + 1) _ HR5.out (by omega) (by omega) (by omega)).mono ?_
    rintro e w6 ⟨⟨v, hv0, hv1, rfl⟩, hR6, hO6⟩
    have HS6 := hideIt ((HS5.out.only hO6 hq1).base hz1)
    have HB6 := hideIt (HB5.out.trans hO6.below)
    clear hR6 hO6 HS5 HR5 HB5
    have hw3 : IntKind.i64.wrap (d + u / 23 - v / 23) = d + u / 23 - v / 23 := IntWalk.i64_in (d + u / 23 - v / 23) ⟨by omega, by omega⟩
    go_wp2
    exact bodyPost_ret (v := .tuple #[.slice (some ⟨G, 0, none⟩) L.length c, .int .i64 r, .int .i64 (d + u / 23 - v / 23), .int .i64 (sg)]) (by simp [results, Tryd.results41, go_sem]) rfl ⟨G, c, _, _, _, _, rfl, HRR.out, by omega, hsg, HS6.out, HB6.out⟩
  · have hxp : ¬ x = 0 := hz
    have hsg : 0 ≤ 97 + y ∧ 97 + y ≤ 130 := by omega
    go_wp2_with fail
    refine (l71Rep_any _ _ p n' cap (k2 + 1 + 1) HR2.out (by omega)).mono ?_
    rintro e w2b ⟨⟨r, hr, rfl⟩, hR2b, hO2b⟩
    have HS2 := hideIt (HS2.out.only hO2b hq1)
    have HB2 := hideIt (HB2.out.trans hO2b.below)
    have HR2 := hideIt hR2b
    have HRR := hideIt hr
    clear hR2b hO2b hr
    obtain ⟨L, hLm, hL74, hOw⟩ := HS2.out
    subst hLm
    have HL := hideIt hOw
    clear hOw
    go_wp2_with fail
    refine (specTxt_any L G c _ HL.out.at (by omega) HL.out.cap).mono ?_
    rintro e w3 ⟨rfl, hb3⟩
    have hts : (txtB (shown (lfs L (standL L)))).size ≤ 74 := by
      rw [txtB_size]
      have h1 := shown_len (lfs L (standL L))
      rw [lfs_len] at h1
      have h2 := stand_len L
      omega
    have HS3 := hideIt (HS2.out.below hb3)
    have HR3 := hideIt (HR2.out.below hb3)
    have HB3 := hideIt (Bstep HB2.out hb3)
    clear hb3 HS2 HR2 HB2 HL
    generalize txtB (shown (lfs L (standL L))) = T at *
    have hwT : IntKind.i64.wrap ((T.size : Int) + 1) = (T.size : Int) + 1 := IntWalk.i64_in ((T.size : Int) + 1) ⟨by omega, by omega⟩
    go_wp2_with fail
    refine (pick_any _ _ p n' cap (k2 + 1 + 1 + 2) _ HR3.out (by omega) (by omega) (by omega)).mono ?_
    rintro e w4 ⟨⟨d, hd0, hd1, rfl⟩, hR4, hO4⟩
    have HS4 := hideIt (HS3.out.only hO4 hq1)
    have HR4 := hideIt hR4
    have HB4 := hideIt (HB3.out.trans hO4.below)
    clear hR4 hO4 HS3 HR3 HB3
    go_wp2_with fail
    refine (pick_any _ _ p n' cap (k2 + 1 + 1 + 2 + 1) _ HR4.out (by omega) (by omega) (by omega)).mono ?_
    rintro e w5 ⟨⟨u, hu0, hu1, rfl⟩, hR5, hO5⟩
    have HS5 := hideIt (HS4.out.only hO5 hq1)
    have HR5 := hideIt hR5
    have HB5 := hideIt (HB4.out.trans hO5.below)
    clear hR5 hO5 HS4 HR4 HB4
    have hw2 : IntKind.i64.wrap (d + u / 23) = d + u / 23 := IntWalk.i64_in (d + u / 23) ⟨by omega, by omega⟩
    go_wp2_with fail
    refine (pick_any _ _ p n' cap (k2 + 1 + 1 + 2 + 1 + 1) _ HR5.out (by omega) (by omega) (by omega)).mono ?_
    rintro e w6 ⟨⟨v, hv0, hv1, rfl⟩, hR6, hO6⟩
    have HS6 := hideIt ((HS5.out.only hO6 hq1).base hz1)
    have HB6 := hideIt (HB5.out.trans hO6.below)
    clear hR6 hO6 HS5 HR5 HB5
    have hw3 : IntKind.i64.wrap (d + u / 23 - v / 23) = d + u / 23 - v / 23 := IntWalk.i64_in (d + u / 23 - v / 23) ⟨by omega, by omega⟩
    go_wp2
    exact bodyPost_ret (v := .tuple #[.slice (some ⟨G, 0, none⟩) L.length c, .int .i64 r, .int .i64 (d + u / 23 - v / 23), .int .i64 (97 + y)]) (by simp [results, Tryd.results41, go_sem]) rfl ⟨G, c, _, _, _, _, rfl, HRR.out, by omega, hsg, HS6.out, HB6.out⟩
end Go.Proofs.YtjgbickelgkljaaDoor

namespace Go.Proofs.YtjgbickelgkljaaDoor
open Go.RowKit
set_option linter.unusedSimpArgs false
set_option linter.unusedVariables false
attribute [local go_sem ↓] Go.wp_at_zero Go.wp_at_succ

/-- A box of a thing: what lies in it. -/
def O7 (M : Nat) (o : Op7) (W : World) : Prop := W.cell? ⟨M, 0, none⟩ = some (.int .i64 o.a) ∧ W.cell? ⟨M, 1, none⟩ = some (.int .i64 o.b) ∧ W.cell? ⟨M, 2, none⟩ = some (.int .i64 o.k) ∧ W.cell? ⟨M, 3, none⟩ = some (.int .i64 o.c) ∧ W.cell? ⟨M, 4, none⟩ = some (.int .i64 o.d) ∧ W.cell? ⟨M, 5, none⟩ = some (.int .i64 o.s) ∧ W.cell? ⟨M, 6, none⟩ = some (.int .i64 o.g)
theorem O7.of {M : Nat} {o : Op7} {W : World} (h : W.heap[M]? = some (.cells #[.int .i64 o.a, .int .i64 o.b, .int .i64 o.k, .int .i64 o.c, .int .i64 o.d, .int .i64 o.s, .int .i64 o.g] 33 (0, 0))) : O7 M o W :=
  ⟨(blk_cell h 0).trans rfl, (blk_cell h 1).trans rfl, (blk_cell h 2).trans rfl, (blk_cell h 3).trans rfl, (blk_cell h 4).trans rfl, (blk_cell h 5).trans rfl, (blk_cell h 6).trans rfl⟩

/-- Things, and two boxes of one thing. -/
structure PW (w W : World) (G c O P : Nat) (L : List Op7) (o : Op7) : Prop where
  own : OwnOps W w.heap.size G c L
  one : W.heap[O]? = some (.cells #[.int .i64 o.a, .int .i64 o.b, .int .i64 o.k, .int .i64 o.c, .int .i64 o.d, .int .i64 o.s, .int .i64 o.g] 33 (0, 0))
  two : W.heap[P]? = some (.cells #[.int .i64 o.a, .int .i64 o.b, .int .i64 o.k, .int .i64 o.c, .int .i64 o.d, .int .i64 o.s, .int .i64 o.g] 33 (0, 0))
  bel : Below w.heap.size w W
theorem PW.below {w W W' : World} {G c O P : Nat} {L : List Op7} {o : Op7} (h : PW w W G c O P L o) (hb : Below W.heap.size W W') : PW w W' G c O P L o := ⟨h.own.below hb, blk_below h.one hb, blk_below h.two hb, Bstep h.bel hb⟩

set_option maxRecDepth 100000 in
set_option maxHeartbeats 8000000 in
theorem walkPutThere (w : World) (p : Option Addr) (n cap : Nat) (h : ArgBytes w p n) (hcap : n ≤ cap) (hmax : cap ≤ maxLen) (x : Addr)
    (he : w.cell? ⟨0, 0, none⟩ = some (.iface 183 (.pointer (some x)))) (h0 : 0 < w.heap.size) :
    Calls Tryd.prog 9 #[.slice p n cap] w fun e w' => e = .returned (.bool true) ∧ Below w.heap.size w w' := by
  have H := hideIt h
  clear h
  unfold maxLen at *
  by_cases hn : n ≤ 1048576
  · go_enter Tryd.func9, Tryd.ntmps9
    go_wp2_with fail
    refine (drawPut_any _ p n cap H.out hcap hn).mono ?_
    rintro e w1 ⟨G, c, _, r, t, sg, rfl, hr, ht, hsg0, ⟨L, rfl, hL, hS⟩, hb1⟩
    have hwf : wf64 t := wf_small (by omega)
    have HS := hideIt hS
    have HB := hideIt hb1
    clear hS hb1
    obtain ⟨o, ho⟩ : ∃ o, putA L r t sg = o := ⟨_, rfl⟩
    obtain ⟨zz, hzz⟩ : ∃ zz, mayPut L r t sg = zz := ⟨_, rfl⟩
    have HO := hideIt ho
    have HZ := hideIt hzz
    clear ho hzz
    go_wp2_with fail
    refine (typePut_any L G c r t sg _ HS.out.at (by omega) HS.out.cap).mono ?_
    rintro e w2 ⟨hd, hb2⟩
    have hE := putA_of hd
    rw [HO.out, HZ.out] at hE
    subst hE
    unfold opV
    have HS2 := hideIt (HS.out.below hb2)
    have HB2 := hideIt (Bstep HB.out hb2)
    clear hb2 hd HS HB
    go_wp2_with fail
    have HX2 : Hid (OX w2.heap.size o w (w2.alloc (.cells #[.int .i64 o.a, .int .i64 o.b, .int .i64 o.k, .int .i64 o.c, .int .i64 o.d, .int .i64 o.s, .int .i64 o.g] 33))) := ⟨World.alloc_heap_new _ _, HB2.out.alloc HB2.out.size _⟩
    have HS3 := hideIt (HS2.out.below ((Below.refl _ _).alloc (Nat.le_refl _) (.cells #[.int .i64 o.a, .int .i64 o.b, .int .i64 o.k, .int .i64 o.c, .int .i64 o.d, .int .i64 o.s, .int .i64 o.g] 33)))
    clear HS2 HB2
    refine (implPut_any L G c r t sg hwf x _ HS3.out.at (by omega) HS3.out.cap (errB HX2.out.bel h0 he) (posB HX2.out.bel h0)).mono ?_
    rintro e w4 ⟨hd, hb4⟩
    have hE := putA_of hd
    rw [HO.out, HZ.out] at hE
    subst hE
    unfold opV
    have HX4 := hideIt (HX2.out.below hb4)
    have HS4 := hideIt (HS3.out.below hb4)
    clear hb4 hd HX2 HS3
    generalize w2.heap.size = O at *
    have HT : Hid (PW w (w4.alloc (.cells #[.int .i64 o.a, .int .i64 o.b, .int .i64 o.k, .int .i64 o.c, .int .i64 o.d, .int .i64 o.s, .int .i64 o.g] 33)) G c O w4.heap.size L o) :=
      ⟨HS4.out.below ((Below.refl _ _).alloc (Nat.le_refl _) _), blk_below HX4.out.box ((Below.refl _ _).alloc (Nat.le_refl _) _), World.alloc_heap_new _ _, HX4.out.bel.alloc HX4.out.bel.size _⟩
    have HBX : Hid (∀ W', W' = w4.alloc (.cells #[.int .i64 o.a, .int .i64 o.b, .int .i64 o.k, .int .i64 o.c, .int .i64 o.d, .int .i64 o.s, .int .i64 o.g] 33) → O7 O o W' ∧ O7 w4.heap.size o W') := fun W' e => by
      subst e
      exact ⟨O7.of HT.out.one, O7.of HT.out.two⟩
    obtain ⟨⟨x0, x1, x2, x3, x4, x5, x6⟩, ⟨y0, y1, y2, y3, y4, y5, y6⟩⟩ := HBX.out _ rfl
    have hlO := (Array.getElem?_eq_some_iff.1 HX4.out.box).1
    have z0 := (blk_cell HX4.out.box 0).trans rfl
    have z1 := (blk_cell HX4.out.box 1).trans rfl
    have z2 := (blk_cell HX4.out.box 2).trans rfl
    have z3 := (blk_cell HX4.out.box 3).trans rfl
    have z4 := (blk_cell HX4.out.box 4).trans rfl
    have z5 := (blk_cell HX4.out.box 5).trans rfl
    have z6 := (blk_cell HX4.out.box 6).trans rfl
    cases zz
    · go_wp2
      go_ret
      exact ⟨rfl, HT.out.bel⟩
    · have HOE : Hid (putO L r t.toNat sg = o) := by
        have h := HO.out
        unfold putA at h
        rw [HZ.out, if_pos rfl] at h
        exact h
      obtain ⟨f1, f2, f3, ⟨f4, f4'⟩, f5, f6⟩ := put_done HZ.out
      have HOA : Hid (o.a = r) := by show o.a = r; rw [← HOE.out]; unfold putO; split <;> rfl
      rw [HOE.out] at f1 f3 f6
      have HOK := hideIt f1
      have hE : ansW L o = withL L o := ansW_yes f1
      have hwl := withL_lenW L o
      have hwl1 : 0 < (withL L o).length := by unfold withL; simp only [List.length_append, List.length_cons, List.length_nil]; omega
      obtain ⟨k, rfl⟩ : ∃ k : Nat, t = k := ⟨t.toNat, by omega⟩
      rw [Int.toNat_natCast] at f4' f6
      have HTX := hideIt f6
      have hts : (txtB (shown (lfs L (standL L)))).size ≤ 74 := by
        rw [txtB_size]
        have h1 := shown_len (lfs L (standL L))
        rw [lfs_len] at h1
        have h2 := stand_len L
        omega
      clear f1 f2 f3 f6
      go_wp2_with fail
      refine (implWith_any L G c o x _ HT.out.own.at (by omega) HT.out.own.cap (errB HT.out.bel h0 he) (posB HT.out.bel h0)).mono ?_
      rintro e w6 ⟨v, rfl, hrow, hb6⟩
      rw [HOK.out]
      rw [hE] at hrow
      have hrow := ownsRow_base HT.out.bel.size hrow
      have HM := hideIt (HT.out.below hb6)
      clear hb6 hE HT HX4 HS4 HBX x0 x1 x2 x3 x4 x5 x6 y0 y1 y2 y3 y4 y5 y6 z0 z1 z2 z3 z4 z5 z6 hlO
      generalize withL L o = M at *
      obtain ⟨qg, cg, rfl, hqg⟩ := oprow hrow
      obtain ⟨Gx, rfl, hcx, _, _, _⟩ := hqg hwl1
      have HOX : Hid (OwnOps w6 w.heap.size Gx cg M) := hrow
      clear hqg hrow
      go_wp2_with fail
      refine (implTxt_any L G c x _ HM.out.own.at (by omega) HM.out.own.cap (errB HM.out.bel h0 he) (posB HM.out.bel h0)).mono ?_
      rintro e w7 ⟨rfl, hb7⟩
      have HM := hideIt (HM.out.below hb7)
      have HOX := hideIt (HOX.out.below hb7)
      clear hb7
      generalize hTT : txtB (shown (lfs L (standL L))) = T at *
      clear hTT
      have hk0 : (0 : Int) ≤ (k : Int) := by omega
      have hk1 : (k : Int) ≤ (T.size : Int) := by omega
      have hml : M.length ≤ 1048576 := by omega
      have hll : L.length ≤ 1048576 := by omega
      have hsgw : IntKind.u8.wrap sg = sg := IntWalk.u8_in sg ⟨by omega, by omega⟩
      have hsz : (txtB [sg]).size = 1 := by rw [txtB_size]; rfl
      have ka : ∀ W : World, _ := fun W => run_string_add_sum (P := Tryd.prog) (w := W) (T.extract 0 k) (txtB [sg]) (by simp only [ByteArray.size_extract]; omega)
      have kb : ∀ W : World, _ := fun W => run_string_add_sum (P := Tryd.prog) (w := W) (T.extract 0 k ++ txtB [sg]) (T.extract k T.size) (by simp only [ByteArray.size_append, ByteArray.size_extract]; omega)
      have kc : ∀ W : World, (convert 22 9 (.slice (some ⟨W.heap.size, 0, none⟩) 1 1)).run Tryd.prog (W.alloc (.cells #[.int .u8 sg] 5)) = .ok (.string (txtB [sg])) (W.alloc (.cells #[.int .u8 sg] 5)) := fun W => convT _ _ _ (by simp [go_sem])
      have kd : ∀ W : World, (convert 22 9 (.slice (some ⟨W.heap.size, 0, none⟩) 1 1)).run Tryd.prog (W.drew.alloc (.cells #[.int .u8 sg] 5)) = .ok (.string (txtB [sg])) (W.drew.alloc (.cells #[.int .u8 sg] 5)) := fun W => convT _ _ _ (by simp [go_sem])
      have kf : ∀ W : World, (convert 22 9 (.slice (some ⟨W.heap.size, 0, none⟩) 1 1)).run Tryd.prog (W.alloc (.cells #[.int .u8 sg] 5)).drew = .ok (.string (txtB [sg])) (W.alloc (.cells #[.int .u8 sg] 5)).drew := fun W => convT _ _ _ (by simp [go_sem])
      have ke : ∀ (W : World) (b : Nat), W.cell? ⟨b, 0, none⟩ = some (.int .u8 sg) → (convert 22 9 (.slice (some ⟨b, 0, none⟩) 1 1)).run Tryd.prog W = .ok (.string (txtB [sg])) W := fun W b h => convT W b sg h
      have hltA : Hid (∀ o, w7.heap.size < (w7.alloc o).drew.heap.size) := fun o => by simp
      have hcA : Hid ((w7.alloc (.cells #[.int .u8 sg] 5)).drew.cell? ⟨w7.heap.size, 0, none⟩ = some (.int .u8 sg)) := by show World.cell? _ _ = _; simp [go_sem]
      have hP7 := HM.out.two
      have hPl := (Array.getElem?_eq_some_iff.1 hP7).1
      generalize w4.heap.size = P at *
      have HS0 : Hid (TwoO w G c L Gx cg M w7 ∧ w7.cell? ⟨P, 0, none⟩ = some (.int .i64 o.a) ∧ P < w7.heap.size) := ⟨⟨HM.out.own, HOX.out, HM.out.bel⟩, (blk_cell hP7 0).trans rfl, hPl⟩
      have HSd : Hid (TwoO w G c L Gx cg M w7.drew ∧ w7.drew.cell? ⟨P, 0, none⟩ = some (.int .i64 o.a) ∧ P < w7.drew.heap.size) := TwoO.cell HS0.out ((Below.refl _ _).drew)
      have hcm := HOX.out.cap
      have hcl := HM.out.own.cap
      clear HM HOX HO HZ HOE hP7 hPl hsz
      go_wp2_with fail
      have HSa : Hid (TwoO w G c L Gx cg M (w7.alloc (.cells #[.int .u8 sg] 5)).drew ∧ (w7.alloc (.cells #[.int .u8 sg] 5)).drew.cell? ⟨P, 0, none⟩ = some (.int .i64 o.a) ∧ P < (w7.alloc (.cells #[.int .u8 sg] 5)).drew.heap.size) := TwoO.cell HS0.out (((Below.refl _ _).alloc (Nat.le_refl _) _).drew)
      refine wp_region_any (by kernel_rfl) ?_
      change wpAny _ _ _ _ _ _ _ (World.drew _)
      refine wpAny_take (i := 0) (oi := { dst := some 68, op := Op.move (Operand.tmp 12), type := 4, pos := "laws.go:551", after := #[], guard := none }) (v := .bool true) rfl (by kernel_rfl) (by kernel_rfl) (by kernel_rfl) (fun _ _ _ h => h) (Or.inl ⟨by rfl, fun wq => by go_simp⟩) ?_
      try simp only [Act.put, List.setIfInBounds_toArray, List.set_cons_zero, List.set_cons_succ]
      refine wpAny_take (i := 1) (oi := { dst := some 69, op := Op.move (Operand.tmp 68), type := 4, pos := "laws.go:551", after := #[{ on := 0, ground := Ground.data }], guard := none }) (v := .bool true) rfl (by kernel_rfl) (by kernel_rfl) (by kernel_rfl) (fun _ _ _ h => h) (Or.inl ⟨by rfl, fun wq => by go_simp⟩) ?_
      try simp only [Act.put, List.setIfInBounds_toArray, List.set_cons_zero, List.set_cons_succ]
      refine wpAny_take (i := 2) (oi := { dst := some 70, op := Op.move (Operand.tmp 11), type := 23, pos := "laws.go:551", after := #[{ on := 1, ground := Ground.guard }], guard := some (1, true) }) (v := .slice (some ⟨Gx, 0, none⟩) M.length cg) rfl (by kernel_rfl) (by kernel_rfl) (by kernel_rfl) (fun _ _ _ h => h) (Or.inl ⟨by rfl, fun wq => by go_simp⟩) ?_
      try simp only [Act.put, List.setIfInBounds_toArray, List.set_cons_zero, List.set_cons_succ]
      refine wpAny_take (i := 4) (oi := { dst := some 72, op := Op.move (Operand.tmp 13), type := 9, pos := "laws.go:551", after := #[{ on := 1, ground := Ground.guard }], guard := some (1, true) }) (v := .string T) rfl (by kernel_rfl) (by kernel_rfl) (by kernel_rfl) (fun _ _ _ h => h) (Or.inl ⟨by rfl, fun wq => by go_simp⟩) ?_
      try simp only [Act.put, List.setIfInBounds_toArray, List.set_cons_zero, List.set_cons_succ]
      refine wpAny_take (i := 5) (oi := { dst := some 73, op := Op.move (Operand.tmp 5), type := 3, pos := "laws.go:551", after := #[{ on := 1, ground := Ground.guard }], guard := some (1, true) }) (v := .int .i64 k) rfl (by kernel_rfl) (by kernel_rfl) (by kernel_rfl) (fun _ _ _ h => h) (Or.inl ⟨by rfl, fun wq => by go_simp⟩) ?_
      try simp only [Act.put, List.setIfInBounds_toArray, List.set_cons_zero, List.set_cons_succ]
      refine wpAny_take (i := 6) (oi := { dst := some 74, op := Op.slice 9 (Operand.tmp 72) none (some (Operand.tmp 73)) none, type := 9, pos := "laws.go:551", after := #[{ on := 4, ground := Ground.data }, { on := 5, ground := Ground.data }, { on := 1, ground := Ground.guard }], guard := some (1, true) }) (v := .string (T.extract 0 k)) rfl (by kernel_rfl) (by kernel_rfl) (by kernel_rfl) (fun _ _ _ h => h) (Or.inl ⟨by rfl, fun wq => by go_simp⟩) ?_
      try simp only [Act.put, List.setIfInBounds_toArray, List.set_cons_zero, List.set_cons_succ]
      refine wpAny_take (i := 7) (oi := { dst := some 75, op := Op.move (Operand.tmp 6), type := 3, pos := "laws.go:551", after := #[{ on := 1, ground := Ground.guard }], guard := some (1, true) }) (v := .int .i64 sg) rfl (by kernel_rfl) (by kernel_rfl) (by kernel_rfl) (fun _ _ _ h => h) (Or.inl ⟨by rfl, fun wq => by go_simp⟩) ?_
      try simp only [Act.put, List.setIfInBounds_toArray, List.set_cons_zero, List.set_cons_succ]
      refine wpAny_take (i := 8) (oi := { dst := some 76, op := Op.convert 3 5 (Operand.tmp 75), type := 5, pos := "laws.go:551", after := #[{ on := 7, ground := Ground.data }, { on := 1, ground := Ground.guard }], guard := some (1, true) }) (v := .int .u8 sg) rfl (by kernel_rfl) (by kernel_rfl) (by kernel_rfl) (fun _ _ _ h => h) (Or.inl ⟨by rfl, fun wq => by go_simp⟩) ?_
      try simp only [Act.put, List.setIfInBounds_toArray, List.set_cons_zero, List.set_cons_succ]
      refine wpAny_take (i := 12) (oi := { dst := some 80, op := Op.move (Operand.tmp 13), type := 9, pos := "laws.go:551", after := #[{ on := 1, ground := Ground.guard }], guard := some (1, true) }) (v := .string T) rfl (by kernel_rfl) (by kernel_rfl) (by kernel_rfl) (fun _ _ _ h => h) (Or.inl ⟨by rfl, fun wq => by go_simp⟩) ?_
      try simp only [Act.put, List.setIfInBounds_toArray, List.set_cons_zero, List.set_cons_succ]
      refine wpAny_take (i := 13) (oi := { dst := some 81, op := Op.move (Operand.tmp 5), type := 3, pos := "laws.go:551", after := #[{ on := 1, ground := Ground.guard }], guard := some (1, true) }) (v := .int .i64 k) rfl (by kernel_rfl) (by kernel_rfl) (by kernel_rfl) (fun _ _ _ h => h) (Or.inl ⟨by rfl, fun wq => by go_simp⟩) ?_
      try simp only [Act.put, List.setIfInBounds_toArray, List.set_cons_zero, List.set_cons_succ]
      refine wpAny_take (i := 14) (oi := { dst := some 82, op := Op.slice 9 (Operand.tmp 80) (some (Operand.tmp 81)) none none, type := 9, pos := "laws.go:551", after := #[{ on := 12, ground := Ground.data }, { on := 13, ground := Ground.data }, { on := 1, ground := Ground.guard }], guard := some (1, true) }) (v := .string (T.extract k T.size)) rfl (by kernel_rfl) (by kernel_rfl) (by kernel_rfl) (fun _ _ _ h => h) (Or.inl ⟨by rfl, fun wq => by go_simp⟩) ?_
      try simp only [Act.put, List.setIfInBounds_toArray, List.set_cons_zero, List.set_cons_succ]
      refine wpAny_ready (rs := [3, 9]) (by kernel_rfl) (by simp) ?_
      refine AllReady.cons (o := { dst := some 71, op := Op.call { callee := Callee.value (Operand.func 45), args := #[Operand.tmp 70], argTypes := #[23] }, type := 9, pos := "laws.go:551", after := #[{ on := 2, ground := Ground.data }, { on := 1, ground := Ground.chain }, { on := 1, ground := Ground.guard }], guard := some (1, true) }) rfl (fun K hK => ?_) ?_
      · skip
        go_simp
        go_wp2_with (first | (go_at_call 45; with_reducible refine (implTxt_any M Gx cg x _ (TwoO.two (TwoO.fst HSd.out)) hml hcm (errB (TwoO.bel (TwoO.fst HSd.out)) h0 he) (posB (TwoO.bel (TwoO.fst HSd.out)) h0)).mono ?_; rintro e w8 ⟨rfl, hb2⟩; rw [HTX.out]))
        have hS8 := hideIt (TwoO.cell HSd.out hb2)
        have d0 := hS8.out.2.1
        have d1 := hS8.out.2.2
        have d2 : ¬ P = w8.heap.size := by omega
        try simp only [Act.put, List.setIfInBounds_toArray, List.set_cons_zero, List.set_cons_succ]
        refine wpAny_ready (rs := [9]) (by kernel_rfl) (by simp) ?_
        refine AllReady.cons (o := { dst := some 77, op := Op.buildSlice 22 1 #[(0, Operand.tmp 76)], type := 22, pos := "laws.go:551", after := #[{ on := 8, ground := Ground.data }, { on := 1, ground := Ground.guard }], guard := some (1, true) }) rfl (fun K hK => ?_) AllReady.nil
        go_simp
        refine hK _ _ ?_
        clear hK K
        try simp only [Act.put, List.setIfInBounds_toArray, List.set_cons_zero, List.set_cons_succ]
        refine wpAny_ready (rs := [10]) (by kernel_rfl) (by simp) ?_
        refine AllReady.cons (o := { dst := some 78, op := Op.convert 22 9 (Operand.tmp 77), type := 9, pos := "laws.go:551", after := #[{ on := 9, ground := Ground.data }, { on := 1, ground := Ground.guard }], guard := some (1, true) }) rfl (fun K hK => ?_) AllReady.nil
        go_simp
        refine hK _ _ ?_
        clear hK K
        try simp only [Act.put, List.setIfInBounds_toArray, List.set_cons_zero, List.set_cons_succ]
        refine wpAny_ready (rs := [11]) (by kernel_rfl) (by simp) ?_
        refine AllReady.cons (o := { dst := some 79, op := Op.binOp BinOp.add 9 (Operand.tmp 74) (Operand.tmp 78) 9, type := 9, pos := "laws.go:551", after := #[{ on := 6, ground := Ground.data }, { on := 10, ground := Ground.data }, { on := 1, ground := Ground.guard }], guard := some (1, true) }) rfl (fun K hK => ?_) AllReady.nil
        go_simp
        refine hK _ _ ?_
        clear hK K
        try simp only [Act.put, List.setIfInBounds_toArray, List.set_cons_zero, List.set_cons_succ]
        refine wpAny_ready (rs := [15]) (by kernel_rfl) (by simp) ?_
        refine AllReady.cons (o := { dst := some 83, op := Op.binOp BinOp.add 9 (Operand.tmp 79) (Operand.tmp 82) 9, type := 9, pos := "laws.go:551", after := #[{ on := 11, ground := Ground.data }, { on := 14, ground := Ground.data }, { on := 1, ground := Ground.guard }], guard := some (1, true) }) rfl (fun K hK => ?_) AllReady.nil
        go_simp
        refine hK _ _ ?_
        clear hK K
        try simp only [Act.put, List.setIfInBounds_toArray, List.set_cons_zero, List.set_cons_succ]
        refine wpAny_ready (rs := [16]) (by kernel_rfl) (by simp) ?_
        refine AllReady.cons (o := { dst := some 84, op := Op.binOp BinOp.eql 9 (Operand.tmp 71) (Operand.tmp 83) 9, type := 4, pos := "laws.go:551", after := #[{ on := 3, ground := Ground.data }, { on := 15, ground := Ground.data }, { on := 1, ground := Ground.guard }], guard := some (1, true) }) rfl (fun K hK => ?_) AllReady.nil
        go_simp
        refine hK _ _ ?_
        clear hK K
        try simp only [Act.put, List.setIfInBounds_toArray, List.set_cons_zero, List.set_cons_succ]
        refine wpAny_ready (rs := [17]) (by kernel_rfl) (by simp) ?_
        refine AllReady.cons (o := { dst := some 85, op := Op.pick (Operand.tmp 69) (Operand.tmp 84) (Operand.const (Value.bool false)), type := 4, pos := "laws.go:551", after := #[{ on := 1, ground := Ground.data }, { on := 16, ground := Ground.data }], guard := none }) rfl (fun K hK => ?_) AllReady.nil
        go_simp
        refine hK _ _ ?_
        clear hK K
        try simp only [Act.put, List.setIfInBounds_toArray, List.set_cons_zero, List.set_cons_succ]
        refine wpAny_ready (rs := [18]) (by kernel_rfl) (by simp) ?_
        refine AllReady.cons (o := { dst := some 86, op := Op.move (Operand.tmp 85), type := 4, pos := "laws.go:551", after := #[{ on := 17, ground := Ground.data }, { on := 3, ground := Ground.chain }], guard := none }) rfl (fun K hK => ?_) AllReady.nil
        go_simp
        refine hK _ _ ?_
        clear hK K
        try simp only [Act.put, List.setIfInBounds_toArray, List.set_cons_zero, List.set_cons_succ]
        refine wpAny_take (i := 22) (oi := { dst := some 90, op := Op.move (Operand.tmp 4), type := 3, pos := "laws.go:551", after := #[{ on := 18, ground := Ground.guard }], guard := some (18, true) }) (v := .int .i64 r) rfl (by kernel_rfl) (by kernel_rfl) (by kernel_rfl) (fun _ _ _ h => h) (Or.inl ⟨by rfl, fun wq => by go_simp⟩) ?_
        try simp only [Act.put, List.setIfInBounds_toArray, List.set_cons_zero, List.set_cons_succ]
        refine wpAny_ready (rs := [19]) (by kernel_rfl) (by simp) ?_
        refine AllReady.cons (o := { dst := some 87, op := Op.fieldAddr 33 (Operand.tmp 9) 0, type := 0, pos := "laws.go:551", after := #[{ on := 18, ground := Ground.guard }], guard := some (18, true) }) rfl (fun K hK => ?_) AllReady.nil
        go_simp
        refine hK _ _ ?_
        clear hK K
        try simp only [Act.put, List.setIfInBounds_toArray, List.set_cons_zero, List.set_cons_succ]
        refine wpAny_ready (rs := [20]) (by kernel_rfl) (by simp) ?_
        refine AllReady.cons (o := { dst := some 88, op := Op.fieldAddr 31 (Operand.tmp 87) 0, type := 0, pos := "laws.go:551", after := #[{ on := 19, ground := Ground.data }, { on := 18, ground := Ground.guard }], guard := some (18, true) }) rfl (fun K hK => ?_) AllReady.nil
        go_simp
        refine hK _ _ ?_
        clear hK K
        try simp only [Act.put, List.setIfInBounds_toArray, List.set_cons_zero, List.set_cons_succ]
        refine wpAny_ready (rs := [21]) (by kernel_rfl) (by simp) ?_
        refine AllReady.cons (o := { dst := some 89, op := Op.load 3 (Operand.tmp 88), type := 3, pos := "laws.go:551", after := #[{ on := 20, ground := Ground.data }, { on := 18, ground := Ground.guard }], guard := some (18, true) }) rfl (fun K hK => ?_) AllReady.nil
        go_simp
        refine hK _ _ ?_
        clear hK K
        try simp only [Act.put, List.setIfInBounds_toArray, List.set_cons_zero, List.set_cons_succ]
        refine wpAny_ready (rs := [23]) (by kernel_rfl) (by simp) ?_
        refine AllReady.cons (o := { dst := some 91, op := Op.binOp BinOp.eql 3 (Operand.tmp 89) (Operand.tmp 90) 3, type := 4, pos := "laws.go:551", after := #[{ on := 21, ground := Ground.data }, { on := 22, ground := Ground.data }, { on := 18, ground := Ground.guard }], guard := some (18, true) }) rfl (fun K hK => ?_) AllReady.nil
        go_simp
        refine hK _ _ ?_
        clear hK K
        try simp only [Act.put, List.setIfInBounds_toArray, List.set_cons_zero, List.set_cons_succ]
        refine wpAny_ready (rs := [24]) (by kernel_rfl) (by simp) ?_
        refine AllReady.cons (o := { dst := some 92, op := Op.pick (Operand.tmp 86) (Operand.tmp 91) (Operand.const (Value.bool false)), type := 4, pos := "laws.go:551", after := #[{ on := 18, ground := Ground.data }, { on := 23, ground := Ground.data }], guard := none }) rfl (fun K hK => ?_) AllReady.nil
        go_simp
        refine hK _ _ ?_
        clear hK K
        try simp only [Act.put, List.setIfInBounds_toArray, List.set_cons_zero, List.set_cons_succ]
        refine wpAny_ready (rs := [25]) (by kernel_rfl) (by simp) ?_
        refine AllReady.cons rfl (fun K hK => ?_) AllReady.nil
        go_simp
        refine hK _ _ ?_
        clear hK K
        try simp only [Act.put, List.setIfInBounds_toArray, List.set_cons_zero, List.set_cons_succ]
        refine wpAny_done (by kernel_rfl) ?_ _
        go_wp2
        go_ret
        exact ⟨by rw [HOA.out]; simp, Bstep (TwoO.bel (TwoO.fst hS8.out)) ((Below.refl _ _).alloc (Nat.le_refl _) _)⟩
      · refine AllReady.cons (o := { dst := some 77, op := Op.buildSlice 22 1 #[(0, Operand.tmp 76)], type := 22, pos := "laws.go:551", after := #[{ on := 8, ground := Ground.data }, { on := 1, ground := Ground.guard }], guard := some (1, true) }) rfl (fun K hK => ?_) AllReady.nil
        go_simp
        refine hK _ _ ?_
        clear hK K
        try simp only [Act.put, List.setIfInBounds_toArray, List.set_cons_zero, List.set_cons_succ]
        refine wpAny_ready (rs := [3, 10]) (by kernel_rfl) (by simp) ?_
        refine AllReady.cons (o := { dst := some 71, op := Op.call { callee := Callee.value (Operand.func 45), args := #[Operand.tmp 70], argTypes := #[23] }, type := 9, pos := "laws.go:551", after := #[{ on := 2, ground := Ground.data }, { on := 1, ground := Ground.chain }, { on := 1, ground := Ground.guard }], guard := some (1, true) }) rfl (fun K hK => ?_) ?_
        · skip
          go_simp
          go_wp2_with (first | (go_at_call 45; with_reducible refine (implTxt_any M Gx cg x _ (TwoO.two (TwoO.fst HSa.out)) hml hcm (errB (TwoO.bel (TwoO.fst HSa.out)) h0 he) (posB (TwoO.bel (TwoO.fst HSa.out)) h0)).mono ?_; rintro e w8 ⟨rfl, hb2⟩; rw [HTX.out]))
          have hS8 := hideIt (TwoO.cell HSa.out hb2)
          have d0 := hS8.out.2.1
          have d1 := hS8.out.2.2
          have d2 : ¬ P = w8.heap.size := by omega
          have hx8 : w8.cell? ⟨w7.heap.size, 0, none⟩ = some (.int .u8 sg) := ((bcell hb2).1 w7.heap.size 0 (hltA.out _)).trans hcA.out
          try simp only [Act.put, List.setIfInBounds_toArray, List.set_cons_zero, List.set_cons_succ]
          refine wpAny_ready (rs := [10]) (by kernel_rfl) (by simp) ?_
          refine AllReady.cons (o := { dst := some 78, op := Op.convert 22 9 (Operand.tmp 77), type := 9, pos := "laws.go:551", after := #[{ on := 9, ground := Ground.data }, { on := 1, ground := Ground.guard }], guard := some (1, true) }) rfl (fun K hK => ?_) AllReady.nil
          go_simp
          refine hK _ _ ?_
          clear hK K
          try simp only [Act.put, List.setIfInBounds_toArray, List.set_cons_zero, List.set_cons_succ]
          refine wpAny_ready (rs := [11]) (by kernel_rfl) (by simp) ?_
          refine AllReady.cons (o := { dst := some 79, op := Op.binOp BinOp.add 9 (Operand.tmp 74) (Operand.tmp 78) 9, type := 9, pos := "laws.go:551", after := #[{ on := 6, ground := Ground.data }, { on := 10, ground := Ground.data }, { on := 1, ground := Ground.guard }], guard := some (1, true) }) rfl (fun K hK => ?_) AllReady.nil
          go_simp
          refine hK _ _ ?_
          clear hK K
          try simp only [Act.put, List.setIfInBounds_toArray, List.set_cons_zero, List.set_cons_succ]
          refine wpAny_ready (rs := [15]) (by kernel_rfl) (by simp) ?_
          refine AllReady.cons (o := { dst := some 83, op := Op.binOp BinOp.add 9 (Operand.tmp 79) (Operand.tmp 82) 9, type := 9, pos := "laws.go:551", after := #[{ on := 11, ground := Ground.data }, { on := 14, ground := Ground.data }, { on := 1, ground := Ground.guard }], guard := some (1, true) }) rfl (fun K hK => ?_) AllReady.nil
          go_simp
          refine hK _ _ ?_
          clear hK K
          try simp only [Act.put, List.setIfInBounds_toArray, List.set_cons_zero, List.set_cons_succ]
          refine wpAny_ready (rs := [16]) (by kernel_rfl) (by simp) ?_
          refine AllReady.cons (o := { dst := some 84, op := Op.binOp BinOp.eql 9 (Operand.tmp 71) (Operand.tmp 83) 9, type := 4, pos := "laws.go:551", after := #[{ on := 3, ground := Ground.data }, { on := 15, ground := Ground.data }, { on := 1, ground := Ground.guard }], guard := some (1, true) }) rfl (fun K hK => ?_) AllReady.nil
          go_simp
          refine hK _ _ ?_
          clear hK K
          try simp only [Act.put, List.setIfInBounds_toArray, List.set_cons_zero, List.set_cons_succ]
          refine wpAny_ready (rs := [17]) (by kernel_rfl) (by simp) ?_
          refine AllReady.cons (o := { dst := some 85, op := Op.pick (Operand.tmp 69) (Operand.tmp 84) (Operand.const (Value.bool false)), type := 4, pos := "laws.go:551", after := #[{ on := 1, ground := Ground.data }, { on := 16, ground := Ground.data }], guard := none }) rfl (fun K hK => ?_) AllReady.nil
          go_simp
          refine hK _ _ ?_
          clear hK K
          try simp only [Act.put, List.setIfInBounds_toArray, List.set_cons_zero, List.set_cons_succ]
          refine wpAny_ready (rs := [18]) (by kernel_rfl) (by simp) ?_
          refine AllReady.cons (o := { dst := some 86, op := Op.move (Operand.tmp 85), type := 4, pos := "laws.go:551", after := #[{ on := 17, ground := Ground.data }, { on := 3, ground := Ground.chain }], guard := none }) rfl (fun K hK => ?_) AllReady.nil
          go_simp
          refine hK _ _ ?_
          clear hK K
          try simp only [Act.put, List.setIfInBounds_toArray, List.set_cons_zero, List.set_cons_succ]
          refine wpAny_take (i := 22) (oi := { dst := some 90, op := Op.move (Operand.tmp 4), type := 3, pos := "laws.go:551", after := #[{ on := 18, ground := Ground.guard }], guard := some (18, true) }) (v := .int .i64 r) rfl (by kernel_rfl) (by kernel_rfl) (by kernel_rfl) (fun _ _ _ h => h) (Or.inl ⟨by rfl, fun wq => by go_simp⟩) ?_
          try simp only [Act.put, List.setIfInBounds_toArray, List.set_cons_zero, List.set_cons_succ]
          refine wpAny_ready (rs := [19]) (by kernel_rfl) (by simp) ?_
          refine AllReady.cons (o := { dst := some 87, op := Op.fieldAddr 33 (Operand.tmp 9) 0, type := 0, pos := "laws.go:551", after := #[{ on := 18, ground := Ground.guard }], guard := some (18, true) }) rfl (fun K hK => ?_) AllReady.nil
          go_simp
          refine hK _ _ ?_
          clear hK K
          try simp only [Act.put, List.setIfInBounds_toArray, List.set_cons_zero, List.set_cons_succ]
          refine wpAny_ready (rs := [20]) (by kernel_rfl) (by simp) ?_
          refine AllReady.cons (o := { dst := some 88, op := Op.fieldAddr 31 (Operand.tmp 87) 0, type := 0, pos := "laws.go:551", after := #[{ on := 19, ground := Ground.data }, { on := 18, ground := Ground.guard }], guard := some (18, true) }) rfl (fun K hK => ?_) AllReady.nil
          go_simp
          refine hK _ _ ?_
          clear hK K
          try simp only [Act.put, List.setIfInBounds_toArray, List.set_cons_zero, List.set_cons_succ]
          refine wpAny_ready (rs := [21]) (by kernel_rfl) (by simp) ?_
          refine AllReady.cons (o := { dst := some 89, op := Op.load 3 (Operand.tmp 88), type := 3, pos := "laws.go:551", after := #[{ on := 20, ground := Ground.data }, { on := 18, ground := Ground.guard }], guard := some (18, true) }) rfl (fun K hK => ?_) AllReady.nil
          go_simp
          refine hK _ _ ?_
          clear hK K
          try simp only [Act.put, List.setIfInBounds_toArray, List.set_cons_zero, List.set_cons_succ]
          refine wpAny_ready (rs := [23]) (by kernel_rfl) (by simp) ?_
          refine AllReady.cons (o := { dst := some 91, op := Op.binOp BinOp.eql 3 (Operand.tmp 89) (Operand.tmp 90) 3, type := 4, pos := "laws.go:551", after := #[{ on := 21, ground := Ground.data }, { on := 22, ground := Ground.data }, { on := 18, ground := Ground.guard }], guard := some (18, true) }) rfl (fun K hK => ?_) AllReady.nil
          go_simp
          refine hK _ _ ?_
          clear hK K
          try simp only [Act.put, List.setIfInBounds_toArray, List.set_cons_zero, List.set_cons_succ]
          refine wpAny_ready (rs := [24]) (by kernel_rfl) (by simp) ?_
          refine AllReady.cons (o := { dst := some 92, op := Op.pick (Operand.tmp 86) (Operand.tmp 91) (Operand.const (Value.bool false)), type := 4, pos := "laws.go:551", after := #[{ on := 18, ground := Ground.data }, { on := 23, ground := Ground.data }], guard := none }) rfl (fun K hK => ?_) AllReady.nil
          go_simp
          refine hK _ _ ?_
          clear hK K
          try simp only [Act.put, List.setIfInBounds_toArray, List.set_cons_zero, List.set_cons_succ]
          refine wpAny_ready (rs := [25]) (by kernel_rfl) (by simp) ?_
          refine AllReady.cons rfl (fun K hK => ?_) AllReady.nil
          go_simp
          refine hK _ _ ?_
          clear hK K
          try simp only [Act.put, List.setIfInBounds_toArray, List.set_cons_zero, List.set_cons_succ]
          refine wpAny_done (by kernel_rfl) ?_ _
          go_wp2
          go_ret
          exact ⟨by rw [HOA.out]; simp, TwoO.bel (TwoO.fst hS8.out)⟩
        · refine AllReady.cons (o := { dst := some 78, op := Op.convert 22 9 (Operand.tmp 77), type := 9, pos := "laws.go:551", after := #[{ on := 9, ground := Ground.data }, { on := 1, ground := Ground.guard }], guard := some (1, true) }) rfl (fun K hK => ?_) AllReady.nil
          go_simp
          refine hK _ _ ?_
          clear hK K
          try simp only [Act.put, List.setIfInBounds_toArray, List.set_cons_zero, List.set_cons_succ]
          refine wpAny_take (i := 11) (oi := { dst := some 79, op := Op.binOp BinOp.add 9 (Operand.tmp 74) (Operand.tmp 78) 9, type := 9, pos := "laws.go:551", after := #[{ on := 6, ground := Ground.data }, { on := 10, ground := Ground.data }, { on := 1, ground := Ground.guard }], guard := some (1, true) }) (v := .string (T.extract 0 k ++ txtB [sg])) rfl (by kernel_rfl) (by kernel_rfl) (by kernel_rfl) (fun _ _ _ h => h) (Or.inl ⟨by rfl, fun wq => by go_simp⟩) ?_
          try simp only [Act.put, List.setIfInBounds_toArray, List.set_cons_zero, List.set_cons_succ]
          refine wpAny_take (i := 15) (oi := { dst := some 83, op := Op.binOp BinOp.add 9 (Operand.tmp 79) (Operand.tmp 82) 9, type := 9, pos := "laws.go:551", after := #[{ on := 11, ground := Ground.data }, { on := 14, ground := Ground.data }, { on := 1, ground := Ground.guard }], guard := some (1, true) }) (v := .string (T.extract 0 k ++ txtB [sg] ++ T.extract k T.size)) rfl (by kernel_rfl) (by kernel_rfl) (by kernel_rfl) (fun _ _ _ h => h) (Or.inl ⟨by rfl, fun wq => by go_simp⟩) ?_
          try simp only [Act.put, List.setIfInBounds_toArray, List.set_cons_zero, List.set_cons_succ]
          refine wpAny_ready (rs := [3]) (by kernel_rfl) (by simp) ?_
          refine AllReady.cons (o := { dst := some 71, op := Op.call { callee := Callee.value (Operand.func 45), args := #[Operand.tmp 70], argTypes := #[23] }, type := 9, pos := "laws.go:551", after := #[{ on := 2, ground := Ground.data }, { on := 1, ground := Ground.chain }, { on := 1, ground := Ground.guard }], guard := some (1, true) }) rfl (fun K hK => ?_) AllReady.nil
          go_simp
          go_wp2_with (first | (go_at_call 45; with_reducible refine (implTxt_any M Gx cg x _ (TwoO.two (TwoO.fst HSa.out)) hml hcm (errB (TwoO.bel (TwoO.fst HSa.out)) h0 he) (posB (TwoO.bel (TwoO.fst HSa.out)) h0)).mono ?_; rintro e w8 ⟨rfl, hb2⟩; rw [HTX.out]))
          have hS8 := hideIt (TwoO.cell HSa.out hb2)
          have d0 := hS8.out.2.1
          have d1 := hS8.out.2.2
          have d2 : ¬ P = w8.heap.size := by omega
          try simp only [Act.put, List.setIfInBounds_toArray, List.set_cons_zero, List.set_cons_succ]
          refine wpAny_ready (rs := [16]) (by kernel_rfl) (by simp) ?_
          refine AllReady.cons (o := { dst := some 84, op := Op.binOp BinOp.eql 9 (Operand.tmp 71) (Operand.tmp 83) 9, type := 4, pos := "laws.go:551", after := #[{ on := 3, ground := Ground.data }, { on := 15, ground := Ground.data }, { on := 1, ground := Ground.guard }], guard := some (1, true) }) rfl (fun K hK => ?_) AllReady.nil
          go_simp
          refine hK _ _ ?_
          clear hK K
          try simp only [Act.put, List.setIfInBounds_toArray, List.set_cons_zero, List.set_cons_succ]
          refine wpAny_ready (rs := [17]) (by kernel_rfl) (by simp) ?_
          refine AllReady.cons (o := { dst := some 85, op := Op.pick (Operand.tmp 69) (Operand.tmp 84) (Operand.const (Value.bool false)), type := 4, pos := "laws.go:551", after := #[{ on := 1, ground := Ground.data }, { on := 16, ground := Ground.data }], guard := none }) rfl (fun K hK => ?_) AllReady.nil
          go_simp
          refine hK _ _ ?_
          clear hK K
          try simp only [Act.put, List.setIfInBounds_toArray, List.set_cons_zero, List.set_cons_succ]
          refine wpAny_ready (rs := [18]) (by kernel_rfl) (by simp) ?_
          refine AllReady.cons (o := { dst := some 86, op := Op.move (Operand.tmp 85), type := 4, pos := "laws.go:551", after := #[{ on := 17, ground := Ground.data }, { on := 3, ground := Ground.chain }], guard := none }) rfl (fun K hK => ?_) AllReady.nil
          go_simp
          refine hK _ _ ?_
          clear hK K
          try simp only [Act.put, List.setIfInBounds_toArray, List.set_cons_zero, List.set_cons_succ]
          refine wpAny_take (i := 22) (oi := { dst := some 90, op := Op.move (Operand.tmp 4), type := 3, pos := "laws.go:551", after := #[{ on := 18, ground := Ground.guard }], guard := some (18, true) }) (v := .int .i64 r) rfl (by kernel_rfl) (by kernel_rfl) (by kernel_rfl) (fun _ _ _ h => h) (Or.inl ⟨by rfl, fun wq => by go_simp⟩) ?_
          try simp only [Act.put, List.setIfInBounds_toArray, List.set_cons_zero, List.set_cons_succ]
          refine wpAny_ready (rs := [19]) (by kernel_rfl) (by simp) ?_
          refine AllReady.cons (o := { dst := some 87, op := Op.fieldAddr 33 (Operand.tmp 9) 0, type := 0, pos := "laws.go:551", after := #[{ on := 18, ground := Ground.guard }], guard := some (18, true) }) rfl (fun K hK => ?_) AllReady.nil
          go_simp
          refine hK _ _ ?_
          clear hK K
          try simp only [Act.put, List.setIfInBounds_toArray, List.set_cons_zero, List.set_cons_succ]
          refine wpAny_ready (rs := [20]) (by kernel_rfl) (by simp) ?_
          refine AllReady.cons (o := { dst := some 88, op := Op.fieldAddr 31 (Operand.tmp 87) 0, type := 0, pos := "laws.go:551", after := #[{ on := 19, ground := Ground.data }, { on := 18, ground := Ground.guard }], guard := some (18, true) }) rfl (fun K hK => ?_) AllReady.nil
          go_simp
          refine hK _ _ ?_
          clear hK K
          try simp only [Act.put, List.setIfInBounds_toArray, List.set_cons_zero, List.set_cons_succ]
          refine wpAny_ready (rs := [21]) (by kernel_rfl) (by simp) ?_
          refine AllReady.cons (o := { dst := some 89, op := Op.load 3 (Operand.tmp 88), type := 3, pos := "laws.go:551", after := #[{ on := 20, ground := Ground.data }, { on := 18, ground := Ground.guard }], guard := some (18, true) }) rfl (fun K hK => ?_) AllReady.nil
          go_simp
          refine hK _ _ ?_
          clear hK K
          try simp only [Act.put, List.setIfInBounds_toArray, List.set_cons_zero, List.set_cons_succ]
          refine wpAny_ready (rs := [23]) (by kernel_rfl) (by simp) ?_
          refine AllReady.cons (o := { dst := some 91, op := Op.binOp BinOp.eql 3 (Operand.tmp 89) (Operand.tmp 90) 3, type := 4, pos := "laws.go:551", after := #[{ on := 21, ground := Ground.data }, { on := 22, ground := Ground.data }, { on := 18, ground := Ground.guard }], guard := some (18, true) }) rfl (fun K hK => ?_) AllReady.nil
          go_simp
          refine hK _ _ ?_
          clear hK K
          try simp only [Act.put, List.setIfInBounds_toArray, List.set_cons_zero, List.set_cons_succ]
          refine wpAny_ready (rs := [24]) (by kernel_rfl) (by simp) ?_
          refine AllReady.cons (o := { dst := some 92, op := Op.pick (Operand.tmp 86) (Operand.tmp 91) (Operand.const (Value.bool false)), type := 4, pos := "laws.go:551", after := #[{ on := 18, ground := Ground.data }, { on := 23, ground := Ground.data }], guard := none }) rfl (fun K hK => ?_) AllReady.nil
          go_simp
          refine hK _ _ ?_
          clear hK K
          try simp only [Act.put, List.setIfInBounds_toArray, List.set_cons_zero, List.set_cons_succ]
          refine wpAny_ready (rs := [25]) (by kernel_rfl) (by simp) ?_
          refine AllReady.cons rfl (fun K hK => ?_) AllReady.nil
          go_simp
          refine hK _ _ ?_
          clear hK K
          try simp only [Act.put, List.setIfInBounds_toArray, List.set_cons_zero, List.set_cons_succ]
          refine wpAny_done (by kernel_rfl) ?_ _
          go_wp2
          go_ret
          exact ⟨by rw [HOA.out]; simp, TwoO.bel (TwoO.fst hS8.out)⟩
  · go_enter Tryd.func9, Tryd.ntmps9
    go_wp2
    go_ret
    exact ⟨rfl, Below.refl _ _⟩
end Go.Proofs.YtjgbickelgkljaaDoor

namespace Go.Proofs.YtjgbickelgkljaaDoor
open Go.ChangeShapes Go.WideShapes Go.ChangeAt Go.RowKit Go.Joins

set_option maxRecDepth 100000 in
theorem liftedFnPutThere (os : Os) (started : os.Started) (H : Type) (enc : TypeId × Value → H) :
    ReturnsInHanded {} Tryd.checked os 9 .any (fun w args => (Rows.fnPutThereSpec.pre enc Tryd.prog Tryd.f9 [] false w args ∧ laidMetH Tryd.prog laid1 w) ∧ sizedMet enc Tryd.prog Tryd.f9 (OpenSpec.ofChange Rows.fnPutThereSpec) false w args)
      (Rows.fnPutThereSpec.post enc Tryd.prog Tryd.f9 false true false false) := by
  refine returnsInHanded_of_change_and (C := Tryd.checked) (X := fun w _ => laidMetH Tryd.prog laid1 w) (fun _ _ _ hh h => h.of_heap hh) own started (by kernel_rfl) Tryd.func9
    (ChangeSpec.witness_shaped (enc := enc) (C := Tryd.checked) (os := os) (X := fun w _ => laidMetH Tryd.prog laid1 w) false (World.doorLaid Tryd.prog 28 os) #[.slice none 0 0] 8 rfl (World.shaped_of_RefB (by kernel_rfl) (by kernel_rfl)) (by kernel_rfl) (by kernel_rfl) (by kernel_rfl) (door_met os _)) ?_
  intro W base args ds gs before hval0 hW _ _ hL _
  have hval : ∀ (j : Nat) t v, Tryd.f9.params[j]? = some t → args[j]? = some v → Value.okWide Tryd.prog W .any base t v := hval0
  have hW' := hW
  obtain ⟨p, q, hA0, hV0, rfl, hfz, hnd⟩ := hW
  have hA : DataW.TrodAll enc Tryd.prog W 0 (fun _ => true) true Tryd.f9.params.toList args.toList ds p := hA0
  have hV : DataW.TrodVars enc Tryd.prog W (fun _ => true) [errName] gs q := hV0
  rw [Tryd.params9] at hA hval
  obtain ⟨v0, d0, rfl, rfl, h0⟩ := trodAll_one hA
  have k0 := h0
  have lt0 : ∀ x ∈ p, x.block < W.heap.size := by obtain ⟨m, hm⟩ := k0; exact DataW.trod_lt m _ _ _ hm
  obtain ⟨x, hv, hc, hpos⟩ := of_laid hL
  obtain ⟨rfl, rfl⟩ := hV.unique (vars_read1 enc gErr tErr Tryd.underlying83 hv trivial _)
  obtain ⟨q0, n0, c0, rfl, hc0, hm0, ha0⟩ := open_bytes (hval 0 22 v0 rfl rfl) h0
  clear hA0 hV0 hval0
  refine (walkPutThere W q0 n0 c0 ha0 hc0 hm0 x hc hpos).mono fun e W' ⟨he, bel⟩ => ?_
  subst he
  exact ⟨_, rfl, _, _, _, [], p, [.cell 0 0], hW', trodAll_mk1 (shut_bool Tryd.underlying4 _), trodAll_mk1 (Below.trod laidOut (by kernel_rfl) (of_decide_eq_true (by kernel_rfl)) k0 bel lt0), vars_read1 enc gErr tErr Tryd.underlying83 (var_kept bel hpos hv) trivial _, bel.frame _, fun h => by cases h⟩

theorem fnPutThere_row : Rows.FnPutThereSaid :=
  OpenClaim.holds_of_wide 9 Tryd.f9 rfl rfl rfl rfl rfl rfl rfl ⟨rfl, rfl, rfl, rfl, rfl⟩ rfl rfl rfl rfl rfl (by kernel_rfl) Tryd.func9 (by kernel_rfl)
    (of_decide_eq_true (by kernel_rfl)) (by unfold Func.isWrapper; first | (rw [if_pos (by decide +kernel)]; kernel_rfl) | (rw [if_neg (by decide +kernel)]; exact ⟨rfl, rfl⟩))
    (fun os started H enc _ => liftedFnPutThere os started H enc)

/-- THE STATEMENT. -/
theorem fnPutThere_holds : Rows.FnPutThereCardSaid :=
  Claim7.holds_tied_plain_at .later [] Rows.fnPutThereCard.laidKinds true Rows.fnPutThereCard.stood.harness true
    fnPutThere_row (fun _ h => by cases h) (by kernel_rfl) (fun _ h => by cases h) fnPutThere_row_tie rfl ⟨rfl, rfl⟩ (by kernel_rfl) rfl
    (fun f fn hf hfn => by
      obtain rfl : f = 9 := Option.some.inj ((show Tryd.prog.funcNamed Rows.fnPutThereRow.func = some 9 by kernel_rfl).symm.trans hf) |>.symm
      obtain rfl : fn = Tryd.f9 := (Option.some.inj (Tryd.func9.symm.trans hfn)).symm
      exact ⟨by kernel_rfl, fun j t ht => by
        rw [Tryd.params9] at ht
        have hm : t ∈ [22] := by simpa using Array.mem_of_getElem? ht
        have hall : ([22].all fun u => !Tryd.prog.wantsStandIn u) = true := by kernel_rfl
        exact (show Tryd.prog.wantsStandIn t = false by simpa using List.all_eq_true.1 hall t hm)⟩)
    (by kernel_rfl)
#print axioms fnPutThere_holds
end Go.Proofs.YtjgbickelgkljaaDoor
