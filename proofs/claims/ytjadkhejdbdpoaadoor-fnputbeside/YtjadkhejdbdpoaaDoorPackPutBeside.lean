/-
  PROVED: a sign is put on the right of what stands ahead if nothing stands there, else on the left of what stands next, where nothing stands, whatever bytes what was done, who puts, where and which sign are drawn from; and TypePut answers as the specification's does (the given card of FnPutBeside), for every input; the one listed variable, the program's error, reads as its own initialiser lays it.
-/
import Derived.Test.YtjadkhejdbdpoaaDoorPackD
import Derived.Test.YtjadkhejdbdpoaaDoorPackK
import Derived.Test.YtjadkhejdbdpoaaDoorPackJ
import Derived.Test.YtjadkhejdbdpoaaDoorPackM
import Derived.Test.YtjadkhejdbdpoaaDoorPackC
import Derived.Test.YtjadkhejdbdpoaaDoorPackO
import Derived.Test.YtjadkhejdbdpoaaDoorTie
import Derived.Test.YtjadkhejdbdpoaaDoorCards
import Derived.SevenTiedAt
namespace Go.Proofs.YtjadkhejdbdpoaaDoor
open Go.RowKit
set_option linter.unusedSimpArgs false
set_option linter.unusedVariables false
attribute [local go_sem ↓] Go.wp_at_zero Go.wp_at_succ

set_option maxRecDepth 100000 in
set_option maxHeartbeats 1000000 in
theorem pick_none (w : World) (q : Nat) (p : Option Addr) (n cap k : Nat) (h : RdAt w q p n cap k) (hk : k ≤ 1073741824) :
    Calls Tryd.prog 41 #[.pointer (some ⟨q, 0, none⟩), .int .i64 0] w fun e w' => e = .returned (.int .i64 0) ∧ RdAt w' q p n cap (k + 1) ∧ OnlyQ q w w' := by
  have H := hideIt h
  have c0 := h.b
  have c1 := h.k
  have f1 := h.fz
  have hlt := h.lt
  clear h
  go_enter Tryd.func41, Tryd.ntmps41
  go_wp2
  go_ret
  exact ⟨rfl, H.out.set, only_set _ _ _ hlt⟩
/-- Of so many, or of none. -/
theorem pick_all (w : World) (q : Nat) (p : Option Addr) (n cap k : Nat) (m : Nat) (h : RdAt w q p n cap k) (hm' : m ≤ 1048576) (hk : k ≤ 1073741824) :
    Calls Tryd.prog 41 #[.pointer (some ⟨q, 0, none⟩), .int .i64 m] w fun e w' => (∃ c : Int, 0 ≤ c ∧ c ≤ m ∧ e = .returned (.int .i64 c)) ∧ RdAt w' q p n cap (k + 1) ∧ OnlyQ q w w' := by
  by_cases hz : m = 0
  · subst hz
    refine (pick_none w q p n cap k h hk).mono ?_
    rintro e w' ⟨rfl, h1, h2⟩
    exact ⟨⟨0, by omega, by omega, rfl⟩, h1, h2⟩
  · refine (pick_any w q p n cap k m h (by omega) (by omega) hk).mono ?_
    rintro e w' ⟨⟨c, h0, h1, rfl⟩, h2, h3⟩
    exact ⟨⟨c, h0, by omega, rfl⟩, h2, h3⟩

set_option maxRecDepth 100000 in
set_option maxHeartbeats 2000000 in
theorem drawTake_any (w : World) (p : Option Addr) (n cap : Nat) (h : ArgBytes w p n) (hcap : n ≤ cap) (hn : n ≤ 1048576) :
    Calls Tryd.prog 21 #[.slice p n cap] w fun e w' => ∃ G c m r t, e = .returned (.tuple #[.slice (some ⟨G, 0, none⟩) m c, .int .i64 r, .int .i64 t]) ∧ (0 ≤ r ∧ r ≤ 4) ∧ (-1 ≤ t ∧ t ≤ 1000) ∧ SomeOps w' w.heap.size G c m 74 ∧ Below w.heap.size w w' := by
  have H := hideIt h
  clear h
  go_enter Tryd.func21, Tryd.ntmps21
  go_wp2_with fail
  refine (open_any _ p n cap H.out hcap hn).mono ?_
  rintro e w1 ⟨n', rfl, hR1, hb1⟩
  have HR1 := hideIt hR1
  have HB1 := hideIt hb1
  clear hR1 hb1
  go_wp2_with fail
  refine (l71Off_any _ _ p n' cap 0 HR1.out (by omega)).mono ?_
  rintro e w2 ⟨⟨G, c, m, rfl, hS2⟩, ⟨k2, hk2, hR2⟩, hO2⟩
  have hq1 : w.heap.size < w1.heap.size := HR1.out.lt
  have hz1 : w.heap.size ≤ w1.heap.size := by omega
  have HS2 := hideIt hS2
  have HB2 := hideIt (HB1.out.trans hO2.below)
  have HR2 := hideIt hR2
  clear hS2 hR2 hO2 HR1 HB1
  go_wp2_with fail
  refine (l71Rep_any _ _ p n' cap k2 HR2.out (by omega)).mono ?_
  rintro e w2b ⟨⟨r, hr, rfl⟩, hR2b, hO2b⟩
  have HS2 := hideIt (HS2.out.only hO2b hq1)
  have HB2 := hideIt (HB2.out.trans hO2b.below)
  have HR2 := hideIt hR2b
  have HRR := hideIt hr
  clear hR2b hO2b hr
  obtain ⟨L, hLm, hL74, hOw⟩ := HS2.out
  subst hLm
  have HL := hideIt hOw
  clear hOw
  go_wp2_with fail
  refine (specTxt_any L G c _ HL.out.at (by omega) HL.out.cap).mono ?_
  rintro e w3 ⟨rfl, hb3⟩
  have hts : (txtB (shown (lfs L (standL L)))).size ≤ 74 := by
    rw [txtB_size]
    have h1 := shown_len (lfs L (standL L))
    rw [lfs_len] at h1
    have h2 := stand_len L
    omega
  have HS3 := hideIt (HS2.out.below hb3)
  have HR3 := hideIt (HR2.out.below hb3)
  have HB3 := hideIt (Bstep HB2.out hb3)
  clear hb3 HS2 HR2 HB2 HL
  generalize txtB (shown (lfs L (standL L))) = T at *
  go_wp2_with fail
  refine (pick_all _ _ p n' cap (k2 + 2) T.size HR3.out (by omega) (by omega)).mono ?_
  rintro e w4 ⟨⟨d, hd0, hd1, rfl⟩, hR4, hO4⟩
  have HS4 := hideIt (HS3.out.only hO4 hq1)
  have HR4 := hideIt hR4
  have HB4 := hideIt (HB3.out.trans hO4.below)
  clear hR4 hO4 HS3 HR3 HB3
  go_wp2_with fail
  refine (pick_any _ _ p n' cap (k2 + 2 + 1) _ HR4.out (by omega) (by omega) (by omega)).mono ?_
  rintro e w5 ⟨⟨u, hu0, hu1, rfl⟩, hR5, hO5⟩
  have HS5 := hideIt (HS4.out.only hO5 hq1)
  have HR5 := hideIt hR5
  have HB5 := hideIt (HB4.out.trans hO5.below)
  clear hR5 hO5 HS4 HR4 HB4
  have hw2 : IntKind.i64.wrap (d + u / 23) = d + u / 23 := IntWalk.i64_in (d + u / 23) ⟨by omega, by omega⟩
  go_wp2_with fail
  refine (pick_any _ _ p n' cap (k2 + 2 + 1 + 1) _ HR5.out (by omega) (by omega) (by omega)).mono ?_
  rintro e w6 ⟨⟨v, hv0, hv1, rfl⟩, hR6, hO6⟩
  have HS6 := hideIt ((HS5.out.only hO6 hq1).base hz1)
  have HB6 := hideIt (HB5.out.trans hO6.below)
  clear hR6 hO6 HS5 HR5 HB5
  have hw3 : IntKind.i64.wrap (d + u / 23 - v / 23) = d + u / 23 - v / 23 := IntWalk.i64_in (d + u / 23 - v / 23) ⟨by omega, by omega⟩
  go_wp2
  exact bodyPost_ret (v := .tuple #[.slice (some ⟨G, 0, none⟩) L.length c, .int .i64 r, .int .i64 (d + u / 23 - v / 23)]) (by simp [results, Tryd.results21, go_sem]) rfl ⟨G, c, _, _, _, rfl, HRR.out, by omega, HS6.out, HB6.out⟩
end Go.Proofs.YtjadkhejdbdpoaaDoor

namespace Go.Proofs.YtjadkhejdbdpoaaDoor
open Go.RowKit
set_option linter.unusedSimpArgs false
set_option linter.unusedVariables false
attribute [local go_sem ↓] Go.wp_at_zero Go.wp_at_succ

set_option maxRecDepth 100000 in
set_option maxHeartbeats 2000000 in
theorem drawPut_any (w : World) (p : Option Addr) (n cap : Nat) (h : ArgBytes w p n) (hcap : n ≤ cap) (hn : n ≤ 1048576) :
    Calls Tryd.prog 15 #[.slice p n cap] w fun e w' => ∃ G c m r t sg, e = .returned (.tuple #[.slice (some ⟨G, 0, none⟩) m c, .int .i64 r, .int .i64 t, .int .i64 sg]) ∧ (0 ≤ r ∧ r ≤ 4) ∧ (-1 ≤ t ∧ t ≤ 1000) ∧ (0 ≤ sg ∧ sg ≤ 130) ∧ SomeOps w' w.heap.size G c m 74 ∧ Below w.heap.size w w' := by
  have H := hideIt h
  clear h
  go_enter Tryd.func15, Tryd.ntmps15
  go_wp2_with fail
  refine (open_any _ p n cap H.out hcap hn).mono ?_
  rintro e w1 ⟨n', rfl, hR1, hb1⟩
  have HR1 := hideIt hR1
  have HB1 := hideIt hb1
  clear hR1 hb1
  go_wp2_with fail
  refine (l71Off_any _ _ p n' cap 0 HR1.out (by omega)).mono ?_
  rintro e w2 ⟨⟨G, c, m, rfl, hS2⟩, ⟨k2, hk2, hR2⟩, hO2⟩
  have hq1 : w.heap.size < w1.heap.size := HR1.out.lt
  have hz1 : w.heap.size ≤ w1.heap.size := by omega
  have HS2 := hideIt hS2
  have HB2 := hideIt (HB1.out.trans hO2.below)
  have HR2 := hideIt hR2
  clear hS2 hR2 hO2 HR1 HB1
  go_wp2_with fail
  refine (pick_any _ _ p n' cap k2 26 HR2.out (by omega) (by omega) (by omega)).mono ?_
  rintro e w3 ⟨⟨y, hy0, hy1, rfl⟩, hR3, hO3⟩
  have HS2 := hideIt (HS2.out.only hO3 hq1)
  have HB2 := hideIt (HB2.out.trans hO3.below)
  have HR2 := hideIt hR3
  clear hR3 hO3
  have hwy : IntKind.i64.wrap (97 + y) = 97 + y := IntWalk.i64_in (97 + y) ⟨by omega, by omega⟩
  go_wp2_with fail
  refine (pick_any _ _ p n' cap (k2 + 1) 24 HR2.out (by omega) (by omega) (by omega)).mono ?_
  rintro e w4 ⟨⟨x, hx0, hx1, rfl⟩, hR4, hO4⟩
  have HS2 := hideIt (HS2.out.only hO4 hq1)
  have HB2 := hideIt (HB2.out.trans hO4.below)
  have HR2 := hideIt hR4
  clear hR4 hO4
  by_cases hz : x = 0
  · subst hz
    go_wp2_with fail
    refine (pick_any _ _ p n' cap (k2 + 1 + 1) 3 (HR2.out.alloc _) (by omega) (by omega) (by omega)).mono ?_
    rintro e w5 ⟨⟨dd, hdd0, hdd1, rfl⟩, hR5, hO5⟩
    have hqw := HR2.out.lt
    have sl : ∃ sg : Int, (0 ≤ sg ∧ sg ≤ 130) ∧ w5.cell? ⟨w4.heap.size, dd.toNat, none⟩ = some (.int .i64 sg) := by
      have hs : ∀ j, w5.cell? ⟨w4.heap.size, j, none⟩ = _ := fun j => hO5.cell w4.heap.size j (by simp) (by omega)
      obtain rfl | rfl | rfl : dd = 0 ∨ dd = 1 ∨ dd = 2 := by omega
      · exact ⟨0, by omega, (hs 0).trans (by simp [go_sem])⟩
      · exact ⟨65, by omega, (hs 1).trans (by simp [go_sem])⟩
      · exact ⟨123, by omega, (hs 2).trans (by simp [go_sem])⟩
    obtain ⟨sg, hsg, hsl⟩ := sl
    have hb4 : Below w4.heap.size w4 (w4.alloc (.cells #[.int .i64 0, .int .i64 65, .int .i64 123] 3)) := (Below.refl _ _).alloc (Nat.le_refl _) _
    have HS2 := hideIt ((HS2.out.below hb4).only hO5 hq1)
    have HB2 := hideIt ((Bstep HB2.out hb4).trans hO5.below)
    have HR2 := hideIt hR5
    clear hR5 hO5 hb4
    go_wp2_with fail
    refine (l71Rep_any _ _ p n' cap (k2 + 1 + 1 + 1) HR2.out (by omega)).mono ?_
    rintro e w2b ⟨⟨r, hr, rfl⟩, hR2b, hO2b⟩
    have HS2 := hideIt (HS2.out.only hO2b hq1)
    have HB2 := hideIt (HB2.out.trans hO2b.below)
    have HR2 := hideIt hR2b
    have HRR := hideIt hr
    clear hR2b hO2b hr
    obtain ⟨L, hLm, hL74, hOw⟩ := HS2.out
    subst hLm
    have HL := hideIt hOw
    clear hOw
    go_wp2_with fail
    refine (specTxt_any L G c _ HL.out.at (by omega) HL.out.cap).mono ?_
    rintro e w3 ⟨rfl, hb3⟩
    have hts : (txtB (shown (lfs L (standL L)))).size ≤ 74 := by
      rw [txtB_size]
      have h1 := shown_len (lfs L (standL L))
      rw [lfs_len] at h1
      have h2 := stand_len L
      omega
    have HS3 := hideIt (HS2.out.below hb3)
    have HR3 := hideIt (HR2.out.below hb3)
    have HB3 := hideIt (Bstep HB2.out hb3)
    clear hb3 HS2 HR2 HB2 HL
    generalize txtB (shown (lfs L (standL L))) = T at *
    have hwT : IntKind.i64.wrap ((T.size : Int) + 1) = (T.size : Int) + 1 := IntWalk.i64_in ((T.size : Int) + 1) ⟨by omega, by omega⟩
    go_wp2_with fail
    refine (pick_any _ _ p n' cap (k2 + 1 + 1 + 1 + 2) _ HR3.out (by omega) (by omega) (by omega)).mono ?_
    rintro e w4 ⟨⟨d, hd0, hd1, rfl⟩, hR4, hO4⟩
    have HS4 := hideIt (HS3.out.only hO4 hq1)
    have HR4 := hideIt hR4
    have HB4 := hideIt (HB3.out.trans hO4.below)
    clear hR4 hO4 HS3 HR3 HB3
    go_wp2_with fail
    refine (pick_any _ _ p n' cap (k2 + 1 + 1 + 1 + 2 + 1) _ HR4.out (by omega) (by omega) (by omega)).mono ?_
    rintro e w5 ⟨⟨u, hu0, hu1, rfl⟩, hR5, hO5⟩
    have HS5 := hideIt (HS4.out.only hO5 hq1)
    have HR5 := hideIt hR5
    have HB5 := hideIt (HB4.out.trans hO5.below)
    clear hR5 hO5 HS4 HR4 HB4
    have hw2 : IntKind.i64.wrap (d + u / 23) = d + u / 23 := IntWalk.i64_in (d + u / 23) ⟨by omega, by omega⟩
    go_wp2_with fail
    refine (pick_any _ _ p n' cap (k2 + 1 + 1 + 1 + 2 + 1 + 1) _ HR5.out (by omega) (by omega) (by omega)).mono ?_
    rintro e w6 ⟨⟨v, hv0, hv1, rfl⟩, hR6, hO6⟩
    have HS6 := hideIt ((HS5.out.only hO6 hq1).base hz1)
    have HB6 := hideIt (HB5.out.trans hO6.below)
    clear hR6 hO6 HS5 HR5 HB5
    have hw3 : IntKind.i64.wrap (d + u / 23 - v / 23) = d + u / 23 - v / 23 := IntWalk.i64_in (d + u / 23 - v / 23) ⟨by omega, by omega⟩
    go_wp2
    exact bodyPost_ret (v := .tuple #[.slice (some ⟨G, 0, none⟩) L.length c, .int .i64 r, .int .i64 (d + u / 23 - v / 23), .int .i64 (sg)]) (by simp [results, Tryd.results15, go_sem]) rfl ⟨G, c, _, _, _, _, rfl, HRR.out, by omega, hsg, HS6.out, HB6.out⟩
  · have hxp : ¬ x = 0 := hz
    have hsg : 0 ≤ 97 + y ∧ 97 + y ≤ 130 := by omega
    go_wp2_with fail
    refine (l71Rep_any _ _ p n' cap (k2 + 1 + 1) HR2.out (by omega)).mono ?_
    rintro e w2b ⟨⟨r, hr, rfl⟩, hR2b, hO2b⟩
    have HS2 := hideIt (HS2.out.only hO2b hq1)
    have HB2 := hideIt (HB2.out.trans hO2b.below)
    have HR2 := hideIt hR2b
    have HRR := hideIt hr
    clear hR2b hO2b hr
    obtain ⟨L, hLm, hL74, hOw⟩ := HS2.out
    subst hLm
    have HL := hideIt hOw
    clear hOw
    go_wp2_with fail
    refine (specTxt_any L G c _ HL.out.at (by omega) HL.out.cap).mono ?_
    rintro e w3 ⟨rfl, hb3⟩
    have hts : (txtB (shown (lfs L (standL L)))).size ≤ 74 := by
      rw [txtB_size]
      have h1 := shown_len (lfs L (standL L))
      rw [lfs_len] at h1
      have h2 := stand_len L
      omega
    have HS3 := hideIt (HS2.out.below hb3)
    have HR3 := hideIt (HR2.out.below hb3)
    have HB3 := hideIt (Bstep HB2.out hb3)
    clear hb3 HS2 HR2 HB2 HL
    generalize txtB (shown (lfs L (standL L))) = T at *
    have hwT : IntKind.i64.wrap ((T.size : Int) + 1) = (T.size : Int) + 1 := IntWalk.i64_in ((T.size : Int) + 1) ⟨by omega, by omega⟩
    go_wp2_with fail
    refine (pick_any _ _ p n' cap (k2 + 1 + 1 + 2) _ HR3.out (by omega) (by omega) (by omega)).mono ?_
    rintro e w4 ⟨⟨d, hd0, hd1, rfl⟩, hR4, hO4⟩
    have HS4 := hideIt (HS3.out.only hO4 hq1)
    have HR4 := hideIt hR4
    have HB4 := hideIt (HB3.out.trans hO4.below)
    clear hR4 hO4 HS3 HR3 HB3
    go_wp2_with fail
    refine (pick_any _ _ p n' cap (k2 + 1 + 1 + 2 + 1) _ HR4.out (by omega) (by omega) (by omega)).mono ?_
    rintro e w5 ⟨⟨u, hu0, hu1, rfl⟩, hR5, hO5⟩
    have HS5 := hideIt (HS4.out.only hO5 hq1)
    have HR5 := hideIt hR5
    have HB5 := hideIt (HB4.out.trans hO5.below)
    clear hR5 hO5 HS4 HR4 HB4
    have hw2 : IntKind.i64.wrap (d + u / 23) = d + u / 23 := IntWalk.i64_in (d + u / 23) ⟨by omega, by omega⟩
    go_wp2_with fail
    refine (pick_any _ _ p n' cap (k2 + 1 + 1 + 2 + 1 + 1) _ HR5.out (by omega) (by omega) (by omega)).mono ?_
    rintro e w6 ⟨⟨v, hv0, hv1, rfl⟩, hR6, hO6⟩
    have HS6 := hideIt ((HS5.out.only hO6 hq1).base hz1)
    have HB6 := hideIt (HB5.out.trans hO6.below)
    clear hR6 hO6 HS5 HR5 HB5
    have hw3 : IntKind.i64.wrap (d + u / 23 - v / 23) = d + u / 23 - v / 23 := IntWalk.i64_in (d + u / 23 - v / 23) ⟨by omega, by omega⟩
    go_wp2
    exact bodyPost_ret (v := .tuple #[.slice (some ⟨G, 0, none⟩) L.length c, .int .i64 r, .int .i64 (d + u / 23 - v / 23), .int .i64 (97 + y)]) (by simp [results, Tryd.results15, go_sem]) rfl ⟨G, c, _, _, _, _, rfl, HRR.out, by omega, hsg, HS6.out, HB6.out⟩
end Go.Proofs.YtjadkhejdbdpoaaDoor

namespace Go.Proofs.YtjadkhejdbdpoaaDoor
open Go.RowKit
set_option linter.unusedSimpArgs false
set_option linter.unusedVariables false

theorem atI_at {l : List Op7} (h : opsB l = true) {j : Nat} {x : Lf} (hx : (lvs l)[j]? = some x) : atI (lvs l) x.a x.b = j := by
  obtain ⟨hj, e⟩ := List.getElem?_eq_some_iff.1 hx
  refine atI_some hj (by rw [e]; exact ⟨rfl, rfl⟩) fun i hi hij he => ?_
  have := lvs_id h (List.getElem?_eq_getElem hi) hx he.1 he.2
  omega
theorem may_put {l : List Op7} {r t sg : Int} (h : mayPut l r t sg = true) : mayMore l r = true ∧ (97 ≤ sg ∧ sg ≤ 122) ∧ 0 ≤ t ∧ t.toNat ≤ (shownI (lvs l)).length := by
  unfold mayPut inB at h
  simp only [Bool.and_eq_true, decide_eq_true_eq] at h
  exact ⟨h.1, h.2.1, h.2.2.1, by omega⟩
theorem put_beside {l : List Op7} {r t sg : Int} (h : mayPut l r t sg = true) {la lb : Int} {lk : Nat} (hl : leftOf l t.toNat = (la, lb, lk)) :
    (kidsL l (la, lb, 1) = [] ∧ putO l r t.toNat sg = ⟨r, cnt l r + 1, 1, la, lb, 1, sg⟩) ∨
    (kidsL l (la, lb, 1) ≠ [] ∧ ∃ qa qb : Int, ∃ k : Nat, k < (lvs l).length ∧ putO l r t.toNat sg = ⟨r, cnt l r + 1, 1, qa, qb, 0, sg⟩ ∧ atI (lvs l) qa qb = k ∧ atI (lvs l) la lb = (k : Int) - 1 ∧ kidsL l (qa, qb, 0) = [] ∧ wf64 qa ∧ wf64 qb) := by
  obtain ⟨hm, hsg, ht0, ht⟩ := may_put h
  have ho := (may_parts hm).1
  obtain ⟨hc, hfree, _⟩ := put_can (t := t.toNat) hm hsg ht
  by_cases hk : kidsL l (la, lb, 1) = []
  · refine .inl ⟨hk, ?_⟩
    unfold putO
    rw [hl]
    simp only
    rw [if_pos hk]
  · refine .inr ⟨hk, ?_⟩
    have hlt := left_next ho ht (by rw [hl]; exact hk)
    rw [hl] at hlt
    simp only at hlt
    have hnx := List.getElem?_eq_getElem hlt
    have hput : putO l r t.toNat sg = ⟨r, cnt l r + 1, 1, (lvs l)[lk].a, (lvs l)[lk].b, 0, sg⟩ := by
      unfold putO
      rw [hl]
      simp only
      rw [if_neg hk]
      simp [nextLf, hl, hnx]
    rw [hput] at hfree
    obtain ⟨p, hp, pa, pb⟩ := lvs_at hnx
    have hid := id_ok ho (List.mem_of_getElem? hp)
    rw [pa, pb] at hid
    refine ⟨_, _, lk, hlt, hput, atI_at ho hnx, ?_, hfree, wf_small (by omega), wf_small (by omega)⟩
    cases htn : t.toNat with
    | zero =>
      rw [htn, leftOf_zero] at hl
      obtain ⟨rfl, rfl, rfl⟩ : 0 = la ∧ 0 = lb ∧ 0 = lk := by
        have h1 := congrArg Prod.fst hl
        have h2 := congrArg (fun y => y.2.1) hl
        have h3 := congrArg (fun y => y.2.2) hl
        exact ⟨h1, h2, h3⟩
      rw [atI_miss fun y hy e => by
        obtain ⟨i, hi⟩ := List.mem_iff_getElem?.1 hy
        have := lvs_pos ho hi
        omega]
      rfl
    | succ k =>
      obtain ⟨j, x, h1, h2, h3⟩ := shown_leaf (l := l) (k := k) (by omega)
      rw [htn, leftOf_succ h1 h2] at hl
      have e1 : x.a = la := congrArg Prod.fst hl
      have e2 : x.b = lb := congrArg (fun y => y.2.1) hl
      have e3 : j + 1 = lk := congrArg (fun y => y.2.2) hl
      rw [← e1, ← e2, atI_at ho h2, ← e3]
      push_cast
      omega
end Go.Proofs.YtjadkhejdbdpoaaDoor

namespace Go.Proofs.YtjadkhejdbdpoaaDoor
open Go.RowKit
set_option linter.unusedSimpArgs false
set_option linter.unusedVariables false
attribute [local go_sem ↓] Go.wp_at_zero Go.wp_at_succ

/-- A box of a thing: what lies in it. -/
def O7 (M : Nat) (o : Op7) (W : World) : Prop := W.cell? ⟨M, 0, none⟩ = some (.int .i64 o.a) ∧ W.cell? ⟨M, 1, none⟩ = some (.int .i64 o.b) ∧ W.cell? ⟨M, 2, none⟩ = some (.int .i64 o.k) ∧ W.cell? ⟨M, 3, none⟩ = some (.int .i64 o.c) ∧ W.cell? ⟨M, 4, none⟩ = some (.int .i64 o.d) ∧ W.cell? ⟨M, 5, none⟩ = some (.int .i64 o.s) ∧ W.cell? ⟨M, 6, none⟩ = some (.int .i64 o.g)
theorem O7.of {M : Nat} {o : Op7} {W : World} (h : W.heap[M]? = some (.cells #[.int .i64 o.a, .int .i64 o.b, .int .i64 o.k, .int .i64 o.c, .int .i64 o.d, .int .i64 o.s, .int .i64 o.g] 29 (0, 0))) : O7 M o W :=
  ⟨(blk_cell h 0).trans rfl, (blk_cell h 1).trans rfl, (blk_cell h 2).trans rfl, (blk_cell h 3).trans rfl, (blk_cell h 4).trans rfl, (blk_cell h 5).trans rfl, (blk_cell h 6).trans rfl⟩

/-- What is kept besides the boxes' cells: things and leaves. -/
def RK (w : World) (G c P B : Nat) (L : List Op7) (v : Value) (W : World) : Prop := OwnOps W w.heap.size G c L ∧ W.ownsRow w.heap.size 44 4 v (lvs L).length (lfCells (lvs L)) ∧ P < W.heap.size ∧ B < W.heap.size ∧ Below w.heap.size w W
theorem RK.at {w : World} {G c P B : Nat} {L : List Op7} {v : Value} {W : World} (h : RK w G c P B L v W) : OpsAt W G L := h.1.at
theorem RK.row {w : World} {G c P B : Nat} {L : List Op7} {v : Value} {W : World} (h : RK w G c P B L v W) : W.ownsRow w.heap.size 44 4 v (lvs L).length (lfCells (lvs L)) := h.2.1
theorem RK.bel {w : World} {G c P B : Nat} {L : List Op7} {v : Value} {W : World} (h : RK w G c P B L v W) : Below w.heap.size w W := h.2.2.2.2
theorem keep5 {w : World} {G c P B : Nat} {L : List Op7} {v : Value} {qa qb la lb : Int} {W W' : World} (hb : Below W.heap.size W W')
    (h : W.cell? ⟨P, 3, none⟩ = some (.int .i64 qa) ∧ W.cell? ⟨P, 4, none⟩ = some (.int .i64 qb) ∧ W.cell? ⟨B, 0, none⟩ = some (.int .i64 la) ∧ W.cell? ⟨B, 1, none⟩ = some (.int .i64 lb) ∧ RK w G c P B L v W) :
    W'.cell? ⟨P, 3, none⟩ = some (.int .i64 qa) ∧ W'.cell? ⟨P, 4, none⟩ = some (.int .i64 qb) ∧ W'.cell? ⟨B, 0, none⟩ = some (.int .i64 la) ∧ W'.cell? ⟨B, 1, none⟩ = some (.int .i64 lb) ∧ RK w G c P B L v W' := by
  obtain ⟨h1, h2, h3, h4, h5, h6, h7, h8, h9⟩ := h
  obtain ⟨hc, _⟩ := bcell hb
  exact ⟨(hc _ _ h7).trans h1, (hc _ _ h7).trans h2, (hc _ _ h8).trans h3, (hc _ _ h8).trans h4, h5.below hb, rowKeep h6 hb, Nat.lt_of_lt_of_le h7 hb.size, Nat.lt_of_lt_of_le h8 hb.size, Bstep h9 hb⟩
theorem rest5 {w : World} {G c P B : Nat} {L : List Op7} {v : Value} {qa qb la lb : Int} {W : World}
    (h : W.cell? ⟨P, 3, none⟩ = some (.int .i64 qa) ∧ W.cell? ⟨P, 4, none⟩ = some (.int .i64 qb) ∧ W.cell? ⟨B, 0, none⟩ = some (.int .i64 la) ∧ W.cell? ⟨B, 1, none⟩ = some (.int .i64 lb) ∧ RK w G c P B L v W) : RK w G c P B L v W := h.2.2.2.2

/-- Things, and two boxes of one thing. -/
structure PW (w W : World) (G c O P : Nat) (L : List Op7) (o : Op7) : Prop where
  own : OwnOps W w.heap.size G c L
  one : W.heap[O]? = some (.cells #[.int .i64 o.a, .int .i64 o.b, .int .i64 o.k, .int .i64 o.c, .int .i64 o.d, .int .i64 o.s, .int .i64 o.g] 29 (0, 0))
  two : W.heap[P]? = some (.cells #[.int .i64 o.a, .int .i64 o.b, .int .i64 o.k, .int .i64 o.c, .int .i64 o.d, .int .i64 o.s, .int .i64 o.g] 29 (0, 0))
  bel : Below w.heap.size w W
theorem PW.below {w W W' : World} {G c O P : Nat} {L : List Op7} {o : Op7} (h : PW w W G c O P L o) (hb : Below W.heap.size W W') : PW w W' G c O P L o := ⟨h.own.below hb, blk_below h.one hb, blk_below h.two hb, Bstep h.bel hb⟩

set_option maxRecDepth 100000 in
set_option maxHeartbeats 8000000 in
theorem walkPutBeside (w : World) (p : Option Addr) (n cap : Nat) (h : ArgBytes w p n) (hcap : n ≤ cap) (hmax : cap ≤ maxLen) (x : Addr)
    (he : w.cell? ⟨0, 0, none⟩ = some (.iface 164 (.pointer (some x)))) (h0 : 0 < w.heap.size) :
    Calls Tryd.prog 8 #[.slice p n cap] w fun e w' => e = .returned (.bool true) ∧ Below w.heap.size w w' := by
  have H := hideIt h
  clear h
  unfold maxLen at *
  by_cases hn : n ≤ 1048576
  · go_enter Tryd.func8, Tryd.ntmps8
    go_wp2_with fail
    refine (drawPut_any _ p n cap H.out hcap hn).mono ?_
    rintro e w1 ⟨G, c, _, r, t, sg, rfl, hr, ht, hsg0, ⟨L, rfl, hL, hS⟩, hb1⟩
    have hwf : wf64 t := wf_small (by omega)
    have HS := hideIt hS
    have HB := hideIt hb1
    clear hS hb1
    obtain ⟨o, ho⟩ : ∃ o, putA L r t sg = o := ⟨_, rfl⟩
    obtain ⟨zz, hzz⟩ : ∃ zz, mayPut L r t sg = zz := ⟨_, rfl⟩
    have HO := hideIt ho
    have HZ := hideIt hzz
    clear ho hzz
    go_wp2_with fail
    refine (typePut_any L G c r t sg _ HS.out.at (by omega) HS.out.cap).mono ?_
    rintro e w2 ⟨hd, hb2⟩
    have hE := putA_of hd
    rw [HO.out, HZ.out] at hE
    subst hE
    unfold opV
    have HS2 := hideIt (HS.out.below hb2)
    have HB2 := hideIt (Bstep HB.out hb2)
    clear hb2 hd HS HB
    go_wp2_with fail
    have HX2 : Hid (OX w2.heap.size o w (w2.alloc (.cells #[.int .i64 o.a, .int .i64 o.b, .int .i64 o.k, .int .i64 o.c, .int .i64 o.d, .int .i64 o.s, .int .i64 o.g] 29))) := ⟨World.alloc_heap_new _ _, HB2.out.alloc HB2.out.size _⟩
    have HS3 := hideIt (HS2.out.below ((Below.refl _ _).alloc (Nat.le_refl _) (.cells #[.int .i64 o.a, .int .i64 o.b, .int .i64 o.k, .int .i64 o.c, .int .i64 o.d, .int .i64 o.s, .int .i64 o.g] 29)))
    clear HS2 HB2
    refine (implPut_any L G c r t sg hwf x _ HS3.out.at (by omega) HS3.out.cap (errB HX2.out.bel h0 he) (posB HX2.out.bel h0)).mono ?_
    rintro e w4 ⟨hd, hb4⟩
    have hE := putA_of hd
    rw [HO.out, HZ.out] at hE
    subst hE
    unfold opV
    have HX4 := hideIt (HX2.out.below hb4)
    have HS4 := hideIt (HS3.out.below hb4)
    clear hb4 hd HX2 HS3
    generalize w2.heap.size = O at *
    have HT : Hid (PW w (w4.alloc (.cells #[.int .i64 o.a, .int .i64 o.b, .int .i64 o.k, .int .i64 o.c, .int .i64 o.d, .int .i64 o.s, .int .i64 o.g] 29)) G c O w4.heap.size L o) :=
      ⟨HS4.out.below ((Below.refl _ _).alloc (Nat.le_refl _) _), blk_below HX4.out.box ((Below.refl _ _).alloc (Nat.le_refl _) _), World.alloc_heap_new _ _, HX4.out.bel.alloc HX4.out.bel.size _⟩
    have HBX : Hid (∀ W', W' = w4.alloc (.cells #[.int .i64 o.a, .int .i64 o.b, .int .i64 o.k, .int .i64 o.c, .int .i64 o.d, .int .i64 o.s, .int .i64 o.g] 29) → O7 O o W' ∧ O7 w4.heap.size o W') := fun W' e => by
      subst e
      exact ⟨O7.of HT.out.one, O7.of HT.out.two⟩
    obtain ⟨⟨x0, x1, x2, x3, x4, x5, x6⟩, ⟨y0, y1, y2, y3, y4, y5, y6⟩⟩ := HBX.out _ rfl
    have hlO := (Array.getElem?_eq_some_iff.1 HX4.out.box).1
    have z0 := (blk_cell HX4.out.box 0).trans rfl
    have z1 := (blk_cell HX4.out.box 1).trans rfl
    have z2 := (blk_cell HX4.out.box 2).trans rfl
    have z3 := (blk_cell HX4.out.box 3).trans rfl
    have z4 := (blk_cell HX4.out.box 4).trans rfl
    have z5 := (blk_cell HX4.out.box 5).trans rfl
    have z6 := (blk_cell HX4.out.box 6).trans rfl
    cases zz
    · go_wp2
      go_ret
      exact ⟨rfl, HT.out.bel⟩
    · have HOE : Hid (putO L r t.toNat sg = o) := by
        have h := HO.out
        unfold putA at h
        rw [HZ.out, if_pos rfl] at h
        exact h
      obtain ⟨hmm, hsg1, ht0, htl⟩ := may_put HZ.out
      have HOI := hideIt (may_parts hmm).1
      obtain ⟨la, lb, lk, hlf⟩ : ∃ la lb lk, leftOf L t.toNat = (la, lb, lk) := ⟨_, _, _, rfl⟩
      have HAT : Hid (atV L t = .tuple #[.agg #[.int .i64 la, .int .i64 lb], .bool true]) := atV_yes (by unfold atB; rw [HOI.out]; simp [inB]; omega) hlf
      have hwl := left_wf HOI.out htl
      rw [hlf] at hwl
      have HWL := hideIt hwl
      have hbs := put_beside HZ.out hlf
      rw [HOE.out] at hbs
      have HBS := hideIt hbs
      clear hbs hwl hlf hmm
      go_wp2_with fail
      clear x0 x1 x2 x3 x4 x5 x6 y0 y1 y2 y3 y4 y5 y6 z0 z1 z2 z3 z4 z5 z6 hlO HBX HX4 HS4
      generalize w4.alloc (.cells #[.int .i64 o.a, .int .i64 o.b, .int .i64 o.k, .int .i64 o.c, .int .i64 o.d, .int .i64 o.s, .int .i64 o.g] 29) = W5 at *
      generalize w4.heap.size = P at *
      refine (implAt_any L G c t hwf x _ HT.out.own.at (by omega) HT.out.own.cap (errB HT.out.bel h0 he) (posB HT.out.bel h0)).mono ?_
      rintro e w6 ⟨rfl, hb6⟩
      rw [HAT.out]
      have HM := hideIt (HT.out.below hb6)
      clear hb6 HT HAT
      have hBa : Below w6.heap.size w6 (w6.alloc (.cells #[.int .i64 la, .int .i64 lb] 27)) := (Below.refl _ _).alloc (Nat.le_refl _) _
      have HM7 := hideIt (HM.out.below hBa)
      have HXB : Hid ((w6.alloc (.cells #[.int .i64 la, .int .i64 lb] 27)).heap[w6.heap.size]? = some (.cells #[.int .i64 la, .int .i64 lb] 27 (0, 0))) := World.alloc_heap_new _ _
      clear hBa
      go_wp2_with fail
      generalize w6.alloc (.cells #[.int .i64 la, .int .i64 lb] 27) = W7 at *
      generalize w6.heap.size = B at *
      refine (implKidsS_any L HOI.out G c la lb 1 x _ HM7.out.own.at (by omega) HM7.out.own.cap (errB HM7.out.bel h0 he) (posB HM7.out.bel h0) HWL.out.1 HWL.out.2 (wf_small (by omega))).mono ?_
      rintro e w8 ⟨qk, ck, rfl, -, hb8⟩
      have HM8 := hideIt (HM7.out.below hb8)
      have HXB8 := hideIt (blk_below HXB.out hb8)
      clear hb8 HM7 HXB HM
      have hbl := (Array.getElem?_eq_some_iff.1 HXB8.out).1
      have hpl := (Array.getElem?_eq_some_iff.1 HM8.out.two).1
      have b0 := (blk_cell HXB8.out 0).trans rfl
      have b1 := (blk_cell HXB8.out 1).trans rfl
      have p3 := (blk_cell HM8.out.two 3).trans rfl
      have p4 := (blk_cell HM8.out.two 4).trans rfl
      have p5 := (blk_cell HM8.out.two 5).trans rfl
      obtain ⟨hk, hE⟩ | ⟨hk, qa, qb, kk, hkl, hE, e1, e2, hfree, wqa, wqb⟩ := HBS.out
      · have hkn : (kidsL L (la, lb, 1)).length = 0 := by rw [hk]; rfl
        rw [hkn]
        subst hE
        dsimp only at p3 p4 p5
        clear hk hkn
        go_wp2
        go_ret
        exact ⟨by simp, HM8.out.bel⟩
      · have hkn : 0 < (kidsL L (la, lb, 1)).length := List.length_pos_iff.2 hk
        have hkz : ¬ ((kidsL L (la, lb, 1)).length = 0) := by omega
        have hkb : (kidsL L (la, lb, 1)).length ≤ 1048576 := Nat.le_trans (kids_le L _) (by omega)
        have HK := hideIt hk
        generalize (kidsL L (la, lb, 1)).length = kn at *
        have HE := hideIt hE
        have h3 : o.c = qa := by rw [hE]
        have h4 : o.d = qb := by rw [hE]
        have h5 : o.s = 0 := by rw [hE]
        rw [h3] at p3
        rw [h4] at p4
        rw [h5] at p5
        have HE1 := hideIt e1
        have HE2 := hideIt e2
        have HFR := hideIt hfree
        clear hE h3 h4 h5 e1 e2 hfree hk HOE HO HZ HBS
        have hkn' : (0 : Int) < (kn : Int) := by omega
        go_wp2_with fail
        refine (implLeaves_any L G c x _ HM8.out.own.at (by omega) HM8.out.own.cap (errB HM8.out.bel h0 he) (posB HM8.out.bel h0)).mono ?_
        rintro e w9 ⟨v, rfl, hrow, hb9⟩
        rw [show standL L = allO L by unfold standL; rw [if_pos HOI.out]] at hrow
        have HR : Hid (w9.ownsRow w.heap.size 44 4 v (lvs L).length (lfCells (lvs L))) := ownsRow_base HM8.out.bel.size hrow
        have HM9 := hideIt (HM8.out.below hb9)
        have HXB9 := hideIt (blk_below HXB8.out hb9)
        clear hb9 hrow HM8 HXB8 hbl hpl b0 b1 p3 p4 p5
        have hle : (lvs L).length ≤ 1048576 := Nat.le_trans (lvs_len HOI.out) (by omega)
        have hll : L.length ≤ 1048576 := by omega
        have hcl := HM9.out.own.cap
        have HKZ : Hid ((kidsL L (qa, qb, 0)).length = 0) := by show _ = _; rw [HFR.out]; rfl
        obtain ⟨mm, hmm⟩ : ∃ mm : Int, (kk : Int) - 1 = mm := ⟨_, rfl⟩
        have HE2 : Hid (atI (lvs L) la lb = mm) := HE2.out.trans hmm
        have hwr : wrap64 (mm + 1) = (kk : Int) := (IntWalk.wrap64_in _ ⟨by omega, by omega⟩).trans (by omega)
        have HKKM := hideIt hmm
        have hwrA : IntKind.i64.wrap (mm + 1) = (kk : Int) := (IntWalk.i64_left _).trans hwr
        clear hmm
        have hwf0 : wf64 0 := wf_small (by omega)
        have HS0 : Hid (w9.cell? ⟨P, 3, none⟩ = some (.int .i64 qa) ∧ w9.cell? ⟨P, 4, none⟩ = some (.int .i64 qb) ∧ w9.cell? ⟨B, 0, none⟩ = some (.int .i64 la) ∧ w9.cell? ⟨B, 1, none⟩ = some (.int .i64 lb) ∧ RK w G c P B L v w9) := ⟨(blk_cell HM9.out.two 3).trans (by rw [HE.out]; rfl), (blk_cell HM9.out.two 4).trans (by rw [HE.out]; rfl), (blk_cell HXB9.out 0).trans rfl, (blk_cell HXB9.out 1).trans rfl, HM9.out.own, HR.out, (Array.getElem?_eq_some_iff.1 HM9.out.two).1, (Array.getElem?_eq_some_iff.1 HXB9.out).1, HM9.out.bel⟩
        have HSd : Hid (w9.drew.cell? ⟨P, 3, none⟩ = some (.int .i64 qa) ∧ w9.drew.cell? ⟨P, 4, none⟩ = some (.int .i64 qb) ∧ w9.drew.cell? ⟨B, 0, none⟩ = some (.int .i64 la) ∧ w9.drew.cell? ⟨B, 1, none⟩ = some (.int .i64 lb) ∧ RK w G c P B L v w9.drew) := keep5 ((Below.refl _ _).drew) HS0.out
        clear HM9 HXB9 HR HE HFR HK
        go_wp2_with fail
        go_region_held3 (fun W' => W'.cell? ⟨P, 3, none⟩ = some (.int .i64 qa) ∧ W'.cell? ⟨P, 4, none⟩ = some (.int .i64 qb) ∧ W'.cell? ⟨B, 0, none⟩ = some (.int .i64 la) ∧ W'.cell? ⟨B, 1, none⟩ = some (.int .i64 lb) ∧ RK w G c P B L v W')
          (first | with_reducible assumption | with_reducible exact HSd.out | with_reducible exact HS0.out | exact keep5 hb2 (by with_reducible assumption))
          (first
            | (go_at_call 25; with_reducible refine (ltAt_any (lvs L) v w.heap.size qa qb _ (RK.row (rest5 (qa := qa) (qb := qb) (la := la) (lb := lb) (by with_reducible assumption) : RK w G c P B L v _)) hle).mono ?_; rintro e w8 ⟨rfl, hb2⟩; rw [HE1.out])
            | (go_at_call 25; with_reducible refine (ltAt_any (lvs L) v w.heap.size la lb _ (RK.row (rest5 (qa := qa) (qb := qb) (la := la) (lb := lb) (by with_reducible assumption) : RK w G c P B L v _)) hle).mono ?_; rintro e w8 ⟨rfl, hb2⟩; rw [HE2.out])
            | (go_at_call 28; with_reducible refine (implKidsS_any L HOI.out G c qa qb 0 x _ (RK.at (rest5 (qa := qa) (qb := qb) (la := la) (lb := lb) (by with_reducible assumption) : RK w G c P B L v _)) hll hcl (errB (RK.bel (rest5 (qa := qa) (qb := qb) (la := la) (lb := lb) (by with_reducible assumption) : RK w G c P B L v _)) h0 he) (posB (RK.bel (rest5 (qa := qa) (qb := qb) (la := la) (lb := lb) (by with_reducible assumption) : RK w G c P B L v _)) h0) wqa wqb hwf0).mono ?_; rintro e w8 ⟨q9, c9, rfl, -, hb2⟩; rw [HKZ.out]))
        all_goals
          rename_i hS
          have HB9 := hideIt (RK.bel (rest5 hS))
          clear hS
          go_wp2
          go_ret
          exact ⟨rfl, HB9.out⟩
  · go_enter Tryd.func8, Tryd.ntmps8
    go_wp2
    go_ret
    exact ⟨rfl, Below.refl _ _⟩
end Go.Proofs.YtjadkhejdbdpoaaDoor

namespace Go.Proofs.YtjadkhejdbdpoaaDoor
open Go.ChangeShapes Go.WideShapes Go.ChangeAt Go.RowKit Go.Joins

set_option maxRecDepth 100000 in
theorem liftedFnPutBeside (os : Os) (started : os.Started) (H : Type) (enc : TypeId × Value → H) :
    ReturnsInHanded {} Tryd.checked os 8 .any (fun w args => (Rows.fnPutBesideSpec.pre enc Tryd.prog Tryd.f8 [] false w args ∧ laidMetH Tryd.prog laid1 w) ∧ sizedMet enc Tryd.prog Tryd.f8 (OpenSpec.ofChange Rows.fnPutBesideSpec) false w args)
      (Rows.fnPutBesideSpec.post enc Tryd.prog Tryd.f8 false true false false) := by
  refine returnsInHanded_of_change_and (C := Tryd.checked) (X := fun w _ => laidMetH Tryd.prog laid1 w) (fun _ _ _ hh h => h.of_heap hh) own started (by kernel_rfl) Tryd.func8
    (ChangeSpec.witness_shaped (enc := enc) (C := Tryd.checked) (os := os) (X := fun w _ => laidMetH Tryd.prog laid1 w) false (World.doorLaid Tryd.prog 28 os) #[.slice none 0 0] 8 rfl (World.shaped_of_RefB (by kernel_rfl) (by kernel_rfl)) (by kernel_rfl) (by kernel_rfl) (by kernel_rfl) (door_met os _)) ?_
  intro W base args ds gs before hval0 hW _ _ hL _
  have hval : ∀ (j : Nat) t v, Tryd.f8.params[j]? = some t → args[j]? = some v → Value.okWide Tryd.prog W .any base t v := hval0
  have hW' := hW
  obtain ⟨p, q, hA0, hV0, rfl, hfz, hnd⟩ := hW
  have hA : DataW.TrodAll enc Tryd.prog W 0 (fun _ => true) true Tryd.f8.params.toList args.toList ds p := hA0
  have hV : DataW.TrodVars enc Tryd.prog W (fun _ => true) [errName] gs q := hV0
  rw [Tryd.params8] at hA hval
  obtain ⟨v0, d0, rfl, rfl, h0⟩ := trodAll_one hA
  have k0 := h0
  have lt0 : ∀ x ∈ p, x.block < W.heap.size := by obtain ⟨m, hm⟩ := k0; exact DataW.trod_lt m _ _ _ hm
  obtain ⟨x, hv, hc, hpos⟩ := of_laid hL
  obtain ⟨rfl, rfl⟩ := hV.unique (vars_read1 enc gErr tErr Tryd.underlying71 hv trivial _)
  obtain ⟨q0, n0, c0, rfl, hc0, hm0, ha0⟩ := open_bytes (hval 0 22 v0 rfl rfl) h0
  clear hA0 hV0 hval0
  refine (walkPutBeside W q0 n0 c0 ha0 hc0 hm0 x hc hpos).mono fun e W' ⟨he, bel⟩ => ?_
  subst he
  exact ⟨_, rfl, _, _, _, [], p, [.cell 0 0], hW', trodAll_mk1 (shut_bool Tryd.underlying4 _), trodAll_mk1 (Below.trod laidOut (by kernel_rfl) (of_decide_eq_true (by kernel_rfl)) k0 bel lt0), vars_read1 enc gErr tErr Tryd.underlying71 (var_kept bel hpos hv) trivial _, bel.frame _, fun h => by cases h⟩

theorem fnPutBeside_row : Rows.FnPutBesideSaid :=
  OpenClaim.holds_of_wide 8 Tryd.f8 rfl rfl rfl rfl rfl rfl rfl ⟨rfl, rfl, rfl, rfl, rfl⟩ rfl rfl rfl rfl rfl (by kernel_rfl) Tryd.func8 (by kernel_rfl)
    (of_decide_eq_true (by kernel_rfl)) (by unfold Func.isWrapper; first | (rw [if_pos (by decide +kernel)]; kernel_rfl) | (rw [if_neg (by decide +kernel)]; exact ⟨rfl, rfl⟩))
    (fun os started H enc _ => liftedFnPutBeside os started H enc)

/-- THE STATEMENT. -/
theorem fnPutBeside_holds : Rows.FnPutBesideCardSaid :=
  Claim7.holds_tied_plain_at .later [] Rows.fnPutBesideCard.laidKinds true Rows.fnPutBesideCard.stood.harness true
    fnPutBeside_row (fun _ h => by cases h) (by kernel_rfl) (fun _ h => by cases h) fnPutBeside_row_tie rfl ⟨rfl, rfl⟩ (by kernel_rfl) rfl
    (fun f fn hf hfn => by
      obtain rfl : f = 8 := Option.some.inj ((show Tryd.prog.funcNamed Rows.fnPutBesideRow.func = some 8 by kernel_rfl).symm.trans hf) |>.symm
      obtain rfl : fn = Tryd.f8 := (Option.some.inj (Tryd.func8.symm.trans hfn)).symm
      exact ⟨by kernel_rfl, fun j t ht => by
        rw [Tryd.params8] at ht
        have hm : t ∈ [22] := by simpa using Array.mem_of_getElem? ht
        have hall : ([22].all fun u => !Tryd.prog.wantsStandIn u) = true := by kernel_rfl
        exact (show Tryd.prog.wantsStandIn t = false by simpa using List.all_eq_true.1 hall t hm)⟩)
    (by kernel_rfl)
#print axioms fnPutBeside_holds
end Go.Proofs.YtjadkhejdbdpoaaDoor
