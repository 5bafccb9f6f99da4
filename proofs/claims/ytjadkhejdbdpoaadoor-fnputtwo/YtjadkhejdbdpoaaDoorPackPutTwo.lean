/-
  PROVED: what two put at one place stands side by side there, by who did it, whatever bytes what was done, who puts, where and which sign are drawn from; and TypePut answers as the specification's does (the given card of FnPutTwo), for every input; the one listed variable, the program's error, reads as its own initialiser lays it.
-/
import Derived.Test.YtjadkhejdbdpoaaDoorPackD
import Derived.Test.YtjadkhejdbdpoaaDoorPackW
import Derived.Test.YtjadkhejdbdpoaaDoorPackJ
import Derived.Test.YtjadkhejdbdpoaaDoorPackC
import Derived.Test.YtjadkhejdbdpoaaDoorPackL
import Derived.Test.YtjadkhejdbdpoaaDoorPackO
import Derived.Test.YtjadkhejdbdpoaaDoorTie
import Derived.Test.YtjadkhejdbdpoaaDoorCards
import Derived.SevenTiedAt
namespace Go.Proofs.YtjadkhejdbdpoaaDoor
open Go.RowKit
set_option linter.unusedSimpArgs false
set_option linter.unusedVariables false
attribute [local go_sem ↓] Go.wp_at_zero Go.wp_at_succ

set_option maxRecDepth 100000 in
set_option maxHeartbeats 1000000 in
theorem pick_none (w : World) (q : Nat) (p : Option Addr) (n cap k : Nat) (h : RdAt w q p n cap k) (hk : k ≤ 1073741824) :
    Calls Tryd.prog 41 #[.pointer (some ⟨q, 0, none⟩), .int .i64 0] w fun e w' => e = .returned (.int .i64 0) ∧ RdAt w' q p n cap (k + 1) ∧ OnlyQ q w w' := by
  have H := hideIt h
  have c0 := h.b
  have c1 := h.k
  have f1 := h.fz
  have hlt := h.lt
  clear h
  go_enter Tryd.func41, Tryd.ntmps41
  go_wp2
  go_ret
  exact ⟨rfl, H.out.set, only_set _ _ _ hlt⟩
/-- Of so many, or of none. -/
theorem pick_all (w : World) (q : Nat) (p : Option Addr) (n cap k : Nat) (m : Nat) (h : RdAt w q p n cap k) (hm' : m ≤ 1048576) (hk : k ≤ 1073741824) :
    Calls Tryd.prog 41 #[.pointer (some ⟨q, 0, none⟩), .int .i64 m] w fun e w' => (∃ c : Int, 0 ≤ c ∧ c ≤ m ∧ e = .returned (.int .i64 c)) ∧ RdAt w' q p n cap (k + 1) ∧ OnlyQ q w w' := by
  by_cases hz : m = 0
  · subst hz
    refine (pick_none w q p n cap k h hk).mono ?_
    rintro e w' ⟨rfl, h1, h2⟩
    exact ⟨⟨0, by omega, by omega, rfl⟩, h1, h2⟩
  · refine (pick_any w q p n cap k m h (by omega) (by omega) hk).mono ?_
    rintro e w' ⟨⟨c, h0, h1, rfl⟩, h2, h3⟩
    exact ⟨⟨c, h0, by omega, rfl⟩, h2, h3⟩

set_option maxRecDepth 100000 in
set_option maxHeartbeats 2000000 in
theorem drawTake_any (w : World) (p : Option Addr) (n cap : Nat) (h : ArgBytes w p n) (hcap : n ≤ cap) (hn : n ≤ 1048576) :
    Calls Tryd.prog 21 #[.slice p n cap] w fun e w' => ∃ G c m r t, e = .returned (.tuple #[.slice (some ⟨G, 0, none⟩) m c, .int .i64 r, .int .i64 t]) ∧ (0 ≤ r ∧ r ≤ 4) ∧ (-1 ≤ t ∧ t ≤ 1000) ∧ SomeOps w' w.heap.size G c m 74 ∧ Below w.heap.size w w' := by
  have H := hideIt h
  clear h
  go_enter Tryd.func21, Tryd.ntmps21
  go_wp2_with fail
  refine (open_any _ p n cap H.out hcap hn).mono ?_
  rintro e w1 ⟨n', rfl, hR1, hb1⟩
  have HR1 := hideIt hR1
  have HB1 := hideIt hb1
  clear hR1 hb1
  go_wp2_with fail
  refine (l71Off_any _ _ p n' cap 0 HR1.out (by omega)).mono ?_
  rintro e w2 ⟨⟨G, c, m, rfl, hS2⟩, ⟨k2, hk2, hR2⟩, hO2⟩
  have hq1 : w.heap.size < w1.heap.size := HR1.out.lt
  have hz1 : w.heap.size ≤ w1.heap.size := by omega
  have HS2 := hideIt hS2
  have HB2 := hideIt (HB1.out.trans hO2.below)
  have HR2 := hideIt hR2
  clear hS2 hR2 hO2 HR1 HB1
  go_wp2_with fail
  refine (l71Rep_any _ _ p n' cap k2 HR2.out (by omega)).mono ?_
  rintro e w2b ⟨⟨r, hr, rfl⟩, hR2b, hO2b⟩
  have HS2 := hideIt (HS2.out.only hO2b hq1)
  have HB2 := hideIt (HB2.out.trans hO2b.below)
  have HR2 := hideIt hR2b
  have HRR := hideIt hr
  clear hR2b hO2b hr
  obtain ⟨L, hLm, hL74, hOw⟩ := HS2.out
  subst hLm
  have HL := hideIt hOw
  clear hOw
  go_wp2_with fail
  refine (specTxt_any L G c _ HL.out.at (by omega) HL.out.cap).mono ?_
  rintro e w3 ⟨rfl, hb3⟩
  have hts : (txtB (shown (lfs L (standL L)))).size ≤ 74 := by
    rw [txtB_size]
    have h1 := shown_len (lfs L (standL L))
    rw [lfs_len] at h1
    have h2 := stand_len L
    omega
  have HS3 := hideIt (HS2.out.below hb3)
  have HR3 := hideIt (HR2.out.below hb3)
  have HB3 := hideIt (Bstep HB2.out hb3)
  clear hb3 HS2 HR2 HB2 HL
  generalize txtB (shown (lfs L (standL L))) = T at *
  go_wp2_with fail
  refine (pick_all _ _ p n' cap (k2 + 2) T.size HR3.out (by omega) (by omega)).mono ?_
  rintro e w4 ⟨⟨d, hd0, hd1, rfl⟩, hR4, hO4⟩
  have HS4 := hideIt (HS3.out.only hO4 hq1)
  have HR4 := hideIt hR4
  have HB4 := hideIt (HB3.out.trans hO4.below)
  clear hR4 hO4 HS3 HR3 HB3
  go_wp2_with fail
  refine (pick_any _ _ p n' cap (k2 + 2 + 1) _ HR4.out (by omega) (by omega) (by omega)).mono ?_
  rintro e w5 ⟨⟨u, hu0, hu1, rfl⟩, hR5, hO5⟩
  have HS5 := hideIt (HS4.out.only hO5 hq1)
  have HR5 := hideIt hR5
  have HB5 := hideIt (HB4.out.trans hO5.below)
  clear hR5 hO5 HS4 HR4 HB4
  have hw2 : IntKind.i64.wrap (d + u / 23) = d + u / 23 := IntWalk.i64_in (d + u / 23) ⟨by omega, by omega⟩
  go_wp2_with fail
  refine (pick_any _ _ p n' cap (k2 + 2 + 1 + 1) _ HR5.out (by omega) (by omega) (by omega)).mono ?_
  rintro e w6 ⟨⟨v, hv0, hv1, rfl⟩, hR6, hO6⟩
  have HS6 := hideIt ((HS5.out.only hO6 hq1).base hz1)
  have HB6 := hideIt (HB5.out.trans hO6.below)
  clear hR6 hO6 HS5 HR5 HB5
  have hw3 : IntKind.i64.wrap (d + u / 23 - v / 23) = d + u / 23 - v / 23 := IntWalk.i64_in (d + u / 23 - v / 23) ⟨by omega, by omega⟩
  go_wp2
  exact bodyPost_ret (v := .tuple #[.slice (some ⟨G, 0, none⟩) L.length c, .int .i64 r, .int .i64 (d + u / 23 - v / 23)]) (by simp [results, Tryd.results21, go_sem]) rfl ⟨G, c, _, _, _, rfl, HRR.out, by omega, HS6.out, HB6.out⟩
end Go.Proofs.YtjadkhejdbdpoaaDoor

namespace Go.Proofs.YtjadkhejdbdpoaaDoor
open Go.RowKit
set_option linter.unusedSimpArgs false
set_option linter.unusedVariables false
attribute [local go_sem ↓] Go.wp_at_zero Go.wp_at_succ

set_option maxRecDepth 100000 in
set_option maxHeartbeats 2000000 in
theorem drawPut_any (w : World) (p : Option Addr) (n cap : Nat) (h : ArgBytes w p n) (hcap : n ≤ cap) (hn : n ≤ 1048576) :
    Calls Tryd.prog 15 #[.slice p n cap] w fun e w' => ∃ G c m r t sg, e = .returned (.tuple #[.slice (some ⟨G, 0, none⟩) m c, .int .i64 r, .int .i64 t, .int .i64 sg]) ∧ (0 ≤ r ∧ r ≤ 4) ∧ (-1 ≤ t ∧ t ≤ 1000) ∧ (0 ≤ sg ∧ sg ≤ 130) ∧ SomeOps w' w.heap.size G c m 74 ∧ Below w.heap.size w w' := by
  have H := hideIt h
  clear h
  go_enter Tryd.func15, Tryd.ntmps15
  go_wp2_with fail
  refine (open_any _ p n cap H.out hcap hn).mono ?_
  rintro e w1 ⟨n', rfl, hR1, hb1⟩
  have HR1 := hideIt hR1
  have HB1 := hideIt hb1
  clear hR1 hb1
  go_wp2_with fail
  refine (l71Off_any _ _ p n' cap 0 HR1.out (by omega)).mono ?_
  rintro e w2 ⟨⟨G, c, m, rfl, hS2⟩, ⟨k2, hk2, hR2⟩, hO2⟩
  have hq1 : w.heap.size < w1.heap.size := HR1.out.lt
  have hz1 : w.heap.size ≤ w1.heap.size := by omega
  have HS2 := hideIt hS2
  have HB2 := hideIt (HB1.out.trans hO2.below)
  have HR2 := hideIt hR2
  clear hS2 hR2 hO2 HR1 HB1
  go_wp2_with fail
  refine (pick_any _ _ p n' cap k2 26 HR2.out (by omega) (by omega) (by omega)).mono ?_
  rintro e w3 ⟨⟨y, hy0, hy1, rfl⟩, hR3, hO3⟩
  have HS2 := hideIt (HS2.out.only hO3 hq1)
  have HB2 := hideIt (HB2.out.trans hO3.below)
  have HR2 := hideIt hR3
  clear hR3 hO3
  have hwy : IntKind.i64.wrap (97 + y) = 97 + y := IntWalk.i64_in (97 + y) ⟨by omega, by omega⟩
  go_wp2_with fail
  refine (pick_any _ _ p n' cap (k2 + 1) 24 HR2.out (by omega) (by omega) (by omega)).mono ?_
  rintro e w4 ⟨⟨x, hx0, hx1, rfl⟩, hR4, hO4⟩
  have HS2 := hideIt (HS2.out.only hO4 hq1)
  have HB2 := hideIt (HB2.out.trans hO4.below)
  have HR2 := hideIt hR4
  clear hR4 hO4
  by_cases hz : x = 0
  · subst hz
    go_wp2_with fail
    refine (pick_any _ _ p n' cap (k2 + 1 + 1) 3 (HR2.out.alloc _) (by omega) (by omega) (by omega)).mono ?_
    rintro e w5 ⟨⟨dd, hdd0, hdd1, rfl⟩, hR5, hO5⟩
    have hqw := HR2.out.lt
    have sl : ∃ sg : Int, (0 ≤ sg ∧ sg ≤ 130) ∧ w5.cell? ⟨w4.heap.size, dd.toNat, none⟩ = some (.int .i64 sg) := by
      have hs : ∀ j, w5.cell? ⟨w4.heap.size, j, none⟩ = _ := fun j => hO5.cell w4.heap.size j (by simp) (by omega)
      obtain rfl | rfl | rfl : dd = 0 ∨ dd = 1 ∨ dd = 2 := by omega
      · exact ⟨0, by omega, (hs 0).trans (by simp [go_sem])⟩
      · exact ⟨65, by omega, (hs 1).trans (by simp [go_sem])⟩
      · exact ⟨123, by omega, (hs 2).trans (by simp [go_sem])⟩
    obtain ⟨sg, hsg, hsl⟩ := sl
    have hb4 : Below w4.heap.size w4 (w4.alloc (.cells #[.int .i64 0, .int .i64 65, .int .i64 123] 3)) := (Below.refl _ _).alloc (Nat.le_refl _) _
    have HS2 := hideIt ((HS2.out.below hb4).only hO5 hq1)
    have HB2 := hideIt ((Bstep HB2.out hb4).trans hO5.below)
    have HR2 := hideIt hR5
    clear hR5 hO5 hb4
    go_wp2_with fail
    refine (l71Rep_any _ _ p n' cap (k2 + 1 + 1 + 1) HR2.out (by omega)).mono ?_
    rintro e w2b ⟨⟨r, hr, rfl⟩, hR2b, hO2b⟩
    have HS2 := hideIt (HS2.out.only hO2b hq1)
    have HB2 := hideIt (HB2.out.trans hO2b.below)
    have HR2 := hideIt hR2b
    have HRR := hideIt hr
    clear hR2b hO2b hr
    obtain ⟨L, hLm, hL74, hOw⟩ := HS2.out
    subst hLm
    have HL := hideIt hOw
    clear hOw
    go_wp2_with fail
    refine (specTxt_any L G c _ HL.out.at (by omega) HL.out.cap).mono ?_
    rintro e w3 ⟨rfl, hb3⟩
    have hts : (txtB (shown (lfs L (standL L)))).size ≤ 74 := by
      rw [txtB_size]
      have h1 := shown_len (lfs L (standL L))
      rw [lfs_len] at h1
      have h2 := stand_len L
      omega
    have HS3 := hideIt (HS2.out.below hb3)
    have HR3 := hideIt (HR2.out.below hb3)
    have HB3 := hideIt (Bstep HB2.out hb3)
    clear hb3 HS2 HR2 HB2 HL
    generalize txtB (shown (lfs L (standL L))) = T at *
    have hwT : IntKind.i64.wrap ((T.size : Int) + 1) = (T.size : Int) + 1 := IntWalk.i64_in ((T.size : Int) + 1) ⟨by omega, by omega⟩
    go_wp2_with fail
    refine (pick_any _ _ p n' cap (k2 + 1 + 1 + 1 + 2) _ HR3.out (by omega) (by omega) (by omega)).mono ?_
    rintro e w4 ⟨⟨d, hd0, hd1, rfl⟩, hR4, hO4⟩
    have HS4 := hideIt (HS3.out.only hO4 hq1)
    have HR4 := hideIt hR4
    have HB4 := hideIt (HB3.out.trans hO4.below)
    clear hR4 hO4 HS3 HR3 HB3
    go_wp2_with fail
    refine (pick_any _ _ p n' cap (k2 + 1 + 1 + 1 + 2 + 1) _ HR4.out (by omega) (by omega) (by omega)).mono ?_
    rintro e w5 ⟨⟨u, hu0, hu1, rfl⟩, hR5, hO5⟩
    have HS5 := hideIt (HS4.out.only hO5 hq1)
    have HR5 := hideIt hR5
    have HB5 := hideIt (HB4.out.trans hO5.below)
    clear hR5 hO5 HS4 HR4 HB4
    have hw2 : IntKind.i64.wrap (d + u / 23) = d + u / 23 := IntWalk.i64_in (d + u / 23) ⟨by omega, by omega⟩
    go_wp2_with fail
    refine (pick_any _ _ p n' cap (k2 + 1 + 1 + 1 + 2 + 1 + 1) _ HR5.out (by omega) (by omega) (by omega)).mono ?_
    rintro e w6 ⟨⟨v, hv0, hv1, rfl⟩, hR6, hO6⟩
    have HS6 := hideIt ((HS5.out.only hO6 hq1).base hz1)
    have HB6 := hideIt (HB5.out.trans hO6.below)
    clear hR6 hO6 HS5 HR5 HB5
    have hw3 : IntKind.i64.wrap (d + u / 23 - v / 23) = d + u / 23 - v / 23 := IntWalk.i64_in (d + u / 23 - v / 23) ⟨by omega, by omega⟩
    go_wp2
    exact bodyPost_ret (v := .tuple #[.slice (some ⟨G, 0, none⟩) L.length c, .int .i64 r, .int .i64 (d + u / 23 - v / 23), .int .i64 (sg)]) (by simp [results, Tryd.results15, go_sem]) rfl ⟨G, c, _, _, _, _, rfl, HRR.out, by omega, hsg, HS6.out, HB6.out⟩
  · have hxp : ¬ x = 0 := hz
    have hsg : 0 ≤ 97 + y ∧ 97 + y ≤ 130 := by omega
    go_wp2_with fail
    refine (l71Rep_any _ _ p n' cap (k2 + 1 + 1) HR2.out (by omega)).mono ?_
    rintro e w2b ⟨⟨r, hr, rfl⟩, hR2b, hO2b⟩
    have HS2 := hideIt (HS2.out.only hO2b hq1)
    have HB2 := hideIt (HB2.out.trans hO2b.below)
    have HR2 := hideIt hR2b
    have HRR := hideIt hr
    clear hR2b hO2b hr
    obtain ⟨L, hLm, hL74, hOw⟩ := HS2.out
    subst hLm
    have HL := hideIt hOw
    clear hOw
    go_wp2_with fail
    refine (specTxt_any L G c _ HL.out.at (by omega) HL.out.cap).mono ?_
    rintro e w3 ⟨rfl, hb3⟩
    have hts : (txtB (shown (lfs L (standL L)))).size ≤ 74 := by
      rw [txtB_size]
      have h1 := shown_len (lfs L (standL L))
      rw [lfs_len] at h1
      have h2 := stand_len L
      omega
    have HS3 := hideIt (HS2.out.below hb3)
    have HR3 := hideIt (HR2.out.below hb3)
    have HB3 := hideIt (Bstep HB2.out hb3)
    clear hb3 HS2 HR2 HB2 HL
    generalize txtB (shown (lfs L (standL L))) = T at *
    have hwT : IntKind.i64.wrap ((T.size : Int) + 1) = (T.size : Int) + 1 := IntWalk.i64_in ((T.size : Int) + 1) ⟨by omega, by omega⟩
    go_wp2_with fail
    refine (pick_any _ _ p n' cap (k2 + 1 + 1 + 2) _ HR3.out (by omega) (by omega) (by omega)).mono ?_
    rintro e w4 ⟨⟨d, hd0, hd1, rfl⟩, hR4, hO4⟩
    have HS4 := hideIt (HS3.out.only hO4 hq1)
    have HR4 := hideIt hR4
    have HB4 := hideIt (HB3.out.trans hO4.below)
    clear hR4 hO4 HS3 HR3 HB3
    go_wp2_with fail
    refine (pick_any _ _ p n' cap (k2 + 1 + 1 + 2 + 1) _ HR4.out (by omega) (by omega) (by omega)).mono ?_
    rintro e w5 ⟨⟨u, hu0, hu1, rfl⟩, hR5, hO5⟩
    have HS5 := hideIt (HS4.out.only hO5 hq1)
    have HR5 := hideIt hR5
    have HB5 := hideIt (HB4.out.trans hO5.below)
    clear hR5 hO5 HS4 HR4 HB4
    have hw2 : IntKind.i64.wrap (d + u / 23) = d + u / 23 := IntWalk.i64_in (d + u / 23) ⟨by omega, by omega⟩
    go_wp2_with fail
    refine (pick_any _ _ p n' cap (k2 + 1 + 1 + 2 + 1 + 1) _ HR5.out (by omega) (by omega) (by omega)).mono ?_
    rintro e w6 ⟨⟨v, hv0, hv1, rfl⟩, hR6, hO6⟩
    have HS6 := hideIt ((HS5.out.only hO6 hq1).base hz1)
    have HB6 := hideIt (HB5.out.trans hO6.below)
    clear hR6 hO6 HS5 HR5 HB5
    have hw3 : IntKind.i64.wrap (d + u / 23 - v / 23) = d + u / 23 - v / 23 := IntWalk.i64_in (d + u / 23 - v / 23) ⟨by omega, by omega⟩
    go_wp2
    exact bodyPost_ret (v := .tuple #[.slice (some ⟨G, 0, none⟩) L.length c, .int .i64 r, .int .i64 (d + u / 23 - v / 23), .int .i64 (97 + y)]) (by simp [results, Tryd.results15, go_sem]) rfl ⟨G, c, _, _, _, _, rfl, HRR.out, by omega, hsg, HS6.out, HB6.out⟩
end Go.Proofs.YtjadkhejdbdpoaaDoor

namespace Go.Proofs.YtjadkhejdbdpoaaDoor
open Go.RowKit
set_option linter.unusedSimpArgs false
set_option linter.unusedVariables false

/-- Where an empty place is: whatever is put there, and nowhere else, stands between the same two parts of the row of all. -/
theorem spot_graft {l : List Op7} (h : opsB l = true) {x : Int × Int × Int} (hs : x.2.2 = 0 ∨ x.2.2 = 1) (hx : kidsL l x = []) (hup : ∃ d, Up l d (x.1, x.2.1)) (h0 : x.1 = 0 ∧ x.2.1 = 0 → x.2.2 = 1) :
    ∃ A B, allO l = A ++ B ∧ ∀ (L T : List Op7) (N : Nat), opsB L = true → (∀ n, N ≤ n → sideO L n x = T) → (∀ y d, y ≠ x → Up l d (y.1, y.2.1) → kidsL L y = kidsL l y) → allO L = A ++ T ++ B := by
  obtain ⟨d, hd⟩ := hup
  rcases up_inv hd with ⟨_, hz⟩ | ⟨e, p, _, hm, hk, _, hz⟩
  · have e1 : x.1 = 0 := congrArg Prod.fst hz
    have e2 : x.2.1 = 0 := congrArg Prod.snd hz
    have e3 := h0 ⟨e1, e2⟩
    have ex : x = (0, 0, 1) := Prod.ext e1 (Prod.ext e2 e3)
    subst ex
    have hnil : allO l = [] := by
      show sideO l (l.length + 2) (0, 0, 1) = []
      show (kidsL l (0, 0, 1)).flatMap _ = []
      rw [hx]; rfl
    refine ⟨[], [], by rw [hnil]; rfl, fun L T N hL hT hkk => ?_⟩
    have := (graft_none h hL hx hT).2
    rw [this]; simp
  · have e1 : x.1 = p.a := congrArg Prod.fst hz
    have e2 : x.2.1 = p.b := congrArg Prod.snd hz
    have hp : p ∈ allO l := all_mem h hm hk
    obtain ⟨A0, B0, he⟩ := List.append_of_mem hp
    have hpos : 1 ≤ p.a := op_pos (opsB_all h).1 hm
    have hne : x ≠ (0, 0, 1) := fun e => by have := congrArg Prod.fst e; simp at this; omega
    rcases hs with hs | hs
    · refine ⟨A0, p :: B0, he, fun L T N hL hT hkk => ?_⟩
      rw [graft_all h hL (.inl hs) hx hT hkk hne, ins_at h (x := x) ⟨e1.symm, e2.symm⟩ he, if_neg (by omega)]
      simp
    · refine ⟨A0 ++ [p], B0, by rw [he]; simp, fun L T N hL hT hkk => ?_⟩
      rw [graft_all h hL (.inr hs) hx hT hkk hne, ins_at h (x := x) ⟨e1.symm, e2.symm⟩ he, if_pos hs]
      simp
/-- What can be done still can when something else was done that is not by the same one. -/
theorem can_still {l : List Op7} {o b : Op7} (h : opsB l = true) (ho : CanL l o) (hb : CanL l b) (hne : o.a ≠ b.a) : CanL (withL l o) b := by
  have hm := withL_mem (ops_sorted h) ho.new
  refine ⟨hb.form, fun p hp => ?_, fun h1 => ?_, ?_⟩
  · rcases (hm p).1 hp with rfl | hp
    · exact fun e => hne e.1
    · exact hb.new p hp
  · obtain ⟨q, hq, e⟩ := hb.next h1
    exact ⟨q, (hm q).2 (.inr hq), e⟩
  · obtain ⟨d, hd⟩ := hb.ref
    exact ⟨d, hd.mono fun q hq => (hm q).2 (.inr hq)⟩
theorem not_own {l : List Op7} {o b : Op7} (h : opsB l = true) (ho : CanL l o) (hr : b.c = o.c ∧ b.d = o.d) (s : Int) : isKid (o.a, o.b, s) b = false := by
  cases hb : isKid (o.a, o.b, s) b
  · rfl
  · simp [isKid] at hb
    obtain ⟨d, hd⟩ := ho.ref
    rcases up_inv hd with ⟨_, hx⟩ | ⟨e, p, _, hm, _, _, hx⟩
    · have h1 : o.c = 0 := congrArg Prod.fst hx
      have := (okO_id ho.form).1
      omega
    · have e1 : o.c = p.a := congrArg Prod.fst hx
      have e2 : o.d = p.b := congrArg Prod.snd hx
      exact absurd ⟨by omega, by omega⟩ (ho.new p hm)
/-- The kids of the place behind both: who did it tells who stands first. -/
theorem kids_two {l : List Op7} {o b : Op7} (h : opsB l = true) (ho : CanL l o) (hb : CanL l b) (hko : o.k = 1) (hkb : b.k = 1) (hr : b.c = o.c ∧ b.d = o.d ∧ b.s = o.s) (hx : kidsL l (o.c, o.d, o.s) = []) (hne : o.a < b.a ∨ b.a < o.a) :
    kidsL (withL (withL l o) b) (o.c, o.d, o.s) = if o.a < b.a then [o, b] else [b, o] := by
  have hcx := can_still h ho hb (by omega)
  have hwx := (okW_can h ho).2
  have hself : isKid (o.c, o.d, o.s) o = true := by simp [isKid, hko]
  have hselfb : isKid (o.c, o.d, o.s) b = true := by simp [isKid, hkb, hr.1, hr.2.1, hr.2.2]
  have hkx : kidsL (withL l o) (o.c, o.d, o.s) = [o] := (kids_with h ho.new _).2 hself hx
  obtain ⟨A, B, e1, e2⟩ := withL_split (ops_sorted hwx) hcx.new
  have hsrt := withL_sorted (ops_sorted hwx) b
  rw [e2] at hsrt
  unfold kidsL at hkx ⊢
  rw [e2, List.filter_append, List.filter_cons_of_pos (by simp [hselfb])]
  rw [e1, List.filter_append] at hkx
  obtain ⟨_, hs2, hs3⟩ := List.pairwise_append.1 hsrt
  cases hA : A.filter (isKid (o.c, o.d, o.s)) with
  | nil =>
    rw [hA, List.nil_append] at hkx
    have hoB : o ∈ B := (List.mem_filter.1 (by rw [hkx]; simp : o ∈ B.filter (isKid (o.c, o.d, o.s)))).1
    have hlt := (List.pairwise_cons.1 hs2).1 o hoB
    unfold lessB at hlt
    have hlt := of_decide_eq_true hlt
    rw [hkx, if_neg (by omega)]
    rfl
  | cons z zs =>
    rw [hA] at hkx
    simp only [List.cons_append, List.cons.injEq, List.append_eq_nil_iff] at hkx
    obtain ⟨rfl, rfl, hB⟩ := hkx
    have hoA : z ∈ A := (List.mem_filter.1 (by rw [hA]; simp : z ∈ A.filter (isKid (z.c, z.d, z.s)))).1
    have hlt := hs3 z hoA b (by simp)
    unfold lessB at hlt
    have hlt := of_decide_eq_true hlt
    rw [hB, if_pos (by omega)]
    rfl
theorem spot_side {o : Op7} (h : okO o = true) (hk : o.k = 1) : (o.s = 0 ∨ o.s = 1) ∧ (o.c = 0 ∧ o.d = 0 → o.s = 1) := by
  unfold okO at h
  rw [opB_true] at h
  omega
/-- Both stand side by side between the same two parts. -/
theorem all_two {l : List Op7} {o b : Op7} (h : opsB l = true) (ho : CanL l o) (hb : CanL l b) (hko : o.k = 1) (hkb : b.k = 1) (hr : b.c = o.c ∧ b.d = o.d ∧ b.s = o.s) (hx : kidsL l (o.c, o.d, o.s) = []) (hne : o.a < b.a ∨ b.a < o.a) :
    ∃ A B, allO l = A ++ B ∧ allO (withL l o) = A ++ o :: B ∧ allO (withL (withL l o) b) = A ++ (if o.a < b.a then [o, b] else [b, o]) ++ B := by
  have hcx := can_still h ho hb (by omega)
  have hwx := (okW_can h ho).2
  have hwy := (okW_can hwx hcx).2
  obtain ⟨hs1, hs2⟩ := spot_side ho.form hko
  obtain ⟨A, B, e, hg⟩ := spot_graft h (x := (o.c, o.d, o.s)) hs1 hx ho.ref hs2
  have hoth : ∀ y, y ≠ (o.c, o.d, o.s) → isKid y o = false ∧ isKid y b = false := fun y hy => by
    refine ⟨?_, ?_⟩
    · cases hq : isKid y o
      · rfl
      · simp [isKid] at hq
        exact absurd (Prod.ext hq.2.1.symm (Prod.ext hq.2.2.1.symm hq.2.2.2.symm)) hy
    · cases hq : isKid y b
      · rfl
      · simp [isKid] at hq
        exact absurd (Prod.ext (hq.2.1.symm.trans hr.1) (Prod.ext (hq.2.2.1.symm.trans hr.2.1) (hq.2.2.2.symm.trans hr.2.2))) hy
  have hko0 : ∀ s, kidsL (withL (withL l o) b) (o.a, o.b, s) = [] := fun s => by
    rw [(kids_with hwx hcx.new _).1 (not_own h ho ⟨hr.1, hr.2.1⟩ s), (kids_with h ho.new _).1 (not_own h ho ⟨rfl, rfl⟩ s), kids_new h ho.new (okO_id ho.form).1 s]
  have hkb0 : ∀ s, kidsL (withL (withL l o) b) (b.a, b.b, s) = [] := fun s => by
    rw [(kids_with hwx hcx.new _).1 (not_own h hb ⟨rfl, rfl⟩ s), (kids_with h ho.new _).1 (not_own h hb ⟨hr.1.symm, hr.2.1.symm⟩ s), kids_new h hb.new (okO_id hb.form).1 s]
  have hnil : ∀ (p : Op7) m s, kidsL (withL (withL l o) b) (p.a, p.b, s) = [] → sideO (withL (withL l o) b) m (p.a, p.b, s) = [] := fun p m s hk => by
    cases m with
    | zero => rfl
    | succ m => show (kidsL (withL (withL l o) b) (p.a, p.b, s)).flatMap _ = []; rw [hk]; rfl
  refine ⟨A, B, e, ?_, ?_⟩
  · have := hg (withL l o) [o] 1 hwx (side_new h ho hko hx) (fun y d hy _ => (kids_with h ho.new y).1 (hoth y hy).1)
    rw [this]; simp
  · refine hg (withL (withL l o) b) _ 1 hwy (fun n hn => ?_) (fun y d hy _ => by rw [(kids_with hwx hcx.new y).1 (hoth y hy).2, (kids_with h ho.new y).1 (hoth y hy).1])
    obtain ⟨m, rfl⟩ : ∃ m, n = m + 1 := ⟨n - 1, by omega⟩
    show (kidsL (withL (withL l o) b) (o.c, o.d, o.s)).flatMap _ = _
    rw [kids_two h ho hb hko hkb hr hx hne]
    split
    · simp [hnil o m _ (hko0 _), hnil b m _ (hkb0 _)]
    · simp [hnil o m _ (hko0 _), hnil b m _ (hkb0 _)]
/-- The text behind both. -/
theorem two_text {l : List Op7} {o b : Op7} (h : opsB l = true) (ho : CanL l o) (hb : CanL l b) (hko : o.k = 1) (hkb : b.k = 1) (hr : b.c = o.c ∧ b.d = o.d ∧ b.s = o.s) (hx : kidsL l (o.c, o.d, o.s) = []) (hne : o.a < b.a ∨ b.a < o.a) {A B : List Op7} (he : allO l = A ++ B) (hw : allO (withL l o) = A ++ o :: B) :
    shown (lfs (withL (withL l o) b) (allO (withL (withL l o) b))) = shown (lfs l A) ++ (if o.a < b.a then [o.g % 256, b.g % 256] else [b.g % 256, o.g % 256]) ++ shown (lfs l B) := by
  have hcx := can_still h ho hb (by omega)
  have hwx := (okW_can h ho).2
  obtain ⟨A', B', e1, e2, e3⟩ := all_two h ho hb hko hkb hr hx hne
  obtain ⟨rfl, rfl⟩ := mid_eq (q := o) (by rw [← e2]; exact nodup_all hwx) (e2.symm.trans hw)
  have hgo : goneB (withL (withL l o) b) (o.a, o.b) = false := by
    rw [gone_with hwx hcx, gone_with h ho, gone_new h ho, hko, hkb]; simp
  have hgb : goneB (withL (withL l o) b) (b.a, b.b) = false := by
    rw [gone_with hwx hcx, gone_new hwx hcx, hkb]; simp
  have hl : ∀ C, lfs (withL (withL l o) b) C = lfs l C := fun C => by rw [lfs_put hwx hcx hkb, lfs_put h ho hko]
  rw [e3, lfs_two, lfs_two, hl A', hl B', shown_app, shown_app]
  split
  · have e4 : shown (lfs (withL (withL l o) b) [o, b]) = [o.g % 256, b.g % 256] := by simp [lfs, hgo, hgb, shown]
    rw [e4]
  · have e4 : shown (lfs (withL (withL l o) b) [b, o]) = [b.g % 256, o.g % 256] := by simp [lfs, hgo, hgb, shown]
    rw [e4]
theorem putO_ref (l : List Op7) (r u sg mg : Int) (t : Nat) : (putO l u t mg).c = (putO l r t sg).c ∧ (putO l u t mg).d = (putO l r t sg).d ∧ (putO l u t mg).s = (putO l r t sg).s := by
  unfold putO
  split <;> exact ⟨rfl, rfl, rfl⟩
/-- What two put at one place, both done. -/
theorem two_done {l : List Op7} {r u t sg mg : Int} (h1 : mayPut l r t sg = true) (h2 : mayPut l u t mg = true) (hne : r < u ∨ u < r) :
    okW l (putO l r t.toNat sg) = true ∧ okW (withL l (putO l r t.toNat sg)) (putO l u t.toNat mg) = true ∧ opsB (withL (withL l (putO l r t.toNat sg)) (putO l u t.toNat mg)) = true ∧
    txtB (shown (lfs (withL (withL l (putO l r t.toNat sg)) (putO l u t.toNat mg)) (standL (withL (withL l (putO l r t.toNat sg)) (putO l u t.toNat mg))))) =
      if r < u then (txtB (shown (lfs l (standL l)))).extract 0 t.toNat ++ txtB [sg] ++ txtB [mg] ++ (txtB (shown (lfs l (standL l)))).extract t.toNat (txtB (shown (lfs l (standL l)))).size
      else (txtB (shown (lfs l (standL l)))).extract 0 t.toNat ++ txtB [mg] ++ txtB [sg] ++ (txtB (shown (lfs l (standL l)))).extract t.toNat (txtB (shown (lfs l (standL l)))).size := by
  have q1 := h1
  have q2 := h2
  unfold mayPut inB at q1 q2
  simp only [Bool.and_eq_true, decide_eq_true_eq] at q1 q2
  obtain ⟨hm1, hsg, ht0, ht1⟩ := q1
  obtain ⟨hm2, hmg, _, _⟩ := q2
  have ho := (may_parts hm1).1
  obtain ⟨hc1, hx, A, B, he, hwe, hn⟩ := put_can (t := t.toNat) hm1 hsg (by omega)
  obtain ⟨hc2, _, _⟩ := put_can (t := t.toNat) hm2 hmg (by omega)
  have hk1 : (putO l r t.toNat sg).k = 1 := by unfold putO; split <;> rfl
  have hk2 : (putO l u t.toNat mg).k = 1 := by unfold putO; split <;> rfl
  have ha1 : (putO l r t.toNat sg).a = r := by unfold putO; split <;> rfl
  have ha2 : (putO l u t.toNat mg).a = u := by unfold putO; split <;> rfl
  have hg1 : (putO l r t.toNat sg).g = sg := by unfold putO; split <;> rfl
  have hg2 : (putO l u t.toNat mg).g = mg := by unfold putO; split <;> rfl
  have hcx := can_still ho hc1 hc2 (by rw [ha1, ha2]; omega)
  have hwx := okW_can ho hc1
  have hwy := okW_can hwx.2 hcx
  have htx := two_text ho hc1 hc2 hk1 hk2 (putO_ref l r u sg mg t.toNat) hx (by rw [ha1, ha2]; exact hne) he hwe
  obtain ⟨e1, _⟩ := put_text ho hc1 hk1 he hwe
  rw [ha1, ha2, hg1, hg2, show sg % 256 = sg by omega, show mg % 256 = mg by omega] at htx
  have hl : (shown (lfs l A)).length = t.toNat := by rw [shown_n, hn]
  refine ⟨hwx.1, hwy.1, hwy.2, ?_⟩
  rw [stand_ok ho, stand_ok hwy.2, htx, e1, txtB_size]
  have x1 : (txtB (shown (lfs l A) ++ shown (lfs l B))).extract 0 t.toNat = txtB (shown (lfs l A)) := by rw [← hl]; exact txt_take _ _
  have x2 : (txtB (shown (lfs l A) ++ shown (lfs l B))).extract t.toNat (shown (lfs l A) ++ shown (lfs l B)).length = txtB (shown (lfs l B)) := by rw [← hl]; exact txt_drop _ _
  rw [x1, x2, txtB_app, txtB_app, txtB_app, txtB_app, txtB_app, txtB_app]
  split <;> simp
end Go.Proofs.YtjadkhejdbdpoaaDoor

namespace Go.Proofs.YtjadkhejdbdpoaaDoor
open Go.RowKit
set_option linter.unusedSimpArgs false
set_option linter.unusedVariables false
attribute [local go_sem ↓] Go.wp_at_zero Go.wp_at_succ

/-- A box of a thing: what lies in it. -/
def O7 (M : Nat) (o : Op7) (W : World) : Prop := W.cell? ⟨M, 0, none⟩ = some (.int .i64 o.a) ∧ W.cell? ⟨M, 1, none⟩ = some (.int .i64 o.b) ∧ W.cell? ⟨M, 2, none⟩ = some (.int .i64 o.k) ∧ W.cell? ⟨M, 3, none⟩ = some (.int .i64 o.c) ∧ W.cell? ⟨M, 4, none⟩ = some (.int .i64 o.d) ∧ W.cell? ⟨M, 5, none⟩ = some (.int .i64 o.s) ∧ W.cell? ⟨M, 6, none⟩ = some (.int .i64 o.g)
theorem O7.of {M : Nat} {o : Op7} {W : World} (h : W.heap[M]? = some (.cells #[.int .i64 o.a, .int .i64 o.b, .int .i64 o.k, .int .i64 o.c, .int .i64 o.d, .int .i64 o.s, .int .i64 o.g] 29 (0, 0))) : O7 M o W :=
  ⟨(blk_cell h 0).trans rfl, (blk_cell h 1).trans rfl, (blk_cell h 2).trans rfl, (blk_cell h 3).trans rfl, (blk_cell h 4).trans rfl, (blk_cell h 5).trans rfl, (blk_cell h 6).trans rfl⟩

/-- Things, and two boxes of one thing. -/
structure PW (w W : World) (G c O P : Nat) (L : List Op7) (o : Op7) : Prop where
  own : OwnOps W w.heap.size G c L
  one : W.heap[O]? = some (.cells #[.int .i64 o.a, .int .i64 o.b, .int .i64 o.k, .int .i64 o.c, .int .i64 o.d, .int .i64 o.s, .int .i64 o.g] 29 (0, 0))
  two : W.heap[P]? = some (.cells #[.int .i64 o.a, .int .i64 o.b, .int .i64 o.k, .int .i64 o.c, .int .i64 o.d, .int .i64 o.s, .int .i64 o.g] 29 (0, 0))
  bel : Below w.heap.size w W
theorem PW.below {w W W' : World} {G c O P : Nat} {L : List Op7} {o : Op7} (h : PW w W G c O P L o) (hb : Below W.heap.size W W') : PW w W' G c O P L o := ⟨h.own.below hb, blk_below h.one hb, blk_below h.two hb, Bstep h.bel hb⟩

set_option maxRecDepth 100000 in
set_option maxHeartbeats 8000000 in
theorem walkPutTwo (w : World) (p : Option Addr) (n cap : Nat) (h : ArgBytes w p n) (hcap : n ≤ cap) (hmax : cap ≤ maxLen) (x : Addr)
    (he : w.cell? ⟨0, 0, none⟩ = some (.iface 164 (.pointer (some x)))) (h0 : 0 < w.heap.size) :
    Calls Tryd.prog 6 #[.slice p n cap] w fun e w' => e = .returned (.bool true) ∧ Below w.heap.size w w' := by
  have H := hideIt h
  clear h
  unfold maxLen at *
  by_cases hn : n ≤ 1048576
  · go_enter Tryd.func6, Tryd.ntmps6
    go_wp2_with fail
    refine (drawPut_any _ p n cap H.out hcap hn).mono ?_
    rintro e w1 ⟨G, c, _, r, t, sg, rfl, hr, ht, hsg0, ⟨L, rfl, hL, hS⟩, hb1⟩
    have hwf : wf64 t := wf_small (by omega)
    have HS := hideIt hS
    have HB := hideIt hb1
    clear hS hb1
    obtain ⟨o, ho⟩ : ∃ o, putA L r t sg = o := ⟨_, rfl⟩
    obtain ⟨zz, hzz⟩ : ∃ zz, mayPut L r t sg = zz := ⟨_, rfl⟩
    have HO := hideIt ho
    have HZ := hideIt hzz
    clear ho hzz
    go_wp2_with fail
    refine (typePut_any L G c r t sg _ HS.out.at (by omega) HS.out.cap).mono ?_
    rintro e w2 ⟨hd, hb2⟩
    have hE := putA_of hd
    rw [HO.out, HZ.out] at hE
    subst hE
    unfold opV
    have HS2 := hideIt (HS.out.below hb2)
    have HB2 := hideIt (Bstep HB.out hb2)
    clear hb2 hd HS HB
    go_wp2_with fail
    have HX2 : Hid (OX w2.heap.size o w (w2.alloc (.cells #[.int .i64 o.a, .int .i64 o.b, .int .i64 o.k, .int .i64 o.c, .int .i64 o.d, .int .i64 o.s, .int .i64 o.g] 29))) := ⟨World.alloc_heap_new _ _, HB2.out.alloc HB2.out.size _⟩
    have HS3 := hideIt (HS2.out.below ((Below.refl _ _).alloc (Nat.le_refl _) (.cells #[.int .i64 o.a, .int .i64 o.b, .int .i64 o.k, .int .i64 o.c, .int .i64 o.d, .int .i64 o.s, .int .i64 o.g] 29)))
    clear HS2 HB2
    refine (implPut_any L G c r t sg hwf x _ HS3.out.at (by omega) HS3.out.cap (errB HX2.out.bel h0 he) (posB HX2.out.bel h0)).mono ?_
    rintro e w4 ⟨hd, hb4⟩
    have hE := putA_of hd
    rw [HO.out, HZ.out] at hE
    subst hE
    unfold opV
    have HX4 := hideIt (HX2.out.below hb4)
    have HS4 := hideIt (HS3.out.below hb4)
    clear hb4 hd HX2 HS3
    generalize w2.heap.size = O at *
    have HT : Hid (PW w (w4.alloc (.cells #[.int .i64 o.a, .int .i64 o.b, .int .i64 o.k, .int .i64 o.c, .int .i64 o.d, .int .i64 o.s, .int .i64 o.g] 29)) G c O w4.heap.size L o) :=
      ⟨HS4.out.below ((Below.refl _ _).alloc (Nat.le_refl _) _), blk_below HX4.out.box ((Below.refl _ _).alloc (Nat.le_refl _) _), World.alloc_heap_new _ _, HX4.out.bel.alloc HX4.out.bel.size _⟩
    have HBX : Hid (∀ W', W' = w4.alloc (.cells #[.int .i64 o.a, .int .i64 o.b, .int .i64 o.k, .int .i64 o.c, .int .i64 o.d, .int .i64 o.s, .int .i64 o.g] 29) → O7 O o W' ∧ O7 w4.heap.size o W') := fun W' e => by
      subst e
      exact ⟨O7.of HT.out.one, O7.of HT.out.two⟩
    obtain ⟨⟨x0, x1, x2, x3, x4, x5, x6⟩, ⟨y0, y1, y2, y3, y4, y5, y6⟩⟩ := HBX.out _ rfl
    have hlO := (Array.getElem?_eq_some_iff.1 HX4.out.box).1
    have z0 := (blk_cell HX4.out.box 0).trans rfl
    have z1 := (blk_cell HX4.out.box 1).trans rfl
    have z2 := (blk_cell HX4.out.box 2).trans rfl
    have z3 := (blk_cell HX4.out.box 3).trans rfl
    have z4 := (blk_cell HX4.out.box 4).trans rfl
    have z5 := (blk_cell HX4.out.box 5).trans rfl
    have z6 := (blk_cell HX4.out.box 6).trans rfl
    cases zz
    · go_wp2
      go_ret
      exact ⟨rfl, HT.out.bel⟩
    · have HOE : Hid (putO L r t.toNat sg = o) := by
        have h := HO.out
        unfold putA at h
        rw [HZ.out, if_pos rfl] at h
        exact h
      have HZ1 : Hid (mayPut L r t sg = true) := HZ.out
      have hmp := may_parts (l := L) (r := r) (by have h := HZ.out; unfold mayPut at h; simp only [Bool.and_eq_true] at h; exact h.1)
      obtain ⟨v, u, hv, hu, hne, hu1⟩ : ∃ v u : Int, r % 3 = v ∧ v + 1 = u ∧ (r < u ∨ u < r) ∧ (1 ≤ u ∧ u ≤ 3) := ⟨r % 3, r % 3 + 1, rfl, rfl, by omega, by omega⟩
      have hv2 : Int.tmod r 3 = v := by rw [Int.tmod_eq_emod_of_nonneg (by omega)]; exact hv
      have hwu : IntKind.i64.wrap (v + 1) = u := by rw [hu]; exact IntWalk.i64_in u ⟨by omega, by omega⟩
      have HHU := hideIt hu
      clear hmp hu
      go_wp2_with fail
      refine (implPut_any L G c u t 109 hwf x _ HT.out.own.at (by omega) HT.out.own.cap (errB HT.out.bel h0 he) (posB HT.out.bel h0)).mono ?_
      rintro e w6 ⟨(⟨hm2, rfl⟩ | ⟨hm2, rfl⟩), hb6⟩
      · have HM := hideIt (HT.out.below hb6)
        clear hb6 x0 x1 x2 x3 x4 x5 x6 y0 y1 y2 y3 y4 y5 y6 z0 z1 z2 z3 z4 z5 z6 hlO HBX HX4 HS4 HT
        go_wp2
        go_ret
        exact ⟨rfl, HM.out.bel.alloc HM.out.bel.size _⟩
      · obtain ⟨f1, f2, f3, f4⟩ := two_done HZ.out hm2 hne
        obtain ⟨_, f5, _, ⟨f6, f7⟩, f8, _⟩ := put_done HZ.out
        obtain ⟨ob, hob⟩ : ∃ ob, putO L u t.toNat 109 = ob := ⟨_, rfl⟩
        rw [HOE.out] at f1 f2 f3 f4
        rw [hob] at f2 f3 f4 ⊢
        have HOK1 := hideIt f1
        have HOK2 := hideIt f2
        have hE1 : ansW L o = withL L o := ansW_yes f1
        have hE2 : ansW (withL L o) ob = withL (withL L o) ob := ansW_yes f2
        have hwl := withL_lenW L o
        have hwl2 := withL_lenW (withL L o) ob
        have hp1 : 0 < (withL L o).length := by unfold withL; simp only [List.length_append, List.length_cons, List.length_nil]; omega
        have hp2 : 0 < (withL (withL L o) ob).length := by rw [show withL (withL L o) ob = (withL L o).filter (fun p => lessB p ob) ++ [ob] ++ (withL L o).filter (fun p => lessB ob p) from rfl]; simp only [List.length_append, List.length_cons, List.length_nil]; omega
        obtain ⟨k, rfl⟩ : ∃ k : Nat, t = k := ⟨t.toNat, by omega⟩
        rw [Int.toNat_natCast] at f4 f7
        have HTX := hideIt f4
        have hts : (txtB (shown (lfs L (standL L)))).size ≤ 74 := by
          rw [txtB_size]
          have h1 := shown_len (lfs L (standL L))
          rw [lfs_len] at h1
          have h2 := stand_len L
          omega
        clear f1 f2 f3 f4 hob hm2 HZ HO
        unfold opV
        have HM := hideIt (HT.out.below hb6)
        clear hb6 x0 x1 x2 x3 x4 x5 x6 y0 y1 y2 y3 y4 y5 y6 z0 z1 z2 z3 z4 z5 z6 hlO HBX HX4 HS4 HT
        have hBb : Below w6.heap.size w6 (w6.alloc (.cells #[.int .i64 ob.a, .int .i64 ob.b, .int .i64 ob.k, .int .i64 ob.c, .int .i64 ob.d, .int .i64 ob.s, .int .i64 ob.g] 29)) := (Below.refl _ _).alloc (Nat.le_refl _) _
        have HQ7 : Hid ((w6.alloc (.cells #[.int .i64 ob.a, .int .i64 ob.b, .int .i64 ob.k, .int .i64 ob.c, .int .i64 ob.d, .int .i64 ob.s, .int .i64 ob.g] 29)).heap[w6.heap.size]? = some (.cells #[.int .i64 ob.a, .int .i64 ob.b, .int .i64 ob.k, .int .i64 ob.c, .int .i64 ob.d, .int .i64 ob.s, .int .i64 ob.g] 29 (0, 0))) := World.alloc_heap_new _ _
        have HM7 := hideIt (HM.out.below hBb)
        generalize w4.heap.size = P at *
        obtain ⟨p0, p1, p2, p3, p4, p5, p6⟩ := O7.of HM7.out.two
        have hpl := (Array.getElem?_eq_some_iff.1 HM.out.two).1
        obtain ⟨m0, m1, m2, m3, m4, m5, m6⟩ := O7.of HM.out.two
        clear hBb HM
        go_wp2_with fail
        refine (implWith_any L G c o x _ HM7.out.own.at (by omega) HM7.out.own.cap (errB HM7.out.bel h0 he) (posB HM7.out.bel h0)).mono ?_
        rintro e w8 ⟨vx, rfl, hrow, hb8⟩
        rw [HOK1.out]
        rw [hE1] at hrow
        have hrow := ownsRow_base HM7.out.bel.size hrow
        have HM8 := hideIt (HM7.out.below hb8)
        have HQ8 := hideIt (blk_below HQ7.out hb8)
        clear hb8 hE1 HM7 HQ7 p0 p1 p2 p3 p4 p5 p6 m0 m1 m2 m3 m4 m5 m6 hpl
        generalize withL L o = M1 at *
        obtain ⟨qg, cg, rfl, hqg⟩ := oprow hrow
        obtain ⟨Gx, rfl, hcx, _, _, _⟩ := hqg hp1
        have HOX : Hid (OwnOps w8 w.heap.size Gx cg M1) := hrow
        clear hqg hrow
        generalize w6.heap.size = Q at *
        obtain ⟨q0, q1, q2, q3, q4, q5, q6⟩ := O7.of HQ8.out
        have hql := (Array.getElem?_eq_some_iff.1 HQ8.out).1
        go_wp2_with fail
        refine (implWith_any M1 Gx cg ob x _ HOX.out.at (by omega) HOX.out.cap (errB HM8.out.bel h0 he) (posB HM8.out.bel h0)).mono ?_
        rintro e w9 ⟨vy, rfl, hrow, hb9⟩
        rw [HOK2.out]
        rw [hE2] at hrow
        have hrow := ownsRow_base HM8.out.bel.size hrow
        have HM9 := hideIt (HM8.out.below hb9)
        clear hb9 hE2 HM8 HQ8 q0 q1 q2 q3 q4 q5 q6 hql HOX
        generalize withL M1 ob = M2 at *
        obtain ⟨qg, cy, rfl, hqg⟩ := oprow hrow
        obtain ⟨Gy, rfl, hcy, _, _, _⟩ := hqg hp2
        have HOY : Hid (OwnOps w9 w.heap.size Gy cy M2) := hrow
        clear hqg hrow
        go_wp2_with fail
        refine (implTxt_any L G c x _ HM9.out.own.at (by omega) HM9.out.own.cap (errB HM9.out.bel h0 he) (posB HM9.out.bel h0)).mono ?_
        rintro e w10 ⟨rfl, hb10⟩
        have HS0 : Hid (TwoO w G c L Gy cy M2 w10) := ⟨HM9.out.own.below hb10, HOY.out.below hb10, Bstep HM9.out.bel hb10⟩
        have hcl := HM9.out.own.cap
        have hcm := HOY.out.cap
        clear hb10 HM9 HOY
        generalize hTT : txtB (shown (lfs L (standL L))) = T at *
        clear hTT
        have hk0 : (0 : Int) ≤ (k : Int) := by omega
        have hk1 : (k : Int) ≤ (T.size : Int) := by omega
        have hml : M2.length ≤ 1048576 := by omega
        have hll : L.length ≤ 1048576 := by omega
        have hz1 : (txtB [sg]).size = 1 := by rw [txtB_size]; rfl
        have hz2 : (⟨#[109]⟩ : ByteArray).size = 1 := rfl
        have HSa : Hid (TwoO w G c L Gy cy M2 (w10.alloc (.cells #[.int .u8 sg] 5))) := HS0.out.below ((Below.refl _ _).alloc (Nat.le_refl _) _)
        have HSd : Hid (TwoO w G c L Gy cy M2 (w10.alloc (.cells #[.int .u8 sg] 5)).drew) := HS0.out.below ((Below.refl _ _).alloc (Nat.le_refl _) _).drew
        have hsgw : IntKind.u8.wrap sg = sg := IntWalk.u8_in sg ⟨by omega, by omega⟩
        have kc : ∀ W : World, (convert 22 9 (.slice (some ⟨W.heap.size, 0, none⟩) 1 1)).run Tryd.prog (W.alloc (.cells #[.int .u8 sg] 5)) = .ok (.string (txtB [sg])) (W.alloc (.cells #[.int .u8 sg] 5)) := fun W => convT _ _ _ (by simp [go_sem])
        rcases hne with hlt | hlt
        · have HTX : Hid (txtB (shown (lfs M2 (standL M2))) = T.extract 0 k ++ txtB [sg] ++ (⟨#[109]⟩ : ByteArray) ++ T.extract k T.size) := HTX.out.trans (if_pos hlt)
          have ka : ∀ W : World, _ := fun W => run_string_add_sum (P := Tryd.prog) (w := W) (T.extract 0 k) (txtB [sg]) (by simp only [ByteArray.size_extract, hz1, hz2]; omega)
          have kb : ∀ W : World, _ := fun W => run_string_add_sum (P := Tryd.prog) (w := W) (T.extract 0 k ++ (txtB [sg])) (⟨#[109]⟩ : ByteArray) (by simp only [ByteArray.size_append, ByteArray.size_extract, hz1, hz2]; omega)
          have kd : ∀ W : World, _ := fun W => run_string_add_sum (P := Tryd.prog) (w := W) (T.extract 0 k ++ (txtB [sg]) ++ (⟨#[109]⟩ : ByteArray)) (T.extract k T.size) (by simp only [ByteArray.size_append, ByteArray.size_extract, hz1, hz2]; omega)
          go_wp2_with fail
          go_region_held3 (fun w' => TwoO w G c L Gy cy M2 w')
            (first | with_reducible assumption | with_reducible exact HSd.out | with_reducible exact HSa.out | exact TwoO.below (by with_reducible assumption) hb2)
            (first
              | (go_at_call 19; with_reducible refine (implTxt_any M2 Gy cy x _ (TwoO.two (by with_reducible assumption : TwoO w G c L Gy cy M2 _)) hml hcm (errB (TwoO.bel (by with_reducible assumption : TwoO w G c L Gy cy M2 _)) h0 he) (posB (TwoO.bel (by with_reducible assumption : TwoO w G c L Gy cy M2 _)) h0)).mono ?_; rintro e w8 ⟨rfl, hb2⟩; rw [HTX.out]))
          all_goals
            rename_i hS
            have HB9 := hideIt (TwoO.bel hS)
            clear hS
            go_wp2
            go_ret
            exact ⟨rfl, HB9.out⟩
        · have hnlt : ¬ r < u := by omega
          have HTX : Hid (txtB (shown (lfs M2 (standL M2))) = T.extract 0 k ++ (⟨#[109]⟩ : ByteArray) ++ txtB [sg] ++ T.extract k T.size) := HTX.out.trans (if_neg hnlt)
          have ka : ∀ W : World, _ := fun W => run_string_add_sum (P := Tryd.prog) (w := W) (T.extract 0 k) (⟨#[109]⟩ : ByteArray) (by simp only [ByteArray.size_extract, hz1, hz2]; omega)
          have kb : ∀ W : World, _ := fun W => run_string_add_sum (P := Tryd.prog) (w := W) (T.extract 0 k ++ (⟨#[109]⟩ : ByteArray)) (txtB [sg]) (by simp only [ByteArray.size_append, ByteArray.size_extract, hz1, hz2]; omega)
          have kd : ∀ W : World, _ := fun W => run_string_add_sum (P := Tryd.prog) (w := W) (T.extract 0 k ++ (⟨#[109]⟩ : ByteArray) ++ (txtB [sg])) (T.extract k T.size) (by simp only [ByteArray.size_append, ByteArray.size_extract, hz1, hz2]; omega)
          go_wp2_with fail
          go_region_held3 (fun w' => TwoO w G c L Gy cy M2 w')
            (first | with_reducible assumption | with_reducible exact HSd.out | with_reducible exact HSa.out | exact TwoO.below (by with_reducible assumption) hb2)
            (first
              | (go_at_call 19; with_reducible refine (implTxt_any M2 Gy cy x _ (TwoO.two (by with_reducible assumption : TwoO w G c L Gy cy M2 _)) hml hcm (errB (TwoO.bel (by with_reducible assumption : TwoO w G c L Gy cy M2 _)) h0 he) (posB (TwoO.bel (by with_reducible assumption : TwoO w G c L Gy cy M2 _)) h0)).mono ?_; rintro e w8 ⟨rfl, hb2⟩; rw [HTX.out]))
          all_goals
            rename_i hS
            have HB9 := hideIt (TwoO.bel hS)
            clear hS
            go_wp2
            go_ret
            exact ⟨rfl, HB9.out⟩
  · go_enter Tryd.func6, Tryd.ntmps6
    go_wp2
    go_ret
    exact ⟨rfl, Below.refl _ _⟩
end Go.Proofs.YtjadkhejdbdpoaaDoor

namespace Go.Proofs.YtjadkhejdbdpoaaDoor
open Go.ChangeShapes Go.WideShapes Go.ChangeAt Go.RowKit Go.Joins

set_option maxRecDepth 100000 in
theorem liftedFnPutTwo (os : Os) (started : os.Started) (H : Type) (enc : TypeId × Value → H) :
    ReturnsInHanded {} Tryd.checked os 6 .any (fun w args => (Rows.fnPutTwoSpec.pre enc Tryd.prog Tryd.f6 [] false w args ∧ laidMetH Tryd.prog laid1 w) ∧ sizedMet enc Tryd.prog Tryd.f6 (OpenSpec.ofChange Rows.fnPutTwoSpec) false w args)
      (Rows.fnPutTwoSpec.post enc Tryd.prog Tryd.f6 false true false false) := by
  refine returnsInHanded_of_change_and (C := Tryd.checked) (X := fun w _ => laidMetH Tryd.prog laid1 w) (fun _ _ _ hh h => h.of_heap hh) own started (by kernel_rfl) Tryd.func6
    (ChangeSpec.witness_shaped (enc := enc) (C := Tryd.checked) (os := os) (X := fun w _ => laidMetH Tryd.prog laid1 w) false (World.doorLaid Tryd.prog 28 os) #[.slice none 0 0] 8 rfl (World.shaped_of_RefB (by kernel_rfl) (by kernel_rfl)) (by kernel_rfl) (by kernel_rfl) (by kernel_rfl) (door_met os _)) ?_
  intro W base args ds gs before hval0 hW _ _ hL _
  have hval : ∀ (j : Nat) t v, Tryd.f6.params[j]? = some t → args[j]? = some v → Value.okWide Tryd.prog W .any base t v := hval0
  have hW' := hW
  obtain ⟨p, q, hA0, hV0, rfl, hfz, hnd⟩ := hW
  have hA : DataW.TrodAll enc Tryd.prog W 0 (fun _ => true) true Tryd.f6.params.toList args.toList ds p := hA0
  have hV : DataW.TrodVars enc Tryd.prog W (fun _ => true) [errName] gs q := hV0
  rw [Tryd.params6] at hA hval
  obtain ⟨v0, d0, rfl, rfl, h0⟩ := trodAll_one hA
  have k0 := h0
  have lt0 : ∀ x ∈ p, x.block < W.heap.size := by obtain ⟨m, hm⟩ := k0; exact DataW.trod_lt m _ _ _ hm
  obtain ⟨x, hv, hc, hpos⟩ := of_laid hL
  obtain ⟨rfl, rfl⟩ := hV.unique (vars_read1 enc gErr tErr Tryd.underlying71 hv trivial _)
  obtain ⟨q0, n0, c0, rfl, hc0, hm0, ha0⟩ := open_bytes (hval 0 22 v0 rfl rfl) h0
  clear hA0 hV0 hval0
  refine (walkPutTwo W q0 n0 c0 ha0 hc0 hm0 x hc hpos).mono fun e W' ⟨he, bel⟩ => ?_
  subst he
  exact ⟨_, rfl, _, _, _, [], p, [.cell 0 0], hW', trodAll_mk1 (shut_bool Tryd.underlying4 _), trodAll_mk1 (Below.trod laidOut (by kernel_rfl) (of_decide_eq_true (by kernel_rfl)) k0 bel lt0), vars_read1 enc gErr tErr Tryd.underlying71 (var_kept bel hpos hv) trivial _, bel.frame _, fun h => by cases h⟩

theorem fnPutTwo_row : Rows.FnPutTwoSaid :=
  OpenClaim.holds_of_wide 6 Tryd.f6 rfl rfl rfl rfl rfl rfl rfl ⟨rfl, rfl, rfl, rfl, rfl⟩ rfl rfl rfl rfl rfl (by kernel_rfl) Tryd.func6 (by kernel_rfl)
    (of_decide_eq_true (by kernel_rfl)) (by unfold Func.isWrapper; first | (rw [if_pos (by decide +kernel)]; kernel_rfl) | (rw [if_neg (by decide +kernel)]; exact ⟨rfl, rfl⟩))
    (fun os started H enc _ => liftedFnPutTwo os started H enc)

/-- THE STATEMENT. -/
theorem fnPutTwo_holds : Rows.FnPutTwoCardSaid :=
  Claim7.holds_tied_plain_at .later [] Rows.fnPutTwoCard.laidKinds true Rows.fnPutTwoCard.stood.harness true
    fnPutTwo_row (fun _ h => by cases h) (by kernel_rfl) (fun _ h => by cases h) fnPutTwo_row_tie rfl ⟨rfl, rfl⟩ (by kernel_rfl) rfl
    (fun f fn hf hfn => by
      obtain rfl : f = 6 := Option.some.inj ((show Tryd.prog.funcNamed Rows.fnPutTwoRow.func = some 6 by kernel_rfl).symm.trans hf) |>.symm
      obtain rfl : fn = Tryd.f6 := (Option.some.inj (Tryd.func6.symm.trans hfn)).symm
      exact ⟨by kernel_rfl, fun j t ht => by
        rw [Tryd.params6] at ht
        have hm : t ∈ [22] := by simpa using Array.mem_of_getElem? ht
        have hall : ([22].all fun u => !Tryd.prog.wantsStandIn u) = true := by kernel_rfl
        exact (show Tryd.prog.wantsStandIn t = false by simpa using List.all_eq_true.1 hall t hm)⟩)
    (by kernel_rfl)
#print axioms fnPutTwo_holds
end Go.Proofs.YtjadkhejdbdpoaaDoor
