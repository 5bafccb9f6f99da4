/- Contracts of both OpsFind, and the walk of the law FnExactOpsFind. -/
import Derived.Test.YtfjhecoihkbjhaaDoorWalkOps
namespace Go.Proofs.YtfjhecoihkbjhaaDoor
open Go.RowKit
set_option linter.unusedSimpArgs false
set_option linter.unusedVariables false
attribute [local go_sem ↓] Go.wp_at_zero Go.wp_at_succ

/-- Where the thing of an id stands, if what was done is ok. -/
def findB (l : List Op7) (r m : Int) : Int := if opsB l = true then findI l r m else -1
theorem opsB_parts {l : List Op7} (h : opsB l = true) : l.all okO = true ∧ ordB l = true := by
  unfold opsB at h
  simp only [Bool.and_eq_true] at h
  exact ⟨h.1, h.2.1⟩

set_option maxHeartbeats 1000000 in
theorem specFind_any (l : List Op7) (g cap : Nat) (r m : Int) (w : World) (hl : OpsAt w g l) (hn : l.length ≤ 1048576) (hcap : l.length ≤ cap) :
    Calls Tryd.prog 22 #[.slice (some ⟨g, 0, none⟩) l.length cap, .agg #[.int .i64 r, .int .i64 m]] w fun e w' => e = .returned (.int .i64 (findB l r m)) ∧ Below w.heap.size w w' := by
  have HL := hideIt hl
  have hgw := hl.1
  clear hl
  cases ho : opsB l
  all_goals
    have HO := hideIt ho
    clear ho
    go_enter Tryd.func22, Tryd.ntmps22
    go_wp2_with fail
    refine (specOps_any l _ _ _ (HL.out.below ((Below.refl _ _).alloc (Nat.le_refl _) _) hgw) hn hcap).mono ?_
    rintro e w1 ⟨rfl, hb1⟩
    rw [HO.out]
    have HB1 : Hid (Below w.heap.size w w1) := ((Below.refl _ _).alloc (Nat.le_refl _) _).trans (hb1.mono (by simp))
    have hc1 : ∀ o, w1.cell? ⟨w.heap.size, o, none⟩ = (w.alloc (.cells #[.int .i64 r, .int .i64 m] 27)).cell? ⟨w.heap.size, o, none⟩ := fun o => (bcell hb1).1 _ _ (by simp)
    clear hb1
  · go_wp2
    go_ret
    exact ⟨ret_int (by unfold findB; rw [HO.out]; rfl), HB1.out⟩
  · go_wp2_with fail
    refine (l1Find_any l _ _ _ _ _ (HL.out.below HB1.out hgw) hn hcap).mono ?_
    rintro e w2 ⟨rfl, hb2⟩
    have HB2 := hideIt (Bstep HB1.out hb2)
    clear hb2
    go_wp2
    go_ret
    exact ⟨ret_int (by unfold findB; rw [HO.out]; rfl), HB2.out⟩

theorem keepF {w w1 w2 : World} {u v : Value} (hb : Below w1.heap.size w1 w2)
    (h : w1.cell? ⟨w.heap.size, 0, none⟩ = some u ∧ w1.cell? ⟨w.heap.size, 1, none⟩ = some v ∧ w.heap.size < w1.heap.size ∧ Below w.heap.size w w1) :
    w2.cell? ⟨w.heap.size, 0, none⟩ = some u ∧ w2.cell? ⟨w.heap.size, 1, none⟩ = some v ∧ w.heap.size < w2.heap.size ∧ Below w.heap.size w w2 := by
  obtain ⟨h1, h2, h4, h5⟩ := h
  obtain ⟨hc, _⟩ := bcell hb
  exact ⟨(hc _ _ h4).trans h1, (hc _ _ h4).trans h2, Nat.lt_of_lt_of_le h4 hb.size, Bstep h5 hb⟩

set_option maxRecDepth 100000 in
set_option maxHeartbeats 1000000 in
theorem implFind_any (l : List Op7) (g cap : Nat) (r m : Int) (x : Addr) (w : World) (hl : OpsAt w g l) (hn : l.length ≤ 1048576) (hcap : l.length ≤ cap)
    (he : w.cell? ⟨0, 0, none⟩ = some (.iface 117 (.pointer (some x)))) (h0 : 0 < w.heap.size) :
    Calls Tryd.prog 24 #[.slice (some ⟨g, 0, none⟩) l.length cap, .agg #[.int .i64 r, .int .i64 m]] w fun e w' => e = .returned (.int .i64 (findB l r m)) ∧ Below w.heap.size w w' := by
  have HL := hideIt hl
  have hgw := hl.1
  clear hl
  go_enter Tryd.func24, Tryd.ntmps24
  go_wp2_with fail
  have HB0 : Hid (Below w.heap.size w (w.alloc (.cells #[.int .i64 r, .int .i64 m] 27))) := (Below.refl _ _).alloc (Nat.le_refl _) _
  refine (things_any l g cap x _ (HL.out.below HB0.out hgw) hn hcap (errB HB0.out h0 he) (posB HB0.out h0)).mono ?_
  rintro e w1 ⟨(⟨ht, M, hMM, rfl, hT⟩ | ⟨ht, rfl⟩), hb1⟩
  all_goals
    have HT := hideIt (ht.symm.trans (th_same l))
    have HB1 : Hid (Below w.heap.size w w1) := HB0.out.trans (hb1.mono (by simp))
    have herr1 : w1.cell? ⟨0, 0, none⟩ = some (.iface 117 (.pointer (some x))) := errB HB1.out h0 he
    have k0 : w1.cell? ⟨w.heap.size, 0, none⟩ = some (.int .i64 r) := by rw [(bcell hb1).1 _ _ (by simp)]; simp [go_sem]
    have k1 : w1.cell? ⟨w.heap.size, 1, none⟩ = some (.int .i64 m) := by rw [(bcell hb1).1 _ _ (by simp)]; simp [go_sem]
    have hz1 : w.heap.size < w1.heap.size := by have := hb1.size; simp at this; omega
    clear ht hb1
  · have HTT := hideIt hT
    have hM1 : M < w1.heap.size := hT.1
    obtain ⟨hok, hord⟩ := opsB_parts HT.out.symm
    have HOK := hideIt hok
    have HPL : Hid (placeI (cnt l 1) (cnt l 2) (cnt l 3) r m = findB l r m) := by
      show placeI _ _ _ _ _ = _
      rw [← find_place hok hord]; unfold findB; rw [← HT.out]; rfl
    have hlen := len_le hok hord
    have b1 : Hid ((0 ≤ cnt l 1 ∧ cnt l 1 ≤ 1048576) ∧ (0 ≤ cnt l 2 ∧ cnt l 2 ≤ 1048576)) := by
      have h1 := cnt_nonneg l 1
      have h2 := cnt_nonneg l 2
      have h3 := cnt_nonneg l 3
      have h4 := cnt_sum l
      exact ⟨⟨by omega, by omega⟩, ⟨by omega, by omega⟩⟩
    clear hT hok hord hMM
    go_wp2_with (first | (go_at_call 30; refine (is_nil x _).mono ?_; rintro e w'' ⟨rfl, rfl⟩))
    go_region_held3 (fun w' => w'.cell? ⟨w.heap.size, 0, none⟩ = some (.int .i64 r) ∧ w'.cell? ⟨w.heap.size, 1, none⟩ = some (.int .i64 m) ∧ w.heap.size < w'.heap.size ∧ Below w.heap.size w w')
      (first | exact keepF hb2 (by with_reducible assumption) | exact ⟨k0, k1, hz1, HB1.out.drew⟩)
      (first
        | (go_at_call 37; refine (count_any l M l.length _ (HTT.out.below ((Below.refl _ _).drew) hM1) hn (Nat.le_refl _) HOK.out).mono ?_; rintro e w2 ⟨rfl, hse, hfz2, hb2⟩; have HSE := hideIt hse; clear hse hfz2)
        | (go_at_call 39; refine (place_any _ _ _ _ _ _ _ HSE.out b1.out.1 b1.out.2).mono ?_; rintro e w3 ⟨rfl, hb2⟩; rw [HPL.out]))
    rename_i hS
    have HB3 := hideIt hS.2.2.2
    clear hS hb2
    go_wp2
    go_ret
    exact ⟨rfl, HB3.out⟩
  · go_wp2_with (first | (go_at_call 30; refine (is_same x _).mono ?_; rintro e w'' ⟨rfl, rfl⟩))
    go_ret
    exact ⟨ret_int (by unfold findB; rw [← HT.out]; rfl), HB1.out⟩

set_option maxRecDepth 100000 in
set_option maxHeartbeats 1000000 in
theorem walkOpsFind (l : List Op7) (p : Option Addr) (cap : Nat) (r m : Int) (x : Addr) (w : World) (hl : ArgOps w p l) (hcap : l.length ≤ cap) (hmax : cap ≤ maxLen)
    (he : w.cell? ⟨0, 0, none⟩ = some (.iface 117 (.pointer (some x)))) (h0 : 0 < w.heap.size) :
    Calls Tryd.prog 6 #[.slice p l.length cap, .agg #[.int .i64 r, .int .i64 m]] w fun e w' => e = .returned (.bool true) ∧ Below w.heap.size w w' := by
  have HA := hideIt hl
  clear hl
  have HB0 : Hid (Below w.heap.size w (w.alloc (.cells #[.int .i64 r, .int .i64 m] 23))) := (Below.refl _ _).alloc (Nat.le_refl _) _
  by_cases hn : l.length ≤ 1048576
  · go_enter Tryd.func6, Tryd.ntmps6
    go_wp2_with (first | (go_at_call 11; refine (sz_small _ _ _ _ hn).mono ?_; rintro e w' ⟨rfl, rfl⟩))
    go_region_held3 (fun w' => w'.cell? ⟨w.heap.size, 0, none⟩ = some (.int .i64 r) ∧ w'.cell? ⟨w.heap.size, 1, none⟩ = some (.int .i64 m) ∧ w.heap.size < w'.heap.size ∧ Below w.heap.size w w')
      (first | exact keepF hb2 (by with_reducible assumption) | exact ⟨by simp [go_sem], by simp [go_sem], by simp, HB0.out.drew⟩)
      (first
        | (go_at_call 13; refine (toOpS_any l p cap _ (HA.out.below HB0.out.drew) hn hcap).mono ?_; rintro e w1 ⟨rfl, hA1, hb2⟩; have HA1 : Hid (OpsAt w1 (w.heap.size + 1) l) := (by have h := hA1; simp only [World.size_drew, World.size_alloc] at h; exact h); clear hA1)
        | (go_at_call 23; refine (toId_any _ _ _).mono ?_; rintro e w2 ⟨rfl, hb2⟩; have HA2 := hideIt (HA1.out.below hb2 HA1.out.1))
        | (go_at_call 22; refine (specFind_any l _ _ _ _ _ HA2.out hn (Nat.le_refl _)).mono ?_; rintro e w3 ⟨rfl, hb2⟩))
    rename_i hS
    have HS3 := hideIt hS
    have HB3 := hideIt hS.2.2.2
    clear hS hb2 HA1 HA2
    go_wp2_with fail
    refine (toOpS_any l p cap _ (HA.out.below HB3.out) hn hcap).mono ?_
    rintro e w4 ⟨rfl, hA4, hB4⟩
    have HA4 := hideIt hA4
    obtain ⟨k0, k1, hz4, hB4'⟩ := keepF hB4 HS3.out
    have HB4 := hideIt hB4'
    clear hA4 hB4 hB4' HS3
    go_wp2_with fail
    refine (toId_any _ _ _).mono ?_
    rintro e w5 ⟨rfl, hB5⟩
    have HA5 := hideIt (HA4.out.below hB5 HA4.out.1)
    have HB5 := hideIt (Bstep HB4.out hB5)
    clear hB5 k0 k1 hz4 HA4
    go_wp2_with fail
    refine (implFind_any l _ _ _ _ x _ HA5.out hn (Nat.le_refl _) (errB HB5.out h0 he) (posB HB5.out h0)).mono ?_
    rintro e w6 ⟨rfl, hB6⟩
    have HA6 := hideIt (HA5.out.below hB6 HA5.out.1)
    have HB6 := hideIt (Bstep HB5.out hB6)
    clear hB6 HA5
    go_wp2_with fail
    refine (toOpS_any l p cap _ (HA.out.below HB6.out) hn hcap).mono ?_
    rintro e w7 ⟨rfl, hA7, hB7⟩
    have HA67 := hideIt (HA6.out.below hB7 HA6.out.1)
    have HA7 := hideIt hA7
    have HB7 := hideIt (Bstep HB6.out hB7)
    clear hA7 hB7
    go_wp2_with fail
    refine (eqOpS_same l _ _ _ _ _ HA67.out HA7.out hn (Nat.le_refl _) (Nat.le_refl _)).mono ?_
    rintro e w8 ⟨rfl, hB8⟩
    have HB8 := hideIt (Bstep HB7.out hB8)
    clear hB8
    go_wp2
    go_ret
    exact ⟨rfl, HB8.out⟩
  · go_enter Tryd.func6, Tryd.ntmps6
    go_wp2_with (first | (go_at_call 11; refine (sz_big _ _ _ _ (by omega) (by omega)).mono ?_; rintro e w' ⟨rfl, rfl⟩))
    go_ret
    exact ⟨rfl, HB0.out⟩
end Go.Proofs.YtfjhecoihkbjhaaDoor
