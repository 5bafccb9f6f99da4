/- The walk of the law FnExactTreeUnder. -/
import Derived.Test.YtpkdadccapemcaaDoorUnderOps
import Derived.Test.YtpkdadccapemcaaDoorToOps
import Derived.Test.YtpkdadccapemcaaDoorEqOps
namespace Go.Proofs.YtpkdadccapemcaaDoor
open Go.RowKit
set_option linter.unusedSimpArgs false
set_option linter.unusedVariables false
attribute [local go_sem ↓] Go.wp_at_zero Go.wp_at_succ

/-- Two ids lie in the first two new blocks. -/
def TwoIds (w : World) (ar am br bm : Int) (w' : World) : Prop :=
  w'.cell? ⟨w.heap.size, 0, none⟩ = some (.int .i64 ar) ∧ w'.cell? ⟨w.heap.size, 1, none⟩ = some (.int .i64 am) ∧ w'.cell? ⟨w.heap.size + 1, 0, none⟩ = some (.int .i64 br) ∧ w'.cell? ⟨w.heap.size + 1, 1, none⟩ = some (.int .i64 bm) ∧ w.heap.size + 1 < w'.heap.size ∧ Below w.heap.size w w'
theorem TwoIds.keep {w w1 w2 : World} {ar am br bm : Int} (h : TwoIds w ar am br bm w1) (hb : Below w1.heap.size w1 w2) : TwoIds w ar am br bm w2 := by
  obtain ⟨h1, h2, h3, h4, h5, h6⟩ := h
  obtain ⟨hc, _⟩ := bcell hb
  exact ⟨(hc _ _ (by omega)).trans h1, (hc _ _ (by omega)).trans h2, (hc _ _ h5).trans h3, (hc _ _ h5).trans h4, Nat.lt_of_lt_of_le h5 hb.size, Bstep h6 hb⟩

theorem keep4 {w w1 w2 : World} {ar am br bm : Int} (hb : Below w1.heap.size w1 w2) (h : w1.cell? ⟨w.heap.size, 0, none⟩ = some (.int .i64 ar) ∧ w1.cell? ⟨w.heap.size, 1, none⟩ = some (.int .i64 am) ∧ w1.cell? ⟨w.heap.size + 1, 0, none⟩ = some (.int .i64 br) ∧ w1.cell? ⟨w.heap.size + 1, 1, none⟩ = some (.int .i64 bm) ∧ w.heap.size + 1 < w1.heap.size ∧ Below w.heap.size w w1) :
    w2.cell? ⟨w.heap.size, 0, none⟩ = some (.int .i64 ar) ∧ w2.cell? ⟨w.heap.size, 1, none⟩ = some (.int .i64 am) ∧ w2.cell? ⟨w.heap.size + 1, 0, none⟩ = some (.int .i64 br) ∧ w2.cell? ⟨w.heap.size + 1, 1, none⟩ = some (.int .i64 bm) ∧ w.heap.size + 1 < w2.heap.size ∧ Below w.heap.size w w2 := TwoIds.keep h hb

set_option maxRecDepth 100000 in
set_option maxHeartbeats 1000000 in
theorem walkTreeUnder (l : List Op7) (p : Option Addr) (cap : Nat) (ar am br bm : Int) (x : Addr) (w : World) (hl : ArgOps w p l) (hcap : l.length ≤ cap) (hmax : cap ≤ maxLen)
    (he : w.cell? ⟨0, 0, none⟩ = some (.iface 127 (.pointer (some x)))) (h0 : 0 < w.heap.size) (hr : wf64 ar) (hm : wf64 am) (hr2 : wf64 br) (hm2 : wf64 bm) :
    Calls Tryd.prog 6 #[.slice p l.length cap, .agg #[.int .i64 ar, .int .i64 am], .agg #[.int .i64 br, .int .i64 bm]] w fun e w' => e = .returned (.bool true) ∧ Below w.heap.size w w' := by
  have HA := hideIt hl
  have HR := hideIt hr
  have HM := hideIt hm
  clear hl hr hm hr2 hm2
  have HB0 : Hid (Below w.heap.size w ((w.alloc (.cells #[.int .i64 ar, .int .i64 am] 35)).alloc (.cells #[.int .i64 br, .int .i64 bm] 35))) := ((Below.refl _ _).alloc (Nat.le_refl _) _).alloc (by simp) _
  by_cases hn : l.length ≤ 1048576
  · have HS0 : Hid (TwoIds w ar am br bm (((w.alloc (.cells #[.int .i64 ar, .int .i64 am] 35)).alloc (.cells #[.int .i64 br, .int .i64 bm] 35)).drew)) := ⟨by simp [go_sem], by simp [go_sem], by simp [go_sem], by simp [go_sem], by simp, HB0.out.drew⟩
    go_enter Tryd.func6, Tryd.ntmps6
    go_wp2_with (first | (go_at_call 7; refine (sz_small _ _ _ _ hn).mono ?_; rintro e w' ⟨rfl, rfl⟩))
    go_region_held3 (fun w' => w'.cell? ⟨w.heap.size, 0, none⟩ = some (.int .i64 ar) ∧ w'.cell? ⟨w.heap.size, 1, none⟩ = some (.int .i64 am) ∧ w'.cell? ⟨w.heap.size + 1, 0, none⟩ = some (.int .i64 br) ∧ w'.cell? ⟨w.heap.size + 1, 1, none⟩ = some (.int .i64 bm) ∧ w.heap.size + 1 < w'.heap.size ∧ Below w.heap.size w w')
      (first | exact keep4 hb2 (by with_reducible assumption) | exact HS0.out)
      (first
        | (go_at_call 9; refine (toOpS_any l p cap _ (HA.out.below HB0.out.drew) hn hcap).mono ?_; rintro e w1 ⟨rfl, hA1, hb2⟩; have HA1 : Hid (OpsAt w1 (w.heap.size + 1 + 1) l) := (by have h := hA1; simp only [World.size_drew, World.size_alloc] at h; exact h); clear hA1)
        | (go_at_call 19; refine (toId_any _ _ _).mono ?_; rintro e w2 ⟨rfl, hb2⟩; have HA1 : Hid (OpsAt w2 (w.heap.size + 1 + 1) l) := HA1.out.below hb2 HA1.out.1)
        | (go_at_call 24; refine (specUnder_any l (w.heap.size + 1 + 1) l.length ar am br bm _ HA1.out hn (Nat.le_refl _)).mono ?_; rintro e w3 ⟨rfl, hb2⟩))
    rename_i hS
    have HS3 : Hid (TwoIds w ar am br bm w3) := hS
    clear hS hb2 HA1
    go_wp2_with fail
    refine (toOpS_any l p cap _ (HA.out.below HS3.out.2.2.2.2.2) hn hcap).mono ?_
    rintro e w4 ⟨rfl, hA4, hB4⟩
    have HA4 := hideIt hA4
    have HS4 := hideIt (HS3.out.keep hB4)
    obtain ⟨k0, k1, k2, k3, hz4, -⟩ := HS4.out
    have hz4' : w.heap.size < w4.heap.size := by omega
    clear hA4 hB4 HS3
    have HS5 : Hid (TwoIds w ar am br bm w4.drew) := ⟨k0, k1, k2, k3, hz4, HS4.out.2.2.2.2.2.drew⟩
    have HX : Hid (OpsAt w4.drew w3.heap.size l) := HA4.out
    have HB5 : Hid (Below w.heap.size w w4.drew) := HS4.out.2.2.2.2.2.drew
    clear HA4 HS4
    go_wp2_with fail
    go_region_held3 (fun w' => w'.cell? ⟨w.heap.size, 0, none⟩ = some (.int .i64 ar) ∧ w'.cell? ⟨w.heap.size, 1, none⟩ = some (.int .i64 am) ∧ w'.cell? ⟨w.heap.size + 1, 0, none⟩ = some (.int .i64 br) ∧ w'.cell? ⟨w.heap.size + 1, 1, none⟩ = some (.int .i64 bm) ∧ w.heap.size + 1 < w'.heap.size ∧ Below w.heap.size w w')
      (first | exact keep4 hb2 (by with_reducible assumption) | exact HS5.out)
      (first
        | (go_at_call 19; refine (toId_any _ _ _).mono ?_; rintro e w5 ⟨rfl, hb2⟩; have HX : Hid (OpsAt w5 w3.heap.size l) := (HX.out.below hb2 HX.out.1); have HB5 := hideIt (Bstep HB5.out hb2))
        | (go_at_call 25; refine (implUnder_any l w3.heap.size l.length ar am br bm x _ HX.out hn (Nat.le_refl _) (errB HB5.out h0 he) (posB HB5.out h0) HR.out HM.out).mono ?_; rintro e w6 ⟨rfl, hb2⟩; have HX6 : Hid (OpsAt w6 w3.heap.size l) := (HX.out.below hb2 HX.out.1); have HB6 := hideIt (Bstep HB5.out hb2)))
    rename_i hS
    clear hS hb2 HS5 k0 k1 k2 k3 hz4 hz4'
    go_wp2_with fail
    refine (toOpS_any l p cap _ (HA.out.below HB6.out) hn hcap).mono ?_
    rintro e w7 ⟨rfl, hA7, hB7⟩
    have HA67 := hideIt (HX6.out.below hB7 HX6.out.1)
    have HA7 := hideIt hA7
    have HB7 := hideIt (Bstep HB6.out hB7)
    clear hA7 hB7
    go_wp2_with fail
    refine (eqOpS_same l _ _ _ _ _ HA67.out HA7.out hn (Nat.le_refl _) (Nat.le_refl _)).mono ?_
    rintro e w8 ⟨rfl, hB8⟩
    have HB8 := hideIt (Bstep HB7.out hB8)
    clear hB8
    go_wp2
    go_ret
    exact ⟨rfl, HB8.out⟩
  · go_enter Tryd.func6, Tryd.ntmps6
    go_wp2_with (first | (go_at_call 7; refine (sz_big _ _ _ _ (by omega) (by omega)).mono ?_; rintro e w' ⟨rfl, rfl⟩))
    go_ret
    exact ⟨rfl, HB0.out⟩
end Go.Proofs.YtpkdadccapemcaaDoor
