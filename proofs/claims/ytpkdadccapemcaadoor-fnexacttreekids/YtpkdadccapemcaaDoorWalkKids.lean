/- The walk of the law FnExactTreeKids. -/
import Derived.Test.YtpkdadccapemcaaDoorIdRows
import Derived.Test.YtpkdadccapemcaaDoorToOpsF
namespace Go.Proofs.YtpkdadccapemcaaDoor
open Go.RowKit
set_option linter.unusedSimpArgs false
set_option linter.unusedVariables false
attribute [local go_sem ↓] Go.wp_at_zero Go.wp_at_succ

theorem keepI {w w1 w2 : World} {r m : Int} (hb : Below w1.heap.size w1 w2) (h : w1.cell? ⟨w.heap.size, 0, none⟩ = some (.int .i64 r) ∧ w1.cell? ⟨w.heap.size, 1, none⟩ = some (.int .i64 m) ∧ w.heap.size < w1.heap.size ∧ Below w.heap.size w w1) :
    w2.cell? ⟨w.heap.size, 0, none⟩ = some (.int .i64 r) ∧ w2.cell? ⟨w.heap.size, 1, none⟩ = some (.int .i64 m) ∧ w.heap.size < w2.heap.size ∧ Below w.heap.size w w2 := by
  obtain ⟨h1, h2, h4, h5⟩ := h
  obtain ⟨hc, _⟩ := bcell hb
  exact ⟨(hc _ _ h4).trans h1, (hc _ _ h4).trans h2, Nat.lt_of_lt_of_le h4 hb.size, Bstep h5 hb⟩

theorem rowBelow {w w' : World} {b : Nat} {T : TypeId} {m : Nat} {v : Value} {n : Nat} {xs : List Value} (h : w.ownsRow b T m v n xs) (hb : Below w.heap.size w w') : w'.ownsRow b T m v n xs :=
  h.kept (row := none) ⟨hb.os, hb.tape, hb.output, hb.size, fun i hi _ => hb.block i hi⟩ (by cases v.ownBlock <;> simp)

/-- What the law holds in its hands: an id, the specification's answer, the program's, and the block of the things that were handed in. -/
structure KW (w W : World) (r m : Int) (L Lg : List (Int × Int)) (vw vg : Value) (X : Nat) : Prop where
  i0 : W.cell? ⟨w.heap.size, 0, none⟩ = some (.int .i64 r)
  i1 : W.cell? ⟨w.heap.size, 1, none⟩ = some (.int .i64 m)
  bel : Below w.heap.size w W
  rw : W.ownsRow w.heap.size 38 2 vw L.length (idCells L)
  rg : W.ownsRow (X + 1) 38 2 vg Lg.length (idCells Lg)
  wx : ∀ j, vw.ownBlock = some j → j < X
  xz : w.heap.size < X
  xl : X < W.heap.size
theorem KW.below {w W W' : World} {r m : Int} {L Lg : List (Int × Int)} {vw vg : Value} {X : Nat} (h : KW w W r m L Lg vw vg X) (hb : Below W.heap.size W W') : KW w W' r m L Lg vw vg X := by
  obtain ⟨hc, _⟩ := bcell hb
  have h1 := h.xz
  have h2 := h.xl
  exact ⟨(hc _ _ (by omega)).trans h.i0, (hc _ _ (by omega)).trans h.i1, Bstep h.bel hb, rowBelow h.rw hb, rowBelow h.rg hb, h.wx, h1, Nat.lt_of_lt_of_le h2 hb.size⟩
theorem KW.marked {w W W' : World} {r m : Int} {L Lg : List (Int × Int)} {vw vg : Value} {X : Nat} (h : KW w W r m L Lg vw vg X) (ho : OnlyBlk X W W') : KW w W' r m L Lg vw vg X := by
  have h1 := h.xz
  have h2 := h.xl
  have hg : W.grownBy W' (some X) := ⟨ho.os, ho.tape, ho.output, by rw [ho.size]; exact Nat.le_refl _, fun i _ hne => ho.block i (fun e => hne (by rw [e]))⟩
  refine ⟨(grown_cell hg (by omega) (some_ne (by omega)) _).trans h.i0, (grown_cell hg (by omega) (some_ne (by omega)) _).trans h.i1, h.bel.trans (ho.below (by omega)), h.rw.kept hg ?_, h.rg.kept hg ?_, h.wx, h1, by rw [ho.size]; exact h2⟩
  · cases hv : vw.ownBlock with
    | none => exact .inl rfl
    | some j => exact .inr fun e => by have := h.wx j hv; have := Option.some.inj e; omega
  · cases hv : vg.ownBlock with
    | none => exact .inl rfl
    | some j => exact .inr fun e => by have := (h.rg.lt j hv).1; have := Option.some.inj e; omega
theorem KW.own {w W W' : World} {r m : Int} {L Lg Lg' : List (Int × Int)} {vw vg : Value} {X : Nat} (h : KW w W r m L Lg vw vg X) (hg : W.grownBy W' vg.ownBlock) (hr : W'.ownsRow (X + 1) 38 2 vg Lg'.length (idCells Lg')) : KW w W' r m L Lg' vw vg X := by
  have h1 := h.xz
  have h2 := h.xl
  have ge : ∀ j, vg.ownBlock = some j → X + 1 ≤ j := fun j e => (h.rg.lt j e).1
  refine ⟨(grown_cell hg (by omega) (fun e => by have := ge _ e.symm; omega) _).trans h.i0, (grown_cell hg (by omega) (fun e => by have := ge _ e.symm; omega) _).trans h.i1, below_grown h.bel hg h.bel.size (fun j e => by have := ge j e; omega), h.rw.kept hg ?_, hr, h.wx, h1, Nat.lt_of_lt_of_le h2 hg.size⟩
  cases hv : vw.ownBlock with
  | none => exact .inl rfl
  | some j => exact .inr fun e => by have := h.wx j hv; have := ge j e.symm; omega

set_option maxRecDepth 100000 in
set_option maxHeartbeats 4000000 in
theorem walkTreeKids (l : List Op7) (p : Option Addr) (cap : Nat) (r m s : Int) (x : Addr) (w : World) (hl : ArgOps w p l) (hcap : l.length ≤ cap) (hmax : cap ≤ maxLen)
    (he : w.cell? ⟨0, 0, none⟩ = some (.iface 127 (.pointer (some x)))) (h0 : 0 < w.heap.size) (hr : wf64 r) (hm : wf64 m) (hs : wf64 s) :
    Calls Tryd.prog 5 #[.slice p l.length cap, .agg #[.int .i64 r, .int .i64 m], .int .i64 s] w fun e w' => e = .returned (.bool true) ∧ Below w.heap.size w w' := by
  have HA := hideIt hl
  have HR := hideIt hr
  have HM := hideIt hm
  have HS := hideIt hs
  clear hl hr hm hs
  have HB0 : Hid (Below w.heap.size w (w.alloc (.cells #[.int .i64 r, .int .i64 m] 35))) := (Below.refl _ _).alloc (Nat.le_refl _) _
  by_cases hn : l.length ≤ 1048576
  · have HKL : Hid ((kidIds l r m s).length ≤ 1048576) := by
      show (kidIds l r m s).length ≤ 1048576
      unfold kidIds
      split
      · rw [idsOf_len]; exact Nat.le_trans (kids_le l _) hn
      · simp
    go_enter Tryd.func5, Tryd.ntmps5
    go_wp2_with (first | (go_at_call 7; refine (sz_small _ _ _ _ hn).mono ?_; rintro e w' ⟨rfl, rfl⟩))
    go_region_held3 (fun w' => w'.cell? ⟨w.heap.size, 0, none⟩ = some (.int .i64 r) ∧ w'.cell? ⟨w.heap.size, 1, none⟩ = some (.int .i64 m) ∧ w.heap.size < w'.heap.size ∧ Below w.heap.size w w')
      (first | exact keepI hb2 (by with_reducible assumption) | exact ⟨by simp [go_sem], by simp [go_sem], by simp, HB0.out.drew⟩)
      (first
        | (go_at_call 9; refine (toOpS_any l p cap _ (HA.out.below HB0.out.drew) hn hcap).mono ?_; rintro e w1 ⟨rfl, hA1, hb2⟩; have HA1 : Hid (OpsAt w1 (w.heap.size + 1) l) := (by have h := hA1; simp only [World.size_drew, World.size_alloc] at h; exact h); clear hA1)
        | (go_at_call 19; refine (toId_any _ _ _).mono ?_; rintro e w2 ⟨rfl, hb2⟩; have HA2 : Hid (OpsAt w2 (w.heap.size + 1) l) := HA1.out.below hb2 HA1.out.1)
        | (go_at_call 18; refine (specKids_any l (w.heap.size + 1) l.length r m s _ HA2.out hn (Nat.le_refl _)).mono ?_; rintro e w3 ⟨vw, rfl, hrw, hb2⟩; have HRW := hideIt (ownsRow_base (b' := w.heap.size) (by have := HA2.out.1; omega) hrw); clear hrw))
    rename_i hS
    have HS3 := hideIt hS
    clear hS hb2 HA1 HA2
    go_wp2_with fail
    refine (toOpS_anyF l p cap _ (HA.out.below HS3.out.2.2.2) hn hcap).mono ?_
    rintro e w4 ⟨rfl, hA4, hK4, hB4⟩
    have HA4 := hideIt hA4
    have HK4 := hideIt hK4
    have HS4 := hideIt (keepI hB4 HS3.out)
    have HR4 := hideIt (rowBelow HRW.out hB4)
    have HWX : Hid (∀ j, vw.ownBlock = some j → j < w3.heap.size) := fun j e => (HRW.out.lt j e).2
    have hX : w.heap.size < w3.heap.size := HS3.out.2.2.1
    clear hA4 hK4 hB4 HS3 HRW
    generalize hXX : w3.heap.size = X at *
    obtain ⟨k0, k1, hz4, -⟩ := HS4.out
    go_wp2_with fail
    refine (toId_any _ _ _).mono ?_
    rintro e w5 ⟨rfl, hB5⟩
    have HA5 := hideIt (HA4.out.below hB5 HA4.out.1)
    have HK5 := hideIt (HK4.out.below hB5 HA4.out.1)
    have HS5 := hideIt (keepI hB5 HS4.out)
    have HR5 := hideIt (rowBelow HR4.out hB5)
    clear hB5 k0 k1 hz4 HA4 HK4 HS4 HR4
    go_wp2_with fail
    refine (implKids_any l _ _ _ _ _ x _ HA5.out hn (Nat.le_refl _) (errB HS5.out.2.2.2 h0 he) (posB HS5.out.2.2.2 h0) HR.out HM.out HS.out).mono ?_
    rintro e w6 ⟨vg, rfl, hrg, hB6⟩
    have HA6 := hideIt (HA5.out.below hB6 HA5.out.1)
    have HK6 := hideIt (HK5.out.below hB6 HA5.out.1)
    have hS6 := keepI hB6 HS5.out
    have HW6 : Hid (KW w w6 r m (kidIds l r m s) (kidIds l r m s) vw vg X) := ⟨hS6.1, hS6.2.1, hS6.2.2.2, rowBelow HR5.out hB6, ownsRow_base HA5.out.1 hrg, HWX.out, hX, HA6.out.1⟩
    clear hrg hB6 hS6 HA5 HK5 HS5 HR5
    go_wp2_with fail
    refine (eqIdS_rows (kidIds l r m s) _ _ _ _ _ HW6.out.rg HW6.out.rw HKL.out).mono ?_
    rintro e w7 ⟨rfl, hB7⟩
    have HA7 := hideIt (HA6.out.below hB7 HA6.out.1)
    have HK7 := hideIt (HK6.out.below hB7 HA6.out.1)
    have HW7 := hideIt (HW6.out.below hB7)
    clear hB7 HA6 HK6 HW6
    go_wp2_with fail
    refine (toOpS_any l p cap _ (HA.out.below HW7.out.bel) hn hcap).mono ?_
    rintro e w8 ⟨rfl, hA8', hB8⟩
    have HA88 := hideIt hA8'
    have HA8 := hideIt (HA7.out.below hB8 HA7.out.1)
    have HK8 := hideIt (HK7.out.below hB8 HA7.out.1)
    have HW8 := hideIt (HW7.out.below hB8)
    clear hA8' hB8 HA7 HK7 HW7
    go_wp2_with fail
    refine (eqOpS_same l _ _ _ _ _ HA8.out HA88.out hn (Nat.le_refl _) (Nat.le_refl _)).mono ?_
    rintro e w9 ⟨rfl, hB9⟩
    have HK9 := hideIt (HK8.out.below hB9 HA8.out.1)
    have HW9 := hideIt (HW8.out.below hB9)
    clear hB9 HA8 HA88 HK8 HW8
    go_wp2_with fail
    refine (markOpS_any X l.length _ _ HK9.out hn (Nat.le_refl _)).mono ?_
    rintro e w10 ⟨rfl, hO10⟩
    have HW10 := hideIt (HW9.out.marked hO10)
    clear hO10 HK9 HW9
    go_wp2_with fail
    refine (eqIdS_rows (kidIds l r m s) _ _ _ _ _ HW10.out.rg HW10.out.rw HKL.out).mono ?_
    rintro e w11 ⟨rfl, hB11⟩
    have HW11 := hideIt (HW10.out.below hB11)
    clear hB11 HW10
    go_wp2_with fail
    refine (markIdS_row vg (kidIds l r m s).length _ _ _ HW11.out.rg HKL.out).mono ?_
    rintro e w12 ⟨rfl, hr12, hg12⟩
    have HW12 := hideIt (HW11.out.own (Lg' := marksI (kidIds l r m s).length) hg12 (by rw [marksI_len]; exact hr12))
    clear hr12 hg12 HW11
    go_wp2_with fail
    refine (heldIdS_row vg (kidIds l r m s).length _ _ (by have h := HW12.out.rg; rw [marksI_len] at h; exact h) HKL.out).mono ?_
    rintro e w13 ⟨rfl, hB13⟩
    have HW13 := hideIt (HW12.out.below hB13)
    obtain ⟨k0, k1, -⟩ := HW13.out
    have hz13 : w.heap.size < w13.heap.size := by have h1 := HW13.out.xz; have h2 := HW13.out.xl; omega
    have hkl := HKL.out
    generalize hNN : (kidIds l r m s).length = N at *
    clear hB13 HW12
    have HS13 : Hid (w13.drew.cell? ⟨w.heap.size, 0, none⟩ = some (.int .i64 r) ∧ w13.drew.cell? ⟨w.heap.size, 1, none⟩ = some (.int .i64 m) ∧ w.heap.size < w13.drew.heap.size ∧ Below w.heap.size w w13.drew) := ⟨k0, k1, hz13, HW13.out.bel.drew⟩
    have HW : Hid (KW w w13.drew r m (kidIds l r m s) (marksI N) vw vg X) := HW13.out.below ((Below.refl _ _).drew)
    have hzd : w13.drew.heap.size = w13.heap.size := rfl
    clear HW13
    go_wp2_with fail
    go_region_held3 (fun w' => w'.cell? ⟨w.heap.size, 0, none⟩ = some (.int .i64 r) ∧ w'.cell? ⟨w.heap.size, 1, none⟩ = some (.int .i64 m) ∧ w.heap.size < w'.heap.size ∧ Below w.heap.size w w')
      (first | exact keepI hb2 (by with_reducible assumption) | exact HS13.out)
      (first
        | (go_at_call 9; refine (toOpS_any l p cap _ (HA.out.below HW.out.bel) hn hcap).mono ?_; rintro e w14 ⟨rfl, hA1, hb2⟩; have HA1 : Hid (OpsAt w14 w13.heap.size l) := hA1; have HW := hideIt (HW.out.below hb2); clear hA1)
        | (go_at_call 19; refine (toId_any _ _ _).mono ?_; rintro e w15 ⟨rfl, hb2⟩; have HA2 : Hid (OpsAt w15 w13.heap.size l) := HA1.out.below hb2 HA1.out.1; have HW := hideIt (HW.out.below hb2))
        | (go_at_call 20; refine (implKids_any l w13.heap.size l.length r m s x _ HA2.out hn (Nat.le_refl _) (errB HW.out.bel h0 he) (posB HW.out.bel h0) HR.out HM.out HS.out).mono ?_; rintro e w16 ⟨vh, rfl, hrh, hb2⟩; have HRH := hideIt hrh; have HW := hideIt (HW.out.below hb2); clear hrh))
    rename_i hS
    clear hS hb2 HA1 HA2 HS13 k0 k1 hz13
    go_wp2_with fail
    refine (eqIdS_rows (kidIds l r m s) _ _ _ _ _ HRH.out HW.out.rw (by rw [hNN]; exact hkl)).mono ?_
    rintro e w17 ⟨rfl, hB17⟩
    have HW17 := hideIt (HW.out.below hB17)
    clear hB17 HRH
    go_wp2_with fail
    refine (heldIdS_row vg N _ _ (by have h := HW17.out.rg; rw [marksI_len] at h; exact h) hkl).mono ?_
    rintro e w18 ⟨rfl, hB18⟩
    have HW18 := hideIt (HW17.out.below hB18)
    clear hB18
    go_wp2
    go_ret
    exact ⟨rfl, HW18.out.bel⟩
  · go_enter Tryd.func5, Tryd.ntmps5
    go_wp2_with (first | (go_at_call 7; refine (sz_big _ _ _ _ (by omega) (by omega)).mono ?_; rintro e w' ⟨rfl, rfl⟩))
    go_ret
    exact ⟨rfl, HB0.out⟩
end Go.Proofs.YtpkdadccapemcaaDoor
