/- The walk of the law FnExactTreeLeaves. -/
import Derived.Test.YtpkdadccapemcaaDoorSeq
import Derived.Test.YtpkdadccapemcaaDoorLeafMarks
import Derived.Test.YtpkdadccapemcaaDoorToOpsF
namespace Go.Proofs.YtpkdadccapemcaaDoor
open Go.RowKit
set_option linter.unusedSimpArgs false
set_option linter.unusedVariables false
attribute [local go_sem ↓] Go.wp_at_zero Go.wp_at_succ

theorem rowBelowF {w w' : World} {b : Nat} {T : TypeId} {m : Nat} {v : Value} {n : Nat} {xs : List Value} (h : w.ownsRow b T m v n xs) (hb : Below w.heap.size w w') : w'.ownsRow b T m v n xs :=
  h.kept (row := none) ⟨hb.os, hb.tape, hb.output, hb.size, fun i hi _ => hb.block i hi⟩ (by cases v.ownBlock <;> simp)

/-- What the law holds in its hands: the specification's answer, the program's, and the block of the things that were handed in. -/
structure FW (w W : World) (L Lg : List Lf) (vw vg : Value) (X : Nat) : Prop where
  bel : Below w.heap.size w W
  rw : W.ownsRow w.heap.size 63 4 vw L.length (lfCells L)
  rg : W.ownsRow (X + 1) 63 4 vg Lg.length (lfCells Lg)
  wx : ∀ j, vw.ownBlock = some j → j < X
  xz : w.heap.size ≤ X
  xl : X < W.heap.size
theorem FW.below {w W W' : World} {L Lg : List Lf} {vw vg : Value} {X : Nat} (h : FW w W L Lg vw vg X) (hb : Below W.heap.size W W') : FW w W' L Lg vw vg X :=
  ⟨Bstep h.bel hb, rowBelowF h.rw hb, rowBelowF h.rg hb, h.wx, h.xz, Nat.lt_of_lt_of_le h.xl hb.size⟩
theorem FW.marked {w W W' : World} {L Lg : List Lf} {vw vg : Value} {X : Nat} (h : FW w W L Lg vw vg X) (ho : OnlyBlk X W W') : FW w W' L Lg vw vg X := by
  have h1 := h.xz
  have h2 := h.xl
  have hg : W.grownBy W' (some X) := ⟨ho.os, ho.tape, ho.output, by rw [ho.size]; exact Nat.le_refl _, fun i _ hne => ho.block i (fun e => hne (by rw [e]))⟩
  refine ⟨h.bel.trans (ho.below (by omega)), h.rw.kept hg ?_, h.rg.kept hg ?_, h.wx, h1, by rw [ho.size]; exact h2⟩
  · cases hv : vw.ownBlock with
    | none => exact .inl rfl
    | some j => exact .inr fun e => by have := h.wx j hv; have := Option.some.inj e; omega
  · cases hv : vg.ownBlock with
    | none => exact .inl rfl
    | some j => exact .inr fun e => by have := (h.rg.lt j hv).1; have := Option.some.inj e; omega
theorem FW.own {w W W' : World} {L Lg Lg' : List Lf} {vw vg : Value} {X : Nat} (h : FW w W L Lg vw vg X) (hg : W.grownBy W' vg.ownBlock) (hr : W'.ownsRow (X + 1) 63 4 vg Lg'.length (lfCells Lg')) : FW w W' L Lg' vw vg X := by
  have h1 := h.xz
  have h2 := h.xl
  have ge : ∀ j, vg.ownBlock = some j → X + 1 ≤ j := fun j e => (h.rg.lt j e).1
  refine ⟨below_grown h.bel hg h.bel.size (fun j e => by have := ge j e; omega), h.rw.kept hg ?_, hr, h.wx, h1, Nat.lt_of_lt_of_le h2 hg.size⟩
  cases hv : vw.ownBlock with
  | none => exact .inl rfl
  | some j => exact .inr fun e => by have := h.wx j hv; have := ge j e.symm; omega

set_option maxRecDepth 100000 in
set_option maxHeartbeats 4000000 in
theorem walkTreeLeaves (l : List Op7) (p : Option Addr) (cap : Nat) (x : Addr) (w : World) (hl : ArgOps w p l) (hcap : l.length ≤ cap) (hmax : cap ≤ maxLen)
    (he : w.cell? ⟨0, 0, none⟩ = some (.iface 127 (.pointer (some x)))) (h0 : 0 < w.heap.size) :
    Calls Tryd.prog 3 #[.slice p l.length cap] w fun e w' => e = .returned (.bool true) ∧ Below w.heap.size w w' := by
  have HA := hideIt hl
  clear hl
  by_cases hn : l.length ≤ 1048576
  · have HKL : Hid ((lfs l (standL l)).length ≤ 1048576) := by
      show (lfs l (standL l)).length ≤ 1048576
      rw [lfs_len]
      exact Nat.le_trans (stand_len l) hn
    go_enter Tryd.func3, Tryd.ntmps3
    go_wp2_with (first | (go_at_call 7; refine (sz_small _ _ _ _ hn).mono ?_; rintro e w' ⟨rfl, hw'⟩; rw [hw']; clear hw'))
    refine (toOpS_any l p cap _ HA.out hn hcap).mono ?_
    rintro e w1 ⟨rfl, hA1, hB1⟩
    have HA1 := hideIt hA1
    have HB1 := hideIt hB1
    clear hA1 hB1
    go_wp2_with fail
    refine (specLeaves_any l _ _ _ HA1.out hn (Nat.le_refl _)).mono ?_
    rintro e w3 ⟨Gw, cw, rfl, hrw, hB3⟩
    have HRW : Hid (w3.ownsRow w.heap.size 63 4 (.slice (some ⟨Gw, 0, none⟩) (standL l).length cw) (lfs l (standL l)).length (lfCells (lfs l (standL l)))) := by
      have h := ownsRow_base (b' := w.heap.size) HB1.out.size hrw
      rw [lfs_cells] at h
      show w3.ownsRow _ _ _ _ (lfs l (standL l)).length _
      rw [lfs_len]
      exact h
    have HB3 := hideIt (Bstep HB1.out hB3)
    clear hrw hB3 HA1 HB1
    generalize hvw : Value.slice (some ⟨Gw, 0, none⟩) (standL l).length cw = vw at *
    go_wp2_with fail
    refine (toOpS_anyF l p cap _ (HA.out.below HB3.out) hn hcap).mono ?_
    rintro e w4 ⟨rfl, hA4, hK4, hB4⟩
    have HA4 := hideIt hA4
    have HK4 := hideIt hK4
    have HB4 := hideIt (Bstep HB3.out hB4)
    have HR4 := hideIt (rowBelowF HRW.out hB4)
    have HWX : Hid (∀ j, vw.ownBlock = some j → j < w3.heap.size) := fun j e => (HRW.out.lt j e).2
    have hX : w.heap.size ≤ w3.heap.size := HB3.out.size
    clear hA4 hK4 hB4 HB3 HRW
    generalize hXX : w3.heap.size = X at *
    go_wp2_with fail
    refine (implLeaves_any l _ _ x _ HA4.out hn (Nat.le_refl _) (errB HB4.out h0 he) (posB HB4.out h0)).mono ?_
    rintro e w6 ⟨vg, rfl, hrg, hB6⟩
    have HA6 := hideIt (HA4.out.below hB6 HA4.out.1)
    have HK6 := hideIt (HK4.out.below hB6 HA4.out.1)
    have HW6 : Hid (FW w w6 (lfs l (standL l)) (lfs l (standL l)) vw vg X) := ⟨Bstep HB4.out hB6, rowBelowF HR4.out hB6, ownsRow_base HA4.out.1 hrg, HWX.out, hX, HA6.out.1⟩
    clear hrg hB6 HA4 HK4 HB4 HR4
    go_wp2_with fail
    refine (eqLeafS_rows (lfs l (standL l)) _ _ _ _ _ HW6.out.rg HW6.out.rw HKL.out).mono ?_
    rintro e w7 ⟨rfl, hB7⟩
    have HA7 := hideIt (HA6.out.below hB7 HA6.out.1)
    have HK7 := hideIt (HK6.out.below hB7 HA6.out.1)
    have HW7 := hideIt (HW6.out.below hB7)
    clear hB7 HA6 HK6 HW6
    go_wp2_with fail
    refine (toOpS_any l p cap _ (HA.out.below HW7.out.bel) hn hcap).mono ?_
    rintro e w8 ⟨rfl, hA8', hB8⟩
    have HA88 := hideIt hA8'
    have HA8 := hideIt (HA7.out.below hB8 HA7.out.1)
    have HK8 := hideIt (HK7.out.below hB8 HA7.out.1)
    have HW8 := hideIt (HW7.out.below hB8)
    clear hA8' hB8 HA7 HK7 HW7
    go_wp2_with fail
    refine (eqOpS_same l _ _ _ _ _ HA8.out HA88.out hn (Nat.le_refl _) (Nat.le_refl _)).mono ?_
    rintro e w9 ⟨rfl, hB9⟩
    have HK9 := hideIt (HK8.out.below hB9 HA8.out.1)
    have HW9 := hideIt (HW8.out.below hB9)
    clear hB9 HA8 HA88 HK8 HW8
    go_wp2_with fail
    refine (markOpS_any X l.length _ _ HK9.out hn (Nat.le_refl _)).mono ?_
    rintro e w10 ⟨rfl, hO10⟩
    have HW10 := hideIt (HW9.out.marked hO10)
    clear hO10 HK9 HW9
    go_wp2_with fail
    refine (eqLeafS_rows (lfs l (standL l)) _ _ _ _ _ HW10.out.rg HW10.out.rw HKL.out).mono ?_
    rintro e w11 ⟨rfl, hB11⟩
    have HW11 := hideIt (HW10.out.below hB11)
    clear hB11 HW10
    go_wp2_with fail
    refine (markLeafS_row vg (lfs l (standL l)).length _ _ _ HW11.out.rg HKL.out).mono ?_
    rintro e w12 ⟨rfl, hr12, hg12⟩
    have HW12 := hideIt (HW11.out.own (Lg' := marksF (lfs l (standL l)).length) hg12 (by rw [marksF_len]; exact hr12))
    clear hr12 hg12 HW11
    go_wp2_with fail
    refine (heldLeafS_row vg (lfs l (standL l)).length _ _ (by have h := HW12.out.rg; rw [marksF_len] at h; exact h) HKL.out).mono ?_
    rintro e w13 ⟨rfl, hB13⟩
    have HW13 := hideIt (HW12.out.below hB13)
    have hkl := HKL.out
    generalize hNN : (lfs l (standL l)).length = N at *
    clear hB13 HW12
    go_wp2_with fail
    refine (toOpS_any l p cap _ (HA.out.below HW13.out.bel) hn hcap).mono ?_
    rintro e w14 ⟨rfl, hA14, hB14⟩
    have HA14 := hideIt hA14
    have HW14 := hideIt (HW13.out.below hB14)
    clear hA14 hB14 HW13
    go_wp2_with fail
    refine (implLeaves_any l _ _ x _ HA14.out hn (Nat.le_refl _) (errB HW14.out.bel h0 he) (posB HW14.out.bel h0)).mono ?_
    rintro e w16 ⟨vh, rfl, hrh, hB16⟩
    have HRH := hideIt hrh
    have HW := hideIt (HW14.out.below hB16)
    clear hrh hB16 HA14 HW14
    go_wp2_with fail
    refine (eqLeafS_rows (lfs l (standL l)) _ _ _ _ _ HRH.out HW.out.rw (by rw [hNN]; exact hkl)).mono ?_
    rintro e w17 ⟨rfl, hB17⟩
    have HW17 := hideIt (HW.out.below hB17)
    clear hB17 HRH
    go_wp2_with fail
    refine (heldLeafS_row vg N _ _ (by have h := HW17.out.rg; rw [marksF_len] at h; exact h) hkl).mono ?_
    rintro e w18 ⟨rfl, hB18⟩
    have HW18 := hideIt (HW17.out.below hB18)
    clear hB18
    go_wp2
    go_ret
    exact ⟨rfl, HW18.out.bel⟩
  · go_enter Tryd.func3, Tryd.ntmps3
    go_wp2_with (first | (go_at_call 7; refine (sz_big _ _ _ _ (by omega) (by omega)).mono ?_; rintro e w' ⟨rfl, rfl⟩))
    go_ret
    exact ⟨rfl, Below.refl _ _⟩
end Go.Proofs.YtpkdadccapemcaaDoor
