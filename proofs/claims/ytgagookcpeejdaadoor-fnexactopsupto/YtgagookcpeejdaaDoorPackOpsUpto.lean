/-
  PROVED: at every argument the program's OpsUpto answers as its specification, writes into no argument, and its answer is memory of its own (the given card of FnExactOpsUpto), for every input; the one listed variable, the program's error, reads as its own initialiser lays it.
-/
import Derived.Test.YtgagookcpeejdaaDoorPackC
import Derived.Test.YtgagookcpeejdaaDoorPackT
import Derived.Test.YtgagookcpeejdaaDoorPackM
import Derived.Test.YtgagookcpeejdaaDoorPackO
import Derived.Test.YtgagookcpeejdaaDoorTie
import Derived.Test.YtgagookcpeejdaaDoorCards
import Derived.SevenTiedAt
namespace Go.Proofs.YtgagookcpeejdaaDoor
open Go.RowKit
set_option linter.unusedSimpArgs false
set_option linter.unusedVariables false
attribute [local go_sem ↓] Go.wp_at_zero Go.wp_at_succ

set_option maxRecDepth 100000 in
set_option maxHeartbeats 4000000 in
theorem walkUpto (l : List Op7) (p : Option Addr) (cap : Nat) (s : List Int) (q : Option Addr) (cap2 : Nat) (x : Addr) (w : World) (hl : ArgOps w p l) (hcap : l.length ≤ cap) (hmax : cap ≤ maxLen) (hs : ArgInts w q s) (hcap2 : s.length ≤ cap2) (hmax2 : cap2 ≤ maxLen)
    (he : w.cell? ⟨0, 0, none⟩ = some (.iface 166 (.pointer (some x)))) (h0 : 0 < w.heap.size) :
    Calls Tryd.prog 3 #[.slice p l.length cap, .slice q s.length cap2] w fun e w' => e = .returned (.bool true) ∧ Below w.heap.size w w' := by
  have HA := hideIt hl
  have HQ := hideIt hs
  clear hl hs
  unfold maxLen at hmax hmax2
  by_cases hn2 : s.length ≤ 1048576
  · by_cases hn : l.length ≤ 1048576
    · have HKL : Hid ((ansU l s).length ≤ 1048576) := Nat.le_trans (ansU_len l s) hn
      go_enter Tryd.func3, Tryd.ntmps3
      go_wp2_with (first | (go_at_call 11; refine (sz_small _ _ _ _ hn).mono ?_; rintro e w' ⟨rfl, hw'⟩; rw [hw']; clear hw'))
      refine (toOpS_any l p cap _ HA.out hn hcap).mono ?_
      rintro e w1 ⟨rfl, hA1, hB1⟩
      have HA1 := hideIt hA1
      have HB1 := hideIt hB1
      clear hA1 hB1
      go_wp2_with fail
      refine (toIntS_any s q cap2 _ (HQ.out.below HB1.out) hn2 hcap2).mono ?_
      rintro e w2 ⟨rfl, hI2, -, hB2⟩
      have HI2 := hideIt hI2
      have HA2 := hideIt (HA1.out.below hB2 HA1.out.1)
      have HB2 := hideIt (Bstep HB1.out hB2)
      clear hI2 hB2 HA1 HB1
      go_wp2_with fail
      refine (specUpto_any l s _ _ _ _ _ HA2.out hn (Nat.le_refl _) HI2.out hn2 (Nat.le_refl _)).mono ?_
      rintro e w3 ⟨vw, rfl, hrw, hB3⟩
      have HRW := hideIt (ownsRow_base (b' := w.heap.size) HB2.out.size hrw)
      have HB3 := hideIt (Bstep HB2.out hB3)
      clear hrw hB3 HA2 HI2 HB2
      go_wp2_with fail
      refine (toOpS_anyF l p cap _ (HA.out.below HB3.out) hn hcap).mono ?_
      rintro e w4 ⟨rfl, hA4, hK4, hB4⟩
      have HA4 := hideIt hA4
      have HK4 := hideIt hK4
      have HR4 := hideIt (rowBelowO HRW.out hB4)
      have HWX : Hid (∀ j, vw.ownBlock = some j → j < w3.heap.size) := fun j e => (HRW.out.lt j e).2
      have hX : w.heap.size ≤ w3.heap.size := HB3.out.size
      have HB4 := hideIt (Bstep HB3.out hB4)
      clear hA4 hK4 hB4 HRW HB3
      generalize hXX : w3.heap.size = X at *
      clear hXX
      go_wp2_with fail
      refine (toIntS_any s q cap2 _ (HQ.out.below HB4.out) hn2 hcap2).mono ?_
      rintro e w5 ⟨rfl, hI5, hJ5, hB5⟩
      have HI5 := hideIt hI5
      have HJ5 := hideIt hJ5
      have HA5 := hideIt (HA4.out.below hB5 HA4.out.1)
      have HK5 := hideIt (HK4.out.below hB5 HA4.out.1)
      have HR5 := hideIt (rowBelowO HR4.out hB5)
      have hXZ : X < w4.heap.size := HA4.out.1
      have HB5 := hideIt (Bstep HB4.out hB5)
      clear hI5 hJ5 hB5 HA4 HK4 HR4 HB4
      generalize hZZ : w4.heap.size = Z at *
      clear hZZ
      go_wp2_with fail
      refine (implUpto_any l s _ _ _ _ x _ HA5.out hn (Nat.le_refl _) HI5.out hn2 (Nat.le_refl _) (errB HB5.out h0 he) (posB HB5.out h0)).mono ?_
      rintro e w6 ⟨vg, rfl, hrg, hB6⟩
      have HA6 := hideIt (HA5.out.below hB6 HA5.out.1)
      have HK6 := hideIt (HK5.out.below hB6 HA5.out.1)
      have HI6 := hideIt (HI5.out.below hB6 HI5.out.1)
      have HJ6 := hideIt (HJ5.out.below hB6 HI5.out.1)
      have HW6 : Hid (QR w w6 (ansU l s) (ansU l s) vw vg X Z) := ⟨rowBelowO HR5.out hB6, ownsRow_base HI5.out.1 hrg, HWX.out, hX, Nat.le_of_lt hXZ, HI6.out.1, Bstep HB5.out hB6⟩
      clear hrg hB6 HA5 HK5 HI5 HJ5 HR5 HB5
      go_wp2_with fail
      refine (eqOpS_rows (ansU l s) _ _ _ _ _ HW6.out.rg HW6.out.rw HKL.out).mono ?_
      rintro e w7 ⟨rfl, hB7⟩
      have HA7 := hideIt (HA6.out.below hB7 HA6.out.1)
      have HK7 := hideIt (HK6.out.below hB7 HA6.out.1)
      have HI7 := hideIt (HI6.out.below hB7 HI6.out.1)
      have HJ7 := hideIt (HJ6.out.below hB7 HI6.out.1)
      have HW7 := hideIt (HW6.out.below hB7)
      clear hB7 HA6 HK6 HI6 HJ6 HW6
      go_wp2_with fail
      refine (toOpS_any l p cap _ (HA.out.below HW7.out.bel) hn hcap).mono ?_
      rintro e w8 ⟨rfl, hA8', hB8⟩
      have HA88 := hideIt hA8'
      have HA8 := hideIt (HA7.out.below hB8 HA7.out.1)
      have HK8 := hideIt (HK7.out.below hB8 HA7.out.1)
      have HI8 := hideIt (HI7.out.below hB8 HI7.out.1)
      have HJ8 := hideIt (HJ7.out.below hB8 HI7.out.1)
      have HW8 := hideIt (HW7.out.below hB8)
      clear hA8' hB8 HA7 HK7 HI7 HJ7 HW7
      go_wp2_with fail
      refine (eqOpS_same l _ _ _ _ _ HA8.out HA88.out hn (Nat.le_refl _) (Nat.le_refl _)).mono ?_
      rintro e w9 ⟨rfl, hB9⟩
      have HK9 := hideIt (HK8.out.below hB9 HA8.out.1)
      have hX9 : X < w9.heap.size := Nat.lt_of_lt_of_le HA8.out.1 hB9.size
      have HI9 := hideIt (HI8.out.below hB9 HI8.out.1)
      have HJ9 := hideIt (HJ8.out.below hB9 HI8.out.1)
      have HW9 := hideIt (HW8.out.below hB9)
      clear hB9 HA8 HA88 HK8 HI8 HJ8 HW8
      go_wp2_with fail
      refine (toIntS_any s q cap2 _ (HQ.out.below HW9.out.bel) hn2 hcap2).mono ?_
      rintro e w10 ⟨rfl, hI10, -, hB10⟩
      have HII := hideIt hI10
      have HK10 := hideIt (HK9.out.below hB10 hX9)
      have hX10 : X < w10.heap.size := Nat.lt_of_lt_of_le hX9 hB10.size
      have HI10 := hideIt (HI9.out.below hB10 HI9.out.1)
      have HJ10 := hideIt (HJ9.out.below hB10 HI9.out.1)
      have HW10 := hideIt (HW9.out.below hB10)
      clear hI10 hB10 HK9 HI9 HJ9 HW9
      go_wp2_with fail
      refine (eqIntS_same s _ _ _ _ _ HI10.out HII.out hn2 (Nat.le_refl _) (Nat.le_refl _)).mono ?_
      rintro e w11 ⟨rfl, hB11⟩
      have HK11 := hideIt (HK10.out.below hB11 hX10)
      have HJ11 := hideIt (HJ10.out.below hB11 HI10.out.1)
      have HW11 := hideIt (HW10.out.below hB11)
      clear hB11 HII HK10 HI10 HJ10 HW10 hX9 hX10
      go_wp2_with fail
      refine (markOpS_any X l.length _ _ HK11.out hn (Nat.le_refl _)).mono ?_
      rintro e w12 ⟨rfl, hO12⟩
      have HJ12 := hideIt (HJ11.out.only hO12 (by omega))
      have HW12 := hideIt (HW11.out.marked hO12 (Nat.le_refl _) (by omega))
      clear hO12 HK11 HJ11 HW11
      go_wp2_with fail
      refine (markIntS_any Z s.length _ (1 + 7 * l.length) _ HJ12.out hn2 (Nat.le_refl _) (by omega)).mono ?_
      rintro e w13 ⟨rfl, hO13⟩
      have HW13 := hideIt (HW12.out.marked hO13 (by omega) (Nat.le_refl _))
      clear hO13 HJ12 HW12
      go_wp2_with fail
      refine (eqOpS_rows (ansU l s) _ _ _ _ _ HW13.out.rg HW13.out.rw HKL.out).mono ?_
      rintro e w14 ⟨rfl, hB14⟩
      have HW14 := hideIt (HW13.out.below hB14)
      clear hB14 HW13
      go_wp2_with fail
      refine (markOpS_row vg (ansU l s).length _ _ _ HW14.out.rg HKL.out).mono ?_
      rintro e w15 ⟨rfl, hr15, hg15⟩
      have HW15 := hideIt (HW14.out.own (Lg' := marksO (ansU l s).length) hg15 (by rw [marksO_len]; exact hr15))
      clear hr15 hg15 HW14
      go_wp2_with fail
      refine (heldOpS_row vg (ansU l s).length _ _ (by have h := HW15.out.rg; rw [marksO_len] at h; exact h) HKL.out).mono ?_
      rintro e w16 ⟨rfl, hB16⟩
      have HW16 := hideIt (HW15.out.below hB16)
      have hkl := HKL.out
      generalize hNN : (ansU l s).length = N at *
      have HNN := hideIt hNN
      clear hNN hB16 HW15
      go_wp2_with fail
      refine (toOpS_any l p cap _ (HA.out.below HW16.out.bel) hn hcap).mono ?_
      rintro e w17 ⟨rfl, hA17, hB17⟩
      have HA17 := hideIt hA17
      have HW17 := hideIt (HW16.out.below hB17)
      clear hA17 hB17 HW16
      go_wp2_with fail
      refine (toIntS_any s q cap2 _ (HQ.out.below HW17.out.bel) hn2 hcap2).mono ?_
      rintro e w18 ⟨rfl, hI18, -, hB18⟩
      have HI18 := hideIt hI18
      have HA18 := hideIt (HA17.out.below hB18 HA17.out.1)
      have HW18 := hideIt (HW17.out.below hB18)
      clear hI18 hB18 HA17 HW17
      go_wp2_with fail
      refine (implUpto_any l s _ _ _ _ x _ HA18.out hn (Nat.le_refl _) HI18.out hn2 (Nat.le_refl _) (errB HW18.out.bel h0 he) (posB HW18.out.bel h0)).mono ?_
      rintro e w19 ⟨vh, rfl, hrh, hB19⟩
      have HRH := hideIt hrh
      have HW19 := hideIt (HW18.out.below hB19)
      clear hrh hB19 HA18 HI18 HW18
      go_wp2_with fail
      refine (eqOpS_rows (ansU l s) _ _ _ _ _ HRH.out HW19.out.rw (by rw [HNN.out]; exact hkl)).mono ?_
      rintro e w20 ⟨rfl, hB20⟩
      have HW20 := hideIt (HW19.out.below hB20)
      clear hB20 HRH HW19
      go_wp2_with fail
      refine (heldOpS_row vg N _ _ (by have h := HW20.out.rg; rw [marksO_len] at h; exact h) hkl).mono ?_
      rintro e w21 ⟨rfl, hB21⟩
      have HW21 := hideIt (HW20.out.below hB21)
      clear hB21
      go_wp2
      go_ret
      exact ⟨rfl, HW21.out.bel⟩
    · go_enter Tryd.func3, Tryd.ntmps3
      go_wp2_with (first | (go_at_call 11; refine (sz_big _ _ _ _ (by omega) (by unfold maxLen; omega)).mono ?_; rintro e w' ⟨rfl, hw'⟩; rw [hw']; clear hw'))
      go_ret
      exact ⟨rfl, Below.refl _ _⟩
  · go_enter Tryd.func3, Tryd.ntmps3
    go_wp2
    go_ret
    exact ⟨rfl, Below.refl _ _⟩
end Go.Proofs.YtgagookcpeejdaaDoor

namespace Go.Proofs.YtgagookcpeejdaaDoor
open Go.ChangeShapes Go.WideShapes Go.ChangeAt Go.RowKit Go.Joins

set_option maxRecDepth 100000 in
theorem fnExactOpsUpto_lifted (os : Os) (started : os.Started) (H : Type) (enc : TypeId × Value → H) :
    ReturnsInHanded {} Tryd.checked os 3 .any (fun w args => (Rows.fnExactOpsUptoSpec.pre enc Tryd.prog Tryd.f3 [] false w args ∧ laidMetH Tryd.prog laid1 w) ∧ sizedMet enc Tryd.prog Tryd.f3 (OpenSpec.ofChange Rows.fnExactOpsUptoSpec) false w args)
      (Rows.fnExactOpsUptoSpec.post enc Tryd.prog Tryd.f3 false true false false) := by
  refine returnsInHanded_of_change_and (C := Tryd.checked) (X := fun w _ => laidMetH Tryd.prog laid1 w) (fun _ _ _ hh h => h.of_heap hh) own started (by kernel_rfl) Tryd.func3
    (ChangeSpec.witness_shaped (enc := enc) (C := Tryd.checked) (os := os) (X := fun w _ => laidMetH Tryd.prog laid1 w) false (World.doorLaid Tryd.prog 28 os) #[.slice none 0 0, .slice none 0 0] 8 rfl (World.shaped_of_RefB (by kernel_rfl) (by kernel_rfl)) (by kernel_rfl) (by kernel_rfl) (by kernel_rfl) (door_met os _)) ?_
  intro W base args ds gs before hval0 hW _ _ hL _
  have hval : ∀ (j : Nat) t v, Tryd.f3.params[j]? = some t → args[j]? = some v → Value.okWide Tryd.prog W .any base t v := hval0
  have hW' := hW
  obtain ⟨p, q, hA0, hV0, rfl, hfz, hnd⟩ := hW
  have hA : DataW.TrodAll enc Tryd.prog W 0 (fun _ => true) true Tryd.f3.params.toList args.toList ds p := hA0
  have hV : DataW.TrodVars enc Tryd.prog W (fun _ => true) [errName] gs q := hV0
  rw [Tryd.params3] at hA hval
  obtain ⟨v0, v1, d0, d1, p0, p1, rfl, rfl, rfl, h0, h1⟩ := trodAll_two hA
  have kk0 := h0
  have lt0 : ∀ x ∈ p0, x.block < W.heap.size := by obtain ⟨m, hm⟩ := kk0; exact DataW.trod_lt m _ _ _ hm
  have kk1 := h1
  have lt1 : ∀ x ∈ p1, x.block < W.heap.size := by obtain ⟨m, hm⟩ := kk1; exact DataW.trod_lt m _ _ _ hm
  obtain ⟨x, hv, hc, hpos⟩ := of_laid hL
  obtain ⟨rfl, rfl⟩ := hV.unique (vars_read1 enc gErr tErr Tryd.underlying83 hv trivial _)
  obtain ⟨pa0, l0, cap0, rfl, hcap0, hmax0, hargs0⟩ := open_ops (hval 0 22 v0 rfl rfl) h0
  obtain ⟨pa1, l1, cap1, rfl, hcap1, hmax1, hargs1⟩ := open_nums (hval 1 23 v1 rfl rfl) h1
  clear hA0 hV0 hval0
  refine (walkUpto l0 pa0 cap0 l1 pa1 cap1 x W hargs0 hcap0 hmax0 hargs1 hcap1 hmax1 hc hpos).mono fun e W' ⟨he, bel⟩ => ?_
  subst he
  exact ⟨_, rfl, _, _, _, [], _, [.cell 0 0], hW', trodAll_mk1 (shut_bool Tryd.underlying4 _), (trodAll_cons_mk (Below.trod laidOut (by kernel_rfl) (of_decide_eq_true (by kernel_rfl)) kk0 bel lt0) (trodAll_cons_mk (Below.trod laidOut (by kernel_rfl) (of_decide_eq_true (by kernel_rfl)) kk1 bel lt1) trodAll_mk0)), vars_read1 enc gErr tErr Tryd.underlying83 (var_kept bel hpos hv) trivial _, bel.frame _, fun h => by cases h⟩

theorem fnExactOpsUpto_row : Rows.FnExactOpsUptoSaid :=
  OpenClaim.holds_of_wide 3 Tryd.f3 rfl rfl rfl rfl rfl rfl rfl ⟨rfl, rfl, rfl, rfl, rfl⟩ rfl rfl rfl rfl rfl (by kernel_rfl) Tryd.func3 (by kernel_rfl)
    (of_decide_eq_true (by kernel_rfl)) (by unfold Func.isWrapper; first | (rw [if_pos (by decide +kernel)]; kernel_rfl) | (rw [if_neg (by decide +kernel)]; exact ⟨rfl, rfl⟩))
    (fun os started H enc _ => fnExactOpsUpto_lifted os started H enc)

/-- THE STATEMENT. -/
theorem fnExactOpsUpto_holds : Rows.FnExactOpsUptoCardSaid :=
  Claim7.holds_tied_plain_at .later [] Rows.fnExactOpsUptoCard.laidKinds true Rows.fnExactOpsUptoCard.stood.harness true
    fnExactOpsUpto_row (fun _ h => by cases h) (by kernel_rfl) (fun _ h => by cases h) fnExactOpsUpto_row_tie rfl ⟨rfl, rfl⟩ (by kernel_rfl) rfl
    (fun f fn hf hfn => by
      obtain rfl : f = 3 := Option.some.inj ((show Tryd.prog.funcNamed Rows.fnExactOpsUptoRow.func = some 3 by kernel_rfl).symm.trans hf) |>.symm
      obtain rfl : fn = Tryd.f3 := (Option.some.inj (Tryd.func3.symm.trans hfn)).symm
      exact ⟨by kernel_rfl, fun j t ht => by
        rw [Tryd.params3] at ht
        have hm : t ∈ [22, 23] := by simpa using Array.mem_of_getElem? ht
        have hall : ([22, 23].all fun u => !Tryd.prog.wantsStandIn u) = true := by kernel_rfl
        exact (show Tryd.prog.wantsStandIn t = false by simpa using List.all_eq_true.1 hall t hm)⟩)
    (by kernel_rfl)
#print axioms fnExactOpsUpto_holds
end Go.Proofs.YtgagookcpeejdaaDoor
