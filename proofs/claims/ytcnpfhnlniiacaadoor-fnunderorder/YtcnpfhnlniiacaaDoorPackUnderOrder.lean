/-
  PROVED: to be under is an order among drawn signs: none is under itself, of two but one is under the other, who is under who is under a third is under that (the given card of FnUnderOrder), for every input; the one listed variable, the program's error, reads as its own initialiser lays it.
-/
import Derived.Test.YtcnpfhnlniiacaaDoorPackF
import Derived.Test.YtcnpfhnlniiacaaDoorTie
import Derived.Test.YtcnpfhnlniiacaaDoorCards
import Derived.SevenTiedAt
namespace Go.Proofs.YtcnpfhnlniiacaaDoor
open Go.RowKit
set_option linter.unusedSimpArgs false
set_option linter.unusedVariables false
attribute [local go_sem ↓] Go.wp_at_zero Go.wp_at_succ

theorem idIn_wf {L : List Op7} (h : opsB L = true) {r m : Int} (hi : IdIn L r m) : wf64 r ∧ wf64 m := by
  rcases hi with ⟨o, ho, rfl, rfl⟩ | ⟨h1, h2, h3, h4⟩
  · exact ⟨(op_wf h ho).1, (op_wf h ho).2.1⟩
  · exact ⟨wf_small ⟨by omega, by omega⟩, wf_small ⟨by omega, by omega⟩⟩

set_option maxRecDepth 100000 in
set_option maxHeartbeats 4000000 in
theorem walkUnderOrder (w : World) (p p' : Option Addr) (n cap n' cap' : Nat) (h : ArgBytes w p n) (hcap : n ≤ cap) (hmax : cap ≤ maxLen) (h' : ArgBytes w p' n') (hcap' : n' ≤ cap') (hmax' : cap' ≤ maxLen) (x : Addr)
    (he : w.cell? ⟨0, 0, none⟩ = some (.iface 164 (.pointer (some x)))) (h0 : 0 < w.heap.size) :
    Calls Tryd.prog 3 #[.slice p n cap, .slice p' n' cap'] w fun e w' => e = .returned (.bool true) ∧ Below w.heap.size w w' := by
  have H := hideIt h
  clear h h'
  unfold maxLen at *
  by_cases hn : n ≤ 1048576
  · by_cases hn' : n' ≤ 1048576
    · go_enter Tryd.func3, Tryd.ntmps3
      go_wp2_with fail
      refine (drawUnder_any _ p n cap H.out hcap hn).mono ?_
      rintro e w1 ⟨G, c, L, ar, am, br, bm, rfl, hL, hia, hib, hS, hb1⟩
      have HS := hideIt hS
      have HB := hideIt hb1
      have HIA := hideIt hia
      have HIB := hideIt hib
      clear hS hb1 hia hib
      have HWA : Hid (opsB L = true → wf64 ar ∧ wf64 am) := fun h => idIn_wf h HIA.out
      have HWB : Hid (opsB L = true → wf64 br ∧ wf64 bm) := fun h => idIn_wf h HIB.out
      go_wp2_with fail
      have hB0 : Below w1.heap.size w1 ((w1.alloc (.cells #[.int .i64 ar, .int .i64 am] 25)).alloc (.cells #[.int .i64 br, .int .i64 bm] 25)) := ((Below.refl _ _).alloc (Nat.le_refl _) _).alloc (by simp) _
      have HS := hideIt (HS.out.below hB0)
      have HB := hideIt (Bstep HB.out hB0)
      have HXA : Hid (Bx ((w1.alloc (.cells #[.int .i64 ar, .int .i64 am] 25)).alloc (.cells #[.int .i64 br, .int .i64 bm] 25)) w1.heap.size ar am) := (Bx.new w1 ar am _).below ((Below.refl _ _).alloc (Nat.le_refl _) _)
      have HXB : Hid (Bx ((w1.alloc (.cells #[.int .i64 ar, .int .i64 am] 25)).alloc (.cells #[.int .i64 br, .int .i64 bm] 25)) (w1.heap.size + 1) br bm) := by
        have := Bx.new (w1.alloc (.cells #[.int .i64 ar, .int .i64 am] 25)) br bm 25
        rw [World.size_alloc] at this
        exact this
      clear hB0
      generalize (w1.alloc (.cells #[.int .i64 ar, .int .i64 am] 25)).alloc (.cells #[.int .i64 br, .int .i64 bm] 25) = w2 at *
      generalize w1.heap.size + 1 = B at *
      generalize w1.heap.size = A at *
      have a0 := HXA.out.x0
      have a1 := HXA.out.x1
      have b0 := HXB.out.x0
      have b1 := HXB.out.x1
      refine (implUnderO_any L G c _ _ _ _ x _ HS.out.at (by omega) HS.out.cap (errB HB.out h0 he) (posB HB.out h0) (fun h => (HWA.out h).1) (fun h => (HWA.out h).2)).mono ?_
      rintro e wZ ⟨rfl, hbZ⟩
      have HS := hideIt (HS.out.below hbZ)
      have HXA := hideIt (HXA.out.below hbZ)
      have HXB := hideIt (HXB.out.below hbZ)
      have HB := hideIt (Bstep HB.out hbZ)
      clear hbZ a0 a1 b0 b1
      have a0 := HXA.out.x0
      have a1 := HXA.out.x1
      have b0 := HXB.out.x0
      have b1 := HXB.out.x1
      cases hu : undB L ar am br bm
      · have HU := hideIt hu
        clear hu
        go_wp2_with (first
          | (go_at_call 17; refine (specUnder_any L G c _ _ _ _ _ HS.out.at (by omega) HS.out.cap).mono ?_; rintro e wZ ⟨rfl, hbZ⟩; rw [HU.out]; have HS := hideIt (HS.out.below hbZ); have HXA := hideIt (HXA.out.below hbZ); have HXB := hideIt (HXB.out.below hbZ);  have HB := hideIt (Bstep HB.out hbZ); clear hbZ a0 a1 b0 b1; have a0 := HXA.out.x0; have a1 := HXA.out.x1; have b0 := HXB.out.x0; have b1 := HXB.out.x1 ))
        go_ret
        exact ⟨rfl, HB.out⟩
      · have HU := hideIt hu
        clear hu
        have HO := hideIt (und_ops HU.out)
        have HBA : Hid (undB L br bm ar am = false) := und_asym (a := (ar, am)) (b := (br, bm)) HU.out
        have HAA : Hid (undB L ar am ar am = false) := und_irr HO.out (ar, am)
        have hpos : 0 < L.length := by
          obtain ⟨o, ho, _⟩ := und_mem HU.out
          exact List.length_pos_of_mem ho
        have hrem : (n' : Int) % (L.length : Int) = ((n' % L.length : Nat) : Int) := by omega
        have hjl : n' % L.length < L.length := Nat.mod_lt _ hpos
        generalize n' % L.length = j at *
        have hj0 : (0 : Int) ≤ (j : Int) := by omega
        have hj1 : (j : Int) < (L.length : Int) := by omega
        have hzI : ¬ (L.length : Int) = 0 := by omega
        have hpj : L[j]? = some L[j] := by simp [hjl]
        have HTR : Hid (∀ cr cm : Int, undB L br bm cr cm = true → undB L ar am cr cm = true) := fun cr cm h => und_trans (a := (ar, am)) (b := (br, bm)) (c := (cr, cm)) HU.out h
        generalize L[j] = o at *
        cases hv : undB L br bm o.a o.b
        all_goals
          have HV := hideIt hv
          clear hv
          go_wp2_with (first
            | (go_at_call 17; refine (specUnder_any L G c _ _ _ _ _ HS.out.at (by omega) HS.out.cap).mono ?_; rintro e wZ ⟨rfl, hbZ⟩; rw [HU.out]; have HS := hideIt (HS.out.below hbZ); have HXA := hideIt (HXA.out.below hbZ); have HXB := hideIt (HXB.out.below hbZ);  have HB := hideIt (Bstep HB.out hbZ); clear hbZ a0 a1 b0 b1; have a0 := HXA.out.x0; have a1 := HXA.out.x1; have b0 := HXB.out.x0; have b1 := HXB.out.x1; obtain ⟨y0, y1, _⟩ := HS.out.at.2 j o hpj; have hAl := HXA.out.lt; have hBl := HXB.out.lt))
          have hB0 : Below wZ.heap.size wZ (wZ.alloc (.cells #[.int .i64 o.a, .int .i64 o.b] 25)) := (Below.refl _ _).alloc (Nat.le_refl _) _
          have HS := hideIt (HS.out.below hB0)
          have HB := hideIt (Bstep HB.out hB0)
          have HXA := hideIt (HXA.out.below hB0)
          have HXB := hideIt (HXB.out.below hB0)
          have HXC : Hid (Bx (wZ.alloc (.cells #[.int .i64 o.a, .int .i64 o.b] 25)) wZ.heap.size o.a o.b) := Bx.new wZ o.a o.b _
          clear hB0 a0 a1 b0 b1 y0 y1 hAl hBl
          generalize wZ.alloc (.cells #[.int .i64 o.a, .int .i64 o.b] 25) = w5 at *
          generalize wZ.heap.size = C at *
          have a0 := HXA.out.x0
          have a1 := HXA.out.x1
          have b0 := HXB.out.x0
          have b1 := HXB.out.x1
          have c0 := HXC.out.x0
          have c1 := HXC.out.x1
        · go_wp2_with (first
            | (go_at_call 16; refine (implUnderO_any L G c _ _ _ _ x _ HS.out.at (by omega) HS.out.cap (errB HB.out h0 he) (posB HB.out h0) (fun h => by first | exact (HWA.out h).1 | exact (HWB.out h).1) (fun h => by first | exact (HWA.out h).2 | exact (HWB.out h).2)).mono ?_; rintro e wZ ⟨rfl, hbZ⟩; (first | rw [HBA.out] | rw [HAA.out] | rw [HV.out]); have HS := hideIt (HS.out.below hbZ); have HXA := hideIt (HXA.out.below hbZ); have HXB := hideIt (HXB.out.below hbZ);  have HXC := hideIt (HXC.out.below hbZ); have HB := hideIt (Bstep HB.out hbZ); clear hbZ a0 a1 b0 b1 c0 c1; have c0 := HXC.out.x0; have c1 := HXC.out.x1; have a0 := HXA.out.x0; have a1 := HXA.out.x1; have b0 := HXB.out.x0; have b1 := HXB.out.x1 ))
          go_ret
          exact ⟨rfl, HB.out⟩
        · have HAC : Hid (undB L ar am o.a o.b = true) := HTR.out _ _ HV.out
          go_wp2_with (first
            | (go_at_call 16; refine (implUnderO_any L G c _ _ _ _ x _ HS.out.at (by omega) HS.out.cap (errB HB.out h0 he) (posB HB.out h0) (fun h => by first | exact (HWA.out h).1 | exact (HWB.out h).1) (fun h => by first | exact (HWA.out h).2 | exact (HWB.out h).2)).mono ?_; rintro e wZ ⟨rfl, hbZ⟩; (first | rw [HBA.out] | rw [HAA.out] | rw [HV.out] | rw [HAC.out]); have HS := hideIt (HS.out.below hbZ); have HXA := hideIt (HXA.out.below hbZ); have HXB := hideIt (HXB.out.below hbZ);  have HXC := hideIt (HXC.out.below hbZ); have HB := hideIt (Bstep HB.out hbZ); clear hbZ a0 a1 b0 b1 c0 c1; have c0 := HXC.out.x0; have c1 := HXC.out.x1; have a0 := HXA.out.x0; have a1 := HXA.out.x1; have b0 := HXB.out.x0; have b1 := HXB.out.x1 ))
          go_ret
          exact ⟨rfl, HB.out⟩
    · go_enter Tryd.func3, Tryd.ntmps3
      have hn'' : (1048576 : Int) < (n' : Int) := by omega
      go_wp2
      go_ret
      exact ⟨rfl, Below.refl _ _⟩
  · go_enter Tryd.func3, Tryd.ntmps3
    have hn' : (1048576 : Int) < (n : Int) := by omega
    go_wp2
    go_ret
    exact ⟨rfl, Below.refl _ _⟩
end Go.Proofs.YtcnpfhnlniiacaaDoor

namespace Go.Proofs.YtcnpfhnlniiacaaDoor
open Go.ChangeShapes Go.WideShapes Go.ChangeAt Go.RowKit Go.Joins

set_option maxRecDepth 100000 in
theorem liftedFnUnderOrder (os : Os) (started : os.Started) (H : Type) (enc : TypeId × Value → H) :
    ReturnsInHanded {} Tryd.checked os 3 .any (fun w args => (Rows.fnUnderOrderSpec.pre enc Tryd.prog Tryd.f3 [] false w args ∧ laidMetH Tryd.prog laid1 w) ∧ sizedMet enc Tryd.prog Tryd.f3 (OpenSpec.ofChange Rows.fnUnderOrderSpec) false w args)
      (Rows.fnUnderOrderSpec.post enc Tryd.prog Tryd.f3 false true false false) := by
  refine returnsInHanded_of_change_and (C := Tryd.checked) (X := fun w _ => laidMetH Tryd.prog laid1 w) (fun _ _ _ hh h => h.of_heap hh) own started (by kernel_rfl) Tryd.func3
    (ChangeSpec.witness_shaped (enc := enc) (C := Tryd.checked) (os := os) (X := fun w _ => laidMetH Tryd.prog laid1 w) false (World.doorLaid Tryd.prog 28 os) #[.slice none 0 0, .slice none 0 0] 8 rfl (World.shaped_of_RefB (by kernel_rfl) (by kernel_rfl)) (by kernel_rfl) (by kernel_rfl) (by kernel_rfl) (door_met os _)) ?_
  intro W base args ds gs before hval0 hW _ _ hL _
  have hval : ∀ (j : Nat) t v, Tryd.f3.params[j]? = some t → args[j]? = some v → Value.okWide Tryd.prog W .any base t v := hval0
  have hW' := hW
  obtain ⟨p, q, hA0, hV0, rfl, hfz, hnd⟩ := hW
  have hA : DataW.TrodAll enc Tryd.prog W 0 (fun _ => true) true Tryd.f3.params.toList args.toList ds p := hA0
  have hV : DataW.TrodVars enc Tryd.prog W (fun _ => true) [errName] gs q := hV0
  rw [Tryd.params3] at hA hval
  obtain ⟨v0, v1, d0, d1, p0, p1, rfl, rfl, rfl, h0, h1⟩ := trodAll_two hA
  have k0 := h0
  have k1 := h1
  have lt0 : ∀ x ∈ p0, x.block < W.heap.size := by obtain ⟨m, hm⟩ := k0; exact DataW.trod_lt m _ _ _ hm
  have lt1 : ∀ x ∈ p1, x.block < W.heap.size := by obtain ⟨m, hm⟩ := k1; exact DataW.trod_lt m _ _ _ hm
  obtain ⟨x, hv, hc, hpos⟩ := of_laid hL
  obtain ⟨rfl, rfl⟩ := hV.unique (vars_read1 enc gErr tErr Tryd.underlying77 hv trivial _)
  obtain ⟨q0, n0, c0, rfl, hc0, hm0, ha0⟩ := open_bytes (hval 0 22 v0 rfl rfl) h0
  obtain ⟨q1, n1, c1, rfl, hc1, hm1, ha1⟩ := open_bytes (hval 1 22 v1 rfl rfl) h1
  clear hA0 hV0 hval0
  refine (walkUnderOrder W q0 q1 n0 c0 n1 c1 ha0 hc0 hm0 ha1 hc1 hm1 x hc hpos).mono fun e W' ⟨he, bel⟩ => ?_
  subst he
  exact ⟨_, rfl, _, _, _, [], _, [.cell 0 0], hW', trodAll_mk1 (shut_bool Tryd.underlying4 _), (trodAll_cons_mk (Below.trod laidOut (by kernel_rfl) (of_decide_eq_true (by kernel_rfl)) k0 bel lt0) (trodAll_cons_mk (Below.trod laidOut (by kernel_rfl) (of_decide_eq_true (by kernel_rfl)) k1 bel lt1) trodAll_mk0)), vars_read1 enc gErr tErr Tryd.underlying77 (var_kept bel hpos hv) trivial _, bel.frame _, fun h => by cases h⟩

theorem fnUnderOrder_row : Rows.FnUnderOrderSaid :=
  OpenClaim.holds_of_wide 3 Tryd.f3 rfl rfl rfl rfl rfl rfl rfl ⟨rfl, rfl, rfl, rfl, rfl⟩ rfl rfl rfl rfl rfl (by kernel_rfl) Tryd.func3 (by kernel_rfl)
    (of_decide_eq_true (by kernel_rfl)) (by unfold Func.isWrapper; first | (rw [if_pos (by decide +kernel)]; kernel_rfl) | (rw [if_neg (by decide +kernel)]; exact ⟨rfl, rfl⟩))
    (fun os started H enc _ => liftedFnUnderOrder os started H enc)

/-- THE STATEMENT. -/
theorem fnUnderOrder_holds : Rows.FnUnderOrderCardSaid :=
  Claim7.holds_tied_plain_at .later [] Rows.fnUnderOrderCard.laidKinds true Rows.fnUnderOrderCard.stood.harness true
    fnUnderOrder_row (fun _ h => by cases h) (by kernel_rfl) (fun _ h => by cases h) fnUnderOrder_row_tie rfl ⟨rfl, rfl⟩ (by kernel_rfl) rfl
    (fun f fn hf hfn => by
      obtain rfl : f = 3 := Option.some.inj ((show Tryd.prog.funcNamed Rows.fnUnderOrderRow.func = some 3 by kernel_rfl).symm.trans hf) |>.symm
      obtain rfl : fn = Tryd.f3 := (Option.some.inj (Tryd.func3.symm.trans hfn)).symm
      exact ⟨by kernel_rfl, fun j t ht => by
        rw [Tryd.params3] at ht
        have hm : t ∈ [22, 22] := by simpa using Array.mem_of_getElem? ht
        have hall : ([22, 22].all fun u => !Tryd.prog.wantsStandIn u) = true := by kernel_rfl
        exact (show Tryd.prog.wantsStandIn t = false by simpa using List.all_eq_true.1 hall t hm)⟩)
    (by kernel_rfl)
#print axioms fnUnderOrder_holds
end Go.Proofs.YtcnpfhnlniiacaaDoor
