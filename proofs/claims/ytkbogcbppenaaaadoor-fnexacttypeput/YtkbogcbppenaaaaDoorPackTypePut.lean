/-
  PROVED: at every list of things, everybody, every place and every sign the program's TypePut answers as the specification's does, and writes nothing into the list (the given card of FnExactTypePut), for every input; the one listed variable, the program's error, reads as its own initialiser lays it.
-/
import Derived.Test.YtkbogcbppenaaaaDoorPackJ
import Derived.Test.YtkbogcbppenaaaaDoorPackU
import Derived.Test.YtkbogcbppenaaaaDoorPackO
import Derived.Test.YtkbogcbppenaaaaDoorTie
import Derived.Test.YtkbogcbppenaaaaDoorCards
import Derived.SevenTiedAt
import Derived.Carry
namespace Go.Proofs.YtkbogcbppenaaaaDoor
open Go.RowKit
set_option linter.unusedSimpArgs false
set_option linter.unusedVariables false
attribute [local go_sem ↓] Go.wp_at_zero Go.wp_at_succ

attribute [-go_sem] Instr.storeAt
attribute [local go_sem ↓] store_op_new
set_option maxRecDepth 100000 in
set_option maxHeartbeats 2000000 in
theorem walkTypePut (l : List Op7) (p : Option Addr) (cap : Nat) (r t sg : Int) (x : Addr) (w : World) (hl : ArgOps w p l) (hcap : l.length ≤ cap) (hmax : cap ≤ maxLen)
    (he : w.cell? ⟨0, 0, none⟩ = some (.iface 191 (.pointer (some x)))) (h0 : 0 < w.heap.size) (hwr : wf64 r) (hwt : wf64 t) (hwg : wf64 sg) :
    Calls Tryd.prog 10 #[.slice p l.length cap, .int .i64 r, .int .i64 t, .int .i64 sg] w fun e w' => e = .returned (.bool true) ∧ Below w.heap.size w w' := by
  have HA := hideIt hl
  clear hl
  by_cases hn : l.length ≤ 1048576
  · go_enter Tryd.func10, Tryd.ntmps10
    go_wp2_with (first | (go_at_call 15; refine (sz_small _ _ _ _ hn).mono ?_; rintro e w' ⟨rfl, hw'⟩; rw [hw']; clear hw'))
    refine (toOpS_any l p cap _ HA.out hn hcap).mono ?_
    rintro e w1 ⟨rfl, hA1, hB1⟩
    have HA1 := hideIt hA1
    have HB1 := hideIt hB1
    clear hA1 hB1
    obtain ⟨o, ho⟩ : ∃ o, putA l r t sg = o := ⟨_, rfl⟩
    obtain ⟨zz, hzz⟩ : ∃ zz, mayPut l r t sg = zz := ⟨_, rfl⟩
    have HO := hideIt ho
    have HZ := hideIt hzz
    clear ho hzz
    go_wp2_with fail
    refine (typePut_any l _ _ _ _ _ _ HA1.out hn (Nat.le_refl _)).mono ?_
    rintro e w2 ⟨hd, hB2⟩
    have hE := putA_of hd
    rw [HO.out, HZ.out] at hE
    subst hE
    unfold opV
    have HB2 := hideIt (Bstep HB1.out hB2)
    clear hB2 HA1 HB1 hd
    go_wp2_with fail
    have HX2 : Hid (OX w2.heap.size o w (w2.alloc (.cells #[.int .i64 o.a, .int .i64 o.b, .int .i64 o.k, .int .i64 o.c, .int .i64 o.d, .int .i64 o.s, .int .i64 o.g] 51))) := ⟨World.alloc_heap_new _ _, HB2.out.alloc HB2.out.size _⟩
    refine (toOpS_any l p cap _ (HA.out.below HX2.out.bel) hn hcap).mono ?_
    rintro e w4 ⟨rfl, hA4, hB4⟩
    have HA4 : Hid (OpsAt w4 (w2.heap.size + 1) l) := (by have h := hA4; simp only [World.size_alloc] at h; exact h)
    have HX4 := hideIt (HX2.out.below hB4)
    clear hA4 hB4 HX2
    go_wp2_with fail
    refine (implPut_any l _ _ _ _ _ hwt x _ HA4.out hn (Nat.le_refl _) (errB HX4.out.bel h0 he) (posB HX4.out.bel h0)).mono ?_
    rintro e w6 ⟨hd, hB6⟩
    have hE := putA_of hd
    rw [HO.out, HZ.out] at hE
    subst hE
    unfold opV
    have HA6 := hideIt (HA4.out.below hB6 HA4.out.1)
    have HX6 := hideIt (HX4.out.below hB6)
    have i0 := (blk_cell HX6.out.box 0).trans rfl
    have i1 := (blk_cell HX6.out.box 1).trans rfl
    have i2 := (blk_cell HX6.out.box 2).trans rfl
    have i3 := (blk_cell HX6.out.box 3).trans rfl
    have i4 := (blk_cell HX6.out.box 4).trans rfl
    have i5 := (blk_cell HX6.out.box 5).trans rfl
    have i6 := (blk_cell HX6.out.box 6).trans rfl
    have hbl := (Array.getElem?_eq_some_iff.1 HX6.out.box).1
    have HY6 : Hid (OX w6.heap.size o w (w6.alloc (.cells #[.int .i64 o.a, .int .i64 o.b, .int .i64 o.k, .int .i64 o.c, .int .i64 o.d, .int .i64 o.s, .int .i64 o.g] 51))) := ⟨World.alloc_heap_new _ _, HX6.out.bel.alloc HX6.out.bel.size _⟩
    have HA7 := hideIt (HA6.out.below ((Below.refl _ _).alloc (Nat.le_refl _) (.cells #[.int .i64 o.a, .int .i64 o.b, .int .i64 o.k, .int .i64 o.c, .int .i64 o.d, .int .i64 o.s, .int .i64 o.g] 51)) HA6.out.1)
    clear hB6 HA4 HX4 HA6 hd
    go_wp2_with fail
    refine (eqOp_same _ _ _ _ _ _ _ _).mono ?_
    rintro e w7 ⟨rfl, hB7⟩
    have HB7 := hideIt (Bstep HY6.out.bel hB7)
    have HA8 := hideIt (HA7.out.below hB7 HA7.out.1)
    clear hB7 HA7 HY6 HX6 i0 i1 i2 i3 i4 i5 i6 hbl
    go_wp2_with fail
    refine (toOpS_any l p cap _ (HA.out.below HB7.out) hn hcap).mono ?_
    rintro e w8 ⟨rfl, hA9, hB8⟩
    have HA89 := hideIt (HA8.out.below hB8 HA8.out.1)
    have HA9 := hideIt hA9
    have HB8 := hideIt (Bstep HB7.out hB8)
    clear hA9 hB8
    go_wp2_with fail
    refine (eqOpS_same l _ _ _ _ _ HA89.out HA9.out hn (Nat.le_refl _) (Nat.le_refl _)).mono ?_
    rintro e w9 ⟨rfl, hB9⟩
    have HB9 := hideIt (Bstep HB8.out hB9)
    clear hB9
    go_wp2
    go_ret
    exact ⟨rfl, HB9.out⟩
  · go_enter Tryd.func10, Tryd.ntmps10
    go_wp2_with (first | (go_at_call 15; refine (sz_big _ _ _ _ (by omega) (by omega)).mono ?_; rintro e w' ⟨rfl, rfl⟩))
    go_ret
    exact ⟨rfl, Below.refl _ _⟩
end Go.Proofs.YtkbogcbppenaaaaDoor

namespace Go.Proofs.YtkbogcbppenaaaaDoor
open Go.ChangeShapes Go.WideShapes Go.ChangeAt Go.RowKit Go.Joins

set_option maxRecDepth 100000 in
theorem fnExactTypePut_lifted (os : Os) (started : os.Started) (H : Type) (enc : TypeId × Value → H) :
    ReturnsInHanded {} Tryd.checked os 10 .any (fun w args => (Rows.fnExactTypePutSpec.pre enc Tryd.prog Tryd.f10 [] false w args ∧ laidMetH Tryd.prog laid1 w) ∧ sizedMet enc Tryd.prog Tryd.f10 (OpenSpec.ofChange Rows.fnExactTypePutSpec) false w args)
      (Rows.fnExactTypePutSpec.post enc Tryd.prog Tryd.f10 false true false false) := by
  refine returnsInHanded_of_change_and (C := Tryd.checked) (X := fun w _ => laidMetH Tryd.prog laid1 w) (fun _ _ _ hh h => h.of_heap hh) own started (by kernel_rfl) Tryd.func10
    (ChangeSpec.witness_shaped (enc := enc) (C := Tryd.checked) (os := os) (X := fun w _ => laidMetH Tryd.prog laid1 w) false (World.doorLaid Tryd.prog 28 os) #[.slice none 0 0, .int .i64 0, .int .i64 0, .int .i64 0] 8 rfl (World.shaped_of_RefB (by kernel_rfl) (by kernel_rfl)) (by kernel_rfl) (by kernel_rfl) (by kernel_rfl) (door_met os _)) ?_
  intro W base args ds gs before hval0 hW _ _ hL _
  have hval : ∀ (j : Nat) t v, Tryd.f10.params[j]? = some t → args[j]? = some v → Value.okWide Tryd.prog W .any base t v := hval0
  have hW' := hW
  obtain ⟨p, q, hA0, hV0, rfl, hfz, hnd⟩ := hW
  have hA : DataW.TrodAll enc Tryd.prog W 0 (fun _ => true) true Tryd.f10.params.toList args.toList ds p := hA0
  have hV : DataW.TrodVars enc Tryd.prog W (fun _ => true) [errName] gs q := hV0
  rw [Tryd.params10] at hA hval
  obtain ⟨v0, v1, v2, v3, d0, d1, d2, d3, p0, p1, p2, p3, rfl, rfl, rfl, h0, h1, h2, h3⟩ := trodAll_four hA
  have kk0 := h0
  have lt0 : ∀ x ∈ p0, x.block < W.heap.size := by obtain ⟨m, hm⟩ := kk0; exact DataW.trod_lt m _ _ _ hm
  have kk1 := h1
  have lt1 : ∀ x ∈ p1, x.block < W.heap.size := by obtain ⟨m, hm⟩ := kk1; exact DataW.trod_lt m _ _ _ hm
  have kk2 := h2
  have lt2 : ∀ x ∈ p2, x.block < W.heap.size := by obtain ⟨m, hm⟩ := kk2; exact DataW.trod_lt m _ _ _ hm
  have kk3 := h3
  have lt3 : ∀ x ∈ p3, x.block < W.heap.size := by obtain ⟨m, hm⟩ := kk3; exact DataW.trod_lt m _ _ _ hm
  obtain ⟨x, hv, hc, hpos⟩ := of_laid hL
  obtain ⟨rfl, rfl⟩ := hV.unique (vars_read1 enc gErr tErr Tryd.underlying88 hv trivial _)
  obtain ⟨pa0, l0, cap0, rfl, hcap0, hmax0, hargs0⟩ := open_ops (hval 0 22 v0 rfl rfl) h0
  obtain ⟨n1, rfl, wn1⟩ := open_int (hval 1 3 v1 rfl rfl) h1
  obtain ⟨n2, rfl, wn2⟩ := open_int (hval 2 3 v2 rfl rfl) h2
  obtain ⟨n3, rfl, wn3⟩ := open_int (hval 3 3 v3 rfl rfl) h3
  clear hA0 hV0 hval0
  refine (walkTypePut l0 pa0 cap0 n1 n2 n3 x W hargs0 hcap0 hmax0 hc hpos wn1 wn2 wn3).mono fun e W' ⟨he, bel⟩ => ?_
  subst he
  exact ⟨_, rfl, _, _, _, [], _, [.cell 0 0], hW', trodAll_mk1 (shut_bool Tryd.underlying4 _), (trodAll_cons_mk (Below.trod laidOut (by kernel_rfl) (of_decide_eq_true (by kernel_rfl)) kk0 bel lt0) (trodAll_cons_mk (Below.trod laidOut (by kernel_rfl) (of_decide_eq_true (by kernel_rfl)) kk1 bel lt1) (trodAll_cons_mk (Below.trod laidOut (by kernel_rfl) (of_decide_eq_true (by kernel_rfl)) kk2 bel lt2) (trodAll_cons_mk (Below.trod laidOut (by kernel_rfl) (of_decide_eq_true (by kernel_rfl)) kk3 bel lt3) trodAll_mk0)))), vars_read1 enc gErr tErr Tryd.underlying88 (var_kept bel hpos hv) trivial _, bel.frame _, fun h => by cases h⟩

theorem fnExactTypePut_row : Rows.FnExactTypePutSaid :=
  OpenClaim.holds_of_wide 10 Tryd.f10 rfl rfl rfl rfl rfl rfl rfl ⟨rfl, rfl, rfl, rfl, rfl⟩ rfl rfl rfl rfl rfl (by kernel_rfl) Tryd.func10 (by kernel_rfl)
    (of_decide_eq_true (by kernel_rfl)) (by unfold Func.isWrapper; first | (rw [if_pos (by decide +kernel)]; kernel_rfl) | (rw [if_neg (by decide +kernel)]; exact ⟨rfl, rfl⟩))
    (fun os started H enc _ => fnExactTypePut_lifted os started H enc)

/-- THE STATEMENT. -/
theorem fnExactTypePut_holds : Rows.FnExactTypePutCardSaid :=
  Claim7.holds_tied_plain_at .later [] Rows.fnExactTypePutCard.laidKinds true Rows.fnExactTypePutCard.stood.harness true
    fnExactTypePut_row (fun _ h => by cases h) (by kernel_rfl) (fun _ h => by cases h) fnExactTypePut_row_tie rfl ⟨rfl, rfl⟩ (by kernel_rfl) rfl
    (fun f fn hf hfn => by
      obtain rfl : f = 10 := Option.some.inj ((show Tryd.prog.funcNamed Rows.fnExactTypePutRow.func = some 10 by kernel_rfl).symm.trans hf) |>.symm
      obtain rfl : fn = Tryd.f10 := (Option.some.inj (Tryd.func10.symm.trans hfn)).symm
      exact ⟨by kernel_rfl, fun j t ht => by
        rw [Tryd.params10] at ht
        have hm : t ∈ [22, 3] := by simpa using Array.mem_of_getElem? ht
        have hall : ([22, 3].all fun u => !Tryd.prog.wantsStandIn u) = true := by kernel_rfl
        exact (show Tryd.prog.wantsStandIn t = false by simpa using List.all_eq_true.1 hall t hm)⟩)
    (by kernel_rfl)
#print axioms fnExactTypePut_holds
end Go.Proofs.YtkbogcbppenaaaaDoor
