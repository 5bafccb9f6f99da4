/-
  PROVED: at every list of things and every id the program's MarkPlace answers as the specification's does, and writes nothing into the list (the given card of FnExactMarkPlace), for every input; the one listed variable, the program's error, reads as its own initialiser lays it.
-/
import Derived.Test.YtkbogcbppenaaaaDoorPackP
import Derived.Test.YtkbogcbppenaaaaDoorPackT
import Derived.Test.YtkbogcbppenaaaaDoorPackO
import Derived.Test.YtkbogcbppenaaaaDoorTie
import Derived.Test.YtkbogcbppenaaaaDoorCards
import Derived.SevenTiedAt
namespace Go.Proofs.YtkbogcbppenaaaaDoor
open Go.RowKit
set_option linter.unusedSimpArgs false
set_option linter.unusedVariables false
attribute [local go_sem ↓] Go.wp_at_zero Go.wp_at_succ

set_option maxRecDepth 100000 in
set_option maxHeartbeats 1000000 in
theorem walkMarkPlace (l : List Op7) (p : Option Addr) (cap : Nat) (r m : Int) (x : Addr) (w : World) (hl : ArgOps w p l) (hcap : l.length ≤ cap) (hmax : cap ≤ maxLen)
    (he : w.cell? ⟨0, 0, none⟩ = some (.iface 191 (.pointer (some x)))) (h0 : 0 < w.heap.size) :
    Calls Tryd.prog 3 #[.slice p l.length cap, .agg #[.int .i64 r, .int .i64 m]] w fun e w' => e = .returned (.bool true) ∧ Below w.heap.size w w' := by
  have HA := hideIt hl
  clear hl
  have HB0 : Hid (Below w.heap.size w (w.alloc (.cells #[.int .i64 r, .int .i64 m] 24))) := (Below.refl _ _).alloc (Nat.le_refl _) _
  by_cases hn : l.length ≤ 1048576
  · go_enter Tryd.func3, Tryd.ntmps3
    go_wp2_with (first | (go_at_call 15; refine (sz_small _ _ _ _ hn).mono ?_; rintro e w' ⟨rfl, rfl⟩))
    go_region_held3 (fun w' => w'.cell? ⟨w.heap.size, 0, none⟩ = some (.int .i64 r) ∧ w'.cell? ⟨w.heap.size, 1, none⟩ = some (.int .i64 m) ∧ w.heap.size < w'.heap.size ∧ Below w.heap.size w w')
      (first | exact keepF hb2 (by with_reducible assumption) | exact ⟨by simp [go_sem], by simp [go_sem], by simp, HB0.out.drew⟩)
      (first
        | (go_at_call 17; refine (toOpS_any l p cap _ (HA.out.below HB0.out.drew) hn hcap).mono ?_; rintro e w1 ⟨rfl, hA1, hb2⟩; have HA1 : Hid (OpsAt w1 (w.heap.size + 1) l) := (by have h := hA1; simp only [World.size_drew, World.size_alloc] at h; exact h); clear hA1)
        | (go_at_call 18; refine (toId_any _ _ _).mono ?_; rintro e w2 ⟨rfl, hb2⟩; have HA2 := hideIt (HA1.out.below hb2 HA1.out.1))
        | (go_at_call 16; refine (specPlace_any l _ _ _ _ _ HA2.out hn (Nat.le_refl _)).mono ?_; rintro e w3 ⟨rfl, hb2⟩; unfold plV))
    rename_i hS
    have HS3 := hideIt hS
    have HB3 := hideIt hS.2.2.2
    clear hS hb2 HA1 HA2
    go_wp2_with fail
    refine (toOpS_any l p cap _ (HA.out.below HB3.out) hn hcap).mono ?_
    rintro e w4 ⟨rfl, hA4, hB4⟩
    have HA4 := hideIt hA4
    obtain ⟨k0, k1, hz4, hB4'⟩ := keepF hB4 HS3.out
    have HB4 := hideIt hB4'
    clear hA4 hB4 hB4' HS3
    go_wp2_with fail
    refine (toId_any _ _ _).mono ?_
    rintro e w5 ⟨rfl, hB5⟩
    have HA5 := hideIt (HA4.out.below hB5 HA4.out.1)
    have HB5 := hideIt (Bstep HB4.out hB5)
    clear hB5 k0 k1 hz4 HA4
    go_wp2_with fail
    refine (implPlace_any l _ _ _ _ x _ HA5.out hn (Nat.le_refl _) (errB HB5.out h0 he) (posB HB5.out h0)).mono ?_
    rintro e w6 ⟨rfl, hB6⟩
    unfold plV
    generalize pN (markP l r m) = pn at *
    generalize pB (markP l r m) = pb at *
    have HA6 := hideIt (HA5.out.below hB6 HA5.out.1)
    have HB6 := hideIt (Bstep HB5.out hB6)
    clear hB6 HA5
    go_wp2_with fail
    refine (toOpS_any l p cap _ (HA.out.below HB6.out) hn hcap).mono ?_
    rintro e w7 ⟨rfl, hA7, hB7⟩
    have HA67 := hideIt (HA6.out.below hB7 HA6.out.1)
    have HA7 := hideIt hA7
    have HB7 := hideIt (Bstep HB6.out hB7)
    clear hA7 hB7
    go_wp2_with fail
    refine (eqOpS_same l _ _ _ _ _ HA67.out HA7.out hn (Nat.le_refl _) (Nat.le_refl _)).mono ?_
    rintro e w8 ⟨rfl, hB8⟩
    have HB8 := hideIt (Bstep HB7.out hB8)
    clear hB8
    go_wp2
    go_ret
    exact ⟨rfl, HB8.out⟩
  · go_enter Tryd.func3, Tryd.ntmps3
    go_wp2_with (first | (go_at_call 15; refine (sz_big _ _ _ _ (by omega) (by omega)).mono ?_; rintro e w' ⟨rfl, rfl⟩))
    go_ret
    exact ⟨rfl, HB0.out⟩
end Go.Proofs.YtkbogcbppenaaaaDoor

namespace Go.Proofs.YtkbogcbppenaaaaDoor
open Go.ChangeShapes Go.WideShapes Go.ChangeAt Go.RowKit Go.Joins

set_option maxRecDepth 100000 in
theorem fnExactMarkPlace_lifted (os : Os) (started : os.Started) (H : Type) (enc : TypeId × Value → H) :
    ReturnsInHanded {} Tryd.checked os 3 .any (fun w args => (Rows.fnExactMarkPlaceSpec.pre enc Tryd.prog Tryd.f3 [] false w args ∧ laidMetH Tryd.prog laid1 w) ∧ sizedMet enc Tryd.prog Tryd.f3 (OpenSpec.ofChange Rows.fnExactMarkPlaceSpec) false w args)
      (Rows.fnExactMarkPlaceSpec.post enc Tryd.prog Tryd.f3 false true false false) := by
  refine returnsInHanded_of_change_and (C := Tryd.checked) (X := fun w _ => laidMetH Tryd.prog laid1 w) (fun _ _ _ hh h => h.of_heap hh) own started (by kernel_rfl) Tryd.func3
    (ChangeSpec.witness_shaped (enc := enc) (C := Tryd.checked) (os := os) (X := fun w _ => laidMetH Tryd.prog laid1 w) false (World.doorLaid Tryd.prog 28 os) #[.slice none 0 0, .agg #[.int .i64 0, .int .i64 0]] 8 rfl (World.shaped_of_RefB (by kernel_rfl) (by kernel_rfl)) (by kernel_rfl) (by kernel_rfl) (by kernel_rfl) (door_met os _)) ?_
  intro W base args ds gs before hval0 hW _ _ hL _
  have hval : ∀ (j : Nat) t v, Tryd.f3.params[j]? = some t → args[j]? = some v → Value.okWide Tryd.prog W .any base t v := hval0
  have hW' := hW
  obtain ⟨p, q, hA0, hV0, rfl, hfz, hnd⟩ := hW
  have hA : DataW.TrodAll enc Tryd.prog W 0 (fun _ => true) true Tryd.f3.params.toList args.toList ds p := hA0
  have hV : DataW.TrodVars enc Tryd.prog W (fun _ => true) [errName] gs q := hV0
  rw [Tryd.params3] at hA hval
  obtain ⟨v0, v1, d0, d1, p0, p1, rfl, rfl, rfl, h0, h1⟩ := trodAll_two hA
  have kk0 := h0
  have lt0 : ∀ x ∈ p0, x.block < W.heap.size := by obtain ⟨m, hm⟩ := kk0; exact DataW.trod_lt m _ _ _ hm
  have kk1 := h1
  have lt1 : ∀ x ∈ p1, x.block < W.heap.size := by obtain ⟨m, hm⟩ := kk1; exact DataW.trod_lt m _ _ _ hm
  obtain ⟨x, hv, hc, hpos⟩ := of_laid hL
  obtain ⟨rfl, rfl⟩ := hV.unique (vars_read1 enc gErr tErr Tryd.underlying88 hv trivial _)
  obtain ⟨pa0, l0, cap0, rfl, hcap0, hmax0, hargs0⟩ := open_ops (hval 0 22 v0 rfl rfl) h0
  obtain ⟨r1, m1, rfl⟩ := open_id (hval 1 24 v1 rfl rfl) h1
  clear hA0 hV0 hval0
  refine (walkMarkPlace l0 pa0 cap0 r1 m1 x W hargs0 hcap0 hmax0 hc hpos).mono fun e W' ⟨he, bel⟩ => ?_
  subst he
  exact ⟨_, rfl, _, _, _, [], _, [.cell 0 0], hW', trodAll_mk1 (shut_bool Tryd.underlying4 _), (trodAll_cons_mk (Below.trod laidOut (by kernel_rfl) (of_decide_eq_true (by kernel_rfl)) kk0 bel lt0) (trodAll_cons_mk (Below.trod laidOut (by kernel_rfl) (of_decide_eq_true (by kernel_rfl)) kk1 bel lt1) trodAll_mk0)), vars_read1 enc gErr tErr Tryd.underlying88 (var_kept bel hpos hv) trivial _, bel.frame _, fun h => by cases h⟩

theorem fnExactMarkPlace_row : Rows.FnExactMarkPlaceSaid :=
  OpenClaim.holds_of_wide 3 Tryd.f3 rfl rfl rfl rfl rfl rfl rfl ⟨rfl, rfl, rfl, rfl, rfl⟩ rfl rfl rfl rfl rfl (by kernel_rfl) Tryd.func3 (by kernel_rfl)
    (of_decide_eq_true (by kernel_rfl)) (by unfold Func.isWrapper; first | (rw [if_pos (by decide +kernel)]; kernel_rfl) | (rw [if_neg (by decide +kernel)]; exact ⟨rfl, rfl⟩))
    (fun os started H enc _ => fnExactMarkPlace_lifted os started H enc)

/-- THE STATEMENT. -/
theorem fnExactMarkPlace_holds : Rows.FnExactMarkPlaceCardSaid :=
  Claim7.holds_tied_plain_at .later [] Rows.fnExactMarkPlaceCard.laidKinds true Rows.fnExactMarkPlaceCard.stood.harness true
    fnExactMarkPlace_row (fun _ h => by cases h) (by kernel_rfl) (fun _ h => by cases h) fnExactMarkPlace_row_tie rfl ⟨rfl, rfl⟩ (by kernel_rfl) rfl
    (fun f fn hf hfn => by
      obtain rfl : f = 3 := Option.some.inj ((show Tryd.prog.funcNamed Rows.fnExactMarkPlaceRow.func = some 3 by kernel_rfl).symm.trans hf) |>.symm
      obtain rfl : fn = Tryd.f3 := (Option.some.inj (Tryd.func3.symm.trans hfn)).symm
      exact ⟨by kernel_rfl, fun j t ht => by
        rw [Tryd.params3] at ht
        have hm : t ∈ [22, 24] := by simpa using Array.mem_of_getElem? ht
        have hall : ([22, 24].all fun u => !Tryd.prog.wantsStandIn u) = true := by kernel_rfl
        exact (show Tryd.prog.wantsStandIn t = false by simpa using List.all_eq_true.1 hall t hm)⟩)
    (by kernel_rfl)
#print axioms fnExactMarkPlace_holds
end Go.Proofs.YtkbogcbppenaaaaDoor
