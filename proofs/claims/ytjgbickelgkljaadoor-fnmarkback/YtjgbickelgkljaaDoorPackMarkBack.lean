/-
  PROVED: the place of a mark that the program's MarkAt tells is the place at which it was asked for, whatever bytes what was done and the place are drawn from; and MarkAt answers as the specification's does (the given card of FnMarkBack), for every input; the one listed variable, the program's error, reads as its own initialiser lays it.
-/
import Derived.Test.YtjgbickelgkljaaDoorPackD
import Derived.Test.YtjgbickelgkljaaDoorPackF
import Derived.Test.YtjgbickelgkljaaDoorPackP
import Derived.Test.YtjgbickelgkljaaDoorPackO
import Derived.Test.YtjgbickelgkljaaDoorTie
import Derived.Test.YtjgbickelgkljaaDoorCards
import Derived.SevenTiedAt
namespace Go.Proofs.YtjgbickelgkljaaDoor
open Go.RowKit
set_option linter.unusedSimpArgs false
set_option linter.unusedVariables false
attribute [local go_sem ↓] Go.wp_at_zero Go.wp_at_succ

/-- A box with an id in it, in memory that has grown. -/
structure IX (b : Nat) (u v : Int) (w W : World) : Prop where
  box : W.heap[b]? = some (.cells #[.int .i64 u, .int .i64 v] 31 (0, 0))
  bel : Below w.heap.size w W
theorem IX.below {b : Nat} {u v : Int} {w W W' : World} (h : IX b u v w W) (hb : Below W.heap.size W W') : IX b u v w W' := ⟨blk_below h.box hb, Bstep h.bel hb⟩

set_option maxRecDepth 100000 in
set_option maxHeartbeats 4000000 in
theorem walkMarkBack (w : World) (p : Option Addr) (n cap : Nat) (h : ArgBytes w p n) (hcap : n ≤ cap) (hmax : cap ≤ maxLen) (x : Addr)
    (he : w.cell? ⟨0, 0, none⟩ = some (.iface 183 (.pointer (some x)))) (h0 : 0 < w.heap.size) :
    Calls Tryd.prog 11 #[.slice p n cap] w fun e w' => e = .returned (.bool true) ∧ Below w.heap.size w w' := by
  have H := hideIt h
  clear h
  by_cases hn : n ≤ 1048576
  · go_enter Tryd.func11, Tryd.ntmps11
    go_wp2_with fail
    refine (drawMarkAt_any _ p n cap H.out hcap hn).mono ?_
    rintro e w1 ⟨G, c, _, t, rfl, ht, ⟨L, rfl, hL, hS⟩, hb1⟩
    have HS := hideIt hS
    have HB := hideIt hb1
    have hwf : wf64 t := wf_small (by omega)
    clear hS hb1
    go_wp2_with fail
    refine (specAt_any L G c t _ HS.out.at (by omega) HS.out.cap).mono ?_
    rintro e w2 ⟨rfl, hb2⟩
    have HS2 := hideIt (HS.out.below hb2)
    have HB2 := hideIt (Bstep HB.out hb2)
    clear hb2 HS HB
    cases hat : atB L t
    · have HN := hideIt (atV_no hat)
      clear hat
      rw [HN.out]
      go_wp2_with fail
      have HX2 : Hid (IX w2.heap.size 0 0 w (w2.alloc (.cells #[.int .i64 0, .int .i64 0] 31))) := ⟨World.alloc_heap_new _ _, HB2.out.alloc HB2.out.size _⟩
      have HS3 := hideIt (HS2.out.below ((Below.refl _ _).alloc (Nat.le_refl _) (.cells #[.int .i64 0, .int .i64 0] 31)))
      refine (implAt_any L G c t hwf x _ HS3.out.at (by omega) HS3.out.cap (errB HX2.out.bel h0 he) (posB HX2.out.bel h0)).mono ?_
      rintro e w4 ⟨rfl, hb4⟩
      rw [HN.out]
      have HX4 := hideIt (HX2.out.below hb4)
      have i0 := (blk_cell HX4.out.box 0).trans rfl
      have i1 := (blk_cell HX4.out.box 1).trans rfl
      have hlt := (Array.getElem?_eq_some_iff.1 HX4.out.box).1
      clear hb4 HX2 HS3
      go_wp2
      go_ret
      exact ⟨rfl, HX4.out.bel.alloc HX4.out.bel.size _⟩
    · obtain ⟨la, lb, lk, hlf⟩ : ∃ la lb lk, leftOf L t.toNat = (la, lb, lk) := ⟨_, _, _, rfl⟩
      have HN := hideIt (atV_yes hat hlf)
      have hpp : opsB L = true ∧ inB t 0 (shownI (lvs L)).length = true := by
        unfold atB at hat
        exact (Bool.and_eq_true _ _).mp hat
      have htn : 0 ≤ t ∧ t ≤ (shownI (lvs L)).length := by have h := hpp.2; simp [inB] at h; exact h
      have HMB : Hid (markP L la lb = some t.toNat) := by
        have h := mark_back hpp.1 (t := t.toNat) (by omega)
        rw [hlf] at h
        exact h
      have HTN : Hid (((t.toNat : Nat) : Int) = t) := Int.toNat_of_nonneg htn.1
      clear hat hlf hpp htn
      rw [HN.out]
      go_wp2_with fail
      have HX2 : Hid (IX w2.heap.size la lb w (w2.alloc (.cells #[.int .i64 la, .int .i64 lb] 31))) := ⟨World.alloc_heap_new _ _, HB2.out.alloc HB2.out.size _⟩
      have HS3 := hideIt (HS2.out.below ((Below.refl _ _).alloc (Nat.le_refl _) (.cells #[.int .i64 la, .int .i64 lb] 31)))
      refine (implAt_any L G c t hwf x _ HS3.out.at (by omega) HS3.out.cap (errB HX2.out.bel h0 he) (posB HX2.out.bel h0)).mono ?_
      rintro e w4 ⟨rfl, hb4⟩
      rw [HN.out]
      have HX4 := hideIt (HX2.out.below hb4)
      have HS4 := hideIt (HS3.out.below hb4)
      have i0 := (blk_cell HX4.out.box 0).trans rfl
      have i1 := (blk_cell HX4.out.box 1).trans rfl
      have hlt := (Array.getElem?_eq_some_iff.1 HX4.out.box).1
      clear hb4 HX2 HS3
      go_wp2_with fail
      have HBa : Hid (Below w4.heap.size w4 (w4.alloc (.cells #[.int .i64 la, .int .i64 lb] 31))) := (Below.refl _ _).alloc (Nat.le_refl _) _
      have HS5 := hideIt (HS4.out.below HBa.out)
      have HB5 := hideIt (Bstep HX4.out.bel HBa.out)
      clear i0 i1 hlt HX4 HS4 HBa
      refine (implPlace_any L G c la lb x _ HS5.out.at (by omega) HS5.out.cap (errB HB5.out h0 he) (posB HB5.out h0)).mono ?_
      rintro e w6 ⟨rfl, hb6⟩
      rw [HMB.out]
      unfold plV
      simp only [pN, pB]
      rw [HTN.out]
      have HB6 := hideIt (Bstep HB5.out hb6)
      clear hb6 HS5 HB5
      go_wp2
      go_ret
      exact ⟨rfl, HB6.out⟩
  · go_enter Tryd.func11, Tryd.ntmps11
    go_wp2
    go_ret
    exact ⟨rfl, Below.refl _ _⟩
end Go.Proofs.YtjgbickelgkljaaDoor

namespace Go.Proofs.YtjgbickelgkljaaDoor
open Go.ChangeShapes Go.WideShapes Go.ChangeAt Go.RowKit Go.Joins

set_option maxRecDepth 100000 in
theorem liftedFnMarkBack (os : Os) (started : os.Started) (H : Type) (enc : TypeId × Value → H) :
    ReturnsInHanded {} Tryd.checked os 11 .any (fun w args => (Rows.fnMarkBackSpec.pre enc Tryd.prog Tryd.f11 [] false w args ∧ laidMetH Tryd.prog laid1 w) ∧ sizedMet enc Tryd.prog Tryd.f11 (OpenSpec.ofChange Rows.fnMarkBackSpec) false w args)
      (Rows.fnMarkBackSpec.post enc Tryd.prog Tryd.f11 false true false false) := by
  refine returnsInHanded_of_change_and (C := Tryd.checked) (X := fun w _ => laidMetH Tryd.prog laid1 w) (fun _ _ _ hh h => h.of_heap hh) own started (by kernel_rfl) Tryd.func11
    (ChangeSpec.witness_shaped (enc := enc) (C := Tryd.checked) (os := os) (X := fun w _ => laidMetH Tryd.prog laid1 w) false (World.doorLaid Tryd.prog 28 os) #[.slice none 0 0] 8 rfl (World.shaped_of_RefB (by kernel_rfl) (by kernel_rfl)) (by kernel_rfl) (by kernel_rfl) (by kernel_rfl) (door_met os _)) ?_
  intro W base args ds gs before hval0 hW _ _ hL _
  have hval : ∀ (j : Nat) t v, Tryd.f11.params[j]? = some t → args[j]? = some v → Value.okWide Tryd.prog W .any base t v := hval0
  have hW' := hW
  obtain ⟨p, q, hA0, hV0, rfl, hfz, hnd⟩ := hW
  have hA : DataW.TrodAll enc Tryd.prog W 0 (fun _ => true) true Tryd.f11.params.toList args.toList ds p := hA0
  have hV : DataW.TrodVars enc Tryd.prog W (fun _ => true) [errName] gs q := hV0
  rw [Tryd.params11] at hA hval
  obtain ⟨v0, d0, rfl, rfl, h0⟩ := trodAll_one hA
  have k0 := h0
  have lt0 : ∀ x ∈ p, x.block < W.heap.size := by obtain ⟨m, hm⟩ := k0; exact DataW.trod_lt m _ _ _ hm
  obtain ⟨x, hv, hc, hpos⟩ := of_laid hL
  obtain ⟨rfl, rfl⟩ := hV.unique (vars_read1 enc gErr tErr Tryd.underlying83 hv trivial _)
  obtain ⟨q0, n0, c0, rfl, hc0, hm0, ha0⟩ := open_bytes (hval 0 22 v0 rfl rfl) h0
  clear hA0 hV0 hval0
  refine (walkMarkBack W q0 n0 c0 ha0 hc0 hm0 x hc hpos).mono fun e W' ⟨he, bel⟩ => ?_
  subst he
  exact ⟨_, rfl, _, _, _, [], p, [.cell 0 0], hW', trodAll_mk1 (shut_bool Tryd.underlying4 _), trodAll_mk1 (Below.trod laidOut (by kernel_rfl) (of_decide_eq_true (by kernel_rfl)) k0 bel lt0), vars_read1 enc gErr tErr Tryd.underlying83 (var_kept bel hpos hv) trivial _, bel.frame _, fun h => by cases h⟩

theorem fnMarkBack_row : Rows.FnMarkBackSaid :=
  OpenClaim.holds_of_wide 11 Tryd.f11 rfl rfl rfl rfl rfl rfl rfl ⟨rfl, rfl, rfl, rfl, rfl⟩ rfl rfl rfl rfl rfl (by kernel_rfl) Tryd.func11 (by kernel_rfl)
    (of_decide_eq_true (by kernel_rfl)) (by unfold Func.isWrapper; first | (rw [if_pos (by decide +kernel)]; kernel_rfl) | (rw [if_neg (by decide +kernel)]; exact ⟨rfl, rfl⟩))
    (fun os started H enc _ => liftedFnMarkBack os started H enc)

/-- THE STATEMENT. -/
theorem fnMarkBack_holds : Rows.FnMarkBackCardSaid :=
  Claim7.holds_tied_plain_at .later [] Rows.fnMarkBackCard.laidKinds true Rows.fnMarkBackCard.stood.harness true
    fnMarkBack_row (fun _ h => by cases h) (by kernel_rfl) (fun _ h => by cases h) fnMarkBack_row_tie rfl ⟨rfl, rfl⟩ (by kernel_rfl) rfl
    (fun f fn hf hfn => by
      obtain rfl : f = 11 := Option.some.inj ((show Tryd.prog.funcNamed Rows.fnMarkBackRow.func = some 11 by kernel_rfl).symm.trans hf) |>.symm
      obtain rfl : fn = Tryd.f11 := (Option.some.inj (Tryd.func11.symm.trans hfn)).symm
      exact ⟨by kernel_rfl, fun j t ht => by
        rw [Tryd.params11] at ht
        have hm : t ∈ [22] := by simpa using Array.mem_of_getElem? ht
        have hall : ([22].all fun u => !Tryd.prog.wantsStandIn u) = true := by kernel_rfl
        exact (show Tryd.prog.wantsStandIn t = false by simpa using List.all_eq_true.1 hall t hm)⟩)
    (by kernel_rfl)
#print axioms fnMarkBack_holds
end Go.Proofs.YtjgbickelgkljaaDoor
