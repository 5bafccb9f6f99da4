/-
  PROVED: at every desk the program's DeskOk answers as the specification's does, and writes nothing into it (the given card of FnExactDeskOk), for every input; the one listed variable, the program's error, reads as its own initialiser lays it.
-/
import Derived.Test.YtficnhlkefpfnaaDoorP5
import Derived.Test.YtficnhlkefpfnaaDoorP4
import Derived.Test.YtficnhlkefpfnaaDoorP6
import Derived.Test.YtficnhlkefpfnaaDoorTie
import Derived.Test.YtficnhlkefpfnaaDoorCards
import Derived.SevenTiedAt
namespace Go.Proofs.YtficnhlkefpfnaaDoor
open Go.RowKit
set_option linter.unusedSimpArgs false
set_option linter.unusedVariables false
attribute [local go_sem ↓] Go.wp_at_zero Go.wp_at_succ

/-- A desk of one's own in its box. -/
structure KX (w W : World) (D g g2 g3 : Nat) (r : Int) (l ws : List Op7) (s : List Int) : Prop where
  box : W.heap[D]? = some (.cells #[.int .i64 r, .slice (some ⟨g, 0, none⟩) l.length l.length, .slice (some ⟨g2, 0, none⟩) ws.length ws.length, .slice (some ⟨g3, 0, none⟩) s.length s.length] 41 (0, 0))
  ops : OpsAt W g l
  wait : OpsAt W g2 ws
  known : IntsAt W g3 s
  bel : Below w.heap.size w W
theorem KX.below {w W W' : World} {D g g2 g3 : Nat} {r : Int} {l ws : List Op7} {s : List Int} (h : KX w W D g g2 g3 r l ws s) (hb : Below W.heap.size W W') : KX w W' D g g2 g3 r l ws s := ⟨blk_below h.box hb, h.ops.below hb h.ops.1, h.wait.below hb h.wait.1, h.known.below hb h.known.1, Bstep h.bel hb⟩

set_option maxRecDepth 100000 in
set_option maxHeartbeats 4000000 in
theorem walkDeskOk (r : Int) (l : List Op7) (p : Option Addr) (cap : Nat) (ws : List Op7) (q : Option Addr) (cap2 : Nat) (s : List Int) (t : Option Addr) (cap3 : Nat) (x : Addr) (w : World) (hl : ArgOps w p l) (hcap : l.length ≤ cap) (hmax : cap ≤ maxLen) (hs : ArgOps w q ws) (hcap2 : ws.length ≤ cap2) (hmax2 : cap2 ≤ maxLen) (hi : ArgInts w t s) (hcap3 : s.length ≤ cap3) (hmax3 : cap3 ≤ maxLen)
    (he : w.cell? ⟨0, 0, none⟩ = some (.iface 200 (.pointer (some x)))) (h0 : 0 < w.heap.size) :
    Calls Tryd.prog 4 #[.agg #[.int .i64 r, .slice p l.length cap, .slice q ws.length cap2, .slice t s.length cap3]] w fun e w' => e = .returned (.bool true) ∧ Below w.heap.size w w' := by
  have HA := hideIt hl
  have HS := hideIt hs
  have HI := hideIt hi
  clear hl hs hi
  have hB0 : Below w.heap.size w (w.alloc (.cells #[.int .i64 r, .slice p l.length cap, .slice q ws.length cap2, .slice t s.length cap3] 35)) := (Below.refl _ _).alloc (Nat.le_refl _) _
  have hD0 : (w.alloc (.cells #[.int .i64 r, .slice p l.length cap, .slice q ws.length cap2, .slice t s.length cap3] 35)).heap[w.heap.size]? = some (.cells #[.int .i64 r, .slice p l.length cap, .slice q ws.length cap2, .slice t s.length cap3] 35 (0, 0)) := World.alloc_heap_new _ _
  have HB0 := hideIt hB0
  have HD0 := hideIt hD0
  clear hB0 hD0
  have facts : ∀ W : World, W.heap[w.heap.size]? = some (.cells #[.int .i64 r, .slice p l.length cap, .slice q ws.length cap2, .slice t s.length cap3] 35 (0, 0)) → W.cell? ⟨w.heap.size, 0, none⟩ = some (.int .i64 r) ∧ W.cell? ⟨w.heap.size, 1, none⟩ = some (.slice p l.length cap) ∧ W.cell? ⟨w.heap.size, 2, none⟩ = some (.slice q ws.length cap2) ∧ W.cell? ⟨w.heap.size, 3, none⟩ = some (.slice t s.length cap3) := fun W h => ⟨(blk_cell h 0).trans rfl, (blk_cell h 1).trans rfl, (blk_cell h 2).trans rfl, (blk_cell h 3).trans rfl⟩
  have HF := hideIt facts
  clear facts
  by_cases hn : l.length + ws.length + s.length ≤ 1048576
  · go_enter Tryd.func4, Tryd.ntmps4
    go_wp2_with fail
    refine (szDesk_ok r p q t l.length cap ws.length cap2 s.length cap3 _ hn).mono ?_
    rintro e w1 ⟨⟨sz, rfl⟩, hb1⟩
    have HB1 := hideIt (Bstep HB0.out hb1)
    have HD1 := hideIt (blk_below HD0.out hb1)
    clear hb1 HB0 HD0
    have hs0 : ¬ ((sz : Int) < 0) := by omega
    obtain ⟨d0, d1, d2, d3⟩ := HF.out _ HD1.out
    have dl := (Array.getElem?_eq_some_iff.1 HD1.out).1
    go_wp2_with fail
    refine (toDesk_any r l ws s p q t cap cap2 cap3 _ (HA.out.below HB1.out) (by omega) hcap (HS.out.below HB1.out) (by omega) hcap2 (HI.out.below HB1.out) (by omega) hcap3).mono ?_
    rintro e w2 ⟨⟨ga, gb, gc, rfl, hga, hgb, hgc⟩, hb2⟩
    have HGA := hideIt hga
    have HGB := hideIt hgb
    have HGC := hideIt hgc
    have HB2 := hideIt (Bstep HB1.out hb2)
    have HD2 := hideIt (blk_below HD1.out hb2)
    clear hga hgb hgc hb2 HB1 HD1 d0 d1 d2 d3 dl
    go_wp2_with fail
    refine (specDesk_any r l ws s ga l.length gb ws.length gc s.length _ HGA.out (by omega) (Nat.le_refl _) HGB.out (by omega) (Nat.le_refl _) HGC.out (by omega) (Nat.le_refl _)).mono ?_
    rintro e w3 ⟨rfl, hb3⟩
    have HB3 := hideIt (Bstep HB2.out hb3)
    have HD3 := hideIt (blk_below HD2.out hb3)
    clear hb3 HGA HGB HGC HB2 HD2
    obtain ⟨d0, d1, d2, d3⟩ := HF.out _ HD3.out
    have dl := (Array.getElem?_eq_some_iff.1 HD3.out).1
    go_wp2_with fail
    refine (toDesk_any r l ws s p q t cap cap2 cap3 _ (HA.out.below HB3.out) (by omega) hcap (HS.out.below HB3.out) (by omega) hcap2 (HI.out.below HB3.out) (by omega) hcap3).mono ?_
    rintro e w4 ⟨⟨ga, gb, gc, rfl, hga, hgb, hgc⟩, hb4⟩
    have HGA := hideIt hga
    have HGB := hideIt hgb
    have HGC := hideIt hgc
    have HB4 := hideIt (Bstep HB3.out hb4)
    have HD4 := hideIt (blk_below HD3.out hb4)
    clear hga hgb hgc hb4 HB3 HD3 d0 d1 d2 d3 dl
    go_wp2_with fail
    have hba : Below w4.heap.size w4 (w4.alloc (.cells #[.int .i64 r, .slice (some ⟨ga, 0, none⟩) l.length l.length, .slice (some ⟨gb, 0, none⟩) ws.length ws.length, .slice (some ⟨gc, 0, none⟩) s.length s.length] 41)) := (Below.refl _ _).alloc (Nat.le_refl _) _
    have HX : Hid (KX w (w4.alloc (.cells #[.int .i64 r, .slice (some ⟨ga, 0, none⟩) l.length l.length, .slice (some ⟨gb, 0, none⟩) ws.length ws.length, .slice (some ⟨gc, 0, none⟩) s.length s.length] 41)) w4.heap.size ga gb gc r l ws s) := ⟨World.alloc_heap_new _ _, HGA.out.below hba HGA.out.1, HGB.out.below hba HGB.out.1, HGC.out.below hba HGC.out.1, Bstep HB4.out hba⟩
    have HD5 := hideIt (blk_below HD4.out hba)
    clear hba HGA HGB HGC HB4 HD4
    generalize w4.alloc (.cells #[.int .i64 r, .slice (some ⟨ga, 0, none⟩) l.length l.length, .slice (some ⟨gb, 0, none⟩) ws.length ws.length, .slice (some ⟨gc, 0, none⟩) s.length s.length] 41) = W5 at *
    generalize w4.heap.size = X at *
    refine (implDesk_any r l ws s ga l.length gb ws.length gc s.length x _ HX.out.ops (by omega) (Nat.le_refl _) HX.out.wait (by omega) (Nat.le_refl _) HX.out.known (by omega) (Nat.le_refl _) (errB HX.out.bel h0 he) (posB HX.out.bel h0)).mono ?_
    rintro e w6 ⟨rfl, hb6⟩
    have HX := hideIt (HX.out.below hb6)
    have HD6 := hideIt (blk_below HD5.out hb6)
    clear hb6 HD5
    obtain ⟨d0, d1, d2, d3⟩ := HF.out _ HD6.out
    have dl := (Array.getElem?_eq_some_iff.1 HD6.out).1
    have x0 := (blk_cell HX.out.box 0).trans rfl
    have x1 := (blk_cell HX.out.box 1).trans rfl
    have x2 := (blk_cell HX.out.box 2).trans rfl
    have x3 := (blk_cell HX.out.box 3).trans rfl
    have xl := (Array.getElem?_eq_some_iff.1 HX.out.box).1
    go_wp2
    have HXd := hideIt (HX.out.below ((Below.refl _ _).drew))
    have HDd : Hid ((World.drew w6).heap[w.heap.size]? = some (.cells #[.int .i64 r, .slice p l.length cap, .slice q ws.length cap2, .slice t s.length cap3] 35 (0, 0))) := HD6.out
    clear HX HD6
    go_region_held3 (fun w' => w'.cell? ⟨X, 0, none⟩ = some (.int .i64 r) ∧ w'.cell? ⟨X, 1, none⟩ = some (.slice (some ⟨ga, 0, none⟩) l.length l.length) ∧ w'.cell? ⟨X, 2, none⟩ = some (.slice (some ⟨gb, 0, none⟩) ws.length ws.length) ∧ w'.cell? ⟨X, 3, none⟩ = some (.slice (some ⟨gc, 0, none⟩) s.length s.length) ∧ w'.cell? ⟨w.heap.size, 0, none⟩ = some (.int .i64 r) ∧ w'.cell? ⟨w.heap.size, 1, none⟩ = some (.slice p l.length cap) ∧ w'.cell? ⟨w.heap.size, 2, none⟩ = some (.slice q ws.length cap2) ∧ w'.cell? ⟨w.heap.size, 3, none⟩ = some (.slice t s.length cap3))
      (first | exact ⟨x0, x1, x2, x3, d0, d1, d2, d3⟩ | exact ⟨y0, y1, y2, y3, z0, z1, z2, z3⟩)
      (first
      | (go_at_call 22; refine (toDesk_any r l ws s p q t cap cap2 cap3 _ (HA.out.below HXd.out.bel) (by omega) hcap (HS.out.below HXd.out.bel) (by omega) hcap2 (HI.out.below HXd.out.bel) (by omega) hcap3).mono ?_; rintro e w7 ⟨⟨ge, gf, gi, rfl, hge, hgf, hgi⟩, hb7⟩; have HXd := hideIt (HXd.out.below hb7); have HDd := hideIt (blk_below HDd.out hb7); have HGE := hideIt hge; have HGF := hideIt hgf; have HGI := hideIt hgi; have y0 := (blk_cell HXd.out.box 0).trans rfl; have y1 := (blk_cell HXd.out.box 1).trans rfl; have y2 := (blk_cell HXd.out.box 2).trans rfl; have y3 := (blk_cell HXd.out.box 3).trans rfl; obtain ⟨z0, z1, z2, z3⟩ := HF.out _ HDd.out; dsimp only)
      | (go_at_call 24; refine (eqDesk_same r l ws s _ _ _ _ _ _ _ HXd.out.ops HXd.out.wait HXd.out.known HGE.out HGF.out HGI.out (by omega) (by omega) (by omega)).mono ?_; rintro e w8 ⟨rfl, hb8⟩; have HXd := hideIt (HXd.out.below hb8); have HDd := hideIt (blk_below HDd.out hb8); have y0 := (blk_cell HXd.out.box 0).trans rfl; have y1 := (blk_cell HXd.out.box 1).trans rfl; have y2 := (blk_cell HXd.out.box 2).trans rfl; have y3 := (blk_cell HXd.out.box 3).trans rfl; obtain ⟨z0, z1, z2, z3⟩ := HF.out _ HDd.out; dsimp only))
    rename_i hHH
    clear hHH
    go_wp2
    go_ret
    exact ⟨rfl, HXd.out.bel⟩
  · go_enter Tryd.func4, Tryd.ntmps4
    go_wp2_with fail
    refine (szDesk_no r p q t l.length cap ws.length cap2 s.length cap3 _ hn (by omega) (by omega) (by omega)).mono ?_
    rintro e w1 ⟨rfl, hb1⟩
    have HB1 := hideIt (Bstep HB0.out hb1)
    go_wp2
    go_ret
    exact ⟨rfl, HB1.out⟩
end Go.Proofs.YtficnhlkefpfnaaDoor

namespace Go.Proofs.YtficnhlkefpfnaaDoor
open Go.ChangeShapes Go.WideShapes Go.ChangeAt Go.RowKit Go.Joins

set_option maxRecDepth 100000 in
theorem fnExactDeskOk_lifted (os : Os) (started : os.Started) (H : Type) (enc : TypeId × Value → H) :
    ReturnsInHanded {} Tryd.checked os 4 .any (fun w args => (Rows.fnExactDeskOkSpec.pre enc Tryd.prog Tryd.f4 [] false w args ∧ laidMetH Tryd.prog laid1 w) ∧ sizedMet enc Tryd.prog Tryd.f4 (OpenSpec.ofChange Rows.fnExactDeskOkSpec) false w args)
      (Rows.fnExactDeskOkSpec.post enc Tryd.prog Tryd.f4 false true false false) := by
  refine returnsInHanded_of_change_and (C := Tryd.checked) (X := fun w _ => laidMetH Tryd.prog laid1 w) (fun _ _ _ hh h => h.of_heap hh) own started (by kernel_rfl) Tryd.func4
    (ChangeSpec.witness_shaped (enc := enc) (C := Tryd.checked) (os := os) (X := fun w _ => laidMetH Tryd.prog laid1 w) false (World.doorLaid Tryd.prog 28 os) #[.agg #[.int .i64 0, .slice none 0 0, .slice none 0 0, .slice none 0 0]] 8 rfl (World.shaped_of_RefB (by kernel_rfl) (by kernel_rfl)) (by kernel_rfl) (by kernel_rfl) (by kernel_rfl) (door_met os _)) ?_
  intro W base args ds gs before hval0 hW _ _ hL _
  have hval : ∀ (j : Nat) t v, Tryd.f4.params[j]? = some t → args[j]? = some v → Value.okWide Tryd.prog W .any base t v := hval0
  have hW' := hW
  obtain ⟨p, q, hA0, hV0, rfl, hfz, hnd⟩ := hW
  have hA : DataW.TrodAll enc Tryd.prog W 0 (fun _ => true) true Tryd.f4.params.toList args.toList ds p := hA0
  have hV : DataW.TrodVars enc Tryd.prog W (fun _ => true) [errName] gs q := hV0
  rw [Tryd.params4] at hA hval
  obtain ⟨v0, d0, rfl, rfl, h0⟩ := trodAll_one hA
  have kk0 := h0
  have lt0 : ∀ x ∈ p, x.block < W.heap.size := by obtain ⟨m, hm⟩ := kk0; exact DataW.trod_lt m _ _ _ hm
  obtain ⟨x, hv, hc, hpos⟩ := of_laid hL
  obtain ⟨rfl, rfl⟩ := hV.unique (vars_read1 enc gErr tErr Tryd.underlying120 hv trivial _)
  obtain ⟨rp0, pa0, l0, cap0, pb0, m0, capb0, pc0, s0, capc0, rfl, ⟨hcap0, hmax0, hargs0⟩, ⟨hcapb0, hmaxb0, hargsb0⟩, ⟨hcapc0, hmaxc0, hargsc0⟩⟩ := open_desk (hval 0 35 v0 rfl rfl) h0
  clear hA0 hV0 hval0
  refine (walkDeskOk rp0 l0 pa0 cap0 m0 pb0 capb0 s0 pc0 capc0 x W hargs0 hcap0 hmax0 hargsb0 hcapb0 hmaxb0 hargsc0 hcapc0 hmaxc0 hc hpos).mono fun e W' ⟨he, bel⟩ => ?_
  subst he
  exact ⟨_, rfl, _, _, _, [], p, [.cell 0 0], hW', trodAll_mk1 (shut_bool Tryd.underlying4 _), trodAll_mk1 (Below.trod laidOut (by kernel_rfl) (of_decide_eq_true (by kernel_rfl)) kk0 bel lt0), vars_read1 enc gErr tErr Tryd.underlying120 (var_kept bel hpos hv) trivial _, bel.frame _, fun h => by cases h⟩

theorem fnExactDeskOk_row : Rows.FnExactDeskOkSaid :=
  OpenClaim.holds_of_wide 4 Tryd.f4 rfl rfl rfl rfl rfl rfl rfl ⟨rfl, rfl, rfl, rfl, rfl⟩ rfl rfl rfl rfl rfl (by kernel_rfl) Tryd.func4 (by kernel_rfl)
    (of_decide_eq_true (by kernel_rfl)) (by unfold Func.isWrapper; first | (rw [if_pos (by decide +kernel)]; kernel_rfl) | (rw [if_neg (by decide +kernel)]; exact ⟨rfl, rfl⟩))
    (fun os started H enc _ => fnExactDeskOk_lifted os started H enc)

/-- THE STATEMENT. -/
theorem fnExactDeskOk_holds : Rows.FnExactDeskOkCardSaid :=
  Claim7.holds_tied_plain_at .later [] Rows.fnExactDeskOkCard.laidKinds true Rows.fnExactDeskOkCard.stood.harness true
    fnExactDeskOk_row (fun _ h => by cases h) (by kernel_rfl) (fun _ h => by cases h) fnExactDeskOk_row_tie rfl ⟨rfl, rfl⟩ (by kernel_rfl) rfl
    (fun f fn hf hfn => by
      obtain rfl : f = 4 := Option.some.inj ((show Tryd.prog.funcNamed Rows.fnExactDeskOkRow.func = some 4 by kernel_rfl).symm.trans hf) |>.symm
      obtain rfl : fn = Tryd.f4 := (Option.some.inj (Tryd.func4.symm.trans hfn)).symm
      exact ⟨by kernel_rfl, fun j t ht => by
        rw [Tryd.params4] at ht
        have hm : t ∈ [35] := by simpa using Array.mem_of_getElem? ht
        have hall : ([35].all fun u => !Tryd.prog.wantsStandIn u) = true := by kernel_rfl
        exact (show Tryd.prog.wantsStandIn t = false by simpa using List.all_eq_true.1 hall t hm)⟩)
    (by kernel_rfl)
#print axioms fnExactDeskOk_holds
end Go.Proofs.YtficnhlkefpfnaaDoor
