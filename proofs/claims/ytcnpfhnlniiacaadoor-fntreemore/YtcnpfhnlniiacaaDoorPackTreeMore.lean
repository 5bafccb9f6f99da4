/-
  PROVED: with something more that can be done all signs of drawn things stand in the order in which they stood, and what was gone is (the given card of FnTreeMore), for every input; the one listed variable, the program's error, reads as its own initialiser lays it.
-/
import Derived.Test.YtcnpfhnlniiacaaDoorPackW
import Derived.Test.YtcnpfhnlniiacaaDoorPackF
import Derived.Test.YtcnpfhnlniiacaaDoorPackC
import Derived.Test.YtcnpfhnlniiacaaDoorTie
import Derived.Test.YtcnpfhnlniiacaaDoorCards
import Derived.SevenTiedAt
namespace Go.Proofs.YtcnpfhnlniiacaaDoor
open Go.RowKit
set_option linter.unusedSimpArgs false
set_option linter.unusedVariables false
attribute [local go_sem ↓] Go.wp_at_zero Go.wp_at_succ

/-- Things, a thing in its box. -/
structure MW (w W : World) (G c O : Nat) (L : List Op7) (o : Op7) : Prop where
  own : OwnOps W w.heap.size G c L
  box : OpBlk W O o.a o.b o.k o.c o.d o.s o.g
  bel : Below w.heap.size w W
theorem OpBlk.below {W W' : World} {g : Nat} {a b k c d s t : Int} (h : OpBlk W g a b k c d s t) (hb : Below W.heap.size W W') : OpBlk W' g a b k c d s t := by
  obtain ⟨hc, hf⟩ := bcell hb
  exact ⟨(hc _ _ h.lt).trans h.x0, (hc _ _ h.lt).trans h.x1, (hc _ _ h.lt).trans h.x2, (hc _ _ h.lt).trans h.x3, (hc _ _ h.lt).trans h.x4, (hc _ _ h.lt).trans h.x5, (hc _ _ h.lt).trans h.x6, fun j => (hf _ _ h.lt).trans (h.fz j), Nat.lt_of_lt_of_le h.lt hb.size⟩
theorem MW.below {w W W' : World} {G c O : Nat} {L : List Op7} {o : Op7} (h : MW w W G c O L o) (hb : Below W.heap.size W W') : MW w W' G c O L o := ⟨h.own.below hb, h.box.below hb, Bstep h.bel hb⟩
theorem okW_parts {l : List Op7} {o : Op7} (h : okW l o = true) : opsB l = true ∧ findI l o.a o.b < 0 ∧ opsB (withL l o) = true := by
  unfold okW at h
  simp only [Bool.and_eq_true, decide_eq_true_eq] at h
  exact ⟨h.1, h.2.1, h.2.2⟩

set_option maxRecDepth 100000 in
set_option maxHeartbeats 8000000 in
theorem walkTreeMore (w : World) (p : Option Addr) (n cap : Nat) (h : ArgBytes w p n) (hcap : n ≤ cap) (hmax : cap ≤ maxLen) (x : Addr)
    (he : w.cell? ⟨0, 0, none⟩ = some (.iface 164 (.pointer (some x)))) (h0 : 0 < w.heap.size) :
    Calls Tryd.prog 10 #[.slice p n cap] w fun e w' => e = .returned (.bool true) ∧ Below w.heap.size w w' := by
  have H := hideIt h
  clear h
  unfold maxLen at *
  by_cases hn : n ≤ 1048576
  · go_enter Tryd.func10, Tryd.ntmps10
    go_wp2_with fail
    refine (drawWith_any _ p n cap H.out hcap hn).mono ?_
    rintro e w1 ⟨G, c, L, o, rfl, hL, hS, hb1⟩
    unfold opV
    have HS := hideIt hS
    have HB := hideIt hb1
    clear hS hb1
    go_wp2_with fail
    have HM : Hid (MW w (w1.alloc (.cells #[.int .i64 o.a, .int .i64 o.b, .int .i64 o.k, .int .i64 o.c, .int .i64 o.d, .int .i64 o.s, .int .i64 o.g] 30)) G c w1.heap.size L o) := ⟨HS.out.below ((Below.refl _ _).alloc (Nat.le_refl _) _), ⟨by simp [go_sem], by simp [go_sem], by simp [go_sem], by simp [go_sem], by simp [go_sem], by simp [go_sem], by simp [go_sem], fun j => by simp [go_sem], by simp⟩, HB.out.alloc HB.out.size _⟩
    clear HS HB
    generalize w1.alloc (.cells #[.int .i64 o.a, .int .i64 o.b, .int .i64 o.k, .int .i64 o.c, .int .i64 o.d, .int .i64 o.s, .int .i64 o.g] 30) = W1 at *
    generalize w1.heap.size = O at *
    have hLw : (ansW L o).length ≤ 1000 := by
      cases hz : okW L o
      · rw [ansW_no hz]; simp
      · rw [ansW_yes hz]; have := withL_lenW L o; omega
    refine (specWith_any L G c o _ HM.out.own.at (by omega) HM.out.own.cap).mono ?_
    rintro e w2 ⟨vw, rfl, hrw, hb2⟩
    have HRW := hideIt (ownsRow_base HM.out.bel.size hrw)
    have HM := hideIt (HM.out.below hb2)
    clear hrw hb2
    obtain ⟨x0, x1, x2, x3, x4, x5, x6, xf, xl⟩ := HM.out.box
    go_wp2_with fail
    refine (implWith_any L G c o x _ HM.out.own.at (by omega) HM.out.own.cap (errB HM.out.bel h0 he) (posB HM.out.bel h0)).mono ?_
    rintro e w3 ⟨vg, rfl, hrg, hb3⟩
    have HRG := hideIt (ownsRow_base HM.out.bel.size hrg)
    have HRW := hideIt (rowKeep HRW.out hb3)
    have HM := hideIt (HM.out.below hb3)
    clear hrg hb3 x0 x1 x2 x3 x4 x5 x6 xf xl
    cases hz : okW L o
    · have HZ := hideIt hz
      clear hz
      go_wp2_with (first
        | (go_at_call 37; refine (ltOps_rows (ansW L o) _ _ _ _ _ HRG.out HRW.out (by omega)).mono ?_; rintro e w4 ⟨rfl, hb4⟩; have HRG := hideIt (rowKeep HRG.out hb4); have HRW := hideIt (rowKeep HRW.out hb4); have HM := hideIt (HM.out.below hb4); clear hb4))
      go_ret
      exact ⟨rfl, HM.out.bel⟩
    · have HZ := hideIt hz
      obtain ⟨hop, hfi, how⟩ := okW_parts hz
      have HOP := hideIt hop
      have HOW := hideIt how
      have hE : ansW L o = withL L o := ansW_yes hz
      obtain ⟨pos, hpos⟩ := stands_more hop how (withL_sub hop (find_new hfi))
      have HPOS := hideIt hpos
      clear hz hop hfi how hpos
      rw [hE] at HRW HRG hLw
      clear hE
      have hwl1 : 0 < (withL L o).length := by unfold withL; simp only [List.length_append, List.length_cons, List.length_nil]; omega
      generalize withL L o = M at *
      obtain ⟨qg, cg, rfl, hqg⟩ := oprow HRG.out
      obtain ⟨Gx, rfl, hcx, _, _, _⟩ := hqg hwl1
      clear hqg
      have HOX : Hid (OwnOps w3 w.heap.size Gx cg M) := HRG.out
      go_wp2_with (first
        | (go_at_call 37; refine (ltOps_rows M _ _ _ _ _ HRG.out HRW.out (by omega)).mono ?_; rintro e w4 ⟨rfl, hb4⟩; have HRG := hideIt (rowKeep HRG.out hb4); have HRW := hideIt (rowKeep HRW.out hb4); have HOX := hideIt (HOX.out.below hb4); have HM := hideIt (HM.out.below hb4); clear hb4))
      refine (implLeaves_any L G c x _ HM.out.own.at (by omega) HM.out.own.cap (errB HM.out.bel h0 he) (posB HM.out.bel h0)).mono ?_
      rintro e w5 ⟨va, rfl, hra, hb5⟩
      have hst : standL L = allO L := by unfold standL; rw [if_pos HOP.out]
      rw [hst] at hra
      have HA := hideIt (ownsRow_base HM.out.bel.size hra)
      have HOX := hideIt (HOX.out.below hb5)
      have HM := hideIt (HM.out.below hb5)
      clear hra hb5 hst
      go_wp2_with fail
      refine (implLeaves_any M Gx cg x _ HOX.out.at (by omega) HOX.out.cap (errB HM.out.bel h0 he) (posB HM.out.bel h0)).mono ?_
      rintro e w6 ⟨vb, rfl, hrb, hb6⟩
      have hst : standL M = allO M := by unfold standL; rw [if_pos HOW.out]
      rw [hst] at hrb
      have HBB := hideIt (ownsRow_base HM.out.bel.size hrb)
      have HA := hideIt (rowKeep HA.out hb6)
      have HM := hideIt (HM.out.below hb6)
      clear hrb hb6 hst HRG HRW HOX
      have hFa : (lfs L (allO L)).length ≤ 1000 := by rw [lfs_len]; have := all_len HOP.out; omega
      have hFb : (lfs M (allO M)).length ≤ 1000 := by rw [lfs_len]; have := all_len HOW.out; omega
      generalize lfs L (allO L) = F at *
      generalize lfs M (allO M) = F' at *
      obtain ⟨qa, ca, rfl, hqa⟩ := lf_cases HA.out
      obtain ⟨qb, cb, rfl, hqb⟩ := lf_cases HBB.out
      have HQA : Hid (0 < F.length → ∃ g, qa = some ⟨g, 0, none⟩) := fun h => by obtain ⟨g, e, _⟩ := hqa h; exact ⟨g, e⟩
      have HQB : Hid (0 < F'.length → ∃ g, qb = some ⟨g, 0, none⟩) := fun h => by obtain ⟨g, e, _⟩ := hqb h; exact ⟨g, e⟩
      clear hqa hqb
      go_wp2
      go_loopw [11] (fun i wr => ∃ k : Nat, k ≤ F.length ∧ i = .int .i64 k ∧ wr.ownsRow w.heap.size 41 4 (.slice qa F.length ca) F.length (lfCells F) ∧ wr.ownsRow w.heap.size 41 4 (.slice qb F'.length cb) F'.length (lfCells F') ∧ Below w.heap.size w wr) (fun i _ => F.length - (intOf i).toNat)
      case atStart => exact ⟨0, Nat.zero_le _, rfl, HA.out, HBB.out, HM.out.bel⟩
      case round =>
        clear HA HBB HM
        obtain ⟨k, hk, rfl, hA, hB', hB⟩ := hrel
        have HA := hideIt hA
        have HBB := hideIt hB'
        have HB := hideIt hB
        clear hA hB' hB
        by_cases hlt : k < F.length
        · have hlt' : (k : Int) < (F.length : Int) := by omega
          have hk0 : (0 : Int) ≤ (k : Int) := by omega
          have hpk : F[k]? = some F[k] := by simp [hlt]
          obtain ⟨hpl, hat, hgone, _⟩ := HPOS.out k hlt
          have HAT := hideIt hat
          have hpq : F'[pos k]? = some F'[pos k] := by simp [hpl]
          obtain ⟨ga, rfl⟩ := HQA.out (by omega)
          obtain ⟨gb, rfl⟩ := HQB.out (by omega)
          have hp1 : ((pos k : Nat) : Int) < (F'.length : Int) := by omega
          have hp0 : (0 : Int) ≤ ((pos k : Nat) : Int) := by omega
          have hpn : ¬ ((pos k : Nat) : Int) < 0 := by omega
          have HG := hideIt hgone
          clear hat hgone
          generalize F[k] = y at *
          generalize F'[pos k] = z at *
          generalize pos k = pk at *
          obtain ⟨y0, y1, y2, y3⟩ := lf_at HA.out hpk
          obtain ⟨ya, yb, yg, yz⟩ := y
          obtain ⟨za, zb, zg, zz⟩ := z
          simp only at *
          cases yz
          · go_wp2_with (first
              | (go_at_call 24; refine (ltAt_any F' _ _ _ _ _ HBB.out (by omega)).mono ?_; rintro e w7 ⟨rfl, hb7⟩; rw [HAT.out]; have HA := hideIt (rowKeep HA.out hb7); have HBB := hideIt (rowKeep HBB.out hb7); have HB := hideIt (Bstep HB.out hb7); clear hb7 y0 y1 y2 y3; obtain ⟨y0, y1, y2, y3⟩ := lf_at HA.out hpk))
            exact ⟨⟨k + 1, by omega, by go_num, HA.out, HBB.out, HB.out⟩, by simp [intOf]; omega⟩
          · have hzz : zz = true := HG.out rfl
            subst hzz
            go_wp2_with (first
              | (go_at_call 24; refine (ltAt_any F' _ _ _ _ _ HBB.out (by omega)).mono ?_; rintro e w7 ⟨rfl, hb7⟩; rw [HAT.out]; have HA := hideIt (rowKeep HA.out hb7); have HBB := hideIt (rowKeep HBB.out hb7); have HB := hideIt (Bstep HB.out hb7); clear hb7 y0 y1 y2 y3; obtain ⟨y0, y1, y2, y3⟩ := lf_at HA.out hpk; obtain ⟨z0, z1, z2, z3⟩ := lf_at HBB.out hpq))
            exact ⟨⟨k + 1, by omega, by go_num, HA.out, HBB.out, HB.out⟩, by simp [intOf]; omega⟩
        · obtain rfl : k = F.length := by omega
          go_wp2_with (first
            | (go_at_call 38; refine (ltOrder_any F F' pos HPOS.out _ _ _ _ _ HA.out HBB.out (by omega) (by omega)).mono ?_; rintro e w8 ⟨rfl, hb8⟩; have HB := hideIt (Bstep HB.out hb8); clear hb8))
          go_ret
          exact ⟨rfl, HB.out⟩
  · go_enter Tryd.func10, Tryd.ntmps10
    have hn' : (1048576 : Int) < (n : Int) := by omega
    go_wp2
    go_ret
    exact ⟨rfl, Below.refl _ _⟩
end Go.Proofs.YtcnpfhnlniiacaaDoor

namespace Go.Proofs.YtcnpfhnlniiacaaDoor
open Go.ChangeShapes Go.WideShapes Go.ChangeAt Go.RowKit Go.Joins

set_option maxRecDepth 100000 in
theorem liftedFnTreeMore (os : Os) (started : os.Started) (H : Type) (enc : TypeId × Value → H) :
    ReturnsInHanded {} Tryd.checked os 10 .any (fun w args => (Rows.fnTreeMoreSpec.pre enc Tryd.prog Tryd.f10 [] false w args ∧ laidMetH Tryd.prog laid1 w) ∧ sizedMet enc Tryd.prog Tryd.f10 (OpenSpec.ofChange Rows.fnTreeMoreSpec) false w args)
      (Rows.fnTreeMoreSpec.post enc Tryd.prog Tryd.f10 false true false false) := by
  refine returnsInHanded_of_change_and (C := Tryd.checked) (X := fun w _ => laidMetH Tryd.prog laid1 w) (fun _ _ _ hh h => h.of_heap hh) own started (by kernel_rfl) Tryd.func10
    (ChangeSpec.witness_shaped (enc := enc) (C := Tryd.checked) (os := os) (X := fun w _ => laidMetH Tryd.prog laid1 w) false (World.doorLaid Tryd.prog 28 os) #[.slice none 0 0] 8 rfl (World.shaped_of_RefB (by kernel_rfl) (by kernel_rfl)) (by kernel_rfl) (by kernel_rfl) (by kernel_rfl) (door_met os _)) ?_
  intro W base args ds gs before hval0 hW _ _ hL _
  have hval : ∀ (j : Nat) t v, Tryd.f10.params[j]? = some t → args[j]? = some v → Value.okWide Tryd.prog W .any base t v := hval0
  have hW' := hW
  obtain ⟨p, q, hA0, hV0, rfl, hfz, hnd⟩ := hW
  have hA : DataW.TrodAll enc Tryd.prog W 0 (fun _ => true) true Tryd.f10.params.toList args.toList ds p := hA0
  have hV : DataW.TrodVars enc Tryd.prog W (fun _ => true) [errName] gs q := hV0
  rw [Tryd.params10] at hA hval
  obtain ⟨v0, d0, rfl, rfl, h0⟩ := trodAll_one hA
  have k0 := h0
  have lt0 : ∀ x ∈ p, x.block < W.heap.size := by obtain ⟨m, hm⟩ := k0; exact DataW.trod_lt m _ _ _ hm
  obtain ⟨x, hv, hc, hpos⟩ := of_laid hL
  obtain ⟨rfl, rfl⟩ := hV.unique (vars_read1 enc gErr tErr Tryd.underlying77 hv trivial _)
  obtain ⟨q0, n0, c0, rfl, hc0, hm0, ha0⟩ := open_bytes (hval 0 22 v0 rfl rfl) h0
  clear hA0 hV0 hval0
  refine (walkTreeMore W q0 n0 c0 ha0 hc0 hm0 x hc hpos).mono fun e W' ⟨he, bel⟩ => ?_
  subst he
  exact ⟨_, rfl, _, _, _, [], p, [.cell 0 0], hW', trodAll_mk1 (shut_bool Tryd.underlying4 _), trodAll_mk1 (Below.trod laidOut (by kernel_rfl) (of_decide_eq_true (by kernel_rfl)) k0 bel lt0), vars_read1 enc gErr tErr Tryd.underlying77 (var_kept bel hpos hv) trivial _, bel.frame _, fun h => by cases h⟩

theorem fnTreeMore_row : Rows.FnTreeMoreSaid :=
  OpenClaim.holds_of_wide 10 Tryd.f10 rfl rfl rfl rfl rfl rfl rfl ⟨rfl, rfl, rfl, rfl, rfl⟩ rfl rfl rfl rfl rfl (by kernel_rfl) Tryd.func10 (by kernel_rfl)
    (of_decide_eq_true (by kernel_rfl)) (by unfold Func.isWrapper; first | (rw [if_pos (by decide +kernel)]; kernel_rfl) | (rw [if_neg (by decide +kernel)]; exact ⟨rfl, rfl⟩))
    (fun os started H enc _ => liftedFnTreeMore os started H enc)

/-- THE STATEMENT. -/
theorem fnTreeMore_holds : Rows.FnTreeMoreCardSaid :=
  Claim7.holds_tied_plain_at .later [] Rows.fnTreeMoreCard.laidKinds true Rows.fnTreeMoreCard.stood.harness true
    fnTreeMore_row (fun _ h => by cases h) (by kernel_rfl) (fun _ h => by cases h) fnTreeMore_row_tie rfl ⟨rfl, rfl⟩ (by kernel_rfl) rfl
    (fun f fn hf hfn => by
      obtain rfl : f = 10 := Option.some.inj ((show Tryd.prog.funcNamed Rows.fnTreeMoreRow.func = some 10 by kernel_rfl).symm.trans hf) |>.symm
      obtain rfl : fn = Tryd.f10 := (Option.some.inj (Tryd.func10.symm.trans hfn)).symm
      exact ⟨by kernel_rfl, fun j t ht => by
        rw [Tryd.params10] at ht
        have hm : t ∈ [22] := by simpa using Array.mem_of_getElem? ht
        have hall : ([22].all fun u => !Tryd.prog.wantsStandIn u) = true := by kernel_rfl
        exact (show Tryd.prog.wantsStandIn t = false by simpa using List.all_eq_true.1 hall t hm)⟩)
    (by kernel_rfl)
#print axioms fnTreeMore_holds
end Go.Proofs.YtcnpfhnlniiacaaDoor
