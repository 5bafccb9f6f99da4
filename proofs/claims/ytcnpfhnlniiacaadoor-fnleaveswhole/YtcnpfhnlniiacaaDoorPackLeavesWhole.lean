/-
  PROVED: a drawn sign, and all that was put beside it, and beside that, stand without any other sign between (the given card of FnLeavesWhole), for every input; the one listed variable, the program's error, reads as its own initialiser lays it.
-/
import Derived.Test.YtcnpfhnlniiacaaDoorPackD
import Derived.Test.YtcnpfhnlniiacaaDoorPackF
import Derived.Test.YtcnpfhnlniiacaaDoorTie
import Derived.Test.YtcnpfhnlniiacaaDoorCards
import Derived.SevenTiedAt
namespace Go.Proofs.YtcnpfhnlniiacaaDoor
open Go.RowKit
set_option linter.unusedSimpArgs false
set_option linter.unusedVariables false
attribute [local go_sem ↓] Go.wp_at_zero Go.wp_at_succ

theorem stand_ops {l : List Op7} (h : 0 < (lfs l (standL l)).length) : opsB l = true := by
  cases ho : opsB l
  · unfold standL at h
    rw [ho] at h
    simp [lfs] at h
  · rfl
theorem leaf_wf {l : List Op7} (h : opsB l = true) {k : Nat} (hk : k < (lfs l (allO l)).length) : wf64 (lfs l (allO l))[k].a ∧ wf64 (lfs l (allO l))[k].b := by
  obtain ⟨p, hp, e⟩ := lfs_get hk
  rw [e]
  have := op_wf h (side_put _ (List.mem_of_getElem? hp)).1
  exact ⟨this.1, this.2.1⟩

set_option maxRecDepth 100000 in
set_option maxHeartbeats 4000000 in
theorem walkLeavesWhole (w : World) (p p' : Option Addr) (n cap n' cap' : Nat) (h : ArgBytes w p n) (hcap : n ≤ cap) (hmax : cap ≤ maxLen) (h' : ArgBytes w p' n') (hcap' : n' ≤ cap') (hmax' : cap' ≤ maxLen) (x : Addr)
    (he : w.cell? ⟨0, 0, none⟩ = some (.iface 164 (.pointer (some x)))) (h0 : 0 < w.heap.size) :
    Calls Tryd.prog 6 #[.slice p n cap, .slice p' n' cap'] w fun e w' => e = .returned (.bool true) ∧ Below w.heap.size w w' := by
  have H := hideIt h
  clear h h'
  by_cases hn : n ≤ 1048576
  · by_cases hn' : n' ≤ 1048576
    · go_enter Tryd.func6, Tryd.ntmps6
      go_wp2_with fail
      refine (drawLeaves_any _ p n cap H.out hcap hn).mono ?_
      rintro e w1 ⟨G, c, _, rfl, ⟨L, rfl, hL, hS⟩, hb1⟩
      have HS := hideIt hS
      have HB := hideIt hb1
      clear hS hb1
      go_wp2_with fail
      refine (implLeaves_any L G c x _ HS.out.at (by omega) HS.out.cap (errB HB.out h0 he) (posB HB.out h0)).mono ?_
      rintro e w2 ⟨v, rfl, hr2, hb2⟩
      have hF : (lfs L (standL L)).length ≤ 74 := by rw [lfs_len]; exact Nat.le_trans (stand_len L) hL
      have HR := hideIt (ownsRow_base HB.out.size hr2)
      have HS := hideIt (HS.out.below hb2)
      have HB := hideIt (Bstep HB.out hb2)
      clear hb2 hr2
      obtain ⟨q4, c4, rfl, hq4⟩ := lf_cases HR.out
      have HQ4 := hideIt hq4
      clear hq4
      by_cases hz : (lfs L (standL L)).length = 0
      · rw [hz]
        go_wp2_with (first
          | (go_at_call 23; refine (specLf_any L G c _ HS.out.at (by omega) HS.out.cap).mono ?_; rintro e w3 ⟨v3, rfl, hr3, hb3⟩; have HR3 := hideIt hr3; have HR := hideIt (rowKeep HR.out hb3); have HS := hideIt (HS.out.below hb3); have HB := hideIt (Bstep HB.out hb3); clear hb3 hr3)
          | (go_at_call 22; rw [← hz]; refine (ltLeaves_rows (lfs L (standL L)) _ _ _ _ _ HR.out HR3.out (by omega)).mono ?_; rw [hz]; rintro e w4 ⟨rfl, hb4⟩; have HR := hideIt (rowKeep HR.out hb4); have HS := hideIt (HS.out.below hb4); have HB := hideIt (Bstep HB.out hb4); clear hb4))
        go_ret
        exact ⟨rfl, HB.out⟩
      · have hpos : 0 < (lfs L (standL L)).length := by omega
        have HO := hideIt (stand_ops hpos)
        have hst : standL L = allO L := by unfold standL; rw [if_pos HO.out]
        have HWL : Hid (∀ {j : Nat} (hj : j < (lfs L (allO L)).length), ∃ lo hi, lo < hi ∧ hi ≤ (lfs L (allO L)).length ∧ ∀ i (hi' : i < (lfs L (allO L)).length), (((lfs L (allO L))[i].a = (lfs L (allO L))[j].a ∧ (lfs L (allO L))[i].b = (lfs L (allO L))[j].b) ∨ undB L (lfs L (allO L))[i].a (lfs L (allO L))[i].b (lfs L (allO L))[j].a (lfs L (allO L))[j].b = true) ↔ (lo ≤ i ∧ i < hi)) := whole_leaves HO.out
        have HWF : Hid (∀ {k : Nat} (hk : k < (lfs L (allO L)).length), wf64 (lfs L (allO L))[k].a ∧ wf64 (lfs L (allO L))[k].b) := leaf_wf HO.out
        have hFF : lfs L (standL L) = lfs L (allO L) := by rw [hst]
        rw [hFF] at HR hF hz hpos HQ4 ⊢
        generalize lfs L (allO L) = F at *
        have HFF := hideIt hFF
        clear hFF hst
        have hzI : ¬ (F.length : Int) = 0 := by omega
        obtain ⟨gF, rfl, hcF, hbF, hgF, _⟩ := HQ4.out hpos
        clear HQ4
        have hrem : (n' : Int) % (F.length : Int) = ((n' % F.length : Nat) : Int) := by omega
        have hjl : n' % F.length < F.length := Nat.mod_lt _ hpos
        generalize n' % F.length = j at *
        have hj0 : (0 : Int) ≤ (j : Int) := by omega
        have hj1 : (j : Int) < (F.length : Int) := by omega
        have hpj : F[j]? = some F[j] := by simp [hjl]
        obtain ⟨lo, hi, hlh, hhi, hiff⟩ := HWL.out hjl
        have HIF := hideIt hiff
        clear hiff HWL
        generalize F[j] = y at *
        go_wp2_with (first
          | (go_at_call 23; refine (specLf_any L G c _ HS.out.at (by omega) HS.out.cap).mono ?_; rw [HFF.out]; rintro e w3 ⟨v3, rfl, hr3, hb3⟩; have HR3 := hideIt hr3; have HR := hideIt (rowKeep HR.out hb3); have HS := hideIt (HS.out.below hb3); have HB := hideIt (Bstep HB.out hb3); clear hb3 hr3)
          | (go_at_call 22; refine (ltLeaves_rows F _ _ _ _ _ HR.out HR3.out (by omega)).mono ?_; rintro e w4 ⟨rfl, hb4⟩; have HR := hideIt (rowKeep HR.out hb4); have HS := hideIt (HS.out.below hb4); have HB := hideIt (Bstep HB.out hb4); clear hb4; obtain ⟨y0, y1, y2, y3⟩ := lf_at HR.out hpj))
        have HX : Hid (Bx (w4.alloc (.cells #[.int .i64 y.a, .int .i64 y.b] 25)) w4.heap.size y.a y.b) := Bx.new w4 y.a y.b _
        have HR := hideIt (rowKeep HR.out ((Below.refl _ _).alloc (Nat.le_refl _) (.cells #[.int .i64 y.a, .int .i64 y.b] 25)))
        have HS := hideIt (HS.out.below ((Below.refl _ _).alloc (Nat.le_refl _) (.cells #[.int .i64 y.a, .int .i64 y.b] 25)))
        have HB := hideIt (HB.out.alloc HB.out.size (.cells #[.int .i64 y.a, .int .i64 y.b] 25))
        clear y0 y1 y2 y3
        have hzb : ((F.length : Int) == 0) = false := beq_eq_false_iff_ne.2 hzI
        rw [hrem, hzb]
        clear hrem hzb hzI
        generalize w4.alloc (.cells #[.int .i64 y.a, .int .i64 y.b] 25) = w5 at *
        generalize w4.heap.size = A at *
        go_loopw [8, 9, 10, 11] (fun a b m i wr => ∃ k : Nat, k ≤ F.length ∧ i = .int .i64 k ∧ a = .int .i64 (fstI lo k) ∧ b = .int .i64 (lstI lo hi k) ∧ m = .int .i64 (numI lo hi k) ∧ wr.ownsRow w.heap.size 41 4 (.slice (some ⟨gF, 0, none⟩) F.length c4) F.length (lfCells F) ∧ OwnOps wr w.heap.size G c L ∧ Bx wr A y.a y.b ∧ Below w.heap.size w wr) (fun _ _ _ i _ => F.length - (intOf i).toNat)
        case atStart => exact ⟨0, Nat.zero_le _, rfl, by simp [fstI], by simp [lstI], by simp [numI], HR.out, HS.out, HX.out, HB.out⟩
        case round =>
          clear HR HS HB HX
          obtain ⟨k, hk, rfl, rfl, rfl, rfl, hR, hS, hX, hB⟩ := hrel
          have HR := hideIt hR
          have HS := hideIt hS
          have HB := hideIt hB
          have HX := hideIt hX
          have hgR := hR.lt gF rfl
          have hAl := hX.lt
          clear hR hS hX hB
          by_cases hlt : k < F.length
          · have hlt' : (k : Int) < (F.length : Int) := by omega
            have hk0 : (0 : Int) ≤ (k : Int) := by omega
            have hpk : F[k]? = some F[k] := by simp [hlt]
            have HI := hideIt (HIF.out k hlt)
            obtain ⟨hwa, hwb⟩ := HWF.out hlt
            generalize F[k] = z at *
            obtain ⟨y0, y1, y2, y3⟩ := lf_at HR.out hpk
            have x0 := HX.out.x0
            have x1 := HX.out.x1
            have hnl := numI_le lo hi k
            have hnw : IntKind.i64.wrap (numI lo hi k + 1) = numI lo hi k + 1 := IntWalk.i64_in _ ⟨by omega, by omega⟩
            by_cases heq : z.a = y.a ∧ z.b = y.b
            · obtain ⟨e1, e2⟩ := heq
              have hin := HI.out.1 (.inl ⟨e1, e2⟩)
              obtain ⟨f1, f2, f3, f4⟩ := fstI_in hin
              rw [e1] at y0
              rw [e2] at y1
              go_wp2
              go_quiet (fail)
              rcases f4 with ⟨e3, e4⟩ | e4
              · have HE3 := hideIt e3
                clear e3
                rw [e4]
                go_wp2
                exact ⟨⟨k + 1, by omega, by go_num, by rw [f1, ← HE3.out], by rw [f2], by rw [f3], rowKeep HR.out (below_drewN (Below.refl _ _) _), HS.out.below (below_drewN (Below.refl _ _) _), HX.out.below (below_drewN (Below.refl _ _) _), below_drewN HB.out _⟩, by simp [intOf]; omega⟩
              · have hl0 : ¬ ((lo : Nat) : Int) < 0 := by omega
                rw [e4]
                go_wp2
                exact ⟨⟨k + 1, by omega, by go_num, by rw [f1], by rw [f2], by rw [f3], rowKeep HR.out (below_drewN (Below.refl _ _) _), HS.out.below (below_drewN (Below.refl _ _) _), HX.out.below (below_drewN (Below.refl _ _) _), below_drewN HB.out _⟩, by simp [intOf]; omega⟩
            · have hne : ¬ z.a = y.a ∨ (z.a = y.a ∧ ¬ z.b = y.b) := by omega
              obtain ⟨za, zb, zg, zz⟩ := z
              simp only at *
              clear heq
              rcases hne with hne | ⟨hea, hne⟩
              · cases hu : undB L za zb y.a y.b
                all_goals
                  have HU := hideIt hu
                  clear hu
                  go_wp2
                  have HR := hideIt (rowKeep HR.out ((Below.refl _ _).drew))
                  have HS := hideIt (HS.out.below ((Below.refl _ _).drew))
                  have HX := hideIt (HX.out.below ((Below.refl _ _).drew))
                  have HB := hideIt (HB.out.drew)
                  go_region_held3 (fun w' => w'.cell? ⟨gF, k * 4, none⟩ = some (.int .i64 za) ∧ w'.cell? ⟨gF, k * 4 + 1, none⟩ = some (.int .i64 zb) ∧ w'.cell? ⟨A, 0, none⟩ = some (.int .i64 y.a) ∧ w'.cell? ⟨A, 1, none⟩ = some (.int .i64 y.b))
                    (first | exact ⟨y0, y1, x0, x1⟩ | exact ⟨u0, u1, u2, u3⟩)
                    (first | (go_at_call 16; refine (implUnderO_any L G c _ _ _ _ x _ HS.out.at (by omega) HS.out.cap (errB HB.out h0 he) (posB HB.out h0) (fun _ => hwa) (fun _ => hwb)).mono ?_; rintro e w6 ⟨rfl, hb6⟩; rw [HU.out]; have HR := hideIt (rowKeep HR.out hb6); have HS := hideIt (HS.out.below hb6); have HX := hideIt (HX.out.below hb6); have HB := hideIt (Bstep HB.out hb6); clear hb6; obtain ⟨u0, u1, _⟩ := lf_at HR.out hpk; have u2 := HX.out.x0; have u3 := HX.out.x1))
                  rename_i hHH
                  clear hHH u0 u1 u2 u3 y0 y1 y2 y3 x0 x1
                · have hout : ¬ (lo ≤ k ∧ k < hi) := fun h => by
                    rcases HI.out.2 h with h | h
                    · exact hne h.1
                    · rw [HU.out] at h; cases h
                  obtain ⟨f1, f2, f3⟩ := fstI_out hout hlh
                  go_wp2
                  exact ⟨⟨k + 1, by omega, by go_num, by rw [f1], by rw [f2], by rw [f3], HR.out, HS.out, HX.out, HB.out⟩, by simp [intOf]; omega⟩
                · have hin := HI.out.1 (.inr HU.out)
                  obtain ⟨f1, f2, f3, f4⟩ := fstI_in hin
                  rcases f4 with ⟨e3, e4⟩ | e4
                  · have HE3 := hideIt e3
                    clear e3
                    rw [e4]
                    go_wp2
                    exact ⟨⟨k + 1, by omega, by go_num, by rw [f1, ← HE3.out], by rw [f2], by rw [f3], HR.out, HS.out, HX.out, HB.out⟩, by simp [intOf]; omega⟩
                  · have hl0 : ¬ ((lo : Nat) : Int) < 0 := by omega
                    rw [e4]
                    go_wp2
                    exact ⟨⟨k + 1, by omega, by go_num, by rw [f1], by rw [f2], by rw [f3], HR.out, HS.out, HX.out, HB.out⟩, by simp [intOf]; omega⟩
              · subst hea
                cases hu : undB L y.a zb y.a y.b
                all_goals
                  have HU := hideIt hu
                  clear hu
                  go_wp2
                  have HR := hideIt (rowKeep HR.out ((Below.refl _ _).drew))
                  have HS := hideIt (HS.out.below ((Below.refl _ _).drew))
                  have HX := hideIt (HX.out.below ((Below.refl _ _).drew))
                  have HB := hideIt (HB.out.drew)
                  go_region_held3 (fun w' => w'.cell? ⟨gF, k * 4, none⟩ = some (.int .i64 y.a) ∧ w'.cell? ⟨gF, k * 4 + 1, none⟩ = some (.int .i64 zb) ∧ w'.cell? ⟨A, 0, none⟩ = some (.int .i64 y.a) ∧ w'.cell? ⟨A, 1, none⟩ = some (.int .i64 y.b))
                    (first | exact ⟨y0, y1, x0, x1⟩ | exact ⟨u0, u1, u2, u3⟩)
                    (first | (go_at_call 16; refine (implUnderO_any L G c _ _ _ _ x _ HS.out.at (by omega) HS.out.cap (errB HB.out h0 he) (posB HB.out h0) (fun _ => hwa) (fun _ => hwb)).mono ?_; rintro e w6 ⟨rfl, hb6⟩; rw [HU.out]; have HR := hideIt (rowKeep HR.out hb6); have HS := hideIt (HS.out.below hb6); have HX := hideIt (HX.out.below hb6); have HB := hideIt (Bstep HB.out hb6); clear hb6; obtain ⟨u0, u1, _⟩ := lf_at HR.out hpk; have u2 := HX.out.x0; have u3 := HX.out.x1))
                  rename_i hHH
                  clear hHH u0 u1 u2 u3 y0 y1 y2 y3 x0 x1
                · have hout : ¬ (lo ≤ k ∧ k < hi) := fun h => by
                    rcases HI.out.2 h with h | h
                    · exact hne h.2
                    · rw [HU.out] at h; cases h
                  obtain ⟨f1, f2, f3⟩ := fstI_out hout hlh
                  go_wp2
                  exact ⟨⟨k + 1, by omega, by go_num, by rw [f1], by rw [f2], by rw [f3], HR.out, HS.out, HX.out, HB.out⟩, by simp [intOf]; omega⟩
                · have hin := HI.out.1 (.inr HU.out)
                  obtain ⟨f1, f2, f3, f4⟩ := fstI_in hin
                  rcases f4 with ⟨e3, e4⟩ | e4
                  · have HE3 := hideIt e3
                    clear e3
                    rw [e4]
                    go_wp2
                    exact ⟨⟨k + 1, by omega, by go_num, by rw [f1, ← HE3.out], by rw [f2], by rw [f3], HR.out, HS.out, HX.out, HB.out⟩, by simp [intOf]; omega⟩
                  · have hl0 : ¬ ((lo : Nat) : Int) < 0 := by omega
                    rw [e4]
                    go_wp2
                    exact ⟨⟨k + 1, by omega, by go_num, by rw [f1], by rw [f2], by rw [f3], HR.out, HS.out, HX.out, HB.out⟩, by simp [intOf]; omega⟩
          · obtain rfl : k = F.length := by omega
            obtain ⟨f1, f2, f3⟩ := fstI_end hlh hhi
            rw [f1, f2, f3]
            have hlo : (0 : Int) ≤ (lo : Int) := by omega
            have hw1 : IntKind.i64.wrap ((hi : Int) - 1 - (lo : Int)) = (hi : Int) - 1 - (lo : Int) := IntWalk.i64_in _ ⟨by omega, by omega⟩
            have hw2 : IntKind.i64.wrap ((hi : Int) - 1 - (lo : Int) + 1) = (hi : Int) - (lo : Int) := by rw [IntWalk.i64_in _ ⟨by omega, by omega⟩]; omega
            go_wp2
            go_ret
            exact ⟨rfl, HB.out⟩
    · go_enter Tryd.func6, Tryd.ntmps6
      unfold maxLen at *
      have hn'' : (1048576 : Int) < (n' : Int) := by omega
      go_wp2
      go_ret
      exact ⟨rfl, Below.refl _ _⟩
  · go_enter Tryd.func6, Tryd.ntmps6
    unfold maxLen at *
    have hn' : (1048576 : Int) < (n : Int) := by omega
    go_wp2
    go_ret
    exact ⟨rfl, Below.refl _ _⟩
end Go.Proofs.YtcnpfhnlniiacaaDoor

namespace Go.Proofs.YtcnpfhnlniiacaaDoor
open Go.ChangeShapes Go.WideShapes Go.ChangeAt Go.RowKit Go.Joins

set_option maxRecDepth 100000 in
theorem liftedFnLeavesWhole (os : Os) (started : os.Started) (H : Type) (enc : TypeId × Value → H) :
    ReturnsInHanded {} Tryd.checked os 6 .any (fun w args => (Rows.fnLeavesWholeSpec.pre enc Tryd.prog Tryd.f6 [] false w args ∧ laidMetH Tryd.prog laid1 w) ∧ sizedMet enc Tryd.prog Tryd.f6 (OpenSpec.ofChange Rows.fnLeavesWholeSpec) false w args)
      (Rows.fnLeavesWholeSpec.post enc Tryd.prog Tryd.f6 false true false false) := by
  refine returnsInHanded_of_change_and (C := Tryd.checked) (X := fun w _ => laidMetH Tryd.prog laid1 w) (fun _ _ _ hh h => h.of_heap hh) own started (by kernel_rfl) Tryd.func6
    (ChangeSpec.witness_shaped (enc := enc) (C := Tryd.checked) (os := os) (X := fun w _ => laidMetH Tryd.prog laid1 w) false (World.doorLaid Tryd.prog 28 os) #[.slice none 0 0, .slice none 0 0] 8 rfl (World.shaped_of_RefB (by kernel_rfl) (by kernel_rfl)) (by kernel_rfl) (by kernel_rfl) (by kernel_rfl) (door_met os _)) ?_
  intro W base args ds gs before hval0 hW _ _ hL _
  have hval : ∀ (j : Nat) t v, Tryd.f6.params[j]? = some t → args[j]? = some v → Value.okWide Tryd.prog W .any base t v := hval0
  have hW' := hW
  obtain ⟨p, q, hA0, hV0, rfl, hfz, hnd⟩ := hW
  have hA : DataW.TrodAll enc Tryd.prog W 0 (fun _ => true) true Tryd.f6.params.toList args.toList ds p := hA0
  have hV : DataW.TrodVars enc Tryd.prog W (fun _ => true) [errName] gs q := hV0
  rw [Tryd.params6] at hA hval
  obtain ⟨v0, v1, d0, d1, p0, p1, rfl, rfl, rfl, h0, h1⟩ := trodAll_two hA
  have k0 := h0
  have k1 := h1
  have lt0 : ∀ x ∈ p0, x.block < W.heap.size := by obtain ⟨m, hm⟩ := k0; exact DataW.trod_lt m _ _ _ hm
  have lt1 : ∀ x ∈ p1, x.block < W.heap.size := by obtain ⟨m, hm⟩ := k1; exact DataW.trod_lt m _ _ _ hm
  obtain ⟨x, hv, hc, hpos⟩ := of_laid hL
  obtain ⟨rfl, rfl⟩ := hV.unique (vars_read1 enc gErr tErr Tryd.underlying77 hv trivial _)
  obtain ⟨q0, n0, c0, rfl, hc0, hm0, ha0⟩ := open_bytes (hval 0 22 v0 rfl rfl) h0
  obtain ⟨q1, n1, c1, rfl, hc1, hm1, ha1⟩ := open_bytes (hval 1 22 v1 rfl rfl) h1
  clear hA0 hV0 hval0
  refine (walkLeavesWhole W q0 q1 n0 c0 n1 c1 ha0 hc0 hm0 ha1 hc1 hm1 x hc hpos).mono fun e W' ⟨he, bel⟩ => ?_
  subst he
  exact ⟨_, rfl, _, _, _, [], _, [.cell 0 0], hW', trodAll_mk1 (shut_bool Tryd.underlying4 _), (trodAll_cons_mk (Below.trod laidOut (by kernel_rfl) (of_decide_eq_true (by kernel_rfl)) k0 bel lt0) (trodAll_cons_mk (Below.trod laidOut (by kernel_rfl) (of_decide_eq_true (by kernel_rfl)) k1 bel lt1) trodAll_mk0)), vars_read1 enc gErr tErr Tryd.underlying77 (var_kept bel hpos hv) trivial _, bel.frame _, fun h => by cases h⟩

theorem fnLeavesWhole_row : Rows.FnLeavesWholeSaid :=
  OpenClaim.holds_of_wide 6 Tryd.f6 rfl rfl rfl rfl rfl rfl rfl ⟨rfl, rfl, rfl, rfl, rfl⟩ rfl rfl rfl rfl rfl (by kernel_rfl) Tryd.func6 (by kernel_rfl)
    (of_decide_eq_true (by kernel_rfl)) (by unfold Func.isWrapper; first | (rw [if_pos (by decide +kernel)]; kernel_rfl) | (rw [if_neg (by decide +kernel)]; exact ⟨rfl, rfl⟩))
    (fun os started H enc _ => liftedFnLeavesWhole os started H enc)

/-- THE STATEMENT. -/
theorem fnLeavesWhole_holds : Rows.FnLeavesWholeCardSaid :=
  Claim7.holds_tied_plain_at .later [] Rows.fnLeavesWholeCard.laidKinds true Rows.fnLeavesWholeCard.stood.harness true
    fnLeavesWhole_row (fun _ h => by cases h) (by kernel_rfl) (fun _ h => by cases h) fnLeavesWhole_row_tie rfl ⟨rfl, rfl⟩ (by kernel_rfl) rfl
    (fun f fn hf hfn => by
      obtain rfl : f = 6 := Option.some.inj ((show Tryd.prog.funcNamed Rows.fnLeavesWholeRow.func = some 6 by kernel_rfl).symm.trans hf) |>.symm
      obtain rfl : fn = Tryd.f6 := (Option.some.inj (Tryd.func6.symm.trans hfn)).symm
      exact ⟨by kernel_rfl, fun j t ht => by
        rw [Tryd.params6] at ht
        have hm : t ∈ [22, 22] := by simpa using Array.mem_of_getElem? ht
        have hall : ([22, 22].all fun u => !Tryd.prog.wantsStandIn u) = true := by kernel_rfl
        exact (show Tryd.prog.wantsStandIn t = false by simpa using List.all_eq_true.1 hall t hm)⟩)
    (by kernel_rfl)
#print axioms fnLeavesWhole_holds
end Go.Proofs.YtcnpfhnlniiacaaDoor
