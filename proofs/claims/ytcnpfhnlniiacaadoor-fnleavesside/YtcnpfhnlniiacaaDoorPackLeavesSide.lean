/-
  PROVED: a drawn sign that was put on the right of another one stands behind it, one on the left ahead of it, with all that was put beside it (the given card of FnLeavesSide), for every input; the one listed variable, the program's error, reads as its own initialiser lays it.
-/
import Derived.Test.YtcnpfhnlniiacaaDoorPackD
import Derived.Test.YtcnpfhnlniiacaaDoorPackF
import Derived.Test.YtcnpfhnlniiacaaDoorTie
import Derived.Test.YtcnpfhnlniiacaaDoorCards
import Derived.SevenTiedAt
namespace Go.Proofs.YtcnpfhnlniiacaaDoor
open Go.RowKit
set_option linter.unusedSimpArgs false
set_option linter.unusedVariables false
attribute [local go_sem ↓] Go.wp_at_zero Go.wp_at_succ

theorem leafS_wf {l : List Op7} (h : opsB l = true) {k : Nat} (hk : k < (lfs l (allO l)).length) : wf64 (lfs l (allO l))[k].a ∧ wf64 (lfs l (allO l))[k].b := by
  obtain ⟨p, hp, e⟩ := lfs_get hk
  rw [e]
  have := op_wf h (side_put _ (List.mem_of_getElem? hp)).1
  exact ⟨this.1, this.2.1⟩

set_option maxRecDepth 100000 in
set_option maxHeartbeats 4000000 in
theorem walkLeavesSide (w : World) (p : Option Addr) (n cap : Nat) (h : ArgBytes w p n) (hcap : n ≤ cap) (hmax : cap ≤ maxLen) (x : Addr)
    (he : w.cell? ⟨0, 0, none⟩ = some (.iface 164 (.pointer (some x)))) (h0 : 0 < w.heap.size) :
    Calls Tryd.prog 5 #[.slice p n cap] w fun e w' => e = .returned (.bool true) ∧ Below w.heap.size w w' := by
  have H := hideIt h
  clear h
  by_cases hn : n ≤ 1048576
  · go_enter Tryd.func5, Tryd.ntmps5
    go_wp2_with fail
    refine (drawLeaves_any _ p n cap H.out hcap hn).mono ?_
    rintro e w1 ⟨G, c, _, rfl, ⟨L, rfl, hL, hS⟩, hb1⟩
    have HS := hideIt hS
    have HB := hideIt hb1
    clear hS hb1
    go_wp2_with fail
    refine (implLeaves_any L G c x _ HS.out.at (by omega) HS.out.cap (errB HB.out h0 he) (posB HB.out h0)).mono ?_
    rintro e w2 ⟨v, rfl, hr2, hb2⟩
    have hF : (lfs L (standL L)).length ≤ 74 := by rw [lfs_len]; exact Nat.le_trans (stand_len L) hL
    have HR := hideIt (ownsRow_base HB.out.size hr2)
    have HS := hideIt (HS.out.below hb2)
    have HB := hideIt (Bstep HB.out hb2)
    clear hb2 hr2
    cases ho : opsB L
    · have HO := hideIt ho
      clear ho
      go_wp2_with (first
        | (go_at_call 23; refine (specLf_any L G c _ HS.out.at (by omega) HS.out.cap).mono ?_; rintro e w3 ⟨v3, rfl, hr3, hb3⟩; have HR3 := hideIt hr3; have HR := hideIt (rowKeep HR.out hb3); have HS := hideIt (HS.out.below hb3); have HB := hideIt (Bstep HB.out hb3); clear hb3 hr3)
        | (go_at_call 22; refine (ltLeaves_rows (lfs L (standL L)) _ _ _ _ _ HR.out HR3.out (by omega)).mono ?_; rintro e w4 ⟨rfl, hb4⟩; have HR := hideIt (rowKeep HR.out hb4); have HS := hideIt (HS.out.below hb4); have HB := hideIt (Bstep HB.out hb4); clear hb4)
        | (go_at_call 18; refine (specOps_any L G c _ HS.out.at (by omega) HS.out.cap).mono ?_; rintro e w5 ⟨rfl, hb5⟩; rw [HO.out]; have HR := hideIt (rowKeep HR.out hb5); have HS := hideIt (HS.out.below hb5); have HB := hideIt (Bstep HB.out hb5); clear hb5))
      go_ret
      exact ⟨rfl, HB.out⟩
    · have HO := hideIt ho
      have hst : standL L = allO L := by unfold standL; rw [if_pos ho]
      clear ho
      go_wp2_with (first
        | (go_at_call 23; refine (specLf_any L G c _ HS.out.at (by omega) HS.out.cap).mono ?_; rintro e w3 ⟨v3, rfl, hr3, hb3⟩; have HR3 := hideIt hr3; have HR := hideIt (rowKeep HR.out hb3); have HS := hideIt (HS.out.below hb3); have HB := hideIt (Bstep HB.out hb3); clear hb3 hr3)
        | (go_at_call 22; refine (ltLeaves_rows (lfs L (standL L)) _ _ _ _ _ HR.out HR3.out (by omega)).mono ?_; rintro e w4 ⟨rfl, hb4⟩; have HR := hideIt (rowKeep HR.out hb4); have HS := hideIt (HS.out.below hb4); have HB := hideIt (Bstep HB.out hb4); clear hb4)
        | (go_at_call 18; refine (specOps_any L G c _ HS.out.at (by omega) HS.out.cap).mono ?_; rintro e w5 ⟨rfl, hb5⟩; rw [HO.out]; have HR := hideIt (rowKeep HR.out hb5); have HS := hideIt (HS.out.below hb5); have HB := hideIt (Bstep HB.out hb5); clear hb5))
      rw [hst] at HR hF
      have HSL : Hid (∀ {o : Op7}, o ∈ L → o.k = 1 → ¬ (o.c = 0 ∧ o.d = 0) → ∃ t : Nat, t < (lfs L (allO L)).length ∧ atI (lfs L (allO L)) o.c o.d = (t : Nat) ∧ ∀ i (hi : i < (lfs L (allO L)).length), (((lfs L (allO L))[i].a = o.a ∧ (lfs L (allO L))[i].b = o.b) ∨ undB L (lfs L (allO L))[i].a (lfs L (allO L))[i].b o.a o.b = true) → (t < i ↔ o.s = 1)) := fun ho hk h0 => side_leaves HO.out ho hk h0
      have HWF : Hid (∀ {k : Nat} (hk : k < (lfs L (allO L)).length), wf64 (lfs L (allO L))[k].a ∧ wf64 (lfs L (allO L))[k].b) := leafS_wf HO.out
      generalize lfs L (allO L) = F at *
      obtain ⟨q4, c4, rfl, hq4⟩ := lf_cases HR.out
      have HQ4 := hideIt hq4
      clear hq4 hst
      go_loopw [5] (fun i wr => ∃ k : Nat, k ≤ L.length ∧ i = .int .i64 k ∧ wr.ownsRow w.heap.size 41 4 (.slice q4 F.length c4) F.length (lfCells F) ∧ OwnOps wr w.heap.size G c L ∧ Below w.heap.size w wr) (fun i _ => L.length - (intOf i).toNat)
      case atStart => exact ⟨0, Nat.zero_le _, rfl, HR.out, HS.out, HB.out⟩
      case round =>
        clear HR HS HB
        obtain ⟨k, hk, rfl, hR, hS, hB⟩ := hrel
        have HR := hideIt hR
        have HS := hideIt hS
        have HB := hideIt hB
        clear hR hS hB
        by_cases hlt : k < L.length
        · have hlt' : (k : Int) < (L.length : Int) := by omega
          have hk0 : (0 : Int) ≤ (k : Int) := by omega
          have hpk : L[k]? = some L[k] := by simp [hlt]
          have hmem : L[k] ∈ L := List.getElem_mem hlt
          have hkind := op_kind HO.out hmem
          have hwf := op_wf HO.out hmem
          generalize L[k] = o at *
          obtain ⟨y0, y1, y2, y3, y4, y5, y6⟩ := HS.out.at.2 k o hpk
          rcases hkind with hk1 | hk2
          · by_cases hz : o.c = 0 ∧ o.d = 0
            · obtain ⟨hz1, hz2⟩ := hz
              rw [hz1] at y3
              rw [hz2] at y4
              rw [hk1] at y2
              clear hz1 hz2 hk1
              go_wp2
              exact ⟨⟨k + 1, by omega, by go_num, HR.out, HS.out, HB.out⟩, by simp [intOf]; omega⟩
            · obtain ⟨t, ht, hat, hside⟩ := HSL.out hmem hk1 hz
              have HSD := hideIt hside
              have HAT := hideIt hat
              have hne : ¬ o.c = 0 := by
                rcases put_side HO.out hmem hk1 with h | h
                · exact absurd ⟨h.1, h.2.1⟩ hz
                · omega
              clear hside hat hz
              rw [hk1] at y2
              clear hk1
              obtain ⟨rb, hrb⟩ : ∃ rb : Bool, (o.s == 1) = rb := ⟨_, rfl⟩
              have HRB : Hid (rb = true ↔ o.s = 1) := by show rb = true ↔ o.s = 1; rw [← hrb]; simp
              go_wp2
              clear hrb
              obtain ⟨gF, rfl, hcF, hbF, hgF, _⟩ := HQ4.out (by omega)
              clear HQ4 y0 y1 y2 y3 y4 y5 y6
              go_loopw [7] (fun i wr => ∃ m : Nat, m ≤ F.length ∧ i = .int .i64 m ∧ wr.ownsRow w.heap.size 41 4 (.slice (some ⟨gF, 0, none⟩) F.length c4) F.length (lfCells F) ∧ OwnOps wr w.heap.size G c L ∧ Below w.heap.size w wr) (fun i _ => F.length - (intOf i).toNat)
              case atStart => exact ⟨0, Nat.zero_le _, rfl, HR.out, HS.out, HB.out⟩
              case round =>
                clear HR HS HB
                obtain ⟨m, hm, rfl, hR, hS, hB⟩ := hrel
                have HR := hideIt hR
                have HS := hideIt hS
                have HB := hideIt hB
                clear hR hS hB
                by_cases hml : m < F.length
                · have hml' : (m : Int) < (F.length : Int) := by omega
                  have hm0 : (0 : Int) ≤ (m : Int) := by omega
                  have hpm : F[m]? = some F[m] := by simp [hml]
                  have HT := hideIt (HSD.out m hml)
                  obtain ⟨hwa, hwb⟩ := HWF.out hml
                  generalize F[m] = z at *
                  obtain ⟨z0, z1, z2, z3⟩ := lf_at HR.out hpm
                  obtain ⟨y0, y1, y2, y3, y4, y5, y6⟩ := HS.out.at.2 k o hpk
                  by_cases heq : z.a = o.a ∧ z.b = o.b
                  · have HH := hideIt (HT.out (.inl heq))
                    obtain ⟨e1, e2⟩ := heq
                    rw [e1] at z0
                    rw [e2] at z1
                    clear e1 e2
                    go_wp2
                    go_quiet (fail)
                    generalize hD : World.drewN wr _ = wd
                    have hbd : Below wr.heap.size wr wd := by rw [← hD]; exact below_drewN (Below.refl _ _) _
                    have HR := hideIt (rowKeep HR.out hbd)
                    have HS := hideIt (HS.out.below hbd)
                    have HB := hideIt (Bstep HB.out hbd)
                    clear hD hbd y0 y1 y2 y3 y4 y5 y6 z0 z1 z2 z3
                    obtain ⟨y0, y1, y2, y3, y4, y5, y6⟩ := HS.out.at.2 k o hpk
                    cases rb
                    · have htm : ¬ (t : Int) < (m : Int) := fun h => by have := HRB.out.2 (HH.out.1 (by omega)); cases this
                      go_wp2_with (first
                        | (go_at_call 24; refine (ltAt_any F _ _ _ _ _ HR.out (by omega)).mono ?_; rintro e w7 ⟨rfl, hb7⟩; rw [HAT.out]; have HR := hideIt (rowKeep HR.out hb7); have HS := hideIt (HS.out.below hb7); have HB := hideIt (Bstep HB.out hb7); clear hb7))
                      exact ⟨⟨m + 1, by omega, by go_num, HR.out, HS.out, HB.out⟩, by simp [intOf]; omega⟩
                    · have htm : (t : Int) < (m : Int) := by have := HH.out.2 (HRB.out.1 rfl); omega
                      go_wp2_with (first
                        | (go_at_call 24; refine (ltAt_any F _ _ _ _ _ HR.out (by omega)).mono ?_; rintro e w7 ⟨rfl, hb7⟩; rw [HAT.out]; have HR := hideIt (rowKeep HR.out hb7); have HS := hideIt (HS.out.below hb7); have HB := hideIt (Bstep HB.out hb7); clear hb7))
                      exact ⟨⟨m + 1, by omega, by go_num, HR.out, HS.out, HB.out⟩, by simp [intOf]; omega⟩
                  · have hne' : ¬ z.a = o.a ∨ (z.a = o.a ∧ ¬ z.b = o.b) := by omega
                    obtain ⟨za, zb, zg, zz⟩ := z
                    simp only at *
                    clear heq
                    rcases hne' with hne' | ⟨hea, hne'⟩
                    · cases hu : undB L za zb o.a o.b
                      all_goals
                        have HU := hideIt hu
                        clear hu
                        go_wp2
                        have HR := hideIt (rowKeep HR.out ((Below.refl _ _).drew))
                        have HS := hideIt (HS.out.below ((Below.refl _ _).drew))
                        have HB := hideIt (HB.out.drew)
                        go_region_held3 (fun w' => w'.cell? ⟨gF, m * 4, none⟩ = some (.int .i64 za) ∧ w'.cell? ⟨gF, m * 4 + 1, none⟩ = some (.int .i64 zb) ∧ w'.cell? ⟨G, k * 7, none⟩ = some (.int .i64 o.a) ∧ w'.cell? ⟨G, k * 7 + 1, none⟩ = some (.int .i64 o.b))
                          (first | exact ⟨z0, z1, y0, y1⟩ | exact ⟨u0, u1, u2, u3⟩)
                          (first | (go_at_call 16; refine (implUnderO_any L G c _ _ _ _ x _ HS.out.at (by omega) HS.out.cap (errB HB.out h0 he) (posB HB.out h0) (fun _ => hwa) (fun _ => hwb)).mono ?_; rintro e w6 ⟨rfl, hb6⟩; rw [HU.out]; have HR := hideIt (rowKeep HR.out hb6); have HS := hideIt (HS.out.below hb6); have HB := hideIt (Bstep HB.out hb6); clear hb6; obtain ⟨u0, u1, _⟩ := lf_at HR.out hpm; obtain ⟨u2, u3, _⟩ := HS.out.at.2 k o hpk))
                        rename_i hHH
                        clear hHH u0 u1 u2 u3 y0 y1 y2 y3 y4 y5 y6 z0 z1 z2 z3
                      · go_wp2
                        exact ⟨⟨m + 1, by omega, by go_num, HR.out, HS.out, HB.out⟩, by simp [intOf]; omega⟩
                      · have HH := hideIt (HT.out (.inr HU.out))
                        obtain ⟨y0, y1, y2, y3, y4, y5, y6⟩ := HS.out.at.2 k o hpk
                        cases rb
                        · have htm : ¬ (t : Int) < (m : Int) := fun h => by have := HRB.out.2 (HH.out.1 (by omega)); cases this
                          go_wp2_with (first
                            | (go_at_call 24; refine (ltAt_any F _ _ _ _ _ HR.out (by omega)).mono ?_; rintro e w7 ⟨rfl, hb7⟩; rw [HAT.out]; have HR := hideIt (rowKeep HR.out hb7); have HS := hideIt (HS.out.below hb7); have HB := hideIt (Bstep HB.out hb7); clear hb7))
                          exact ⟨⟨m + 1, by omega, by go_num, HR.out, HS.out, HB.out⟩, by simp [intOf]; omega⟩
                        · have htm : (t : Int) < (m : Int) := by have := HH.out.2 (HRB.out.1 rfl); omega
                          go_wp2_with (first
                            | (go_at_call 24; refine (ltAt_any F _ _ _ _ _ HR.out (by omega)).mono ?_; rintro e w7 ⟨rfl, hb7⟩; rw [HAT.out]; have HR := hideIt (rowKeep HR.out hb7); have HS := hideIt (HS.out.below hb7); have HB := hideIt (Bstep HB.out hb7); clear hb7))
                          exact ⟨⟨m + 1, by omega, by go_num, HR.out, HS.out, HB.out⟩, by simp [intOf]; omega⟩
                    · subst hea
                      cases hu : undB L o.a zb o.a o.b
                      all_goals
                        have HU := hideIt hu
                        clear hu
                        go_wp2
                        have HR := hideIt (rowKeep HR.out ((Below.refl _ _).drew))
                        have HS := hideIt (HS.out.below ((Below.refl _ _).drew))
                        have HB := hideIt (HB.out.drew)
                        go_region_held3 (fun w' => w'.cell? ⟨gF, m * 4, none⟩ = some (.int .i64 o.a) ∧ w'.cell? ⟨gF, m * 4 + 1, none⟩ = some (.int .i64 zb) ∧ w'.cell? ⟨G, k * 7, none⟩ = some (.int .i64 o.a) ∧ w'.cell? ⟨G, k * 7 + 1, none⟩ = some (.int .i64 o.b))
                          (first | exact ⟨z0, z1, y0, y1⟩ | exact ⟨u0, u1, u2, u3⟩)
                          (first | (go_at_call 16; refine (implUnderO_any L G c _ _ _ _ x _ HS.out.at (by omega) HS.out.cap (errB HB.out h0 he) (posB HB.out h0) (fun _ => hwa) (fun _ => hwb)).mono ?_; rintro e w6 ⟨rfl, hb6⟩; rw [HU.out]; have HR := hideIt (rowKeep HR.out hb6); have HS := hideIt (HS.out.below hb6); have HB := hideIt (Bstep HB.out hb6); clear hb6; obtain ⟨u0, u1, _⟩ := lf_at HR.out hpm; obtain ⟨u2, u3, _⟩ := HS.out.at.2 k o hpk))
                        rename_i hHH
                        clear hHH u0 u1 u2 u3 y0 y1 y2 y3 y4 y5 y6 z0 z1 z2 z3
                      · go_wp2
                        exact ⟨⟨m + 1, by omega, by go_num, HR.out, HS.out, HB.out⟩, by simp [intOf]; omega⟩
                      · have HH := hideIt (HT.out (.inr HU.out))
                        obtain ⟨y0, y1, y2, y3, y4, y5, y6⟩ := HS.out.at.2 k o hpk
                        cases rb
                        · have htm : ¬ (t : Int) < (m : Int) := fun h => by have := HRB.out.2 (HH.out.1 (by omega)); cases this
                          go_wp2_with (first
                            | (go_at_call 24; refine (ltAt_any F _ _ _ _ _ HR.out (by omega)).mono ?_; rintro e w7 ⟨rfl, hb7⟩; rw [HAT.out]; have HR := hideIt (rowKeep HR.out hb7); have HS := hideIt (HS.out.below hb7); have HB := hideIt (Bstep HB.out hb7); clear hb7))
                          exact ⟨⟨m + 1, by omega, by go_num, HR.out, HS.out, HB.out⟩, by simp [intOf]; omega⟩
                        · have htm : (t : Int) < (m : Int) := by have := HH.out.2 (HRB.out.1 rfl); omega
                          go_wp2_with (first
                            | (go_at_call 24; refine (ltAt_any F _ _ _ _ _ HR.out (by omega)).mono ?_; rintro e w7 ⟨rfl, hb7⟩; rw [HAT.out]; have HR := hideIt (rowKeep HR.out hb7); have HS := hideIt (HS.out.below hb7); have HB := hideIt (Bstep HB.out hb7); clear hb7))
                          exact ⟨⟨m + 1, by omega, by go_num, HR.out, HS.out, HB.out⟩, by simp [intOf]; omega⟩
                · obtain rfl : m = F.length := by omega
                  go_wp2
                  exact ⟨⟨k + 1, by omega, by go_num, HR.out, HS.out, HB.out⟩, by simp [intOf]; omega⟩
          · rw [hk2] at y2
            clear hk2
            go_wp2
            exact ⟨⟨k + 1, by omega, by go_num, HR.out, HS.out, HB.out⟩, by simp [intOf]; omega⟩
        · obtain rfl : k = L.length := by omega
          go_wp2
          go_ret
          exact ⟨rfl, HB.out⟩
  · go_enter Tryd.func5, Tryd.ntmps5
    unfold maxLen at *
    have hn' : (1048576 : Int) < (n : Int) := by omega
    go_wp2
    go_ret
    exact ⟨rfl, Below.refl _ _⟩
end Go.Proofs.YtcnpfhnlniiacaaDoor

namespace Go.Proofs.YtcnpfhnlniiacaaDoor
open Go.ChangeShapes Go.WideShapes Go.ChangeAt Go.RowKit Go.Joins

set_option maxRecDepth 100000 in
theorem liftedFnLeavesSide (os : Os) (started : os.Started) (H : Type) (enc : TypeId × Value → H) :
    ReturnsInHanded {} Tryd.checked os 5 .any (fun w args => (Rows.fnLeavesSideSpec.pre enc Tryd.prog Tryd.f5 [] false w args ∧ laidMetH Tryd.prog laid1 w) ∧ sizedMet enc Tryd.prog Tryd.f5 (OpenSpec.ofChange Rows.fnLeavesSideSpec) false w args)
      (Rows.fnLeavesSideSpec.post enc Tryd.prog Tryd.f5 false true false false) := by
  refine returnsInHanded_of_change_and (C := Tryd.checked) (X := fun w _ => laidMetH Tryd.prog laid1 w) (fun _ _ _ hh h => h.of_heap hh) own started (by kernel_rfl) Tryd.func5
    (ChangeSpec.witness_shaped (enc := enc) (C := Tryd.checked) (os := os) (X := fun w _ => laidMetH Tryd.prog laid1 w) false (World.doorLaid Tryd.prog 28 os) #[.slice none 0 0] 8 rfl (World.shaped_of_RefB (by kernel_rfl) (by kernel_rfl)) (by kernel_rfl) (by kernel_rfl) (by kernel_rfl) (door_met os _)) ?_
  intro W base args ds gs before hval0 hW _ _ hL _
  have hval : ∀ (j : Nat) t v, Tryd.f5.params[j]? = some t → args[j]? = some v → Value.okWide Tryd.prog W .any base t v := hval0
  have hW' := hW
  obtain ⟨p, q, hA0, hV0, rfl, hfz, hnd⟩ := hW
  have hA : DataW.TrodAll enc Tryd.prog W 0 (fun _ => true) true Tryd.f5.params.toList args.toList ds p := hA0
  have hV : DataW.TrodVars enc Tryd.prog W (fun _ => true) [errName] gs q := hV0
  rw [Tryd.params5] at hA hval
  obtain ⟨v0, d0, rfl, rfl, h0⟩ := trodAll_one hA
  have k0 := h0
  have lt0 : ∀ x ∈ p, x.block < W.heap.size := by obtain ⟨m, hm⟩ := k0; exact DataW.trod_lt m _ _ _ hm
  obtain ⟨x, hv, hc, hpos⟩ := of_laid hL
  obtain ⟨rfl, rfl⟩ := hV.unique (vars_read1 enc gErr tErr Tryd.underlying77 hv trivial _)
  obtain ⟨q0, n0, c0, rfl, hc0, hm0, ha0⟩ := open_bytes (hval 0 22 v0 rfl rfl) h0
  clear hA0 hV0 hval0
  refine (walkLeavesSide W q0 n0 c0 ha0 hc0 hm0 x hc hpos).mono fun e W' ⟨he, bel⟩ => ?_
  subst he
  exact ⟨_, rfl, _, _, _, [], p, [.cell 0 0], hW', trodAll_mk1 (shut_bool Tryd.underlying4 _), trodAll_mk1 (Below.trod laidOut (by kernel_rfl) (of_decide_eq_true (by kernel_rfl)) k0 bel lt0), vars_read1 enc gErr tErr Tryd.underlying77 (var_kept bel hpos hv) trivial _, bel.frame _, fun h => by cases h⟩

theorem fnLeavesSide_row : Rows.FnLeavesSideSaid :=
  OpenClaim.holds_of_wide 5 Tryd.f5 rfl rfl rfl rfl rfl rfl rfl ⟨rfl, rfl, rfl, rfl, rfl⟩ rfl rfl rfl rfl rfl (by kernel_rfl) Tryd.func5 (by kernel_rfl)
    (of_decide_eq_true (by kernel_rfl)) (by unfold Func.isWrapper; first | (rw [if_pos (by decide +kernel)]; kernel_rfl) | (rw [if_neg (by decide +kernel)]; exact ⟨rfl, rfl⟩))
    (fun os started H enc _ => liftedFnLeavesSide os started H enc)

/-- THE STATEMENT. -/
theorem fnLeavesSide_holds : Rows.FnLeavesSideCardSaid :=
  Claim7.holds_tied_plain_at .later [] Rows.fnLeavesSideCard.laidKinds true Rows.fnLeavesSideCard.stood.harness true
    fnLeavesSide_row (fun _ h => by cases h) (by kernel_rfl) (fun _ h => by cases h) fnLeavesSide_row_tie rfl ⟨rfl, rfl⟩ (by kernel_rfl) rfl
    (fun f fn hf hfn => by
      obtain rfl : f = 5 := Option.some.inj ((show Tryd.prog.funcNamed Rows.fnLeavesSideRow.func = some 5 by kernel_rfl).symm.trans hf) |>.symm
      obtain rfl : fn = Tryd.f5 := (Option.some.inj (Tryd.func5.symm.trans hfn)).symm
      exact ⟨by kernel_rfl, fun j t ht => by
        rw [Tryd.params5] at ht
        have hm : t ∈ [22] := by simpa using Array.mem_of_getElem? ht
        have hall : ([22].all fun u => !Tryd.prog.wantsStandIn u) = true := by kernel_rfl
        exact (show Tryd.prog.wantsStandIn t = false by simpa using List.all_eq_true.1 hall t hm)⟩)
    (by kernel_rfl)
#print axioms fnLeavesSide_holds
end Go.Proofs.YtcnpfhnlniiacaaDoor
