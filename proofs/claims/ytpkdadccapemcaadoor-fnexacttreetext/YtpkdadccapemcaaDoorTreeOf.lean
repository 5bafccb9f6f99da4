/- The contract of treeOf. -/
import Derived.Test.YtpkdadccapemcaaDoorTreeInv
import Derived.BigQuiet
import Derived.WalkSmall
import Derived.Deep.RegionHeld3
import Derived.Deep.DrawnRows
namespace Go.Proofs.YtpkdadccapemcaaDoor
open Go.RowKit
open Go.Maps (Keyed)
set_option linter.unusedSimpArgs false
set_option linter.unusedVariables false
attribute [local go_sem ↓] Go.wp_at_zero Go.wp_at_succ

set_option maxRecDepth 100000 in
set_option maxHeartbeats 4000000 in
theorem treeOf_any (l : List Op7) (g cap : Nat) (x : Addr) (w : World) (hl : OpsAt w g l) (hn : l.length ≤ 1048576) (hcap : l.length ≤ cap)
    (he : w.cell? ⟨0, 0, none⟩ = some (.iface 127 (.pointer (some x)))) (h0 : 0 < w.heap.size) :
    Calls Tryd.prog 29 #[.slice (some ⟨g, 0, none⟩) l.length cap] w fun e w' =>
      ((opsB l = true ∧ ∃ b1 b2 b3 base, e = .returned (.tuple #[.agg #[.map (some b1), .map (some b2), .map (some b3)], .nilIface]) ∧ TreeAt w' b1 b2 b3 base l) ∨
       (opsB l = false ∧ e = .returned (.tuple #[.agg #[.map none, .map none, .map none], .iface 127 (.pointer (some x))]))) ∧ Below w.heap.size w w' := by
  have HL := hideIt hl
  clear hl
  have hmm := @run_makeMap Tryd.prog
  go_enter Tryd.func29, Tryd.ntmps29
  go_wp2_with fail
  have HB0 : Hid (Below w.heap.size w (w.alloc (.cells #[.map none, .map none, .map none] 55))) := (Below.refl _ _).alloc (Nat.le_refl _) _
  refine (things_any l g cap x _ (HL.out.below HB0.out HL.out.1) hn hcap (errB HB0.out h0 he) (posB HB0.out h0)).mono ?_
  rintro e w1 ⟨(⟨ht, M, hMM, rfl, hT⟩ | ⟨ht, rfl⟩), hb1⟩
  all_goals
    rw [th_same] at ht
    have HT := hideIt ht
    have HB1 := hideIt (Bstep HB0.out hb1)
    have r0 : w1.cell? ⟨w.heap.size, 0, none⟩ = some (.map none) := by rw [(bcell hb1).1 _ _ (by simp)]; simp [go_sem]
    have r1 : w1.cell? ⟨w.heap.size, 1, none⟩ = some (.map none) := by rw [(bcell hb1).1 _ _ (by simp)]; simp [go_sem]
    have r2 : w1.cell? ⟨w.heap.size, 2, none⟩ = some (.map none) := by rw [(bcell hb1).1 _ _ (by simp)]; simp [go_sem]
    have rf : ∀ j, w1.frozen? ⟨w.heap.size, j, none⟩ = false := fun j => by rw [(bcell hb1).2 _ _ (by simp)]; simp [go_sem]
    have hz1 : w.heap.size < w1.heap.size := by have := hb1.size; simp at this; omega
    clear ht hb1
  · have HTT := hideIt hT
    have hM1 := hT.1
    clear hT
    obtain ⟨hok, hord⟩ := opsParts HT.out
    have HOK := hideIt hok
    have HI0 : Hid (TInv w w1 ((((w1.alloc (.map #[] 0)).alloc (.map #[] 0)).alloc (.map #[] 0)).alloc (.cells #[.map (some w1.heap.size), .map (some (w1.heap.size + 1)), .map (some (w1.heap.size + 1 + 1))] 55)) 0 l) := tinv_start HB1.out
    clear hok hord
    go_wp2_with fail
    generalize hTB : w1.heap.size + 1 + 1 + 1 = tb
    go_loopw [27] (fun i wr => ∃ k : Nat, k ≤ l.length ∧ i = .int .i64 k ∧ TInv w w1 wr k l)
      (fun i _ => l.length - (intOf i).toNat)
    case atStart => exact ⟨0, Nat.zero_le _, rfl, HI0.out⟩
    case round =>
      obtain ⟨k, hk, rfl, hI⟩ := hrel
      have HI := hideIt hI
      have t0 := hI.t0
      have t1 := hI.t1
      have t2 := hI.t2
      rw [hTB] at t0 t1 t2
      have hzr := hI.sz
      have HTr := hideIt (HTT.out.below hI.old hM1)
      have hT3 : tb < wr.heap.size := by omega
      have hMr : M < wr.heap.size := by omega
      have hwr : w.heap.size < wr.heap.size := by omega
      have q0 := ((bcell hI.old).1 w.heap.size 0 hz1).trans r0
      have q1 := ((bcell hI.old).1 w.heap.size 1 hz1).trans r1
      have q2 := ((bcell hI.old).1 w.heap.size 2 hz1).trans r2
      have qf : ∀ j, wr.frozen? ⟨w.heap.size, j, none⟩ = false := fun j => ((bcell hI.old).2 w.heap.size j hz1).trans (rf j)
      clear hI HI0
      by_cases hlt : k < l.length
      · have hc := HTr.out.2 k l[k] (by simp [hlt])
        have hoo := all_iff.1 HOK.out k hlt
        have htk : Hid (l.take (k + 1) = l.take k ++ [l[k]]) := List.take_succ_eq_append_getElem hlt
        generalize l[k] = o at *
        have hlt' : (k : Int) < (l.length : Int) := by omega
        have hk0 : (0 : Int) ≤ (k : Int) := by omega
        have as1 := Tryd.asPut
        have as2 := Tryd.asNoPut
        have as3 := Tryd.asTake
        have hnum := okO_num hoo
        rcases thV_cases hoo with ⟨e1, e2⟩ | ⟨e1, e2⟩
        · rw [e1] at hc
          have hS := tinv_put1 HI.out (Nat.le_of_lt hz1) (.cells #[.int .i64 o.a, .int .i64 o.b, .int .i64 o.c, .int .i64 o.d, .int .i64 o.s, .int .i64 o.g] 77) (.cells #[.int .i64 o.c, .int .i64 o.d, .int .i64 o.s] 73)
          have HS := hideIt hS
          obtain ⟨kl, hkl⟩ := key_id (r := o.a) (m := o.b) (wf_small (by omega)) (wf_small (by omega))
          obtain ⟨ks, hks⟩ := key_spot (r := o.c) (m := o.d) (s := o.s) (wf_small (by omega)) (wf_small (by omega)) (wf_small (by omega))
          have HKL := hideIt hkl
          have HKS := hideIt hks
          obtain ⟨i0, hi, hz0, hz1', hz2⟩ := info_parts infoPut
          have HI1 := hideIt hi
          have HZ0 := hideIt hz0
          have HZ1 := hideIt hz1'
          have HZ2 := hideIt hz2
          have hkl1 := kids_le (l.take k) (o.c, o.d, o.s)
          have hkl2 : (l.take k).length ≤ k := List.length_take_le _ _
          clear hS hkl hks hi hz0 hz1' hz2
          go_wp2_with (first
            | (at_mapUpdate; refine wpList_store_fn (t := 51) (e := 77) rfl _ _ _ rfl keyedId Tryd.underlying51 encId_inj rfl HS.out.sg (o.a, o.b) rfl kl HKL.out _ rfl ?_; intro w2 hM2 hg2; have H2 := hideIt (TI.sign HS.out (Nat.le_of_lt hz1) hg2 hM2);
                have c2 : ∀ j, w2.cell? ⟨wr.heap.size, j, none⟩ = _ := (fun j => grown_cell hg2 (by simp; omega) (by simp; omega) j);
                have d2 : ∀ j, w2.cell? ⟨wr.heap.size + 1, j, none⟩ = _ := (fun j => grown_cell hg2 (by simp) (by simp; omega) j);
                have s2 : wr.heap.size + 1 < w2.heap.size := (by have := hg2.size; simp at this; omega); have s2' : wr.heap.size < w2.heap.size := (by omega);
                have u0 := H2.out.t0; have u1 := H2.out.t1; have u2 := H2.out.t2; rw [hTB] at u0 u1 u2; have hT4 : tb < w2.heap.size := (by omega); clear hM2 hg2)
            | (have H2a := hideIt (TI.grown H2.out (Nat.le_of_lt hz1) (World.grownBy_alloc w2 (.cells #[.int .i64 o.a, .int .i64 o.b, .int .i64 o.c, .int .i64 o.d, .int .i64 o.s, .int .i64 o.g] 77) none)); obtain ⟨f, hf⟩ := H2a.out.kd; obtain ⟨v0, hv0⟩ : ∃ v0, (f (o.c, o.d, o.s)).getD (.slice none 0 0) = v0 := ⟨_, rfl⟩;
                refine wpList_entry_fn (t := 52) (e := 71) rfl _ _ rfl keyedSpot Tryd.underlying52 (.slice none 0 0) (zeroSlice _) encSpot_inj rfl hf.1 (o.c, o.d, o.s) rfl ks HKS.out v0 hv0 ?_; intro w3 sx hM3 hg3;
                have HM3 := hideIt hM3; have H3 := hideIt (TI.entry H2a.out (Nat.le_of_lt hz1) hf (o.c, o.d, o.s) hg3 (by rw [hv0]; exact hM3.fn));
                have HK3 : Hid (KidsFn w3 (w1.heap.size + 1) (w1.heap.size + 4) (l.take k) (upd f (o.c, o.d, o.s) v0)) := (by have h := hf.entry (o.c, o.d, o.s) hg3 (by rw [hv0]; exact hM3.fn); rw [hv0] at h; exact h);
                have HOW : Hid (w3.ownsRow (w1.heap.size + 4) 77 6 v0 (kidsL (l.take k) (o.c, o.d, o.s)).length (putCells (kidsL (l.take k) (o.c, o.d, o.s)))) := (by have h := HK3.out.at (o.c, o.d, o.s); rw [upd_same] at h; exact h);
                have HNW : Hid (∀ j u, ([.int .i64 o.a, .int .i64 o.b, .int .i64 o.c, .int .i64 o.d, .int .i64 o.s, .int .i64 o.g] : List Value)[j]? = some u → w3.cell? ((⟨w2.heap.size, 0, none⟩ : Addr).add j) = some u) := (fun j u hj => by have h := cells_new w2 [.int .i64 o.a, .int .i64 o.b, .int .i64 o.c, .int .i64 o.d, .int .i64 o.s, .int .i64 o.g] 77 j u hj; rw [Addr.add_lit] at h ⊢; rw [grown_cell hg3 (by simp) (some_ne (by omega))]; exact h);
                have s3 : w1.heap.size + 4 ≤ w3.heap.size := H3.out.sz; clear hM3 hg3 hf H2a)
            | (at_builtin; refine wpList_append_own_at _ rfl _ _ 71 rfl (w1.heap.size + 4) 77 i0 _ 6 48 Tryd.underlying71 HI1.out HZ0.out HZ1.out HZ2.out rfl (by decide) v0 _ _ rfl HOW.out ⟨w2.heap.size, 0, none⟩ 1 1 [.int .i64 o.a, .int .i64 o.b, .int .i64 o.c, .int .i64 o.d, .int .i64 o.s, .int .i64 o.g] rfl rfl HNW.out ints_one (by unfold maxLen; omega) (by omega) s3 ?_; intro v' w4 hown4 hg4 _ hloc;
                have HO4 := hideIt hown4; have HG4 := hideIt hg4; have HLC := hideIt hloc; clear hown4 hg4 hloc)
            | (refine wpList_write_fn (t := 52) rfl _ _ _ rfl encSpot_inj rfl (HM3.out.kept HG4.out (fun e => by have h1 := (HOW.out.lt _ e.symm).1; omega)) rfl ks HKS.out _ rfl ?_; intro w5 hM5 hg5; have HEND := hideIt (TI.put_end (Nat.le_of_lt hz1) H3.out HK3.out e2 htk.out HO4.out HG4.out HLC.out hM5 hg5); clear hM5 hg5))
          exact ⟨⟨k + 1, by omega, by go_num, HEND.out⟩, by simp [intOf]; omega⟩
        · rw [e1] at hc
          have hne1 : o.k ≠ 1 := by omega
          obtain ⟨kl, hkl⟩ := key_id (r := o.c) (m := o.d) (wf_small (by omega)) (wf_small (by omega))
          obtain ⟨nn, hnn⟩ : ∃ nn, takesN (l.take k) (o.c, o.d) = nn := ⟨_, rfl⟩
          have hnl : nn ≤ 1048576 := by
            have h1 := takesN_le (l.take k) (o.c, o.d)
            have h2 : (l.take k).length ≤ k := List.length_take_le _ _
            omega
          have HW := hideIt (TI.drew (TI.grown HI.out (Nat.le_of_lt hz1) (World.grownBy_alloc wr (.cells #[.int .i64 o.a, .int .i64 o.b, .int .i64 o.c, .int .i64 o.d] 89) none)))
          obtain ⟨w2, w3, sx, L0, E0, L2, S2, hg2, hg3, hEND⟩ := take_runs (Nat.le_of_lt hz1) HW.out hne1 htk.out hkl hnn
          have HEND := hideIt hEND
          have n0 : (0 : Int) ≤ (nn : Int) := by omega
          have n1 : (nn : Int) ≤ 1048576 := by omega
          have hwn : IntKind.i64.wrap ((nn : Int) + 1) = (nn : Int) + 1 := IntWalk.i64_in _ ⟨by omega, by omega⟩
          have z2 := hg2.size
          simp at z2
          have k1 : (wr.alloc (.cells #[.int .i64 o.a, .int .i64 o.b, .int .i64 o.c, .int .i64 o.d] 89)).drew.cell? ⟨tb, 2, none⟩ = some (.map (some (w1.heap.size + 1 + 1))) ∧ (wr.alloc (.cells #[.int .i64 o.a, .int .i64 o.b, .int .i64 o.c, .int .i64 o.d] 89)).drew.cell? ⟨wr.heap.size, 2, none⟩ = some (.int .i64 o.c) ∧ (wr.alloc (.cells #[.int .i64 o.a, .int .i64 o.b, .int .i64 o.c, .int .i64 o.d] 89)).drew.cell? ⟨wr.heap.size, 3, none⟩ = some (.int .i64 o.d) := by
            refine ⟨?_, by simp [go_sem], by simp [go_sem]⟩
            have := HW.out.t2
            rw [hTB] at this
            exact this
          have k2 : w2.cell? ⟨tb, 2, none⟩ = some (.map (some (w1.heap.size + 1 + 1))) ∧ w2.cell? ⟨wr.heap.size, 2, none⟩ = some (.int .i64 o.c) ∧ w2.cell? ⟨wr.heap.size, 3, none⟩ = some (.int .i64 o.d) :=
            ⟨(grown_cell hg2 (by simp; omega) (some_ne (by omega)) _).trans k1.1, (grown_cell hg2 (by simp) (some_ne (by omega)) _).trans k1.2.1, (grown_cell hg2 (by simp) (some_ne (by omega)) _).trans k1.2.2⟩
          have k3 : w3.cell? ⟨tb, 2, none⟩ = some (.map (some (w1.heap.size + 1 + 1))) ∧ w3.cell? ⟨wr.heap.size, 2, none⟩ = some (.int .i64 o.c) ∧ w3.cell? ⟨wr.heap.size, 3, none⟩ = some (.int .i64 o.d) :=
            ⟨(grown_cell hg3 (by omega) (some_ne (by omega)) _).trans k2.1, (grown_cell hg3 (by omega) (some_ne (by omega)) _).trans k2.2.1, (grown_cell hg3 (by omega) (some_ne (by omega)) _).trans k2.2.2⟩
          have K1 := hideIt k1
          have K2 := hideIt k2
          have K3 := hideIt k3
          clear k1 k2 k3 hg2 hg3 hEND hkl hnn
          go_wp2_with fail
          go_region_held3 (fun w' => w'.cell? ⟨tb, 2, none⟩ = some (.map (some (w1.heap.size + 1 + 1))) ∧ w'.cell? ⟨wr.heap.size, 2, none⟩ = some (.int .i64 o.c) ∧ w'.cell? ⟨wr.heap.size, 3, none⟩ = some (.int .i64 o.d))
            (first | exact K1.out | exact K2.out | exact K3.out)
            (fail)
          all_goals
            go_wp2
            exact ⟨⟨k + 1, by omega, by go_num, HEND.out⟩, by simp [intOf]; omega⟩
      · obtain rfl : k = l.length := by omega
        have HEND := hideIt HI.out
        go_wp2
        refine bodyPost_ret (v := .tuple #[.agg #[.map (some w1.heap.size), .map (some (w1.heap.size + 1)), .map (some (w1.heap.size + 1 + 1))], .nilIface]) (by simp [results, Tryd.results29, go_sem, q0, q1, q2, t0, t1, t2]) rfl ⟨.inl ⟨HT.out, _, _, _, w1.heap.size + 4, rfl, ?_⟩, ?_⟩
        · have h := HEND.out
          unfold TInv at h
          rw [List.take_length] at h
          obtain ⟨f, hf⟩ := h.kd
          have hg := ((set_cell_grown wr ⟨w.heap.size, 0, none⟩ (.map (some w1.heap.size))).trans (set_cell_grown _ ⟨w.heap.size, 1, none⟩ (.map (some (w1.heap.size + 1))))).trans (set_cell_grown _ ⟨w.heap.size, 2, none⟩ (.map (some (w1.heap.size + 1 + 1))))
          exact ⟨h.sg.kept hg (some_ne (by show w1.heap.size ≠ w.heap.size; omega)), ⟨f, hf.kept hg (fun j e => by have e' := Option.some.inj e; dsimp only at e'; omega)⟩, h.tk.kept hg (some_ne (by show w1.heap.size + 1 + 1 ≠ w.heap.size; omega))⟩
        · exact ((HEND.out.bel.setCell (Nat.le_refl _) _).setCell (Nat.le_refl _) _).setCell (Nat.le_refl _) _
  · go_wp2
    refine bodyPost_ret (v := .tuple #[.agg #[.map none, .map none, .map none], .iface 127 (.pointer (some x))]) (by simp [results, Tryd.results29, go_sem, r0, r1, r2]) rfl ⟨.inr ⟨HT.out, rfl⟩, ?_⟩
    exact ((HB1.out.setCell (Nat.le_refl _) _).setCell (Nat.le_refl _) _).setCell (Nat.le_refl _) _
end Go.Proofs.YtpkdadccapemcaaDoor
