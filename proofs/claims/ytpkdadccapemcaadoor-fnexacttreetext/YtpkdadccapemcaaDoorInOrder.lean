/- The contract of inOrder, at things in form. -/
import Derived.Test.YtpkdadccapemcaaDoorMeth
import Derived.BigQuiet
import Derived.WalkSmall
namespace Go.Proofs.YtpkdadccapemcaaDoor
open Go.RowKit
set_option linter.unusedSimpArgs false
set_option linter.unusedVariables false

set_option maxRecDepth 100000 in
set_option maxHeartbeats 1000000 in
theorem inOrder_any (l : List Op7) (g cap : Nat) (w : World) (hl : ThingsAt w g l) (hn : l.length ≤ 1048576) (hcap : l.length ≤ cap) (hok : l.all okO = true) :
    Calls Tryd.prog 55 #[.slice (some ⟨g, 0, none⟩) l.length cap] w fun e w' => e = .returned (.bool (ordB l)) ∧ Below w.heap.size w w' := by
  have hgw : g < w.heap.size := hl.1
  have HL0 : Hid (ThingsAt w g l) := hl
  have HO : Hid (l.all okO = true) := hok
  clear hl hok
  go_enter Tryd.func55, Tryd.ntmps55
  go_wp2
  go_loopw [11] (fun i wr => ∃ k : Nat, k ≤ l.length ∧ i = .int .i64 k ∧ (∀ j, j < k → stepAt l j = true) ∧ wr.cell? ⟨w.heap.size, 0, none⟩ = some (.int .i64 (prevA l k)) ∧ wr.cell? ⟨w.heap.size, 1, none⟩ = some (.int .i64 (prevB l k)) ∧ (∀ j, wr.frozen? ⟨w.heap.size, j, none⟩ = false) ∧ w.heap.size < wr.heap.size ∧ Below w.heap.size w wr)
    (fun i _ => l.length - (intOf i).toNat)
  case atStart => exact ⟨0, Nat.zero_le _, rfl, fun j h => by omega, by simp [go_sem, prevA], by simp [go_sem, prevB], fun j => by simp [go_sem], by simp, by go_grown⟩
  case round =>
    obtain ⟨k, hk, rfl, hno, q0, q1, hfz, hws, hB⟩ := hrel
    have HN : Hid (∀ j, j < k → stepAt l j = true) := hno
    have HB : Hid (Below w.heap.size w wr) := hB
    have HL : Hid (ThingsAt wr g l) := HL0.out.below hB hgw
    have hgr : g < wr.heap.size := HL.out.1
    clear hno hB
    by_cases hlt : k < l.length
    · have hnext : Hid (stepAt l k = true → ∀ j, j < k + 1 → stepAt l j = true) := fun hf j hj1 => by
        rcases Nat.lt_or_ge j k with h | h
        · exact HN.out j h
        · obtain rfl : j = k := by omega
          exact hf
      have hbad : Hid (stepAt l k = false → ordB l = false) := ord_false hlt
      have h0 := HL.out.2 k l[k] (by simp [hlt])
      obtain ⟨ha1, ha3, hb1, hb12⟩ := okO_id (all_iff.1 HO.out k hlt)
      obtain ⟨pa0, pa3, pb0, pb12⟩ := prevA_le HO.out k hk
      have hpv : Hid (prevA l (k + 1) = l[k].a ∧ prevB l (k + 1) = l[k].b) := prev_succ hlt
      have hst : Hid (stepAt l k = stepB (prevA l k) (prevB l k) l[k].a l[k].b) := step_at hlt
      have hcs := thV_cases (all_iff.1 HO.out k hlt)
      generalize l[k] = o at *
      obtain ⟨xa, xb, xk, xc, xd, xs, xg⟩ := o
      simp only at *
      generalize prevA l k = pa at *
      generalize prevB l k = pb at *
      have hlt' : (k : Int) < (l.length : Int) := by omega
      have hk0 : (0 : Int) ≤ (k : Int) := by omega
      rcases hcs with ⟨hth, _⟩ | ⟨hth, _⟩
      · rw [hth] at h0
        clear hth
        have mO := Tryd.ownPut
        go_wp2_with (first | (go_at_call 84; refine (own_any _ _ _ _ _).mono ?_; rintro e w2 ⟨rfl, hb2⟩; have HB2 : Hid (Below w.heap.size w w2) := Bstep HB.out hb2; have hcb : ∀ o, w2.cell? ⟨w.heap.size, o, none⟩ = wr.cell? ⟨w.heap.size, o, none⟩ := (fun o => (bcell hb2).1 _ _ hws); have hfb : ∀ o, w2.frozen? ⟨w.heap.size, o, none⟩ = wr.frozen? ⟨w.heap.size, o, none⟩ := (fun o => (bcell hb2).2 _ _ hws); have hws2 : w.heap.size < w2.heap.size := Nat.lt_of_lt_of_le hws hb2.size; have hne2 : ¬ w.heap.size = w2.heap.size := (by omega); have hne3 : ¬ w.heap.size = w2.heap.size + 1 := (by omega); clear hb2))
        all_goals
          have hbel := HB2.out
          obtain ⟨hpv1, hpv2⟩ := hpv.out
        all_goals first
          | (go_ret; exact ⟨ret_bool (hbad.out (hst.out.trans (stepB_false (by omega)))).symm, by go_grown⟩)
          | (refine ⟨⟨k + 1, by omega, by go_num, hnext.out (hst.out.trans (stepB_true (by omega))), ?_, ?_, ?_, ?_, ?_⟩, by simp [intOf]; omega⟩
             · rw [hpv1]; simp [hcb, q0, q1, go_sem, hne2, hne3, *]
             · rw [hpv2]; simp [hcb, q0, q1, go_sem, hne2, hne3, *]
             · intro j; simp [frozen?_alloc_cells, hfb, hfz]
             · simp; omega
             · go_grown)
      · rw [hth] at h0
        clear hth
        have mO := Tryd.ownTake
        go_wp2_with (first | (go_at_call 84; refine (own_any _ _ _ _ _).mono ?_; rintro e w2 ⟨rfl, hb2⟩; have HB2 : Hid (Below w.heap.size w w2) := Bstep HB.out hb2; have hcb : ∀ o, w2.cell? ⟨w.heap.size, o, none⟩ = wr.cell? ⟨w.heap.size, o, none⟩ := (fun o => (bcell hb2).1 _ _ hws); have hfb : ∀ o, w2.frozen? ⟨w.heap.size, o, none⟩ = wr.frozen? ⟨w.heap.size, o, none⟩ := (fun o => (bcell hb2).2 _ _ hws); have hws2 : w.heap.size < w2.heap.size := Nat.lt_of_lt_of_le hws hb2.size; have hne2 : ¬ w.heap.size = w2.heap.size := (by omega); have hne3 : ¬ w.heap.size = w2.heap.size + 1 := (by omega); clear hb2))
        all_goals
          have hbel := HB2.out
          obtain ⟨hpv1, hpv2⟩ := hpv.out
        all_goals first
          | (go_ret; exact ⟨ret_bool (hbad.out (hst.out.trans (stepB_false (by omega)))).symm, by go_grown⟩)
          | (refine ⟨⟨k + 1, by omega, by go_num, hnext.out (hst.out.trans (stepB_true (by omega))), ?_, ?_, ?_, ?_, ?_⟩, by simp [intOf]; omega⟩
             · rw [hpv1]; simp [hcb, q0, q1, go_sem, hne2, hne3, *]
             · rw [hpv2]; simp [hcb, q0, q1, go_sem, hne2, hne3, *]
             · intro j; simp [frozen?_alloc_cells, hfb, hfz]
             · simp; omega
             · go_grown)
    · obtain rfl : k = l.length := by omega
      go_wp2
      go_ret
      exact ⟨ret_bool (by rw [ord_iff.2 (fun j hj => HN.out j (by omega))]), HB.out⟩
end Go.Proofs.YtpkdadccapemcaaDoor
