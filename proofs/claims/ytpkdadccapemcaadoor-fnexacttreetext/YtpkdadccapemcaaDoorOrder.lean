/- The contract of l1Order, at things in form. -/
import Derived.Test.YtpkdadccapemcaaDoorMath
import Derived.BigQuiet
import Derived.WalkSmall
namespace Go.Proofs.YtpkdadccapemcaaDoor
open Go.RowKit
set_option linter.unusedSimpArgs false
set_option linter.unusedVariables false

set_option maxHeartbeats 1000000 in
theorem l1Order_any (l : List Op7) (g cap : Nat) (w : World) (hl : OpsAt w g l) (hn : l.length ≤ 1048576) (hcap : l.length ≤ cap) (hok : l.all okO = true) :
    Calls Tryd.prog 41 #[.slice (some ⟨g, 0, none⟩) l.length cap] w fun e w' => e = .returned (.bool (ordB l)) ∧ Below w.heap.size w w' := by
  go_enter Tryd.func41, Tryd.ntmps41
  go_wp2
  go_loopw [3] (fun i wr => ∃ k : Nat, k ≤ l.length ∧ i = .int .i64 k ∧ (∀ j, j < k → stepAt l j = true) ∧ Below w.heap.size w wr)
    (fun i _ => l.length - (intOf i).toNat)
  case atStart => exact ⟨0, Nat.zero_le _, rfl, fun j h => by omega, by go_grown⟩
  case round =>
    obtain ⟨k, hk, rfl, hno, hB⟩ := hrel
    have HN : Hid (∀ j, j < k → stepAt l j = true) := hno
    have HB : Hid (Below w.heap.size w wr) := hB
    have HO : Hid (l.all okO = true) := hok
    clear hno
    by_cases hlt : k < l.length
    · have hnext : Hid (stepAt l k = true → ∀ j, j < k + 1 → stepAt l j = true) := fun hf j hj1 => by
        rcases Nat.lt_or_ge j k with h | h
        · exact HN.out j h
        · obtain rfl : j = k := by omega
          exact hf
      have hbad : Hid (stepAt l k = false → ordB l = false) := ord_false hlt
      obtain ⟨h0, h1, _⟩ := (hl.below hB hl.1).2 k l[k] (by simp [hlt])
      have hgr := (hl.below hB hl.1).1
      obtain ⟨ha1, ha3, hb1, hb12⟩ := okO_id (all_iff.1 hok k hlt)
      rcases k with _ | k
      · have hst := step_zero hlt
        have hst' : Hid (stepAt l 0 = stepB 0 0 l[0].a l[0].b) := hst
        generalize l[0].a = xa at *
        generalize l[0].b = xb at *
        clear hst hB hl hok
        simp only [Nat.zero_mul] at h0 h1
        by_cases hx : xb = 1
        · subst hx
          go_wp2
          go_quiet (fail)
          go_wp2
          go_quiet (fail)
          go_wp2
          have hgood := hnext.out (hst'.out.trans (stepB_true (by omega)))
          refine ⟨⟨0 + 1, by omega, by go_num, hgood, ?_⟩, ?_⟩
          · repeat (first | exact HB.out | refine below_drewN ?_ _ | refine Below.alloc ?_ HB.out.size _)
          · simp [intOf]; omega
        · have hx1 : (xb != 1) = true := by simpa using hx
          go_wp2
          go_quiet (fail)
          go_wp2
          go_quiet (fail)
          go_wp2
          go_ret
          exact ⟨ret_bool (by rw [hbad.out (hst'.out.trans (stepB_false (by omega)))]), by repeat (first | exact HB.out | refine below_drewN ?_ _ | refine Below.alloc ?_ HB.out.size _)⟩
      · have hlt0 : k < l.length := by omega
        obtain ⟨p0, p1, _⟩ := (hl.below hB hl.1).2 k l[k] (by simp [hlt0])
        obtain ⟨pa1, pa3, pb1, pb12⟩ := okO_id (all_iff.1 hok k hlt0)
        have hst' : Hid (stepAt l (k + 1) = stepB l[k].a l[k].b l[k + 1].a l[k + 1].b) := step_succ hlt
        generalize l[k + 1].a = xa at *
        generalize l[k + 1].b = xb at *
        generalize l[k].a = pa at *
        generalize l[k].b = pb at *
        have hk0 : (0 : Int) ≤ (k : Int) := by omega
        have hk1 : (k : Int) + 1 < (l.length : Int) := by omega
        have hwk : IntKind.i64.wrap (k : Int) = k := IntWalk.i64_in _ ⟨by omega, by omega⟩
        have hwb : IntKind.i64.wrap (xb - 1) = xb - 1 := IntWalk.i64_in _ ⟨by omega, by omega⟩
        have hwp : IntKind.i64.wrap pb = pb := IntWalk.i64_in _ ⟨by omega, by omega⟩
        have hk00 : ((k : Int) + 1 == 0) = false := by simp; omega
        clear hB hl hok
        by_cases hpx : pa < xa
        · by_cases hx : xb = 1
          · subst hx
            go_wp2
            go_quiet (fail)
            go_wp2
            go_quiet (fail)
            go_wp2
            have hgood := hnext.out (hst'.out.trans (stepB_true (by omega)))
            refine ⟨⟨k + 1 + 1, by omega, by go_num, hgood, ?_⟩, ?_⟩
            · repeat (first | exact HB.out | refine below_drewN ?_ _ | refine Below.alloc ?_ HB.out.size _)
            · simp [intOf]; omega
          · have hx1 : (xb != 1) = true := by simpa using hx
            go_wp2
            go_quiet (fail)
            go_wp2
            go_quiet (fail)
            go_wp2
            go_ret
            exact ⟨ret_bool (by rw [hbad.out (hst'.out.trans (stepB_false (by omega)))]), by repeat (first | exact HB.out | refine below_drewN ?_ _ | refine Below.alloc ?_ HB.out.size _)⟩
        · by_cases hpe : pa = xa
          · subst hpe
            by_cases hx : xb = pb + 1
            · subst hx
              go_wp2
              go_quiet (fail)
              go_wp2
              go_quiet (fail)
              go_wp2
              have hgood := hnext.out (hst'.out.trans (stepB_true (by omega)))
              refine ⟨⟨k + 1 + 1, by omega, by go_num, hgood, ?_⟩, ?_⟩
              · repeat (first | exact HB.out | refine below_drewN ?_ _ | refine Below.alloc ?_ HB.out.size _)
              · simp [intOf]; omega
            · have hx1 : (pb != xb - 1) = true := by simp; omega
              go_wp2
              go_quiet (fail)
              go_wp2
              go_quiet (fail)
              go_wp2
              go_ret
              exact ⟨ret_bool (by rw [hbad.out (hst'.out.trans (stepB_false (by omega)))]), by repeat (first | exact HB.out | refine below_drewN ?_ _ | refine Below.alloc ?_ HB.out.size _)⟩
          · have hx1 : (pa != xa) = true := by simpa using hpe
            have hpd : decide (pa < xa) = false := decide_eq_false hpx
            go_wp2
            go_quiet (fail)
            go_wp2
            go_quiet (fail)
            go_wp2
            go_ret
            exact ⟨ret_bool (by rw [hbad.out (hst'.out.trans (stepB_false (by omega)))]), by repeat (first | exact HB.out | refine below_drewN ?_ _ | refine Below.alloc ?_ HB.out.size _)⟩
    · clear hB hl hok
      go_wp2
      go_ret
      exact ⟨ret_bool (by rw [ord_iff.2 (fun j hj => HN.out j (by omega))]), HB.out⟩
end Go.Proofs.YtpkdadccapemcaaDoor
