/- The contract of the specification's OpsOk. -/
import Derived.Test.YtpkdadccapemcaaDoorRefs
import Derived.Test.YtpkdadccapemcaaDoorOrder
import Derived.Test.YtpkdadccapemcaaDoorOp
namespace Go.Proofs.YtpkdadccapemcaaDoor
open Go.RowKit
set_option linter.unusedSimpArgs false
set_option linter.unusedVariables false

theorem opsB_of {l : List Op7} (h1 : l.all okO = true) (h2 : ordB l = true) (h3 : l.all (refsB l) = true) (h4 : l.all (deepF l (l.length + 1)) = true) : opsB l = true := by
  unfold opsB; rw [h1, h2, h3, h4]; rfl
theorem opsB_no1 {l : List Op7} (h : l.all okO = false) : opsB l = false := by unfold opsB; rw [h]; rfl
theorem opsB_no2 {l : List Op7} (h : ordB l = false) : opsB l = false := by unfold opsB; rw [h]; cases l.all okO <;> rfl
theorem opsB_no3 {l : List Op7} (h : l.all (refsB l) = false) : opsB l = false := by unfold opsB; rw [h]; cases l.all okO <;> cases ordB l <;> rfl
theorem opsB_no4 {l : List Op7} (h : l.all (deepF l (l.length + 1)) = false) : opsB l = false := by unfold opsB; rw [h]; cases l.all okO <;> cases ordB l <;> cases l.all (refsB l) <;> rfl

set_option maxHeartbeats 2000000 in
theorem specOps_any (l : List Op7) (g cap : Nat) (w : World) (hl : OpsAt w g l) (hn : l.length ≤ 1048576) (hcap : l.length ≤ cap) :
    Calls Tryd.prog 26 #[.slice (some ⟨g, 0, none⟩) l.length cap] w fun e w' => e = .returned (.bool (opsB l)) ∧ Below w.heap.size w w' := by
  have hgw : g < w.heap.size := hl.1
  have HL0 : Hid (OpsAt w g l) := hl
  clear hl
  go_enter Tryd.func26, Tryd.ntmps26
  go_wp2
  go_loopw [3] (fun i wr => ∃ k : Nat, k ≤ l.length ∧ i = .int .i64 k ∧ (∀ j (hj : j < l.length), j < k → okO l[j] = true) ∧ Below w.heap.size w wr)
    (fun i _ => l.length - (intOf i).toNat)
  case atStart => exact ⟨0, Nat.zero_le _, rfl, fun j hj h => by omega, by go_grown⟩
  case round =>
    obtain ⟨k, hk, rfl, hno, hB⟩ := hrel
    have HN : Hid (∀ j (hj : j < l.length), j < k → okO l[j] = true) := hno
    have HB : Hid (Below w.heap.size w wr) := hB
    have HL : Hid (OpsAt wr g l) := HL0.out.below hB hgw
    have hgr : g < wr.heap.size := HL.out.1
    clear hno hB
    by_cases hlt : k < l.length
    · obtain ⟨h0, h1, h2, h3, h4, h5, h6⟩ := HL.out.2 k l[k] (by simp [hlt])
      have hnext : Hid (okO l[k] = true → ∀ j (hj : j < l.length), j < k + 1 → okO l[j] = true) := fun hf j hj hj1 => by
        rcases Nat.lt_or_ge j k with h | h
        · exact HN.out j hj h
        · obtain rfl : j = k := by omega
          exact hf
      have hbad : Hid (okO l[k] = false → opsB l = false) := fun h => opsB_no1 (all_false hlt h)
      have hlt' : (k : Int) < (l.length : Int) := by omega
      have hk0 : (0 : Int) ≤ (k : Int) := by omega
      have hoo : Hid (okO l[k] = opB l[k].a l[k].b l[k].k l[k].c l[k].d l[k].s l[k].g) := rfl
      generalize l[k].a = xa at *
      generalize l[k].b = xb at *
      generalize l[k].k = xk at *
      generalize l[k].c = xc at *
      generalize l[k].d = xd at *
      generalize l[k].s = xs at *
      generalize l[k].g = xg at *
      cases ho : opB xa xb xk xc xd xs xg
      all_goals
        have HO := hideIt ho
        go_wp2_with (first
          | (go_at_call 40; refine (specOp_any _ _ _ _ _ _ _ _).mono ?_; rintro e w2 ⟨rfl, hb2⟩; have HB2 : Hid (Below w.heap.size w w2) := Bstep HB.out hb2; clear hb2))
      · go_ret
        exact ⟨ret_bool (hbad.out (hoo.out.trans (HO.out))).symm, HB2.out⟩
      · exact ⟨⟨k + 1, by omega, by go_num, hnext.out (hoo.out.trans (HO.out)), HB2.out⟩, by simp [intOf]; omega⟩
    · have H1 : Hid (l.all okO = true) := all_iff.2 fun j hj => HN.out j hj (by omega)
      clear HN
      obtain rfl : k = l.length := by omega
      clear hk hlt
      cases hord : ordB l
      · have HR := hideIt hord
        clear hord
        go_wp2_with (first
          | (go_at_call 41; refine (l1Order_any l g cap _ HL.out hn hcap H1.out).mono ?_; rintro e w2 ⟨rfl, hb2⟩; rw [HR.out]; have HB2 : Hid (Below w.heap.size w w2) := Bstep HB.out hb2; clear hb2))
        go_ret
        exact ⟨ret_bool (opsB_no2 (HR.out)).symm, HB2.out⟩
      · have HR := hideIt hord
        clear hord
        go_wp2_with (first
          | (go_at_call 41; refine (l1Order_any l g cap _ HL.out hn hcap H1.out).mono ?_; rintro e w2 ⟨rfl, hb2⟩; rw [HR.out]; have HB2 : Hid (Below w.heap.size w w2) := Bstep HB.out hb2; clear hb2))
        clear HB HL hgr
        go_loopw [4] (fun i wr => ∃ k : Nat, k ≤ l.length ∧ i = .int .i64 k ∧ (∀ j (hj : j < l.length), j < k → (refsB l) l[j] = true) ∧ Below w.heap.size w wr)
          (fun i _ => l.length - (intOf i).toNat)
        case atStart => exact ⟨0, Nat.zero_le _, rfl, fun j hj h => by omega, HB2.out⟩
        case round =>
          obtain ⟨k, hk, rfl, hno, hB⟩ := hrel
          have HN : Hid (∀ j (hj : j < l.length), j < k → (refsB l) l[j] = true) := hno
          have HB : Hid (Below w.heap.size w wr) := hB
          have HL : Hid (OpsAt wr g l) := HL0.out.below hB hgw
          have hgr : g < wr.heap.size := HL.out.1
          clear hno hB
          by_cases hlt : k < l.length
          · obtain ⟨h0, h1, h2, h3, h4, h5, h6⟩ := HL.out.2 k l[k] (by simp [hlt])
            have hnext : Hid ((refsB l) l[k] = true → ∀ j (hj : j < l.length), j < k + 1 → (refsB l) l[j] = true) := fun hf j hj hj1 => by
              rcases Nat.lt_or_ge j k with h | h
              · exact HN.out j hj h
              · obtain rfl : j = k := by omega
                exact hf
            have hbad : Hid ((refsB l) l[k] = false → opsB l = false) := fun h => opsB_no3 (all_false hlt h)
            have hlt' : (k : Int) < (l.length : Int) := by omega
            have hk0 : (0 : Int) ≤ (k : Int) := by omega
            skip
            generalize hoo : l[k] = o at *
            cases ho : (refsB l) o
            all_goals
              have HO := hideIt ho
              clear ho hoo
              go_wp2_with (first
                | (go_at_call 42; refine (l1Refs_any l g cap _ _ HL.out hn hcap).mono ?_; rintro e w2 ⟨rfl, hb2⟩; rw [HO.out]; have HB2 : Hid (Below w.heap.size w w2) := Bstep HB.out hb2; clear hb2))
            · go_ret
              exact ⟨ret_bool (hbad.out HO.out).symm, HB2.out⟩
            · exact ⟨⟨k + 1, by omega, by go_num, hnext.out HO.out, HB2.out⟩, by simp [intOf]; omega⟩
          · have H3 : Hid (l.all ((refsB l)) = true) := all_iff.2 fun j hj => HN.out j hj (by omega)
            clear HN HB2
            obtain rfl : k = l.length := by omega
            clear hk hlt
            have HB2 : Hid (Below w.heap.size w wr) := HB
            clear HB HL hgr
            go_wp2
            go_loopw [5] (fun i wr => ∃ k : Nat, k ≤ l.length ∧ i = .int .i64 k ∧ (∀ j (hj : j < l.length), j < k → (deepF l (l.length + 1)) l[j] = true) ∧ Below w.heap.size w wr)
              (fun i _ => l.length - (intOf i).toNat)
            case atStart => exact ⟨0, Nat.zero_le _, rfl, fun j hj h => by omega, HB2.out⟩
            case round =>
              obtain ⟨k, hk, rfl, hno, hB⟩ := hrel
              have HN : Hid (∀ j (hj : j < l.length), j < k → (deepF l (l.length + 1)) l[j] = true) := hno
              have HB : Hid (Below w.heap.size w wr) := hB
              have HL : Hid (OpsAt wr g l) := HL0.out.below hB hgw
              have hgr : g < wr.heap.size := HL.out.1
              clear hno hB
              by_cases hlt : k < l.length
              · obtain ⟨h0, h1, h2, h3, h4, h5, h6⟩ := HL.out.2 k l[k] (by simp [hlt])
                have hnext : Hid ((deepF l (l.length + 1)) l[k] = true → ∀ j (hj : j < l.length), j < k + 1 → (deepF l (l.length + 1)) l[j] = true) := fun hf j hj hj1 => by
                  rcases Nat.lt_or_ge j k with h | h
                  · exact HN.out j hj h
                  · obtain rfl : j = k := by omega
                    exact hf
                have hbad : Hid ((deepF l (l.length + 1)) l[k] = false → opsB l = false) := fun h => opsB_no4 (all_false hlt h)
                have hlt' : (k : Int) < (l.length : Int) := by omega
                have hk0 : (0 : Int) ≤ (k : Int) := by omega
                have HRK : Hid (refsB l l[k] = true) := all_iff.1 H3.out k hlt
                generalize hoo : l[k] = o at *
                cases ho : (deepF l (l.length + 1)) o
                all_goals
                  have HO := hideIt ho
                  clear ho hoo
                  go_wp2_with (first
                    | (go_at_call 43; refine (l1Deep_any l g cap _ _ HL.out hn hcap HRK.out H3.out).mono ?_; rintro e w2 ⟨rfl, hb2⟩; rw [HO.out]; have HB2 : Hid (Below w.heap.size w w2) := Bstep HB.out hb2; clear hb2))
                · go_ret
                  exact ⟨ret_bool (hbad.out HO.out).symm, HB2.out⟩
                · exact ⟨⟨k + 1, by omega, by go_num, hnext.out HO.out, HB2.out⟩, by simp [intOf]; omega⟩
              · have H4 : Hid (l.all ((deepF l (l.length + 1))) = true) := all_iff.2 fun j hj => HN.out j hj (by omega)
                clear HN HB2
                obtain rfl : k = l.length := by omega
                clear hk hlt
                have HB : Hid (Below w.heap.size w wr) := HB
                go_wp2
                go_ret
                exact ⟨ret_bool (opsB_of H1.out HR.out H3.out H4.out).symm, HB.out⟩
end Go.Proofs.YtpkdadccapemcaaDoor
