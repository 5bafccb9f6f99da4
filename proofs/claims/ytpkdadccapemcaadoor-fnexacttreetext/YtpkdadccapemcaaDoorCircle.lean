/- Contracts of comesToNothing and hasCircle. -/
import Derived.Test.YtpkdadccapemcaaDoorMath
import Derived.WalkSmall
namespace Go.Proofs.YtpkdadccapemcaaDoor
open Go.RowKit
set_option linter.unusedSimpArgs false
set_option linter.unusedVariables false

/-- One comes below 0 within n steps. -/
def cnF (xs : List Int) : Nat → Int → Bool
  | 0, _ => false
  | n + 1, p => if xs.getD p.toNat 0 < 0 then true else cnF xs n (xs.getD p.toNat 0)
/-- Each number is below 0, or a place. -/
def placesB (xs : List Int) : Prop := ∀ (i : Nat) (hi : i < xs.length), -1 ≤ xs[i] ∧ xs[i] < xs.length

set_option maxHeartbeats 1000000 in
theorem comes_any (xs : List Int) (g cap : Nat) (p : Int) (w : World) (hl : IntsAt w g xs) (hn : xs.length ≤ 1048576) (hcap : xs.length ≤ cap) (hxs : placesB xs) (hp0 : 0 ≤ p) (hp1 : p < xs.length) :
    Calls Tryd.prog 66 #[.slice (some ⟨g, 0, none⟩) xs.length cap, .int .i64 p] w fun e w' => e = .returned (.bool (cnF xs xs.length p)) ∧ w' = w := by
  generalize hres : cnF xs xs.length p = res
  have HX : Hid (placesB xs) := hxs
  have HL : Hid (IntsAt w g xs) := hl
  clear hl hxs
  go_enter Tryd.func66, Tryd.ntmps66
  go_wp2
  go_loop [1, 7] (fun q i => ∃ (k : Nat) (p : Int), k ≤ xs.length ∧ i = .int .i64 k ∧ q = .int .i64 p ∧ 0 ≤ p ∧ p < xs.length ∧ cnF xs (xs.length - k) p = res) (fun _ i => xs.length - (intOf i).toNat)
  case atStart => exact ⟨0, p, Nat.zero_le _, rfl, rfl, hp0, hp1, hres⟩
  case round =>
    obtain ⟨k, p, hk, rfl, rfl, q0, q1, hq⟩ := hrel
    have HQ : Hid (cnF xs (xs.length - k) p = res) := hq
    clear hq hres
    by_cases hlt : k < xs.length
    · obtain ⟨n, rfl⟩ := Int.eq_ofNat_of_zero_le q0
      have hn' : n < xs.length := by omega
      have h0 := HL.out.2 n xs[n] (by simp [hn'])
      obtain ⟨b0, b1⟩ := HX.out n hn'
      have hstep : Hid (cnF xs (xs.length - k) (n : Int) = if xs[n] < 0 then true else cnF xs (xs.length - (k + 1)) xs[n]) := by
        show cnF xs (xs.length - k) (n : Int) = _
        rw [show xs.length - k = (xs.length - (k + 1)) + 1 from by omega]
        simp [cnF, hn']
      generalize xs[n] = x at *
      have hlt' : (k : Int) < (xs.length : Int) := by omega
      have hk0 : (0 : Int) ≤ (k : Int) := by omega
      by_cases hx : x < 0
      · have hfin : Hid (res = true) := by show res = true; rw [← HQ.out, hstep.out, if_pos hx]
        go_wp2
        go_ret
        exact ⟨ret_bool hfin.out.symm, rfl⟩
      · have hfin : Hid (cnF xs (xs.length - (k + 1)) x = res) := by show cnF xs (xs.length - (k + 1)) x = res; rw [← HQ.out, hstep.out, if_neg hx]
        have hx0 : 0 ≤ x := by omega
        go_wp2
        go_round
        case rel => exact ⟨k + 1, x, by omega, by go_num, rfl, hx0, b1, hfin.out⟩
        case measure => simp [intOf]; omega
    · obtain rfl : k = xs.length := by omega
      have hfin : Hid (res = false) := by show res = false; rw [← HQ.out]; simp [cnF]
      go_wp2
      go_ret
      exact ⟨ret_bool hfin.out.symm, rfl⟩

set_option maxHeartbeats 1000000 in
theorem circle_any (xs : List Int) (g cap : Nat) (w : World) (hl : IntsAt w g xs) (hn : xs.length ≤ 1048576) (hcap : xs.length ≤ cap) (hxs : placesB xs) :
    Calls Tryd.prog 57 #[.slice (some ⟨g, 0, none⟩) xs.length cap] w fun e w' => e = .returned (.bool (!(List.range xs.length).all (fun i => cnF xs xs.length i))) ∧ w' = w := by
  generalize hres : (!(List.range xs.length).all (fun i => cnF xs xs.length i)) = res
  have HR : Hid ((!(List.range xs.length).all (fun i => cnF xs xs.length i)) = res) := hres
  have HX : Hid (placesB xs) := hxs
  have HL : Hid (IntsAt w g xs) := hl
  clear hl hxs hres
  go_enter Tryd.func57, Tryd.ntmps57
  go_wp2
  go_loop [6] (fun i => ∃ (k : Nat), k ≤ xs.length ∧ i = .int .i64 k ∧ ∀ j : Nat, j < k → cnF xs xs.length j = true) (fun i => xs.length - (intOf i).toNat)
  case atStart => exact ⟨0, Nat.zero_le _, rfl, fun j h => by omega⟩
  case round =>
    obtain ⟨k, hk, rfl, hq⟩ := hrel
    have HQ : Hid (∀ j : Nat, j < k → cnF xs xs.length j = true) := hq
    clear hq
    by_cases hlt : k < xs.length
    · have hlt' : (k : Int) < (xs.length : Int) := by omega
      have hk0 : (0 : Int) ≤ (k : Int) := by omega
      cases hc : cnF xs xs.length (k : Int)
      all_goals
        have HC := hideIt hc
        clear hc
        go_wp2_with (first | (go_at_call 66; refine (comes_any xs g cap _ _ HL.out hn hcap HX.out hk0 hlt').mono ?_; rintro e w' ⟨rfl, rfl⟩; rw [HC.out]))
      · go_ret
        refine ⟨ret_bool ?_, rfl⟩
        rw [← HR.out]
        cases ha : (List.range xs.length).all (fun i => cnF xs xs.length i)
        · rfl
        · have := (List.all_eq_true.1 ha) k (by simpa using hlt)
          rw [HC.out] at this
          cases this
      · go_round
        case rel => exact ⟨k + 1, by omega, by go_num, fun j hj => by
          rcases Nat.lt_or_ge j k with h | h
          · exact HQ.out j h
          · obtain rfl : j = k := by omega
            exact HC.out⟩
        case measure => simp [intOf]; omega
    · obtain rfl : k = xs.length := by omega
      go_wp2
      go_ret
      refine ⟨ret_bool ?_, rfl⟩
      rw [← HR.out, List.all_eq_true.2 (fun j hj => HQ.out j (by simpa using hj))]
      rfl
end Go.Proofs.YtpkdadccapemcaaDoor
