/- The contract of l1Find. -/
import Derived.Test.YtpkdadccapemcaaDoorMath
import Derived.BigQuiet
import Derived.WalkSmall
import Derived.Deep.RegionHeld3
import Derived.Deep.DrawnRows
namespace Go.Proofs.YtpkdadccapemcaaDoor
open Go.RowKit
set_option linter.unusedSimpArgs false
set_option linter.unusedVariables false
attribute [local go_sem ↓] Go.wp_at_zero Go.wp_at_succ

theorem ret_int {k : IntKind} {a b : Int} (h : a = b) : Ending.returned (.int k a) = .returned (.int k b) := by rw [h]

set_option maxHeartbeats 400000 in
theorem l1Find_any (l : List Op7) (g cap : Nat) (r m : Int) (w : World) (hl : OpsAt w g l) (hn : l.length ≤ 1048576) (hcap : l.length ≤ cap) :
    Calls Tryd.prog 38 #[.slice (some ⟨g, 0, none⟩) l.length cap, .agg #[.int .i64 r, .int .i64 m]] w fun e w' => e = .returned (.int .i64 (findI l r m)) ∧ Below w.heap.size w w' := by
  go_enter Tryd.func38, Tryd.ntmps38
  go_wp2
  go_loopw [5] (fun i wr => ∃ k : Nat, k ≤ l.length ∧ i = .int .i64 k ∧ (∀ j (hj : j < l.length), j < k → hasId r m l[j] = false) ∧ wr.cell? ⟨w.heap.size, 0, none⟩ = some (.int .i64 r) ∧ wr.cell? ⟨w.heap.size, 1, none⟩ = some (.int .i64 m) ∧ Below w.heap.size w wr)
    (fun i _ => l.length - (intOf i).toNat)
  case atStart => exact ⟨0, Nat.zero_le _, rfl, fun j hj h => by omega, by simp [go_sem], by simp [go_sem], by go_grown⟩
  case round =>
    obtain ⟨k, hk, rfl, hno, hr, hm, hB⟩ := hrel
    have HN : Hid (∀ j (hj : j < l.length), j < k → hasId r m l[j] = false) := hno
    have HB : Hid (Below w.heap.size w wr) := hB
    by_cases hlt : k < l.length
    · obtain ⟨h0, h1, _⟩ := (hl.below hB hl.1).2 k l[k] (by simp [hlt])
      have HX : Hid (hasId r m l[k] = (l[k].a == r && l[k].b == m)) := rfl
      generalize l[k].a = xa at h0 HX
      generalize l[k].b = xb at h1 HX
      have hlt' : (k : Int) < (l.length : Int) := by omega
      have hk0 : (0 : Int) ≤ (k : Int) := by omega
      clear hno hB hl
      have hnext : Hid (hasId r m l[k] = false → ∀ j (hj : j < l.length), j < k + 1 → hasId r m l[j] = false) := fun hf j hj hj1 => by
        rcases Nat.lt_or_ge j k with h | h
        · exact HN.out j hj h
        · obtain rfl : j = k := by omega
          exact hf
      by_cases hxa : xa = r
      · subst hxa
        by_cases hxb : xb = m
        · subst hxb
          have hfin : Hid (findI l xa xb = k) := findI_some hlt (by rw [HX.out]; simp) (fun j hj => HN.out j (by omega) hj)
          go_wp2
          go_quiet (fail)
          go_wp2
          go_ret
          exact ⟨ret_int hfin.out.symm, below_drewN HB.out _⟩
        · have hf : Hid (hasId xa m l[k] = false) := by show hasId xa m l[k] = false; rw [HX.out]; simp [hxb]
          go_wp2
          go_quiet (fail)
          go_wp2
          exact ⟨⟨k + 1, by omega, by go_num, hnext.out hf.out, by simpa using hr, by simpa using hm, below_drewN HB.out _⟩, by simp [intOf]; omega⟩
      · have hf : Hid (hasId r m l[k] = false) := by show hasId r m l[k] = false; rw [HX.out]; simp [hxa]
        go_wp2
        go_quiet (fail)
        go_wp2
        exact ⟨⟨k + 1, by omega, by go_num, hnext.out hf.out, by simpa using hr, by simpa using hm, below_drewN HB.out _⟩, by simp [intOf]; omega⟩
    · clear hno hB hl
      go_wp2
      go_ret
      exact ⟨ret_int (by rw [findI_none]; intro o ho; obtain ⟨j, hj, rfl⟩ := List.getElem_of_mem ho; exact HN.out j hj (by omega)), HB.out⟩
end Go.Proofs.YtpkdadccapemcaaDoor
