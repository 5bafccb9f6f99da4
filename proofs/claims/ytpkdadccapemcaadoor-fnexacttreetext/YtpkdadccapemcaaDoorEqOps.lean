/- Contracts of eqOp and eqOpS where both are the same. -/
import Derived.Test.YtpkdadccapemcaaDoorMath
import Derived.Test.YtpkdadccapemcaaDoorOp
import Derived.BigQuiet
import Derived.WalkSmall
import Derived.Deep.RegionHeld3
import Derived.Deep.DrawnRows
namespace Go.Proofs.YtpkdadccapemcaaDoor
open Go.RowKit
set_option linter.unusedSimpArgs false
set_option linter.unusedVariables false
attribute [local go_sem ↓] Go.wp_at_zero Go.wp_at_succ

set_option maxHeartbeats 1000000 in
theorem eqOp_same (a b k c d s g : Int) (w : World) :
    Calls Tryd.prog 34 #[.agg #[.int .i64 a, .int .i64 b, .int .i64 k, .int .i64 c, .int .i64 d, .int .i64 s, .int .i64 g], .agg #[.int .i64 a, .int .i64 b, .int .i64 k, .int .i64 c, .int .i64 d, .int .i64 s, .int .i64 g]] w fun e w' => e = .returned (.bool true) ∧ Below w.heap.size w w' := by
  go_enter Tryd.func34, Tryd.ntmps34
  go_wp2
  go_ret
  exact ⟨rfl, by go_grown⟩

set_option maxHeartbeats 1000000 in
theorem eqOpS_same (l : List Op7) (g1 g2 cap1 cap2 : Nat) (w : World) (hl1 : OpsAt w g1 l) (hl2 : OpsAt w g2 l) (hn : l.length ≤ 1048576) (hcap1 : l.length ≤ cap1) (hcap2 : l.length ≤ cap2) :
    Calls Tryd.prog 12 #[.slice (some ⟨g1, 0, none⟩) l.length cap1, .slice (some ⟨g2, 0, none⟩) l.length cap2] w fun e w' => e = .returned (.bool true) ∧ Below w.heap.size w w' := by
  go_enter Tryd.func12, Tryd.ntmps12
  go_wp2
  go_loopw [5] (fun i wr => ∃ k : Nat, k ≤ l.length ∧ i = .int .i64 k ∧ Below w.heap.size w wr)
    (fun i _ => l.length - (intOf i).toNat)
  case atStart => exact ⟨0, Nat.zero_le _, rfl, by go_grown⟩
  case round =>
    obtain ⟨k, hk, rfl, hB⟩ := hrel
    have HB : Hid (Below w.heap.size w wr) := hB
    by_cases hlt : k < l.length
    · obtain ⟨h0, h1, h2, h3, h4, h5, h6⟩ := (hl1.below hB hl1.1).2 k l[k] (by simp [hlt])
      obtain ⟨j0, j1, j2, j3, j4, j5, j6⟩ := (hl2.below hB hl2.1).2 k l[k] (by simp [hlt])
      have hg1 := (hl1.below hB hl1.1).1
      have hg2 := (hl2.below hB hl2.1).1
      generalize l[k].a = xa at *
      generalize l[k].b = xb at *
      generalize l[k].k = xk at *
      generalize l[k].c = xc at *
      generalize l[k].d = xd at *
      generalize l[k].s = xs at *
      generalize l[k].g = xg at *
      have hlt' : (k : Int) < (l.length : Int) := by omega
      have hk0 : (0 : Int) ≤ (k : Int) := by omega
      clear hB hl1 hl2
      go_wp2
      go_region_held3 (fun w' => w'.cell? ⟨g1, k * 7, none⟩ = some (.int .i64 xa) ∧ w'.cell? ⟨g1, k * 7 + 1, none⟩ = some (.int .i64 xb) ∧ w'.cell? ⟨g1, k * 7 + 2, none⟩ = some (.int .i64 xk) ∧ w'.cell? ⟨g1, k * 7 + 3, none⟩ = some (.int .i64 xc) ∧ w'.cell? ⟨g1, k * 7 + 4, none⟩ = some (.int .i64 xd) ∧ w'.cell? ⟨g1, k * 7 + 5, none⟩ = some (.int .i64 xs) ∧ w'.cell? ⟨g1, k * 7 + 6, none⟩ = some (.int .i64 xg) ∧
          w'.cell? ⟨g2, k * 7, none⟩ = some (.int .i64 xa) ∧ w'.cell? ⟨g2, k * 7 + 1, none⟩ = some (.int .i64 xb) ∧ w'.cell? ⟨g2, k * 7 + 2, none⟩ = some (.int .i64 xk) ∧ w'.cell? ⟨g2, k * 7 + 3, none⟩ = some (.int .i64 xc) ∧ w'.cell? ⟨g2, k * 7 + 4, none⟩ = some (.int .i64 xd) ∧ w'.cell? ⟨g2, k * 7 + 5, none⟩ = some (.int .i64 xs) ∧ w'.cell? ⟨g2, k * 7 + 6, none⟩ = some (.int .i64 xg)) (go_keep)
        (first | (go_at_call 34; refine (eqOp_same _ _ _ _ _ _ _ _).mono ?_; rintro e w2 ⟨rfl, hb2⟩; have hcA : ∀ o, w2.cell? ⟨g1, o, none⟩ = wr.cell? ⟨g1, o, none⟩ := (fun o => (bcell hb2).1 _ _ hg1); have hcB : ∀ o, w2.cell? ⟨g2, o, none⟩ = wr.cell? ⟨g2, o, none⟩ := (fun o => (bcell hb2).1 _ _ hg2); have HB2 : Hid (Below w.heap.size w w2) := Bstep HB.out.drew hb2; clear hb2))
      rename_i hS
      clear hS hcA hcB
      go_wp2
      exact ⟨⟨k + 1, by omega, by go_num, HB2.out⟩, by simp [intOf]; omega⟩
    · clear hB hl1 hl2
      go_wp2
      go_ret
      exact ⟨rfl, HB.out⟩
end Go.Proofs.YtpkdadccapemcaaDoor
