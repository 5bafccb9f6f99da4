/- The contract of DrawIdLess. -/
import Derived.Test.YtadmcbepjnnagaaDrawId
namespace Go.Proofs.Ytadmcbepjnnagaa
open Go.RowKit
set_option linter.unusedSimpArgs false
set_option linter.unusedVariables false
attribute [local go_sem ↓] Go.wp_at_zero Go.wp_at_succ

set_option maxRecDepth 100000 in
set_option maxHeartbeats 1000000 in
theorem drawLess_any (w : World) (p : Option Addr) (n cap : Nat) (h : ArgBytes w p n) (hcap : n ≤ cap) (hn : n ≤ 1048576) :
    Calls Try.prog 5 #[.slice p n cap] w fun e w' => (∃ a b c d : Int, e = .returned (.tuple #[.agg #[.int .i64 a, .int .i64 b], .agg #[.int .i64 c, .int .i64 d]])) ∧ Below w.heap.size w w' := by
  have H := hideIt h
  clear h
  go_enter Try.func5, Try.ntmps5
  go_wp2_with fail
  have hb0 : Below w.heap.size w ((w.alloc (.cells #[.int .i64 0, .int .i64 0] 24)).alloc (.cells #[.int .i64 0, .int .i64 0] 24)) := ((Below.refl _ _).alloc (Nat.le_refl _) _).alloc (by simp) _
  refine (open_any _ p n cap (H.out.below hb0) hcap hn).mono ?_
  rintro e w1 ⟨n', rfl, hR, hb1⟩
  have r0 : w1.cell? ⟨w.heap.size, 0, none⟩ = some (.int .i64 0) := by rw [hb1.cell (p := ⟨w.heap.size, _, none⟩) (show w.heap.size < _ by simp; omega)]; simp [go_sem]
  have r1 : w1.cell? ⟨w.heap.size, 1, none⟩ = some (.int .i64 0) := by rw [hb1.cell (p := ⟨w.heap.size, _, none⟩) (show w.heap.size < _ by simp; omega)]; simp [go_sem]
  have r2 : w1.cell? ⟨w.heap.size + 1, 0, none⟩ = some (.int .i64 0) := by rw [hb1.cell (p := ⟨w.heap.size + 1, _, none⟩) (show w.heap.size + 1 < _ by simp)]; simp [go_sem]
  have r3 : w1.cell? ⟨w.heap.size + 1, 1, none⟩ = some (.int .i64 0) := by rw [hb1.cell (p := ⟨w.heap.size + 1, _, none⟩) (show w.heap.size + 1 < _ by simp)]; simp [go_sem]
  have f0 : ∀ j, w1.frozen? ⟨w.heap.size, j, none⟩ = false := fun j => by rw [hb1.frozen (p := ⟨w.heap.size, _, none⟩) (show w.heap.size < _ by simp; omega)]; simp [go_sem]
  have f1 : ∀ j, w1.frozen? ⟨w.heap.size + 1, j, none⟩ = false := fun j => by rw [hb1.frozen (p := ⟨w.heap.size + 1, _, none⟩) (show w.heap.size + 1 < _ by simp)]; simp [go_sem]
  have hq1 := hR.lt
  have HB1 := hideIt (hb0.trans (hb1.mono (by simp; omega)))
  clear hb1
  simp only [World.size_alloc] at hR hq1 ⊢
  have HR := hideIt hR
  clear hR
  go_wp2_with fail
  refine (l71Id_any _ _ p n' cap 0 HR.out (by omega)).mono ?_
  rintro e w2 ⟨⟨a, b, rfl⟩, ⟨k2, hk2, hR2⟩, hO2⟩
  have s0 := (hO2.cell w.heap.size 0 (by omega) (by omega)).trans r0
  have s1 := (hO2.cell w.heap.size 1 (by omega) (by omega)).trans r1
  have s2 := (hO2.cell (w.heap.size + 1) 0 (by omega) (by omega)).trans r2
  have s3 := (hO2.cell (w.heap.size + 1) 1 (by omega) (by omega)).trans r3
  have g0 : ∀ j, w2.frozen? ⟨w.heap.size, j, none⟩ = false := fun j => (hO2.frozen w.heap.size j (by omega) (by omega)).trans (f0 j)
  have g1 : ∀ j, w2.frozen? ⟨w.heap.size + 1, j, none⟩ = false := fun j => (hO2.frozen (w.heap.size + 1) j (by omega) (by omega)).trans (f1 j)
  have hq2 := hR2.lt
  have HB2 := hideIt (HB1.out.trans (hO2.below.mono (by omega)))
  have HR2 := hideIt hR2
  clear hR2 hO2 r0 r1 r2 r3 f0 f1
  go_wp2_with fail
  refine (l71Id_any _ _ p n' cap k2 HR2.out (by omega)).mono ?_
  rintro e w3 ⟨⟨c, d, rfl⟩, -, hO3⟩
  have t0 := (hO3.cell w.heap.size 0 (by omega) (by omega)).trans s0
  have t1 := (hO3.cell w.heap.size 1 (by omega) (by omega)).trans s1
  have t2 := (hO3.cell (w.heap.size + 1) 0 (by omega) (by omega)).trans s2
  have t3 := (hO3.cell (w.heap.size + 1) 1 (by omega) (by omega)).trans s3
  have h0 : ∀ j, w3.frozen? ⟨w.heap.size, j, none⟩ = false := fun j => (hO3.frozen w.heap.size j (by omega) (by omega)).trans (g0 j)
  have h1 : ∀ j, w3.frozen? ⟨w.heap.size + 1, j, none⟩ = false := fun j => (hO3.frozen (w.heap.size + 1) j (by omega) (by omega)).trans (g1 j)
  have HB3 := hideIt (HB2.out.trans (hO3.below.mono (by omega)))
  clear hO3 s0 s1 s2 s3 g0 g1
  go_wp2
  have hb3 := HB3.out
  exact bodyPost_ret (v := .tuple #[.agg #[.int .i64 a, .int .i64 b], .agg #[.int .i64 c, .int .i64 d]]) (by simp [results, Try.results5, go_sem, t0, t1, t2, t3]) rfl ⟨⟨_, _, _, _, rfl⟩, by go_grown⟩
end Go.Proofs.Ytadmcbepjnnagaa
