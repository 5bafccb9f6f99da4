/- The contract of DrawOpOk: some seven numbers. -/
import Derived.Test.YtlkhmpobpekmpaaDoorDrawOp
namespace Go.Proofs.YtlkhmpobpekmpaaDoor
open Go.RowKit
set_option linter.unusedSimpArgs false
set_option linter.unusedVariables false
attribute [local go_sem ↓] Go.wp_at_zero Go.wp_at_succ

set_option maxRecDepth 100000 in
set_option maxHeartbeats 4000000 in
theorem drawOp_any (w : World) (p : Option Addr) (n cap : Nat) (h : ArgBytes w p n) (hcap : n ≤ cap) (hn : n ≤ 1048576) :
    Calls Tryd.prog 4 #[.slice p n cap] w fun e w' => (∃ a b k c d s t : Int, e = .returned (.agg #[.int .i64 a, .int .i64 b, .int .i64 k, .int .i64 c, .int .i64 d, .int .i64 s, .int .i64 t])) ∧ Below w.heap.size w w' := by
  have H := hideIt h
  clear h
  go_enter Tryd.func4, Tryd.ntmps4
  go_wp2_with fail
  have hb0 : Below w.heap.size w (w.alloc (.cells #[.int .i64 0, .int .i64 0, .int .i64 0, .int .i64 0, .int .i64 0, .int .i64 0, .int .i64 0] 26)) := (Below.refl _ _).alloc (Nat.le_refl _) _
  refine (open_any _ p n cap (H.out.below hb0) hcap hn).mono ?_
  rintro e w1 ⟨n', rfl, hR, hb1⟩
  have res1 : OpBlk w1 w.heap.size 0 0 0 0 0 0 0 := by
    have hc : ∀ j, w1.cell? ⟨w.heap.size, j, none⟩ = _ := fun j => hb1.cell (p := ⟨w.heap.size, j, none⟩) (show w.heap.size < _ by simp)
    exact ⟨by rw [hc]; simp [go_sem], by rw [hc]; simp [go_sem], by rw [hc]; simp [go_sem], by rw [hc]; simp [go_sem], by rw [hc]; simp [go_sem], by rw [hc]; simp [go_sem], by rw [hc]; simp [go_sem],
      fun j => by rw [hb1.frozen (p := ⟨w.heap.size, j, none⟩) (show w.heap.size < _ by simp)]; simp [go_sem], by have := hb1.size; simp at this; omega⟩
  have HB1 := hideIt (hb0.trans (hb1.mono (by simp)))
  simp only [World.size_alloc] at hR ⊢
  have HR := hideIt hR
  have HRES1 := hideIt res1
  clear hR hb1 res1
  go_wp2_with fail
  refine (l71Id_any _ _ p n' cap 0 HR.out (by omega)).mono ?_
  rintro e w2 ⟨⟨a, b, rfl⟩, ⟨k2, hk2, hR2⟩, hO2⟩
  have HR2 := hideIt hR2
  have HO2 := hideIt hO2
  clear hR2 hO2
  go_wp2_with fail
  refine (pick_any _ _ p n' cap k2 2 HR2.out (by omega) (by omega) (by omega)).mono ?_
  rintro e w3 ⟨⟨kd, hkd0, hkd1, rfl⟩, hR3, hO3⟩
  have HR3 := hideIt hR3
  have HO3 := hideIt (HO2.out.trans hO3)
  clear hR3 hO3
  go_wp2_with fail
  refine (l71Id_any _ _ p n' cap (k2 + 1) HR3.out (by omega)).mono ?_
  rintro e w4 ⟨⟨c, d, rfl⟩, ⟨k4, hk4, hR4⟩, hO4⟩
  have HR4 := hideIt hR4
  have HO4 := hideIt (HO3.out.trans hO4)
  clear hR4 hO4 HR2 HR3 HO2 HO3
  have hO4 := HO4.out
  have hq4 := HR4.out.lt
  have hst : ∀ kk : Int, St w1 (w4.alloc (.cells #[.int .i64 a, .int .i64 b, .int .i64 kk, .int .i64 c, .int .i64 d, .int .i64 0, .int .i64 0] 26)) (w.heap.size + 1) w.heap.size w4.heap.size p n' cap k4 a b kk c d 0 0 := fun kk =>
    ⟨HR4.out.alloc _, hO4.alloc HR.out.lt _, (HRES1.out.only hO4 (by omega)).alloc _, ⟨by simp [go_sem], by simp [go_sem], by simp [go_sem], by simp [go_sem], by simp [go_sem], by simp [go_sem], by simp [go_sem], fun j => by simp [go_sem], by simp⟩, HR.out, hO4.size, by omega, by have := hO4.size; have := HRES1.out.lt; omega⟩
  have HST := hideIt hst
  clear hst hO4
  obtain rfl | rfl : kd = 0 ∨ kd = 1 := by omega
  · have HS := hideIt (HST.out (1 + 0))
    clear HST
    go_wp2_with fail
    refine (pick_any _ _ p n' cap _ 2 HS.out.rd (by omega) (by omega) (by omega)).mono ?_
    rintro e w7 ⟨⟨s7, h70, h71, rfl⟩, hR7, hO7⟩
    have HS7 := hideIt (HS.out.pick hR7 hO7)
    clear hR7 hO7 HS
    obtain ⟨x0, x1, x2, x3, x4, x5, x6, fz, lt⟩ := HS7.out.op
    have HS8 := hideIt (HS7.out.set5 (v := s7))
    clear HS7
    go_wp2_with fail
    refine (pick_any _ _ p n' cap _ 26 HS8.out.rd (by omega) (by omega) (by omega)).mono ?_
    rintro e w8 ⟨⟨s8, h80, h81, rfl⟩, hR8, hO8⟩
    have HS9 := hideIt (HS8.out.pick hR8 hO8)
    clear hR8 hO8 HS8 x0 x1 x2 x3 x4 x5 x6 fz lt
    obtain ⟨x0, x1, x2, x3, x4, x5, x6, fz, lt⟩ := HS9.out.op
    have HS := hideIt (HS9.out.set6 (v := 97 + s8))
    clear HS9
    go_wp2_with fail
    clear x0 x1 x2 x3 x4 x5 x6 fz lt
    refine (pick_any _ _ p n' cap _ 12 HS.out.rd (by omega) (by omega) (by omega)).mono ?_
    rintro e w5 ⟨⟨s5, h50, h51, rfl⟩, hR5, hO5⟩
    have HS5 := hideIt (HS.out.pick hR5 hO5)
    clear hR5 hO5 HS
    obtain rfl | rfl | rfl | h5 : s5 = 0 ∨ s5 = 1 ∨ s5 = 2 ∨ 3 ≤ s5 := by omega
    · go_wp2_with fail
      refine (pick_any _ _ p n' cap _ 4 HS5.out.rd (by omega) (by omega) (by omega)).mono ?_
      rintro e w6 ⟨⟨s6, h60, h61, rfl⟩, hR6, hO6⟩
      have HS6 := hideIt (HS5.out.pick hR6 hO6)
      clear hR6 hO6 HS5
      have HS7 := hideIt (HS6.out.set2 (v := s6))
      obtain ⟨x0, x1, x2, x3, x4, x5, x6, fz, lt⟩ := HS6.out.op
      obtain ⟨y0, y1, y2, y3, y4, y5, y6, fy, ly⟩ := HS6.out.res
      have hRG := HS6.out.rG
      have hGR := hRG.symm
      go_wp2
      exact bodyPost_ret (v := .agg #[.int .i64 (a), .int .i64 (b), .int .i64 (s6), .int .i64 (c), .int .i64 (d), .int .i64 (s7), .int .i64 (97 + s8)]) (by simp [results, Tryd.results4, go_sem, x0, x1, x2, x3, x4, x5, x6, y0, y1, y2, y3, y4, y5, y6, hRG, hGR]) rfl ⟨⟨_, _, _, _, _, _, _, rfl⟩, by have hbb := HB1.out.trans (HS7.out.only.below.mono (by omega)); go_grown⟩
    · go_wp2_with fail
      have HA5 := hideIt (HS5.out.alloc (.cells #[.int .i64 0, .int .i64 65, .int .i64 123] 3))
      refine (pick_any _ _ p n' cap _ 3 HA5.out.rd (by omega) (by omega) (by omega)).mono ?_
      rintro e w6 ⟨⟨s6, h60, h61, rfl⟩, hR6, hO6⟩
      have HS6 := hideIt (HA5.out.pick hR6 hO6)
      have hl5 := HS5.out.op.lt
      have hq5 := HS5.out.rd.lt
      have sl : ∀ j, w6.cell? ⟨w5.heap.size, j, none⟩ = _ := fun j => hO6.cell w5.heap.size j (by simp) (by omega)
      clear hR6 hO6 HS5 HA5
      have HS7 := fun v => hideIt (HS6.out.set6 (v := v))
      obtain ⟨x0, x1, x2, x3, x4, x5, x6, fz, lt⟩ := HS6.out.op
      obtain ⟨y0, y1, y2, y3, y4, y5, y6, fy, ly⟩ := HS6.out.res
      have hRG := HS6.out.rG
      have hGR := hRG.symm
      obtain rfl | rfl | rfl : s6 = 0 ∨ s6 = 1 ∨ s6 = 2 := by omega
      · go_wp2
        exact bodyPost_ret (v := .agg #[.int .i64 (a), .int .i64 (b), .int .i64 (1), .int .i64 (c), .int .i64 (d), .int .i64 (s7), .int .i64 (0)]) (by simp [results, Tryd.results4, go_sem, x0, x1, x2, x3, x4, x5, x6, y0, y1, y2, y3, y4, y5, y6, hRG, hGR]) rfl ⟨⟨_, _, _, _, _, _, _, rfl⟩, by have hbb := HB1.out.trans ((HS7 0).out.only.below.mono (by omega)); go_grown⟩
      · go_wp2
        exact bodyPost_ret (v := .agg #[.int .i64 (a), .int .i64 (b), .int .i64 (1), .int .i64 (c), .int .i64 (d), .int .i64 (s7), .int .i64 (65)]) (by simp [results, Tryd.results4, go_sem, x0, x1, x2, x3, x4, x5, x6, y0, y1, y2, y3, y4, y5, y6, hRG, hGR]) rfl ⟨⟨_, _, _, _, _, _, _, rfl⟩, by have hbb := HB1.out.trans ((HS7 65).out.only.below.mono (by omega)); go_grown⟩
      · go_wp2
        exact bodyPost_ret (v := .agg #[.int .i64 (a), .int .i64 (b), .int .i64 (1), .int .i64 (c), .int .i64 (d), .int .i64 (s7), .int .i64 (123)]) (by simp [results, Tryd.results4, go_sem, x0, x1, x2, x3, x4, x5, x6, y0, y1, y2, y3, y4, y5, y6, hRG, hGR]) rfl ⟨⟨_, _, _, _, _, _, _, rfl⟩, by have hbb := HB1.out.trans ((HS7 123).out.only.below.mono (by omega)); go_grown⟩
    · go_wp2_with fail
      have HA5 := hideIt (HS5.out.alloc (.cells #[.int .i64 (-1), .int .i64 2] 3))
      refine (pick_any _ _ p n' cap _ 2 HA5.out.rd (by omega) (by omega) (by omega)).mono ?_
      rintro e w6 ⟨⟨s6, h60, h61, rfl⟩, hR6, hO6⟩
      have HS6 := hideIt (HA5.out.pick hR6 hO6)
      have hl5 := HS5.out.op.lt
      have hq5 := HS5.out.rd.lt
      have sl : ∀ j, w6.cell? ⟨w5.heap.size, j, none⟩ = _ := fun j => hO6.cell w5.heap.size j (by simp) (by omega)
      clear hR6 hO6 HS5 HA5
      have HS7 := fun v => hideIt (HS6.out.set5 (v := v))
      obtain ⟨x0, x1, x2, x3, x4, x5, x6, fz, lt⟩ := HS6.out.op
      obtain ⟨y0, y1, y2, y3, y4, y5, y6, fy, ly⟩ := HS6.out.res
      have hRG := HS6.out.rG
      have hGR := hRG.symm
      obtain rfl | rfl : s6 = 0 ∨ s6 = 1 := by omega
      · go_wp2
        exact bodyPost_ret (v := .agg #[.int .i64 (a), .int .i64 (b), .int .i64 (1), .int .i64 (c), .int .i64 (d), .int .i64 (-1), .int .i64 (97 + s8)]) (by simp [results, Tryd.results4, go_sem, x0, x1, x2, x3, x4, x5, x6, y0, y1, y2, y3, y4, y5, y6, hRG, hGR]) rfl ⟨⟨_, _, _, _, _, _, _, rfl⟩, by have hbb := HB1.out.trans ((HS7 (-1)).out.only.below.mono (by omega)); go_grown⟩
      · go_wp2
        exact bodyPost_ret (v := .agg #[.int .i64 (a), .int .i64 (b), .int .i64 (1), .int .i64 (c), .int .i64 (d), .int .i64 (2), .int .i64 (97 + s8)]) (by simp [results, Tryd.results4, go_sem, x0, x1, x2, x3, x4, x5, x6, y0, y1, y2, y3, y4, y5, y6, hRG, hGR]) rfl ⟨⟨_, _, _, _, _, _, _, rfl⟩, by have hbb := HB1.out.trans ((HS7 (2)).out.only.below.mono (by omega)); go_grown⟩
    · obtain ⟨x0, x1, x2, x3, x4, x5, x6, fz, lt⟩ := HS5.out.op
      obtain ⟨y0, y1, y2, y3, y4, y5, y6, fy, ly⟩ := HS5.out.res
      have hRG := HS5.out.rG
      have hGR := hRG.symm
      go_wp2
      exact bodyPost_ret (v := .agg #[.int .i64 (a), .int .i64 (b), .int .i64 (1), .int .i64 (c), .int .i64 (d), .int .i64 (s7), .int .i64 (97 + s8)]) (by simp [results, Tryd.results4, go_sem, x0, x1, x2, x3, x4, x5, x6, y0, y1, y2, y3, y4, y5, y6, hRG, hGR]) rfl ⟨⟨_, _, _, _, _, _, _, rfl⟩, by have hbb := HB1.out.trans (HS5.out.only.below.mono (by omega)); go_grown⟩
  · have HS := hideIt (HST.out (1 + 1))
    clear HST
    go_wp2_with fail
    refine (pick_any _ _ p n' cap _ 12 HS.out.rd (by omega) (by omega) (by omega)).mono ?_
    rintro e w5 ⟨⟨s5, h50, h51, rfl⟩, hR5, hO5⟩
    have HS5 := hideIt (HS.out.pick hR5 hO5)
    clear hR5 hO5 HS
    obtain rfl | rfl | rfl | h5 : s5 = 0 ∨ s5 = 1 ∨ s5 = 2 ∨ 3 ≤ s5 := by omega
    · go_wp2_with fail
      refine (pick_any _ _ p n' cap _ 4 HS5.out.rd (by omega) (by omega) (by omega)).mono ?_
      rintro e w6 ⟨⟨s6, h60, h61, rfl⟩, hR6, hO6⟩
      have HS6 := hideIt (HS5.out.pick hR6 hO6)
      clear hR6 hO6 HS5
      have HS7 := hideIt (HS6.out.set2 (v := s6))
      obtain ⟨x0, x1, x2, x3, x4, x5, x6, fz, lt⟩ := HS6.out.op
      obtain ⟨y0, y1, y2, y3, y4, y5, y6, fy, ly⟩ := HS6.out.res
      have hRG := HS6.out.rG
      have hGR := hRG.symm
      go_wp2
      exact bodyPost_ret (v := .agg #[.int .i64 (a), .int .i64 (b), .int .i64 (s6), .int .i64 (c), .int .i64 (d), .int .i64 (0), .int .i64 (0)]) (by simp [results, Tryd.results4, go_sem, x0, x1, x2, x3, x4, x5, x6, y0, y1, y2, y3, y4, y5, y6, hRG, hGR]) rfl ⟨⟨_, _, _, _, _, _, _, rfl⟩, by have hbb := HB1.out.trans (HS7.out.only.below.mono (by omega)); go_grown⟩
    · go_wp2_with fail
      have HA5 := hideIt (HS5.out.alloc (.cells #[.int .i64 0, .int .i64 65, .int .i64 123] 3))
      refine (pick_any _ _ p n' cap _ 3 HA5.out.rd (by omega) (by omega) (by omega)).mono ?_
      rintro e w6 ⟨⟨s6, h60, h61, rfl⟩, hR6, hO6⟩
      have HS6 := hideIt (HA5.out.pick hR6 hO6)
      have hl5 := HS5.out.op.lt
      have hq5 := HS5.out.rd.lt
      have sl : ∀ j, w6.cell? ⟨w5.heap.size, j, none⟩ = _ := fun j => hO6.cell w5.heap.size j (by simp) (by omega)
      clear hR6 hO6 HS5 HA5
      have HS7 := fun v => hideIt (HS6.out.set6 (v := v))
      obtain ⟨x0, x1, x2, x3, x4, x5, x6, fz, lt⟩ := HS6.out.op
      obtain ⟨y0, y1, y2, y3, y4, y5, y6, fy, ly⟩ := HS6.out.res
      have hRG := HS6.out.rG
      have hGR := hRG.symm
      obtain rfl | rfl | rfl : s6 = 0 ∨ s6 = 1 ∨ s6 = 2 := by omega
      · go_wp2
        exact bodyPost_ret (v := .agg #[.int .i64 (a), .int .i64 (b), .int .i64 (2), .int .i64 (c), .int .i64 (d), .int .i64 (0), .int .i64 (0)]) (by simp [results, Tryd.results4, go_sem, x0, x1, x2, x3, x4, x5, x6, y0, y1, y2, y3, y4, y5, y6, hRG, hGR]) rfl ⟨⟨_, _, _, _, _, _, _, rfl⟩, by have hbb := HB1.out.trans ((HS7 0).out.only.below.mono (by omega)); go_grown⟩
      · go_wp2
        exact bodyPost_ret (v := .agg #[.int .i64 (a), .int .i64 (b), .int .i64 (2), .int .i64 (c), .int .i64 (d), .int .i64 (0), .int .i64 (65)]) (by simp [results, Tryd.results4, go_sem, x0, x1, x2, x3, x4, x5, x6, y0, y1, y2, y3, y4, y5, y6, hRG, hGR]) rfl ⟨⟨_, _, _, _, _, _, _, rfl⟩, by have hbb := HB1.out.trans ((HS7 65).out.only.below.mono (by omega)); go_grown⟩
      · go_wp2
        exact bodyPost_ret (v := .agg #[.int .i64 (a), .int .i64 (b), .int .i64 (2), .int .i64 (c), .int .i64 (d), .int .i64 (0), .int .i64 (123)]) (by simp [results, Tryd.results4, go_sem, x0, x1, x2, x3, x4, x5, x6, y0, y1, y2, y3, y4, y5, y6, hRG, hGR]) rfl ⟨⟨_, _, _, _, _, _, _, rfl⟩, by have hbb := HB1.out.trans ((HS7 123).out.only.below.mono (by omega)); go_grown⟩
    · go_wp2_with fail
      have HA5 := hideIt (HS5.out.alloc (.cells #[.int .i64 (-1), .int .i64 2] 3))
      refine (pick_any _ _ p n' cap _ 2 HA5.out.rd (by omega) (by omega) (by omega)).mono ?_
      rintro e w6 ⟨⟨s6, h60, h61, rfl⟩, hR6, hO6⟩
      have HS6 := hideIt (HA5.out.pick hR6 hO6)
      have hl5 := HS5.out.op.lt
      have hq5 := HS5.out.rd.lt
      have sl : ∀ j, w6.cell? ⟨w5.heap.size, j, none⟩ = _ := fun j => hO6.cell w5.heap.size j (by simp) (by omega)
      clear hR6 hO6 HS5 HA5
      have HS7 := fun v => hideIt (HS6.out.set5 (v := v))
      obtain ⟨x0, x1, x2, x3, x4, x5, x6, fz, lt⟩ := HS6.out.op
      obtain ⟨y0, y1, y2, y3, y4, y5, y6, fy, ly⟩ := HS6.out.res
      have hRG := HS6.out.rG
      have hGR := hRG.symm
      obtain rfl | rfl : s6 = 0 ∨ s6 = 1 := by omega
      · go_wp2
        exact bodyPost_ret (v := .agg #[.int .i64 (a), .int .i64 (b), .int .i64 (2), .int .i64 (c), .int .i64 (d), .int .i64 (-1), .int .i64 (0)]) (by simp [results, Tryd.results4, go_sem, x0, x1, x2, x3, x4, x5, x6, y0, y1, y2, y3, y4, y5, y6, hRG, hGR]) rfl ⟨⟨_, _, _, _, _, _, _, rfl⟩, by have hbb := HB1.out.trans ((HS7 (-1)).out.only.below.mono (by omega)); go_grown⟩
      · go_wp2
        exact bodyPost_ret (v := .agg #[.int .i64 (a), .int .i64 (b), .int .i64 (2), .int .i64 (c), .int .i64 (d), .int .i64 (2), .int .i64 (0)]) (by simp [results, Tryd.results4, go_sem, x0, x1, x2, x3, x4, x5, x6, y0, y1, y2, y3, y4, y5, y6, hRG, hGR]) rfl ⟨⟨_, _, _, _, _, _, _, rfl⟩, by have hbb := HB1.out.trans ((HS7 (2)).out.only.below.mono (by omega)); go_grown⟩
    · obtain ⟨x0, x1, x2, x3, x4, x5, x6, fz, lt⟩ := HS5.out.op
      obtain ⟨y0, y1, y2, y3, y4, y5, y6, fy, ly⟩ := HS5.out.res
      have hRG := HS5.out.rG
      have hGR := hRG.symm
      go_wp2
      exact bodyPost_ret (v := .agg #[.int .i64 (a), .int .i64 (b), .int .i64 (2), .int .i64 (c), .int .i64 (d), .int .i64 (0), .int .i64 (0)]) (by simp [results, Tryd.results4, go_sem, x0, x1, x2, x3, x4, x5, x6, y0, y1, y2, y3, y4, y5, y6, hRG, hGR]) rfl ⟨⟨_, _, _, _, _, _, _, rfl⟩, by have hbb := HB1.out.trans (HS5.out.only.below.mono (by omega)); go_grown⟩
end Go.Proofs.YtlkhmpobpekmpaaDoor
