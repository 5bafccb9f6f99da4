/- The walk of the law FnExactDeskNew. -/
import Derived.Test.YtficnhlkefpfnaaPNew
namespace Go.Proofs.Ytficnhlkefpfnaa
open Go.RowKit
set_option linter.unusedSimpArgs false
set_option linter.unusedVariables false
attribute [local go_sem ↓] Go.wp_at_zero Go.wp_at_succ

theorem eqDoc_any (p q p' q' : Option Addr) (c d c' d' : Nat) (w : World) :
    Calls Try.prog 11 #[.agg #[.slice p 0 c, .slice q 0 d], .agg #[.slice p' 0 c', .slice q' 0 d']] w fun e w' => e = .returned (.bool true) ∧ Below w.heap.size w w' := by
  go_enter Try.func11, Try.ntmps11
  go_wp2_with (first | (go_at_call 17; refine (eqNone_any _ _ _ _ _).mono ?_; rintro e w' ⟨rfl, hw⟩; rw [hw]; clear hw))
  go_ret
  exact ⟨rfl, by go_grown⟩
theorem markDoc_any (p q : Option Addr) (c d : Nat) (k : Int) (w : World) :
    Calls Try.prog 13 #[.agg #[.slice p 0 c, .slice q 0 d], .int .i64 k] w fun e w' => e = .returned (.int .i64 k) ∧ Below w.heap.size w w' := by
  go_enter Try.func13, Try.ntmps13
  go_wp2_with (first | (go_at_call 18; refine (markNone_any _ _ _ _).mono ?_; rintro e w' ⟨rfl, hw⟩; rw [hw]; clear hw))
  go_ret
  exact ⟨rfl, by go_grown⟩
theorem heldDoc_any (p q : Option Addr) (c d : Nat) (w : World) :
    Calls Try.prog 15 #[.agg #[.slice p 0 c, .slice q 0 d], .int .i64 1] w fun e w' => e = .returned (.int .i64 1) ∧ Below w.heap.size w w' := by
  go_enter Try.func15, Try.ntmps15
  go_wp2_with (first | (go_at_call 19; refine (heldNone_any _ _ _ _).mono ?_; rintro e w' ⟨rfl, hw⟩; rw [hw]; clear hw))
  go_ret
  exact ⟨rfl, by go_grown⟩
/-- Two numbers' lists that are both nil, or both three of the same. -/
def NumsQ (w : World) (v u : Value) : Prop := (v = .slice none 0 0 ∧ u = .slice none 0 0) ∨ ∃ C D a b c, v = .slice (some ⟨C, 0, none⟩) 3 3 ∧ u = .slice (some ⟨D, 0, none⟩) 3 3 ∧ I3 w C a b c ∧ I3 w D a b c
theorem NumsQ.below {w w' : World} {v u : Value} (h : NumsQ w v u) (hb : Below w.heap.size w w') : NumsQ w' v u := by
  rcases h with h | ⟨C, D, a, b, c, h1, h2, h3, h4⟩
  · exact .inl h
  · exact .inr ⟨C, D, a, b, c, h1, h2, h3.below hb, h4.below hb⟩
theorem eqInts_any (v u : Value) (w : World) (h : NumsQ w v u) :
    Calls Try.prog 12 #[v, u] w fun e w' => e = .returned (.bool true) ∧ Below w.heap.size w w' := by
  rcases h with ⟨rfl, rfl⟩ | ⟨C, D, a, b, c, rfl, rfl, h3, h4⟩
  · exact (eqI0_any w).mono fun e w' ⟨h1, h2⟩ => ⟨h1, by rw [h2]; exact Below.refl _ _⟩
  · exact eqI3_any C D a b c w h3 h4
set_option maxHeartbeats 1000000 in
theorem eqDesk_any (r : Int) (p q p' q' : Option Addr) (c d c' d' : Nat) (v u : Value) (w : World) (h : NumsQ w v u) :
    Calls Try.prog 6 #[.agg #[.int .i64 r, .slice p 0 c, .slice q 0 d, v], .agg #[.int .i64 r, .slice p' 0 c', .slice q' 0 d', u]] w fun e w' => e = .returned (.bool true) ∧ Below w.heap.size w w' := by
  have H := hideIt h
  clear h
  have hv : ∃ P n c, v = .slice P n c := by rcases H.out with ⟨h, _⟩ | ⟨C, _, _, _, _, h, _⟩ <;> exact ⟨_, _, _, h⟩
  have hu : ∃ P n c, u = .slice P n c := by rcases H.out with ⟨_, h⟩ | ⟨_, C, _, _, _, _, h, _⟩ <;> exact ⟨_, _, _, h⟩
  obtain ⟨Pv, nv, cv, rfl⟩ := hv
  obtain ⟨Pu, nu, cu, rfl⟩ := hu
  go_enter Try.func6, Try.ntmps6
  go_wp2_with fail
  have HB0 : Hid (Below w.heap.size w ((w.alloc (.cells #[.int .i64 r, .slice p 0 c, .slice q 0 d, .slice Pv nv cv] 27)).alloc (.cells #[.int .i64 r, .slice p' 0 c', .slice q' 0 d', .slice Pu nu cu] 27))) := ((Below.refl _ _).alloc (Nat.le_refl _) _).alloc (by simp) _
  refine (eqDoc_any _ _ _ _ _ _ _ _ _).mono ?_
  rintro e w1 ⟨rfl, hb1⟩
  have HB1 := hideIt (Bstep HB0.out hb1)
  have hc : ∀ b o, b < w.heap.size + 2 → w1.cell? ⟨b, o, none⟩ = _ := fun b o h => (bcell hb1).1 b o (by simp; omega)
  have x3 := hc w.heap.size 3 (by omega)
  have y3 := hc (w.heap.size + 1) 3 (by omega)
  simp [go_sem] at x3 y3
  clear hb1 hc
  go_wp2_with (first | (go_at_call 12; refine (eqInts_any _ _ _ (H.out.below HB1.out)).mono ?_; rintro e w2 ⟨rfl, hb2⟩; have HB2 := hideIt (Bstep HB1.out hb2); clear hb2))
  go_ret
  exact ⟨rfl, HB2.out⟩
theorem NumsQ.cases {w : World} {v u : Value} (h : NumsQ w v u) : (∃ P n c, v = .slice P n c) ∧ (∃ P n c, u = .slice P n c) := by
  rcases h with ⟨h1, h2⟩ | ⟨C, D, _, _, _, h1, h2, _⟩ <;> exact ⟨⟨_, _, _, h1⟩, ⟨_, _, _, h2⟩⟩
set_option maxHeartbeats 1000000 in
theorem markDesk3_any (r : Int) (p q : Option Addr) (c d C : Nat) (a1 a2 a3 : Int) (w : World) (h : I3 w C a1 a2 a3) :
    Calls Try.prog 7 #[.agg #[.int .i64 r, .slice p 0 c, .slice q 0 d, .slice (some ⟨C, 0, none⟩) 3 3], .int .i64 1] w fun e w' => e = .returned (.int .i64 4) ∧ I3 w' C 1 2 3 ∧ (∀ b o, b ≠ C → w.heap[b]? = some o → w'.heap[b]? = some o) ∧ ∀ B, B ≤ C → B ≤ w.heap.size → Below B w w' := by
  have H := hideIt h
  clear h
  go_enter Try.func7, Try.ntmps7
  go_wp2_with fail
  have HB0 : Hid (Below w.heap.size w (w.alloc (.cells #[.int .i64 r, .slice p 0 c, .slice q 0 d, .slice (some ⟨C, 0, none⟩) 3 3] 27))) := (Below.refl _ _).alloc (Nat.le_refl _) _
  refine (markDoc_any _ _ _ _ _ _).mono ?_
  rintro e w1 ⟨rfl, hb1⟩
  have HB1 := hideIt (Bstep HB0.out hb1)
  have x3 := (bcell hb1).1 w.heap.size 3 (by simp)
  simp [go_sem] at x3
  clear hb1
  go_wp2_with (first | (go_at_call 14; refine (markI3_any C _ _ _ _ (H.out.below HB1.out)).mono ?_; rintro e w2 ⟨rfl, hw2⟩))
  go_ret
  subst hw2
  exact ⟨rfl, (H.out.below HB1.out).marked, fun b o hne hI => set_other (set_other (set_other (blk_below hI HB1.out) hne) hne) hne, fun B h1 h2 => (((HB1.out.mono h2).setCell (p := ⟨C, 0, none⟩) h1 _).setCell (p := ⟨C, 1, none⟩) h1 _).setCell (p := ⟨C, 2, none⟩) h1 _⟩
set_option maxHeartbeats 1000000 in
theorem heldDesk3_any (r : Int) (p q : Option Addr) (c d C : Nat) (w : World) (h : I3 w C 1 2 3) :
    Calls Try.prog 8 #[.agg #[.int .i64 r, .slice p 0 c, .slice q 0 d, .slice (some ⟨C, 0, none⟩) 3 3], .int .i64 1] w fun e w' => e = .returned (.int .i64 4) ∧ Below w.heap.size w w' := by
  have H := hideIt h
  clear h
  go_enter Try.func8, Try.ntmps8
  go_wp2_with fail
  have HB0 : Hid (Below w.heap.size w (w.alloc (.cells #[.int .i64 r, .slice p 0 c, .slice q 0 d, .slice (some ⟨C, 0, none⟩) 3 3] 27))) := (Below.refl _ _).alloc (Nat.le_refl _) _
  refine (heldDoc_any _ _ _ _ _).mono ?_
  rintro e w1 ⟨rfl, hb1⟩
  have HB1 := hideIt (Bstep HB0.out hb1)
  have x3 := (bcell hb1).1 w.heap.size 3 (by simp)
  simp [go_sem] at x3
  clear hb1
  go_wp2_with (first | (go_at_call 16; refine (heldI3_any C _ (H.out.below HB1.out)).mono ?_; rintro e w2 ⟨rfl, hw2⟩; rw [hw2]; clear hw2))
  go_ret
  exact ⟨rfl, HB1.out⟩
set_option maxHeartbeats 1000000 in
theorem markDesk0_any (w : World) :
    Calls Try.prog 7 #[.agg #[.int .i64 0, .slice none 0 0, .slice none 0 0, .slice none 0 0], .int .i64 1] w fun e w' => e = .returned (.int .i64 1) ∧ Below w.heap.size w w' := by
  go_enter Try.func7, Try.ntmps7
  go_wp2_with fail
  have HB0 : Hid (Below w.heap.size w (w.alloc (.cells #[.int .i64 0, .slice none 0 0, .slice none 0 0, .slice none 0 0] 27))) := (Below.refl _ _).alloc (Nat.le_refl _) _
  refine (markDoc_any _ _ _ _ _ _).mono ?_
  rintro e w1 ⟨rfl, hb1⟩
  have HB1 := hideIt (Bstep HB0.out hb1)
  have x3 := (bcell hb1).1 w.heap.size 3 (by simp)
  simp [go_sem] at x3
  clear hb1
  go_wp2_with (first | (go_at_call 14; refine (markI0_any _ _).mono ?_; rintro e w2 ⟨rfl, hw2⟩; rw [hw2]; clear hw2))
  go_ret
  exact ⟨rfl, HB1.out⟩
set_option maxHeartbeats 1000000 in
theorem heldDesk0_any (w : World) :
    Calls Try.prog 8 #[.agg #[.int .i64 0, .slice none 0 0, .slice none 0 0, .slice none 0 0], .int .i64 1] w fun e w' => e = .returned (.int .i64 1) ∧ Below w.heap.size w w' := by
  go_enter Try.func8, Try.ntmps8
  go_wp2_with fail
  have HB0 : Hid (Below w.heap.size w (w.alloc (.cells #[.int .i64 0, .slice none 0 0, .slice none 0 0, .slice none 0 0] 27))) := (Below.refl _ _).alloc (Nat.le_refl _) _
  refine (heldDoc_any _ _ _ _ _).mono ?_
  rintro e w1 ⟨rfl, hb1⟩
  have HB1 := hideIt (Bstep HB0.out hb1)
  have x3 := (bcell hb1).1 w.heap.size 3 (by simp)
  simp [go_sem] at x3
  clear hb1
  go_wp2_with (first | (go_at_call 16; refine (heldI0_any _ _).mono ?_; rintro e w2 ⟨rfl, hw2⟩; rw [hw2]; clear hw2))
  go_ret
  exact ⟨rfl, HB1.out⟩

set_option maxRecDepth 100000 in
set_option maxHeartbeats 1000000 in
theorem walkDeskNew (r : Int) (w : World) :
    Calls Try.prog 3 #[.int .i64 r] w fun e w' => e = .returned (.bool true) ∧ Below w.heap.size w w' := by
  go_enter Try.func3, Try.ntmps3
  go_wp2_with fail
  refine (specDesk_any r w).mono ?_
  rintro e w1 ⟨(⟨hr, M, N, C, rfl, hI⟩ | ⟨hr, rfl⟩), hb1⟩
  all_goals
    have HR := hideIt hr
    have HB1 := hideIt hb1
    clear hr hb1
  · have HI := hideIt hI
    clear hI
    go_wp2_with fail
    have HBa : Hid (Below w1.heap.size w1 (w1.alloc (.cells #[.int .i64 r, .slice (some ⟨M, 0, none⟩) 0 0, .slice (some ⟨N, 0, none⟩) 0 0, .slice (some ⟨C, 0, none⟩) 3 3] 27))) := (Below.refl _ _).alloc (Nat.le_refl _) _
    refine (implDesk_any r _).mono ?_
    rintro e w3 ⟨(⟨_, D, hD, rfl, hJ⟩ | ⟨hf, _⟩), hb3⟩
    rotate_left
    · rw [HR.out] at hf; cases hf
    have hCD : C ≠ D := by have := (HI.out.below HBa.out).lt; omega
    have HAD : Hid (w1.heap.size ≠ D) := by show _ ≠ _; intro e; rw [← e] at hD; simp at hD; omega
    have HI3 := hideIt ((HI.out.below HBa.out).below hb3)
    have HJ3 := hideIt hJ
    have HB3 := hideIt (Bstep (Bstep HB1.out HBa.out) hb3)
    have hwD : w.heap.size ≤ D := by have := HB1.out.size; have := HBa.out.size; omega
    have hlC : w1.heap.size < w3.heap.size := by have := HBa.out.size; have := hb3.size; simp at *; omega
    have hA : w3.heap[w1.heap.size]? = some (.cells #[.int .i64 r, .slice (some ⟨M, 0, none⟩) 0 0, .slice (some ⟨N, 0, none⟩) 0 0, .slice (some ⟨C, 0, none⟩) 3 3] 27 (0, 0)) := blk_below (World.alloc_heap_new _ _) hb3
    have HA3 := hideIt hA
    clear hJ hb3 HI HBa HB1 hA
    generalize hAA : w1.heap.size = A at *
    clear hAA
    have hlC := (Array.getElem?_eq_some_iff.1 HA3.out).1
    have x0 := (blk_cell HA3.out 0).trans rfl
    have x1 := (blk_cell HA3.out 1).trans rfl
    have x2 := (blk_cell HA3.out 2).trans rfl
    have x3 := (blk_cell HA3.out 3).trans rfl
    go_wp2_with fail
    clear x0 x1 x2 x3 hlC
    have hba : Below w3.heap.size w3 (w3.alloc (.cells #[.int .i64 r, .slice none 0 0, .slice none 0 0, .slice (some ⟨D, 0, none⟩) 3 3] 27)) := (Below.refl _ _).alloc (Nat.le_refl _) _
    have hDB : D < w3.heap.size := HJ3.out.lt
    have HBB : Hid ((w3.alloc (.cells #[.int .i64 r, .slice none 0 0, .slice none 0 0, .slice (some ⟨D, 0, none⟩) 3 3] 27)).heap[w3.heap.size]? = some (.cells #[.int .i64 r, .slice none 0 0, .slice none 0 0, .slice (some ⟨D, 0, none⟩) 3 3] 27 (0, 0))) := World.alloc_heap_new _ _
    have HA4 := hideIt (blk_below HA3.out hba)
    have HI4 := hideIt (HI3.out.below hba)
    have HJ4 := hideIt (HJ3.out.below hba)
    have HB4 := hideIt (Bstep HB3.out hba)
    clear hba HA3 HI3 HJ3 HB3
    generalize w3.alloc (.cells #[.int .i64 r, .slice none 0 0, .slice none 0 0, .slice (some ⟨D, 0, none⟩) 3 3] 27) = W4 at *
    have hBD : w3.heap.size ≠ D := by omega
    generalize w3.heap.size = B at *
    refine (eqDesk_any r none none _ _ 0 0 _ _ _ _ _ (.inr ⟨D, C, 0, 0, 0, rfl, rfl, HJ4.out, HI4.out⟩)).mono ?_
    rintro e w5 ⟨rfl, hb5⟩
    have HA5 := hideIt (blk_below HA4.out hb5)
    have HBB5 := hideIt (blk_below HBB.out hb5)
    have HI5 := hideIt (HI4.out.below hb5)
    have HJ5 := hideIt (HJ4.out.below hb5)
    have HB5 := hideIt (Bstep HB4.out hb5)
    clear hb5 HA4 HBB HI4 HJ4 HB4
    have hlA := (Array.getElem?_eq_some_iff.1 HA5.out).1
    have hlB := (Array.getElem?_eq_some_iff.1 HBB5.out).1
    have y0 := (blk_cell HBB5.out 0).trans rfl
    have y1 := (blk_cell HBB5.out 1).trans rfl
    have y2 := (blk_cell HBB5.out 2).trans rfl
    have y3 := (blk_cell HBB5.out 3).trans rfl
    go_wp2_with fail
    refine (markDesk3_any r none none 0 0 D 0 0 0 _ HJ5.out).mono ?_
    rintro e w6 ⟨rfl, hJ6, hk6, hb6⟩
    have hAD : A ≠ D := HAD.out
    have HA6 := hideIt (hk6 _ _ hAD HA5.out)
    have HBB6 := hideIt (hk6 _ _ hBD HBB5.out)
    have HI6 : Hid (I3 w6 C 0 0 0) := hk6 _ _ hCD HI5.out
    have HJ6 := hideIt hJ6
    have HB6 : Hid (Below w.heap.size w w6) := HB5.out.trans (hb6 _ hwD HB5.out.size)
    clear hk6 hb6 hJ6 HA5 HBB5 HI5 HJ5 HB5 y0 y1 y2 y3 hlA hlB
    have hlB := (Array.getElem?_eq_some_iff.1 HBB6.out).1
    have y0 := (blk_cell HBB6.out 0).trans rfl
    have y1 := (blk_cell HBB6.out 1).trans rfl
    have y2 := (blk_cell HBB6.out 2).trans rfl
    have y3 := (blk_cell HBB6.out 3).trans rfl
    go_wp2_with fail
    refine (heldDesk3_any r none none 0 0 D _ HJ6.out).mono ?_
    rintro e w7 ⟨rfl, hb7⟩
    have HA7 := hideIt (blk_below HA6.out hb7)
    have HBB7 := hideIt (blk_below HBB6.out hb7)
    have HI7 := hideIt (HI6.out.below hb7)
    have HJ7 := hideIt (HJ6.out.below hb7)
    have HB7 := hideIt (Bstep HB6.out hb7)
    clear hb7 HA6 HBB6 HI6 HJ6 HB6 y0 y1 y2 y3 hlB
    go_wp2_with fail
    refine (implDesk_any r _).mono ?_
    rintro e w8 ⟨(⟨_, E, hE, rfl, hK⟩ | ⟨hf, _⟩), hb8⟩
    rotate_left
    · rw [HR.out] at hf; cases hf
    have HA8 := hideIt (blk_below HA7.out hb8)
    have HBB8 := hideIt (blk_below HBB7.out hb8)
    have HI8 := hideIt (HI7.out.below hb8)
    have HJ8 := hideIt (HJ7.out.below hb8)
    have HK8 := hideIt hK
    have HB8 := hideIt (Bstep HB7.out hb8)
    clear hb8 hK HA7 HBB7 HI7 HJ7 HB7
    have hlA := (Array.getElem?_eq_some_iff.1 HA8.out).1
    have x0 := (blk_cell HA8.out 0).trans rfl
    have x1 := (blk_cell HA8.out 1).trans rfl
    have x2 := (blk_cell HA8.out 2).trans rfl
    have x3 := (blk_cell HA8.out 3).trans rfl
    go_wp2_with fail
    have hba : Below w8.heap.size w8 (w8.alloc (.cells #[.int .i64 r, .slice none 0 0, .slice none 0 0, .slice (some ⟨E, 0, none⟩) 3 3] 27)) := (Below.refl _ _).alloc (Nat.le_refl _) _
    have HBB9 := hideIt (blk_below HBB8.out hba)
    have HJ9 := hideIt (HJ8.out.below hba)
    have HI9 := hideIt (HI8.out.below hba)
    have HK9 := hideIt (HK8.out.below hba)
    have HB9 := hideIt (Bstep HB8.out hba)
    clear hba HA8 HBB8 HI8 HJ8 HK8 HB8 x0 x1 x2 x3 hlA
    refine (eqDesk_any r none none _ _ 0 0 _ _ _ _ _ (.inr ⟨E, C, 0, 0, 0, rfl, rfl, HK9.out, HI9.out⟩)).mono ?_
    rintro e w10 ⟨rfl, hb10⟩
    have HBB10 := hideIt (blk_below HBB9.out hb10)
    have HJ10 := hideIt (HJ9.out.below hb10)
    have HB10 := hideIt (Bstep HB9.out hb10)
    clear hb10 HBB9 HI9 HJ9 HK9 HB9
    have hlB := (Array.getElem?_eq_some_iff.1 HBB10.out).1
    have y0 := (blk_cell HBB10.out 0).trans rfl
    have y1 := (blk_cell HBB10.out 1).trans rfl
    have y2 := (blk_cell HBB10.out 2).trans rfl
    have y3 := (blk_cell HBB10.out 3).trans rfl
    go_wp2_with fail
    refine (heldDesk3_any r none none 0 0 D _ HJ10.out).mono ?_
    rintro e w11 ⟨rfl, hb11⟩
    have HB11 := hideIt (Bstep HB10.out hb11)
    clear hb11 y0 y1 y2 y3
    go_wp2
    go_ret
    exact ⟨rfl, HB11.out⟩
  · go_wp2_with fail
    have HBa : Hid (Below w1.heap.size w1 (w1.alloc (.cells #[.int .i64 0, .slice none 0 0, .slice none 0 0, .slice none 0 0] 27))) := (Below.refl _ _).alloc (Nat.le_refl _) _
    refine (implDesk_any r _).mono ?_
    rintro e w3 ⟨(⟨hf, _⟩ | ⟨_, rfl⟩), hb3⟩
    · rw [HR.out] at hf; cases hf
    have HB3 := hideIt (Bstep (Bstep HB1.out HBa.out) hb3)
    have hA : w3.heap[w1.heap.size]? = some (.cells #[.int .i64 0, .slice none 0 0, .slice none 0 0, .slice none 0 0] 27 (0, 0)) := blk_below (World.alloc_heap_new _ _) hb3
    have HA3 := hideIt hA
    clear hb3 HBa HB1 hA
    generalize hAA : w1.heap.size = A at *
    clear hAA
    have hlC := (Array.getElem?_eq_some_iff.1 HA3.out).1
    have x0 := (blk_cell HA3.out 0).trans rfl
    have x1 := (blk_cell HA3.out 1).trans rfl
    have x2 := (blk_cell HA3.out 2).trans rfl
    have x3 := (blk_cell HA3.out 3).trans rfl
    go_wp2_with fail
    clear x0 x1 x2 x3 hlC
    have hba : Below w3.heap.size w3 (w3.alloc (.cells #[.int .i64 0, .slice none 0 0, .slice none 0 0, .slice none 0 0] 27)) := (Below.refl _ _).alloc (Nat.le_refl _) _
    have HBB : Hid ((w3.alloc (.cells #[.int .i64 0, .slice none 0 0, .slice none 0 0, .slice none 0 0] 27)).heap[w3.heap.size]? = some (.cells #[.int .i64 0, .slice none 0 0, .slice none 0 0, .slice none 0 0] 27 (0, 0))) := World.alloc_heap_new _ _
    have HA4 := hideIt (blk_below HA3.out hba)
    have HB4 := hideIt (Bstep HB3.out hba)
    clear hba HA3 HB3
    generalize w3.alloc (.cells #[.int .i64 0, .slice none 0 0, .slice none 0 0, .slice none 0 0] 27) = W4 at *
    generalize w3.heap.size = B at *
    refine (eqDesk_any 0 none none none none 0 0 0 0 _ _ _ (.inl ⟨rfl, rfl⟩)).mono ?_
    rintro e w5 ⟨rfl, hb5⟩
    have HA5 := hideIt (blk_below HA4.out hb5)
    have HBB5 := hideIt (blk_below HBB.out hb5)
    have HB5 := hideIt (Bstep HB4.out hb5)
    clear hb5 HA4 HBB HB4
    have hlB := (Array.getElem?_eq_some_iff.1 HBB5.out).1
    have y0 := (blk_cell HBB5.out 0).trans rfl
    have y1 := (blk_cell HBB5.out 1).trans rfl
    have y2 := (blk_cell HBB5.out 2).trans rfl
    have y3 := (blk_cell HBB5.out 3).trans rfl
    go_wp2_with fail
    refine (markDesk0_any _).mono ?_
    rintro e w6 ⟨rfl, hb6⟩
    have HA6 := hideIt (blk_below HA5.out hb6)
    have HBB6 := hideIt (blk_below HBB5.out hb6)
    have HB6 := hideIt (Bstep HB5.out hb6)
    clear hb6 HA5 HBB5 HB5 y0 y1 y2 y3 hlB
    have hlB := (Array.getElem?_eq_some_iff.1 HBB6.out).1
    have y0 := (blk_cell HBB6.out 0).trans rfl
    have y1 := (blk_cell HBB6.out 1).trans rfl
    have y2 := (blk_cell HBB6.out 2).trans rfl
    have y3 := (blk_cell HBB6.out 3).trans rfl
    go_wp2_with fail
    refine (heldDesk0_any _).mono ?_
    rintro e w7 ⟨rfl, hb7⟩
    have HA7 := hideIt (blk_below HA6.out hb7)
    have HBB7 := hideIt (blk_below HBB6.out hb7)
    have HB7 := hideIt (Bstep HB6.out hb7)
    clear hb7 HA6 HBB6 HB6 y0 y1 y2 y3 hlB
    go_wp2_with fail
    refine (implDesk_any r _).mono ?_
    rintro e w8 ⟨(⟨hf, _⟩ | ⟨_, rfl⟩), hb8⟩
    · rw [HR.out] at hf; cases hf
    have HA8 := hideIt (blk_below HA7.out hb8)
    have HBB8 := hideIt (blk_below HBB7.out hb8)
    have HB8 := hideIt (Bstep HB7.out hb8)
    clear hb8 HA7 HBB7 HB7
    have hlA := (Array.getElem?_eq_some_iff.1 HA8.out).1
    have x0 := (blk_cell HA8.out 0).trans rfl
    have x1 := (blk_cell HA8.out 1).trans rfl
    have x2 := (blk_cell HA8.out 2).trans rfl
    have x3 := (blk_cell HA8.out 3).trans rfl
    go_wp2_with fail
    have hba : Below w8.heap.size w8 (w8.alloc (.cells #[.int .i64 0, .slice none 0 0, .slice none 0 0, .slice none 0 0] 27)) := (Below.refl _ _).alloc (Nat.le_refl _) _
    have HBB9 := hideIt (blk_below HBB8.out hba)
    have HB9 := hideIt (Bstep HB8.out hba)
    clear hba HA8 HBB8 HB8 x0 x1 x2 x3 hlA
    refine (eqDesk_any 0 none none none none 0 0 0 0 _ _ _ (.inl ⟨rfl, rfl⟩)).mono ?_
    rintro e w10 ⟨rfl, hb10⟩
    have HBB10 := hideIt (blk_below HBB9.out hb10)
    have HB10 := hideIt (Bstep HB9.out hb10)
    clear hb10 HBB9 HB9
    have hlB := (Array.getElem?_eq_some_iff.1 HBB10.out).1
    have y0 := (blk_cell HBB10.out 0).trans rfl
    have y1 := (blk_cell HBB10.out 1).trans rfl
    have y2 := (blk_cell HBB10.out 2).trans rfl
    have y3 := (blk_cell HBB10.out 3).trans rfl
    go_wp2_with fail
    refine (heldDesk0_any _).mono ?_
    rintro e w11 ⟨rfl, hb11⟩
    have HB11 := hideIt (Bstep HB10.out hb11)
    clear hb11 y0 y1 y2 y3
    go_wp2
    go_ret
    exact ⟨rfl, HB11.out⟩
end Go.Proofs.Ytficnhlkefpfnaa
