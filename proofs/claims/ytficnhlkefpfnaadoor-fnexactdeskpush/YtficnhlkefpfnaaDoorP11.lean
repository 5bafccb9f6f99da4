/-
  PROVED: at every argument the program's DeskPush answers as its specification, writes into no argument, and its answer is memory of its own (the given card of FnExactDeskPush), for every input; the one listed variable, the program's error, reads as its own initialiser lays it.
-/
import Derived.Test.YtficnhlkefpfnaaDoorP10
import Derived.Test.YtficnhlkefpfnaaDoorP6
import Derived.Test.YtficnhlkefpfnaaDoorP9
import Derived.ChangeSlices
import Derived.Test.YtficnhlkefpfnaaDoorTie
import Derived.Test.YtficnhlkefpfnaaDoorCards
import Derived.SevenTiedAt
namespace Go.Proofs.YtficnhlkefpfnaaDoor
open Go.RowKit
set_option linter.unusedSimpArgs false
set_option linter.unusedVariables false
attribute [local go_sem ↓] Go.wp_at_zero Go.wp_at_succ

set_option maxRecDepth 100000 in
set_option maxHeartbeats 4000000 in
theorem walkDeskPush (r : Int) (l : List Op7) (p : Option Addr) (cap : Nat) (ws : List Op7) (q : Option Addr) (cap2 : Nat) (s : List Int) (t : Option Addr) (cap3 : Nat) (x : Addr) (w : World) (hl : ArgOps w p l) (hcap : l.length ≤ cap) (hmax : cap ≤ maxLen) (hs : ArgOps w q ws) (hcap2 : ws.length ≤ cap2) (hmax2 : cap2 ≤ maxLen) (hi : ArgInts w t s) (hcap3 : s.length ≤ cap3) (hmax3 : cap3 ≤ maxLen)
    (he : w.cell? ⟨0, 0, none⟩ = some (.iface 200 (.pointer (some x)))) (h0 : 0 < w.heap.size) :
    Calls Tryd.prog 12 #[.agg #[.int .i64 r, .slice p l.length cap, .slice q ws.length cap2, .slice t s.length cap3]] w fun e w' => e = .returned (.bool true) ∧ Below w.heap.size w w' := by
  have HA := hideIt hl
  have HS := hideIt hs
  have HI := hideIt hi
  clear hl hs hi
  have hB0 : Below w.heap.size w (w.alloc (.cells #[.int .i64 r, .slice p l.length cap, .slice q ws.length cap2, .slice t s.length cap3] 35)) := (Below.refl _ _).alloc (Nat.le_refl _) _
  have hD0 : (w.alloc (.cells #[.int .i64 r, .slice p l.length cap, .slice q ws.length cap2, .slice t s.length cap3] 35)).heap[w.heap.size]? = some (.cells #[.int .i64 r, .slice p l.length cap, .slice q ws.length cap2, .slice t s.length cap3] 35 (0, 0)) := World.alloc_heap_new _ _
  have HB := hideIt hB0
  have HD := hideIt hD0
  clear hB0 hD0
  by_cases hn : l.length + ws.length + s.length ≤ 1048576
  · obtain ⟨zz, hzz⟩ : ∃ zz, pushB r l ws s = zz := ⟨_, rfl⟩
    have HZ := hideIt hzz
    clear hzz
    have hNN : (ansP l s 5).length ≤ 1048576 := Nat.le_trans (ansP_len _ _ _) (by omega)
    have hneg : ¬ ((1 + 7 * ((ansP l s 5).length : Int)) < 0) := by omega
    cases zz
    · go_enter Tryd.func12, Tryd.ntmps12
      go_wp2_with fail
      refine (szDesk_ok r p q t l.length cap ws.length cap2 s.length cap3 _ hn).mono ?_
      rintro e w1 ⟨⟨sz, rfl⟩, hb1⟩
      have HB' := hideIt (Bstep HB.out hb1)
      have HD' := hideIt (blk_below HD.out hb1)
      clear HB HD
      have HB := HB'
      have HD := HD'
      clear HB' HD'
      clear hb1
      have hs0 : ¬ ((sz : Int) < 0) := by omega
      have cd0 := (blk_cell HD.out 0).trans rfl
      have cd1 := (blk_cell HD.out 1).trans rfl
      have cd2 := (blk_cell HD.out 2).trans rfl
      have cd3 := (blk_cell HD.out 3).trans rfl
      have cdl := (Array.getElem?_eq_some_iff.1 HD.out).1
      go_wp2_with fail
      refine (toDesk_any r l ws s p q t cap cap2 cap3 _ (HA.out.below HB.out) (by omega) hcap (HS.out.below HB.out) (by omega) hcap2 (HI.out.below HB.out) (by omega) hcap3).mono ?_
      rintro e w2 ⟨⟨g1, g2, g3, rfl, hA2, hB2, hC2⟩, hb2⟩
      clear cd0 cd1 cd2 cd3 cdl
      have HB' := hideIt (Bstep HB.out hb2)
      have HD' := hideIt (blk_below HD.out hb2)
      clear HB HD
      have HB := HB'
      have HD := HD'
      clear HB' HD'
      clear hb2
      have H1 := hideIt hA2
      have H2 := hideIt hB2
      have H3 := hideIt hC2
      clear hA2 hB2 hC2
      go_wp2_with fail
      refine (specPush_any r l ws s g1 l.length g2 ws.length g3 s.length _ H1.out (by omega) (Nat.le_refl _) H2.out (by omega) (Nat.le_refl _) H3.out (by omega) (Nat.le_refl _)).mono ?_
      rintro e w3 ⟨(⟨hf, _⟩ | ⟨_, rfl⟩), hb3⟩
      · rw [HZ.out] at hf; cases hf
      have HB' := hideIt (Bstep HB.out hb3)
      have HD' := hideIt (blk_below HD.out hb3)
      clear HB HD
      have HB := HB'
      have HD := HD'
      clear HB' HD'
      clear hb3 H1 H2 H3
      have cd0 := (blk_cell HD.out 0).trans rfl
      have cd1 := (blk_cell HD.out 1).trans rfl
      have cd2 := (blk_cell HD.out 2).trans rfl
      have cd3 := (blk_cell HD.out 3).trans rfl
      have cdl := (Array.getElem?_eq_some_iff.1 HD.out).1
      go_wp2_with fail
      clear cd0 cd1 cd2 cd3 cdl
      have hba : Below w3.heap.size w3 (w3.alloc (.cells #[.int .i64 0, .int .i64 0, .slice none 0 0, .slice none 0 0] 46)) := (Below.refl _ _).alloc (Nat.le_refl _) _
      have HB' := hideIt (Bstep HB.out hba)
      have HD' := hideIt (blk_below HD.out hba)
      clear HB HD
      have HB := HB'
      have HD := HD'
      clear HB' HD'
      have HW : Hid ((w3.alloc (.cells #[.int .i64 0, .int .i64 0, .slice none 0 0, .slice none 0 0] 46)).heap[w3.heap.size]? = some (.cells #[.int .i64 0, .int .i64 0, .slice none 0 0, .slice none 0 0] 46 (0, 0))) := World.alloc_heap_new _ _
      clear hba
      generalize w3.alloc (.cells #[.int .i64 0, .int .i64 0, .slice none 0 0, .slice none 0 0] 46) = W3 at *
      generalize w3.heap.size = P0 at *
      refine (toDeskF_any r l ws s p q t cap cap2 cap3 _ (HA.out.below HB.out) (by omega) hcap (HS.out.below HB.out) (by omega) hcap2 (HI.out.below HB.out) (by omega) hcap3).mono ?_
      rintro e w4 ⟨⟨ga, gb, gc, rfl, hA4, hB4, hC4, hga, hgb, hgc, hab, hac, hbc, hk1, hk2, hk3⟩, hb4⟩
      have hP0 : P0 < W3.heap.size := (Array.getElem?_eq_some_iff.1 HW.out).1
      have hD0 : w.heap.size < W3.heap.size := (Array.getElem?_eq_some_iff.1 HD.out).1
      have HB' := hideIt (Bstep HB.out hb4)
      have HD' := hideIt (blk_below HD.out hb4)
      have HW' := hideIt (blk_below HW.out hb4)
      clear HB HD HW
      have HB := HB'
      have HD := HD'
      have HW := HW'
      clear HB' HD' HW'
      clear hb4
      have HGA := hideIt hA4
      have HGB := hideIt hB4
      have HGC := hideIt hC4
      have HKA := hideIt hk1
      have HKB := hideIt hk2
      have HKC := hideIt hk3
      clear hA4 hB4 hC4 hk1 hk2 hk3
      have hga4 : ga < w4.heap.size := HGA.out.1
      have hgb4 : gb < w4.heap.size := HGB.out.1
      have hgc4 : gc < w4.heap.size := HGC.out.1
      go_wp2_with fail
      have hba : Below w4.heap.size w4 (w4.alloc (.cells #[.int .i64 r, .slice (some ⟨ga, 0, none⟩) l.length l.length, .slice (some ⟨gb, 0, none⟩) ws.length ws.length, .slice (some ⟨gc, 0, none⟩) s.length s.length] 41)) := (Below.refl _ _).alloc (Nat.le_refl _) _
      have HB' := hideIt (Bstep HB.out hba)
      have HD' := hideIt (blk_below HD.out hba)
      have HW' := hideIt (blk_below HW.out hba)
      have HGA' := hideIt (HGA.out.below hba HGA.out.1)
      have HGB' := hideIt (HGB.out.below hba HGB.out.1)
      have HGC' := hideIt (HGC.out.below hba HGC.out.1)
      have HKA' := hideIt (HKA.out.keep hba)
      have HKB' := hideIt (HKB.out.keep hba)
      have HKC' := hideIt (HKC.out.keep hba)
      clear HB HD HW HGA HGB HGC HKA HKB HKC
      have HB := HB'
      have HD := HD'
      have HW := HW'
      have HGA := HGA'
      have HGB := HGB'
      have HGC := HGC'
      have HKA := HKA'
      have HKB := HKB'
      have HKC := HKC'
      clear HB' HD' HW' HGA' HGB' HGC' HKA' HKB' HKC'
      have HX : Hid ((w4.alloc (.cells #[.int .i64 r, .slice (some ⟨ga, 0, none⟩) l.length l.length, .slice (some ⟨gb, 0, none⟩) ws.length ws.length, .slice (some ⟨gc, 0, none⟩) s.length s.length] 41)).heap[w4.heap.size]? = some (.cells #[.int .i64 r, .slice (some ⟨ga, 0, none⟩) l.length l.length, .slice (some ⟨gb, 0, none⟩) ws.length ws.length, .slice (some ⟨gc, 0, none⟩) s.length s.length] 41 (0, 0))) := World.alloc_heap_new _ _
      clear hba
      have hX4 : w4.heap.size < (w4.alloc (.cells #[.int .i64 r, .slice (some ⟨ga, 0, none⟩) l.length l.length, .slice (some ⟨gb, 0, none⟩) ws.length ws.length, .slice (some ⟨gc, 0, none⟩) s.length s.length] 41)).heap.size := (Array.getElem?_eq_some_iff.1 HX.out).1
      generalize w4.alloc (.cells #[.int .i64 r, .slice (some ⟨ga, 0, none⟩) l.length l.length, .slice (some ⟨gb, 0, none⟩) ws.length ws.length, .slice (some ⟨gc, 0, none⟩) s.length s.length] 41) = W4 at *
      generalize w4.heap.size = X at *
      refine (implPush_any r l ws s ga l.length gb ws.length gc s.length x _ HGA.out (by omega) (Nat.le_refl _) HGB.out (by omega) (Nat.le_refl _) HGC.out (by omega) (Nat.le_refl _) (errB HB.out h0 he) (posB HB.out h0)).mono ?_
      rintro e w5 ⟨(⟨hf, _⟩ | ⟨_, rfl⟩), hb5⟩
      · rw [HZ.out] at hf; cases hf
      have HB' := hideIt (Bstep HB.out hb5)
      have HD' := hideIt (blk_below HD.out hb5)
      have HW' := hideIt (blk_below HW.out hb5)
      have HGA' := hideIt (HGA.out.below hb5 HGA.out.1)
      have HGB' := hideIt (HGB.out.below hb5 HGB.out.1)
      have HGC' := hideIt (HGC.out.below hb5 HGC.out.1)
      have HKA' := hideIt (HKA.out.keep hb5)
      have HKB' := hideIt (HKB.out.keep hb5)
      have HKC' := hideIt (HKC.out.keep hb5)
      have HX' := hideIt (blk_below HX.out hb5)
      clear HB HD HW HGA HGB HGC HKA HKB HKC HX
      have HB := HB'
      have HD := HD'
      have HW := HW'
      have HGA := HGA'
      have HGB := HGB'
      have HGC := HGC'
      have HKA := HKA'
      have HKB := HKB'
      have HKC := HKC'
      have HX := HX'
      clear HB' HD' HW' HGA' HGB' HGC' HKA' HKB' HKC' HX'
      clear hb5
      have hXw5 : X < w5.heap.size := (Array.getElem?_eq_some_iff.1 HX.out).1
      have cp0 := (blk_cell HW.out 0).trans rfl
      have cp1 := (blk_cell HW.out 1).trans rfl
      have cp2 := (blk_cell HW.out 2).trans rfl
      have cp3 := (blk_cell HW.out 3).trans rfl
      have cpl := (Array.getElem?_eq_some_iff.1 HW.out).1
      go_wp2_with fail
      clear cp0 cp1 cp2 cp3 cpl
      have hba : Below w5.heap.size w5 (w5.alloc (.cells #[.int .i64 0, .int .i64 0, .slice none 0 0, .slice none 0 0] 46)) := (Below.refl _ _).alloc (Nat.le_refl _) _
      have HB' := hideIt (Bstep HB.out hba)
      have HD' := hideIt (blk_below HD.out hba)
      have HW' := hideIt (blk_below HW.out hba)
      have HGA' := hideIt (HGA.out.below hba HGA.out.1)
      have HGB' := hideIt (HGB.out.below hba HGB.out.1)
      have HGC' := hideIt (HGC.out.below hba HGC.out.1)
      have HKA' := hideIt (HKA.out.keep hba)
      have HKB' := hideIt (HKB.out.keep hba)
      have HKC' := hideIt (HKC.out.keep hba)
      have HX' := hideIt (blk_below HX.out hba)
      clear HB HD HW HGA HGB HGC HKA HKB HKC HX
      have HB := HB'
      have HD := HD'
      have HW := HW'
      have HGA := HGA'
      have HGB := HGB'
      have HGC := HGC'
      have HKA := HKA'
      have HKB := HKB'
      have HKC := HKC'
      have HX := HX'
      clear HB' HD' HW' HGA' HGB' HGC' HKA' HKB' HKC' HX'
      have HG : Hid ((w5.alloc (.cells #[.int .i64 0, .int .i64 0, .slice none 0 0, .slice none 0 0] 46)).heap[w5.heap.size]? = some (.cells #[.int .i64 0, .int .i64 0, .slice none 0 0, .slice none 0 0] 46 (0, 0))) := World.alloc_heap_new _ _
      have hP1 : X < w5.heap.size := hXw5
      clear hba
      generalize w5.alloc (.cells #[.int .i64 0, .int .i64 0, .slice none 0 0, .slice none 0 0] 46) = W5 at *
      generalize w5.heap.size = P1 at *
      refine (eqWord_any 0 0 _ _ _ _ _ _ _ (.inl ⟨rfl, rfl⟩)).mono ?_
      rintro e w6 ⟨rfl, hb6⟩
      have HB' := hideIt (Bstep HB.out hb6)
      have HD' := hideIt (blk_below HD.out hb6)
      have HW' := hideIt (blk_below HW.out hb6)
      have HGA' := hideIt (HGA.out.below hb6 HGA.out.1)
      have HGB' := hideIt (HGB.out.below hb6 HGB.out.1)
      have HGC' := hideIt (HGC.out.below hb6 HGC.out.1)
      have HKA' := hideIt (HKA.out.keep hb6)
      have HKB' := hideIt (HKB.out.keep hb6)
      have HKC' := hideIt (HKC.out.keep hb6)
      have HX' := hideIt (blk_below HX.out hb6)
      have HG' := hideIt (blk_below HG.out hb6)
      clear HB HD HW HGA HGB HGC HKA HKB HKC HX HG
      have HB := HB'
      have HD := HD'
      have HW := HW'
      have HGA := HGA'
      have HGB := HGB'
      have HGC := HGC'
      have HKA := HKA'
      have HKB := HKB'
      have HKC := HKC'
      have HX := HX'
      have HG := HG'
      clear HB' HD' HW' HGA' HGB' HGC' HKA' HKB' HKC' HX' HG'
      clear hb6
      have cx0 := (blk_cell HX.out 0).trans rfl
      have cx1 := (blk_cell HX.out 1).trans rfl
      have cx2 := (blk_cell HX.out 2).trans rfl
      have cx3 := (blk_cell HX.out 3).trans rfl
      have cxl := (Array.getElem?_eq_some_iff.1 HX.out).1
      have cd0 := (blk_cell HD.out 0).trans rfl
      have cd1 := (blk_cell HD.out 1).trans rfl
      have cd2 := (blk_cell HD.out 2).trans rfl
      have cd3 := (blk_cell HD.out 3).trans rfl
      have cdl := (Array.getElem?_eq_some_iff.1 HD.out).1
      go_wp2
      have hdr : Below w6.heap.size w6 (World.drew w6) := (Below.refl _ _).drew
      have HB' := hideIt (Bstep HB.out hdr)
      have HD' := hideIt (blk_below HD.out hdr)
      have HW' := hideIt (blk_below HW.out hdr)
      have HGA' := hideIt (HGA.out.below hdr HGA.out.1)
      have HGB' := hideIt (HGB.out.below hdr HGB.out.1)
      have HGC' := hideIt (HGC.out.below hdr HGC.out.1)
      have HKA' := hideIt (HKA.out.keep hdr)
      have HKB' := hideIt (HKB.out.keep hdr)
      have HKC' := hideIt (HKC.out.keep hdr)
      have HX' := hideIt (blk_below HX.out hdr)
      have HG' := hideIt (blk_below HG.out hdr)
      clear HB HD HW HGA HGB HGC HKA HKB HKC HX HG
      have HB := HB'
      have HD := HD'
      have HW := HW'
      have HGA := HGA'
      have HGB := HGB'
      have HGC := HGC'
      have HKA := HKA'
      have HKB := HKB'
      have HKC := HKC'
      have HX := HX'
      have HG := HG'
      clear HB' HD' HW' HGA' HGB' HGC' HKA' HKB' HKC' HX' HG'
      clear hdr
      go_region_held3 (fun w' => w'.cell? ⟨X, 0, none⟩ = some (.int .i64 r) ∧ w'.cell? ⟨X, 1, none⟩ = some (.slice (some ⟨ga, 0, none⟩) l.length l.length) ∧ w'.cell? ⟨X, 2, none⟩ = some (.slice (some ⟨gb, 0, none⟩) ws.length ws.length) ∧ w'.cell? ⟨X, 3, none⟩ = some (.slice (some ⟨gc, 0, none⟩) s.length s.length) ∧ w'.cell? ⟨w.heap.size, 0, none⟩ = some (.int .i64 r) ∧ w'.cell? ⟨w.heap.size, 1, none⟩ = some (.slice p l.length cap) ∧ w'.cell? ⟨w.heap.size, 2, none⟩ = some (.slice q ws.length cap2) ∧ w'.cell? ⟨w.heap.size, 3, none⟩ = some (.slice t s.length cap3))
        (first | exact ⟨cx0, cx1, cx2, cx3, cd0, cd1, cd2, cd3⟩ | exact ⟨y0, y1, y2, y3, z0, z1, z2, z3⟩)
        (first
        | (go_at_call 22; refine (toDesk_any r l ws s p q t cap cap2 cap3 _ (HA.out.below HB.out) (by omega) hcap (HS.out.below HB.out) (by omega) hcap2 (HI.out.below HB.out) (by omega) hcap3).mono ?_; rintro e w7 ⟨⟨ge, gf, gi, rfl, hge, hgf, hgi⟩, hb7⟩; have HGE := hideIt hge; have HGF := hideIt hgf; have HGI := hideIt hgi; have HBn := hideIt (Bstep HB.out hb7); have HD := hideIt (blk_below HD.out hb7); have HW := hideIt (blk_below HW.out hb7); have HGA := hideIt (HGA.out.below hb7 HGA.out.1); have HGB := hideIt (HGB.out.below hb7 HGB.out.1); have HGC := hideIt (HGC.out.below hb7 HGC.out.1); have HKA := hideIt (HKA.out.keep hb7); have HKB := hideIt (HKB.out.keep hb7); have HKC := hideIt (HKC.out.keep hb7); have HX := hideIt (blk_below HX.out hb7); have HG := hideIt (blk_below HG.out hb7); have HB := HBn; clear HBn; have y0 := (blk_cell HX.out 0).trans rfl; have y1 := (blk_cell HX.out 1).trans rfl; have y2 := (blk_cell HX.out 2).trans rfl; have y3 := (blk_cell HX.out 3).trans rfl; have z0 := (blk_cell HD.out 0).trans rfl; have z1 := (blk_cell HD.out 1).trans rfl; have z2 := (blk_cell HD.out 2).trans rfl; have z3 := (blk_cell HD.out 3).trans rfl; dsimp only)
        | (go_at_call 24; refine (eqDesk_same r l ws s _ _ _ _ _ _ _ HGA.out HGB.out HGC.out HGE.out HGF.out HGI.out (by omega) (by omega) (by omega)).mono ?_; rintro e w8 ⟨rfl, hb8⟩; have HBn := hideIt (Bstep HB.out hb8); have HD := hideIt (blk_below HD.out hb8); have HW := hideIt (blk_below HW.out hb8); have HGA := hideIt (HGA.out.below hb8 HGA.out.1); have HGB := hideIt (HGB.out.below hb8 HGB.out.1); have HGC := hideIt (HGC.out.below hb8 HGC.out.1); have HKA := hideIt (HKA.out.keep hb8); have HKB := hideIt (HKB.out.keep hb8); have HKC := hideIt (HKC.out.keep hb8); have HX := hideIt (blk_below HX.out hb8); have HG := hideIt (blk_below HG.out hb8); have HB := HBn; clear HBn; have y0 := (blk_cell HX.out 0).trans rfl; have y1 := (blk_cell HX.out 1).trans rfl; have y2 := (blk_cell HX.out 2).trans rfl; have y3 := (blk_cell HX.out 3).trans rfl; have z0 := (blk_cell HD.out 0).trans rfl; have z1 := (blk_cell HD.out 1).trans rfl; have z2 := (blk_cell HD.out 2).trans rfl; have z3 := (blk_cell HD.out 3).trans rfl; dsimp only))
      rename_i hHH
      clear hHH y0 y1 y2 y3 z0 z1 z2 z3
      try clear HGE HGF HGI
      have cx0 := (blk_cell HX.out 0).trans rfl
      have cx1 := (blk_cell HX.out 1).trans rfl
      have cx2 := (blk_cell HX.out 2).trans rfl
      have cx3 := (blk_cell HX.out 3).trans rfl
      have cxl := (Array.getElem?_eq_some_iff.1 HX.out).1
      go_wp2_with fail
      clear cx0 cx1 cx2 cx3 cxl
      have hX1 := (Array.getElem?_eq_some_iff.1 HX.out).1
      have hG1 := (Array.getElem?_eq_some_iff.1 HG.out).1
      refine (markDeskF_any r ga gb gc l.length ws.length s.length _ HKA.out HKB.out HKC.out (by omega) (by omega) (by omega) hn).mono ?_
      rintro e w9 ⟨⟨sm, rfl⟩, ht⟩
      have hsm : ¬ ((sm : Int) < 0) := by omega
      have HD9 := hideIt (ht.at HD.out (by omega) (by omega) (by omega))
      have HW9 := hideIt (ht.at HW.out (by omega) (by omega) (by omega))
      have HX9 := hideIt (ht.at HX.out (by omega) (by omega) (by omega))
      have HG9 := hideIt (ht.at HG.out (by omega) (by omega) (by omega))
      have HB9 := hideIt (HB.out.trans (ht.below w.heap.size (by omega) (by omega) (by omega) HB.out.size))
      clear ht HD HW HX HG HB HGA HGB HGC HKA HKB HKC
      have HD := HD9
      have HW := HW9
      have HG := HG9
      have HB := HB9
      clear HD9 HW9 HX9 HG9 HB9
      have cp0 := (blk_cell HW.out 0).trans rfl
      have cp1 := (blk_cell HW.out 1).trans rfl
      have cp2 := (blk_cell HW.out 2).trans rfl
      have cp3 := (blk_cell HW.out 3).trans rfl
      have cpl := (Array.getElem?_eq_some_iff.1 HW.out).1
      have cg0 := (blk_cell HG.out 0).trans rfl
      have cg1 := (blk_cell HG.out 1).trans rfl
      have cg2 := (blk_cell HG.out 2).trans rfl
      have cg3 := (blk_cell HG.out 3).trans rfl
      have cgl := (Array.getElem?_eq_some_iff.1 HG.out).1
      go_wp2_with fail
      clear cp0 cp1 cp2 cp3 cpl cg0 cg1 cg2 cg3 cgl
      refine (eqWord_any 0 0 _ _ _ _ _ _ _ (.inl ⟨rfl, rfl⟩)).mono ?_
      rintro e w10 ⟨rfl, hb10⟩
      have HB' := hideIt (Bstep HB.out hb10)
      have HD' := hideIt (blk_below HD.out hb10)
      have HW' := hideIt (blk_below HW.out hb10)
      have HG' := hideIt (blk_below HG.out hb10)
      clear HB HD HW HG
      have HB := HB'
      have HD := HD'
      have HW := HW'
      have HG := HG'
      clear HB' HD' HW' HG'
      clear hb10
      have cg0 := (blk_cell HG.out 0).trans rfl
      have cg1 := (blk_cell HG.out 1).trans rfl
      have cg2 := (blk_cell HG.out 2).trans rfl
      have cg3 := (blk_cell HG.out 3).trans rfl
      have cgl := (Array.getElem?_eq_some_iff.1 HG.out).1
      go_wp2_with fail
      clear cg0 cg1 cg2 cg3 cgl
      refine (markWord0_any 0 0 _).mono ?_
      rintro e w11 ⟨rfl, hb11⟩
      have HB' := hideIt (Bstep HB.out hb11)
      have HD' := hideIt (blk_below HD.out hb11)
      have HW' := hideIt (blk_below HW.out hb11)
      have HG' := hideIt (blk_below HG.out hb11)
      clear HB HD HW HG
      have HB := HB'
      have HD := HD'
      have HW := HW'
      have HG := HG'
      clear HB' HD' HW' HG'
      clear hb11
      have cg0 := (blk_cell HG.out 0).trans rfl
      have cg1 := (blk_cell HG.out 1).trans rfl
      have cg2 := (blk_cell HG.out 2).trans rfl
      have cg3 := (blk_cell HG.out 3).trans rfl
      have cgl := (Array.getElem?_eq_some_iff.1 HG.out).1
      go_wp2_with fail
      clear cg0 cg1 cg2 cg3 cgl
      refine (heldWord0_any 0 0 _).mono ?_
      rintro e w12 ⟨rfl, hb12⟩
      have HB' := hideIt (Bstep HB.out hb12)
      have HD' := hideIt (blk_below HD.out hb12)
      have HW' := hideIt (blk_below HW.out hb12)
      have HG' := hideIt (blk_below HG.out hb12)
      clear HB HD HW HG
      have HB := HB'
      have HD := HD'
      have HW := HW'
      have HG := HG'
      clear HB' HD' HW' HG'
      clear hb12
      have cd0 := (blk_cell HD.out 0).trans rfl
      have cd1 := (blk_cell HD.out 1).trans rfl
      have cd2 := (blk_cell HD.out 2).trans rfl
      have cd3 := (blk_cell HD.out 3).trans rfl
      have cdl := (Array.getElem?_eq_some_iff.1 HD.out).1
      go_wp2_with fail
      clear cd0 cd1 cd2 cd3 cdl
      refine (toDesk_any r l ws s p q t cap cap2 cap3 _ (HA.out.below HB.out) (by omega) hcap (HS.out.below HB.out) (by omega) hcap2 (HI.out.below HB.out) (by omega) hcap3).mono ?_
      rintro e w13 ⟨⟨k1, k2, k3, rfl, hA13, hB13, hC13⟩, hb13⟩
      have HB' := hideIt (Bstep HB.out hb13)
      have HD' := hideIt (blk_below HD.out hb13)
      have HW' := hideIt (blk_below HW.out hb13)
      have HG' := hideIt (blk_below HG.out hb13)
      clear HB HD HW HG
      have HB := HB'
      have HD := HD'
      have HW := HW'
      have HG := HG'
      clear HB' HD' HW' HG'
      clear hb13
      have H1 := hideIt hA13
      have H2 := hideIt hB13
      have H3 := hideIt hC13
      clear hA13 hB13 hC13
      go_wp2_with fail
      refine (implPush_any r l ws s k1 l.length k2 ws.length k3 s.length x _ H1.out (by omega) (Nat.le_refl _) H2.out (by omega) (Nat.le_refl _) H3.out (by omega) (Nat.le_refl _) (errB HB.out h0 he) (posB HB.out h0)).mono ?_
      rintro e w14 ⟨(⟨hf, _⟩ | ⟨_, rfl⟩), hb14⟩
      · rw [HZ.out] at hf; cases hf
      have HB' := hideIt (Bstep HB.out hb14)
      have HD' := hideIt (blk_below HD.out hb14)
      have HW' := hideIt (blk_below HW.out hb14)
      have HG' := hideIt (blk_below HG.out hb14)
      clear HB HD HW HG
      have HB := HB'
      have HD := HD'
      have HW := HW'
      have HG := HG'
      clear HB' HD' HW' HG'
      clear hb14 H1 H2 H3
      have cp0 := (blk_cell HW.out 0).trans rfl
      have cp1 := (blk_cell HW.out 1).trans rfl
      have cp2 := (blk_cell HW.out 2).trans rfl
      have cp3 := (blk_cell HW.out 3).trans rfl
      have cpl := (Array.getElem?_eq_some_iff.1 HW.out).1
      go_wp2_with fail
      clear cp0 cp1 cp2 cp3 cpl
      have hba : Below w14.heap.size w14 (w14.alloc (.cells #[.int .i64 0, .int .i64 0, .slice none 0 0, .slice none 0 0] 46)) := (Below.refl _ _).alloc (Nat.le_refl _) _
      have HB' := hideIt (Bstep HB.out hba)
      have HD' := hideIt (blk_below HD.out hba)
      have HW' := hideIt (blk_below HW.out hba)
      have HG' := hideIt (blk_below HG.out hba)
      clear HB HD HW HG
      have HB := HB'
      have HD := HD'
      have HW := HW'
      have HG := HG'
      clear HB' HD' HW' HG'
      clear hba
      refine (eqWord_any 0 0 _ _ _ _ _ _ _ (.inl ⟨rfl, rfl⟩)).mono ?_
      rintro e w15 ⟨rfl, hb15⟩
      have HB' := hideIt (Bstep HB.out hb15)
      have HD' := hideIt (blk_below HD.out hb15)
      have HW' := hideIt (blk_below HW.out hb15)
      have HG' := hideIt (blk_below HG.out hb15)
      clear HB HD HW HG
      have HB := HB'
      have HD := HD'
      have HW := HW'
      have HG := HG'
      clear HB' HD' HW' HG'
      clear hb15
      have cg0 := (blk_cell HG.out 0).trans rfl
      have cg1 := (blk_cell HG.out 1).trans rfl
      have cg2 := (blk_cell HG.out 2).trans rfl
      have cg3 := (blk_cell HG.out 3).trans rfl
      have cgl := (Array.getElem?_eq_some_iff.1 HG.out).1
      go_wp2_with fail
      clear cg0 cg1 cg2 cg3 cgl
      refine (heldWord0_any 0 0 _).mono ?_
      rintro e w16 ⟨rfl, hb16⟩
      have HB' := hideIt (Bstep HB.out hb16)
      have HD' := hideIt (blk_below HD.out hb16)
      have HW' := hideIt (blk_below HW.out hb16)
      have HG' := hideIt (blk_below HG.out hb16)
      clear HB HD HW HG
      have HB := HB'
      have HD := HD'
      have HW := HW'
      have HG := HG'
      clear HB' HD' HW' HG'
      clear hb16
      go_wp2
      go_ret
      exact ⟨rfl, HB.out⟩
    · go_enter Tryd.func12, Tryd.ntmps12
      go_wp2_with fail
      refine (szDesk_ok r p q t l.length cap ws.length cap2 s.length cap3 _ hn).mono ?_
      rintro e w1 ⟨⟨sz, rfl⟩, hb1⟩
      have HB' := hideIt (Bstep HB.out hb1)
      have HD' := hideIt (blk_below HD.out hb1)
      clear HB HD
      have HB := HB'
      have HD := HD'
      clear HB' HD'
      clear hb1
      have hs0 : ¬ ((sz : Int) < 0) := by omega
      have cd0 := (blk_cell HD.out 0).trans rfl
      have cd1 := (blk_cell HD.out 1).trans rfl
      have cd2 := (blk_cell HD.out 2).trans rfl
      have cd3 := (blk_cell HD.out 3).trans rfl
      have cdl := (Array.getElem?_eq_some_iff.1 HD.out).1
      go_wp2_with fail
      refine (toDesk_any r l ws s p q t cap cap2 cap3 _ (HA.out.below HB.out) (by omega) hcap (HS.out.below HB.out) (by omega) hcap2 (HI.out.below HB.out) (by omega) hcap3).mono ?_
      rintro e w2 ⟨⟨g1, g2, g3, rfl, hA2, hB2, hC2⟩, hb2⟩
      clear cd0 cd1 cd2 cd3 cdl
      have HB' := hideIt (Bstep HB.out hb2)
      have HD' := hideIt (blk_below HD.out hb2)
      clear HB HD
      have HB := HB'
      have HD := HD'
      clear HB' HD'
      clear hb2
      have H1 := hideIt hA2
      have H2 := hideIt hB2
      have H3 := hideIt hC2
      clear hA2 hB2 hC2
      go_wp2_with fail
      refine (specPush_any r l ws s g1 l.length g2 ws.length g3 s.length _ H1.out (by omega) (Nat.le_refl _) H2.out (by omega) (Nat.le_refl _) H3.out (by omega) (Nat.le_refl _)).mono ?_
      rintro e w3 ⟨(⟨_, KW, vw, rfl, hI3⟩ | ⟨hf, _⟩), hb3⟩
      rotate_left
      · rw [HZ.out] at hf; cases hf
      obtain ⟨vwp, vwc, rfl⟩ := own_lenW hI3
      have HB' := hideIt (Bstep HB.out hb3)
      have HD' := hideIt (blk_below HD.out hb3)
      clear HB HD
      have HB := HB'
      have HD := HD'
      clear HB' HD'
      clear hb3 H1 H2 H3
      have HRW := hideIt hI3
      clear hI3
      have cd0 := (blk_cell HD.out 0).trans rfl
      have cd1 := (blk_cell HD.out 1).trans rfl
      have cd2 := (blk_cell HD.out 2).trans rfl
      have cd3 := (blk_cell HD.out 3).trans rfl
      have cdl := (Array.getElem?_eq_some_iff.1 HD.out).1
      go_wp2_with fail
      clear cd0 cd1 cd2 cd3 cdl
      have hba : Below w3.heap.size w3 (w3.alloc (.cells #[.int .i64 3, .int .i64 r, .slice (some ⟨KW, 0, none⟩) 0 0, .slice vwp (ansP l s 5).length vwc] 46)) := (Below.refl _ _).alloc (Nat.le_refl _) _
      have HB' := hideIt (Bstep HB.out hba)
      have HD' := hideIt (blk_below HD.out hba)
      have HRW' := hideIt (rowBelowO HRW.out hba)
      clear HB HD HRW
      have HB := HB'
      have HD := HD'
      have HRW := HRW'
      clear HB' HD' HRW'
      have HW : Hid ((w3.alloc (.cells #[.int .i64 3, .int .i64 r, .slice (some ⟨KW, 0, none⟩) 0 0, .slice vwp (ansP l s 5).length vwc] 46)).heap[w3.heap.size]? = some (.cells #[.int .i64 3, .int .i64 r, .slice (some ⟨KW, 0, none⟩) 0 0, .slice vwp (ansP l s 5).length vwc] 46 (0, 0))) := World.alloc_heap_new _ _
      clear hba
      generalize w3.alloc (.cells #[.int .i64 3, .int .i64 r, .slice (some ⟨KW, 0, none⟩) 0 0, .slice vwp (ansP l s 5).length vwc] 46) = W3 at *
      generalize w3.heap.size = P0 at *
      refine (toDeskF_any r l ws s p q t cap cap2 cap3 _ (HA.out.below HB.out) (by omega) hcap (HS.out.below HB.out) (by omega) hcap2 (HI.out.below HB.out) (by omega) hcap3).mono ?_
      rintro e w4 ⟨⟨ga, gb, gc, rfl, hA4, hB4, hC4, hga, hgb, hgc, hab, hac, hbc, hk1, hk2, hk3⟩, hb4⟩
      have hP0 : P0 < W3.heap.size := (Array.getElem?_eq_some_iff.1 HW.out).1
      have hD0 : w.heap.size < W3.heap.size := (Array.getElem?_eq_some_iff.1 HD.out).1
      have hG0 : ∀ j, Value.ownBlock (.slice vwp (ansP l s 5).length vwc) = some j → j < W3.heap.size := fun j e => (HRW.out.lt j e).2
      have HB' := hideIt (Bstep HB.out hb4)
      have HD' := hideIt (blk_below HD.out hb4)
      have HRW' := hideIt (rowBelowO HRW.out hb4)
      have HW' := hideIt (blk_below HW.out hb4)
      clear HB HD HRW HW
      have HB := HB'
      have HD := HD'
      have HRW := HRW'
      have HW := HW'
      clear HB' HD' HRW' HW'
      clear hb4
      have HGA := hideIt hA4
      have HGB := hideIt hB4
      have HGC := hideIt hC4
      have HKA := hideIt hk1
      have HKB := hideIt hk2
      have HKC := hideIt hk3
      clear hA4 hB4 hC4 hk1 hk2 hk3
      have hga4 : ga < w4.heap.size := HGA.out.1
      have hgb4 : gb < w4.heap.size := HGB.out.1
      have hgc4 : gc < w4.heap.size := HGC.out.1
      go_wp2_with fail
      have hba : Below w4.heap.size w4 (w4.alloc (.cells #[.int .i64 r, .slice (some ⟨ga, 0, none⟩) l.length l.length, .slice (some ⟨gb, 0, none⟩) ws.length ws.length, .slice (some ⟨gc, 0, none⟩) s.length s.length] 41)) := (Below.refl _ _).alloc (Nat.le_refl _) _
      have HB' := hideIt (Bstep HB.out hba)
      have HD' := hideIt (blk_below HD.out hba)
      have HRW' := hideIt (rowBelowO HRW.out hba)
      have HW' := hideIt (blk_below HW.out hba)
      have HGA' := hideIt (HGA.out.below hba HGA.out.1)
      have HGB' := hideIt (HGB.out.below hba HGB.out.1)
      have HGC' := hideIt (HGC.out.below hba HGC.out.1)
      have HKA' := hideIt (HKA.out.keep hba)
      have HKB' := hideIt (HKB.out.keep hba)
      have HKC' := hideIt (HKC.out.keep hba)
      clear HB HD HRW HW HGA HGB HGC HKA HKB HKC
      have HB := HB'
      have HD := HD'
      have HRW := HRW'
      have HW := HW'
      have HGA := HGA'
      have HGB := HGB'
      have HGC := HGC'
      have HKA := HKA'
      have HKB := HKB'
      have HKC := HKC'
      clear HB' HD' HRW' HW' HGA' HGB' HGC' HKA' HKB' HKC'
      have HX : Hid ((w4.alloc (.cells #[.int .i64 r, .slice (some ⟨ga, 0, none⟩) l.length l.length, .slice (some ⟨gb, 0, none⟩) ws.length ws.length, .slice (some ⟨gc, 0, none⟩) s.length s.length] 41)).heap[w4.heap.size]? = some (.cells #[.int .i64 r, .slice (some ⟨ga, 0, none⟩) l.length l.length, .slice (some ⟨gb, 0, none⟩) ws.length ws.length, .slice (some ⟨gc, 0, none⟩) s.length s.length] 41 (0, 0))) := World.alloc_heap_new _ _
      clear hba
      have hX4 : w4.heap.size < (w4.alloc (.cells #[.int .i64 r, .slice (some ⟨ga, 0, none⟩) l.length l.length, .slice (some ⟨gb, 0, none⟩) ws.length ws.length, .slice (some ⟨gc, 0, none⟩) s.length s.length] 41)).heap.size := (Array.getElem?_eq_some_iff.1 HX.out).1
      generalize w4.alloc (.cells #[.int .i64 r, .slice (some ⟨ga, 0, none⟩) l.length l.length, .slice (some ⟨gb, 0, none⟩) ws.length ws.length, .slice (some ⟨gc, 0, none⟩) s.length s.length] 41) = W4 at *
      generalize w4.heap.size = X at *
      refine (implPush_any r l ws s ga l.length gb ws.length gc s.length x _ HGA.out (by omega) (Nat.le_refl _) HGB.out (by omega) (Nat.le_refl _) HGC.out (by omega) (Nat.le_refl _) (errB HB.out h0 he) (posB HB.out h0)).mono ?_
      rintro e w5 ⟨(⟨_, vg, rfl, hI5⟩ | ⟨hf, _⟩), hb5⟩
      rotate_left
      · rw [HZ.out] at hf; cases hf
      obtain ⟨vgp, vgc, rfl⟩ := own_lenW hI5
      have HB' := hideIt (Bstep HB.out hb5)
      have HD' := hideIt (blk_below HD.out hb5)
      have HRW' := hideIt (rowBelowO HRW.out hb5)
      have HW' := hideIt (blk_below HW.out hb5)
      have HGA' := hideIt (HGA.out.below hb5 HGA.out.1)
      have HGB' := hideIt (HGB.out.below hb5 HGB.out.1)
      have HGC' := hideIt (HGC.out.below hb5 HGC.out.1)
      have HKA' := hideIt (HKA.out.keep hb5)
      have HKB' := hideIt (HKB.out.keep hb5)
      have HKC' := hideIt (HKC.out.keep hb5)
      have HX' := hideIt (blk_below HX.out hb5)
      clear HB HD HRW HW HGA HGB HGC HKA HKB HKC HX
      have HB := HB'
      have HD := HD'
      have HRW := HRW'
      have HW := HW'
      have HGA := HGA'
      have HGB := HGB'
      have HGC := HGC'
      have HKA := HKA'
      have HKB := HKB'
      have HKC := HKC'
      have HX := HX'
      clear HB' HD' HRW' HW' HGA' HGB' HGC' HKA' HKB' HKC' HX'
      clear hb5
      have hXw5 : X < w5.heap.size := (Array.getElem?_eq_some_iff.1 HX.out).1
      have HRG := hideIt hI5
      clear hI5
      have hG25 : ∀ j, Value.ownBlock (.slice vgp (ansP l s 5).length vgc) = some j → W4.heap.size ≤ j ∧ j < w5.heap.size := fun j e => HRG.out.lt j e
      have cp0 := (blk_cell HW.out 0).trans rfl
      have cp1 := (blk_cell HW.out 1).trans rfl
      have cp2 := (blk_cell HW.out 2).trans rfl
      have cp3 := (blk_cell HW.out 3).trans rfl
      have cpl := (Array.getElem?_eq_some_iff.1 HW.out).1
      go_wp2_with fail
      clear cp0 cp1 cp2 cp3 cpl
      have hba : Below w5.heap.size w5 (w5.alloc (.cells #[.int .i64 3, .int .i64 r, .slice none 0 0, .slice vgp (ansP l s 5).length vgc] 46)) := (Below.refl _ _).alloc (Nat.le_refl _) _
      have HB' := hideIt (Bstep HB.out hba)
      have HD' := hideIt (blk_below HD.out hba)
      have HRW' := hideIt (rowBelowO HRW.out hba)
      have HW' := hideIt (blk_below HW.out hba)
      have HGA' := hideIt (HGA.out.below hba HGA.out.1)
      have HGB' := hideIt (HGB.out.below hba HGB.out.1)
      have HGC' := hideIt (HGC.out.below hba HGC.out.1)
      have HKA' := hideIt (HKA.out.keep hba)
      have HKB' := hideIt (HKB.out.keep hba)
      have HKC' := hideIt (HKC.out.keep hba)
      have HX' := hideIt (blk_below HX.out hba)
      have HRG' := hideIt (rowBelowO HRG.out hba)
      clear HB HD HRW HW HGA HGB HGC HKA HKB HKC HX HRG
      have HB := HB'
      have HD := HD'
      have HRW := HRW'
      have HW := HW'
      have HGA := HGA'
      have HGB := HGB'
      have HGC := HGC'
      have HKA := HKA'
      have HKB := HKB'
      have HKC := HKC'
      have HX := HX'
      have HRG := HRG'
      clear HB' HD' HRW' HW' HGA' HGB' HGC' HKA' HKB' HKC' HX' HRG'
      have HG : Hid ((w5.alloc (.cells #[.int .i64 3, .int .i64 r, .slice none 0 0, .slice vgp (ansP l s 5).length vgc] 46)).heap[w5.heap.size]? = some (.cells #[.int .i64 3, .int .i64 r, .slice none 0 0, .slice vgp (ansP l s 5).length vgc] 46 (0, 0))) := World.alloc_heap_new _ _
      have hP1 : X < w5.heap.size := hXw5
      clear hba
      generalize w5.alloc (.cells #[.int .i64 3, .int .i64 r, .slice none 0 0, .slice vgp (ansP l s 5).length vgc] 46) = W5 at *
      generalize w5.heap.size = P1 at *
      refine (eqWordP_any 3 r (ansP l s 5) _ _ _ _ _ _ _ HRG.out HRW.out hNN).mono ?_
      rintro e w6 ⟨rfl, hb6⟩
      have HB' := hideIt (Bstep HB.out hb6)
      have HD' := hideIt (blk_below HD.out hb6)
      have HRW' := hideIt (rowBelowO HRW.out hb6)
      have HW' := hideIt (blk_below HW.out hb6)
      have HGA' := hideIt (HGA.out.below hb6 HGA.out.1)
      have HGB' := hideIt (HGB.out.below hb6 HGB.out.1)
      have HGC' := hideIt (HGC.out.below hb6 HGC.out.1)
      have HKA' := hideIt (HKA.out.keep hb6)
      have HKB' := hideIt (HKB.out.keep hb6)
      have HKC' := hideIt (HKC.out.keep hb6)
      have HX' := hideIt (blk_below HX.out hb6)
      have HRG' := hideIt (rowBelowO HRG.out hb6)
      have HG' := hideIt (blk_below HG.out hb6)
      clear HB HD HRW HW HGA HGB HGC HKA HKB HKC HX HRG HG
      have HB := HB'
      have HD := HD'
      have HRW := HRW'
      have HW := HW'
      have HGA := HGA'
      have HGB := HGB'
      have HGC := HGC'
      have HKA := HKA'
      have HKB := HKB'
      have HKC := HKC'
      have HX := HX'
      have HRG := HRG'
      have HG := HG'
      clear HB' HD' HRW' HW' HGA' HGB' HGC' HKA' HKB' HKC' HX' HRG' HG'
      clear hb6
      have cx0 := (blk_cell HX.out 0).trans rfl
      have cx1 := (blk_cell HX.out 1).trans rfl
      have cx2 := (blk_cell HX.out 2).trans rfl
      have cx3 := (blk_cell HX.out 3).trans rfl
      have cxl := (Array.getElem?_eq_some_iff.1 HX.out).1
      have cd0 := (blk_cell HD.out 0).trans rfl
      have cd1 := (blk_cell HD.out 1).trans rfl
      have cd2 := (blk_cell HD.out 2).trans rfl
      have cd3 := (blk_cell HD.out 3).trans rfl
      have cdl := (Array.getElem?_eq_some_iff.1 HD.out).1
      go_wp2
      have hdr : Below w6.heap.size w6 (World.drew w6) := (Below.refl _ _).drew
      have HB' := hideIt (Bstep HB.out hdr)
      have HD' := hideIt (blk_below HD.out hdr)
      have HRW' := hideIt (rowBelowO HRW.out hdr)
      have HW' := hideIt (blk_below HW.out hdr)
      have HGA' := hideIt (HGA.out.below hdr HGA.out.1)
      have HGB' := hideIt (HGB.out.below hdr HGB.out.1)
      have HGC' := hideIt (HGC.out.below hdr HGC.out.1)
      have HKA' := hideIt (HKA.out.keep hdr)
      have HKB' := hideIt (HKB.out.keep hdr)
      have HKC' := hideIt (HKC.out.keep hdr)
      have HX' := hideIt (blk_below HX.out hdr)
      have HRG' := hideIt (rowBelowO HRG.out hdr)
      have HG' := hideIt (blk_below HG.out hdr)
      clear HB HD HRW HW HGA HGB HGC HKA HKB HKC HX HRG HG
      have HB := HB'
      have HD := HD'
      have HRW := HRW'
      have HW := HW'
      have HGA := HGA'
      have HGB := HGB'
      have HGC := HGC'
      have HKA := HKA'
      have HKB := HKB'
      have HKC := HKC'
      have HX := HX'
      have HRG := HRG'
      have HG := HG'
      clear HB' HD' HRW' HW' HGA' HGB' HGC' HKA' HKB' HKC' HX' HRG' HG'
      clear hdr
      go_region_held3 (fun w' => w'.cell? ⟨X, 0, none⟩ = some (.int .i64 r) ∧ w'.cell? ⟨X, 1, none⟩ = some (.slice (some ⟨ga, 0, none⟩) l.length l.length) ∧ w'.cell? ⟨X, 2, none⟩ = some (.slice (some ⟨gb, 0, none⟩) ws.length ws.length) ∧ w'.cell? ⟨X, 3, none⟩ = some (.slice (some ⟨gc, 0, none⟩) s.length s.length) ∧ w'.cell? ⟨w.heap.size, 0, none⟩ = some (.int .i64 r) ∧ w'.cell? ⟨w.heap.size, 1, none⟩ = some (.slice p l.length cap) ∧ w'.cell? ⟨w.heap.size, 2, none⟩ = some (.slice q ws.length cap2) ∧ w'.cell? ⟨w.heap.size, 3, none⟩ = some (.slice t s.length cap3))
        (first | exact ⟨cx0, cx1, cx2, cx3, cd0, cd1, cd2, cd3⟩ | exact ⟨y0, y1, y2, y3, z0, z1, z2, z3⟩)
        (first
        | (go_at_call 22; refine (toDesk_any r l ws s p q t cap cap2 cap3 _ (HA.out.below HB.out) (by omega) hcap (HS.out.below HB.out) (by omega) hcap2 (HI.out.below HB.out) (by omega) hcap3).mono ?_; rintro e w7 ⟨⟨ge, gf, gi, rfl, hge, hgf, hgi⟩, hb7⟩; have HGE := hideIt hge; have HGF := hideIt hgf; have HGI := hideIt hgi; have HBn := hideIt (Bstep HB.out hb7); have HD := hideIt (blk_below HD.out hb7); have HRW := hideIt (rowBelowO HRW.out hb7); have HW := hideIt (blk_below HW.out hb7); have HGA := hideIt (HGA.out.below hb7 HGA.out.1); have HGB := hideIt (HGB.out.below hb7 HGB.out.1); have HGC := hideIt (HGC.out.below hb7 HGC.out.1); have HKA := hideIt (HKA.out.keep hb7); have HKB := hideIt (HKB.out.keep hb7); have HKC := hideIt (HKC.out.keep hb7); have HX := hideIt (blk_below HX.out hb7); have HRG := hideIt (rowBelowO HRG.out hb7); have HG := hideIt (blk_below HG.out hb7); have HB := HBn; clear HBn; have y0 := (blk_cell HX.out 0).trans rfl; have y1 := (blk_cell HX.out 1).trans rfl; have y2 := (blk_cell HX.out 2).trans rfl; have y3 := (blk_cell HX.out 3).trans rfl; have z0 := (blk_cell HD.out 0).trans rfl; have z1 := (blk_cell HD.out 1).trans rfl; have z2 := (blk_cell HD.out 2).trans rfl; have z3 := (blk_cell HD.out 3).trans rfl; dsimp only)
        | (go_at_call 24; refine (eqDesk_same r l ws s _ _ _ _ _ _ _ HGA.out HGB.out HGC.out HGE.out HGF.out HGI.out (by omega) (by omega) (by omega)).mono ?_; rintro e w8 ⟨rfl, hb8⟩; have HBn := hideIt (Bstep HB.out hb8); have HD := hideIt (blk_below HD.out hb8); have HRW := hideIt (rowBelowO HRW.out hb8); have HW := hideIt (blk_below HW.out hb8); have HGA := hideIt (HGA.out.below hb8 HGA.out.1); have HGB := hideIt (HGB.out.below hb8 HGB.out.1); have HGC := hideIt (HGC.out.below hb8 HGC.out.1); have HKA := hideIt (HKA.out.keep hb8); have HKB := hideIt (HKB.out.keep hb8); have HKC := hideIt (HKC.out.keep hb8); have HX := hideIt (blk_below HX.out hb8); have HRG := hideIt (rowBelowO HRG.out hb8); have HG := hideIt (blk_below HG.out hb8); have HB := HBn; clear HBn; have y0 := (blk_cell HX.out 0).trans rfl; have y1 := (blk_cell HX.out 1).trans rfl; have y2 := (blk_cell HX.out 2).trans rfl; have y3 := (blk_cell HX.out 3).trans rfl; have z0 := (blk_cell HD.out 0).trans rfl; have z1 := (blk_cell HD.out 1).trans rfl; have z2 := (blk_cell HD.out 2).trans rfl; have z3 := (blk_cell HD.out 3).trans rfl; dsimp only))
      rename_i hHH
      clear hHH y0 y1 y2 y3 z0 z1 z2 z3
      try clear HGE HGF HGI
      have cx0 := (blk_cell HX.out 0).trans rfl
      have cx1 := (blk_cell HX.out 1).trans rfl
      have cx2 := (blk_cell HX.out 2).trans rfl
      have cx3 := (blk_cell HX.out 3).trans rfl
      have cxl := (Array.getElem?_eq_some_iff.1 HX.out).1
      go_wp2_with fail
      clear cx0 cx1 cx2 cx3 cxl
      have hX1 := (Array.getElem?_eq_some_iff.1 HX.out).1
      have hG1 := (Array.getElem?_eq_some_iff.1 HG.out).1
      refine (markDeskF_any r ga gb gc l.length ws.length s.length _ HKA.out HKB.out HKC.out (by omega) (by omega) (by omega) hn).mono ?_
      rintro e w9 ⟨⟨sm, rfl⟩, ht⟩
      have hsm : ¬ ((sm : Int) < 0) := by omega
      have HD9 := hideIt (ht.at HD.out (by omega) (by omega) (by omega))
      have HW9 := hideIt (ht.at HW.out (by omega) (by omega) (by omega))
      have HX9 := hideIt (ht.at HX.out (by omega) (by omega) (by omega))
      have HG9 := hideIt (ht.at HG.out (by omega) (by omega) (by omega))
      have HRW9 := hideIt (row_turned HRW.out ht (fun j e => by have := hG0 j e; omega))
      have HRG9 := hideIt (row_turned HRG.out ht (fun j e => by have := hG25 j e; omega))
      have HB9 := hideIt (HB.out.trans (ht.below w.heap.size (by omega) (by omega) (by omega) HB.out.size))
      clear ht HD HW HX HG HB HGA HGB HGC HKA HKB HKC HRW HRG
      have HD := HD9
      have HW := HW9
      have HG := HG9
      have HB := HB9
      have HRW := HRW9
      have HRG := HRG9
      clear HD9 HW9 HX9 HG9 HB9 HRW9 HRG9
      have cp0 := (blk_cell HW.out 0).trans rfl
      have cp1 := (blk_cell HW.out 1).trans rfl
      have cp2 := (blk_cell HW.out 2).trans rfl
      have cp3 := (blk_cell HW.out 3).trans rfl
      have cpl := (Array.getElem?_eq_some_iff.1 HW.out).1
      have cg0 := (blk_cell HG.out 0).trans rfl
      have cg1 := (blk_cell HG.out 1).trans rfl
      have cg2 := (blk_cell HG.out 2).trans rfl
      have cg3 := (blk_cell HG.out 3).trans rfl
      have cgl := (Array.getElem?_eq_some_iff.1 HG.out).1
      go_wp2_with fail
      clear cp0 cp1 cp2 cp3 cpl cg0 cg1 cg2 cg3 cgl
      refine (eqWordP_any 3 r (ansP l s 5) _ _ _ _ _ _ _ HRG.out HRW.out hNN).mono ?_
      rintro e w10 ⟨rfl, hb10⟩
      have HB' := hideIt (Bstep HB.out hb10)
      have HD' := hideIt (blk_below HD.out hb10)
      have HW' := hideIt (blk_below HW.out hb10)
      have HG' := hideIt (blk_below HG.out hb10)
      have HRW' := hideIt (rowBelowO HRW.out hb10)
      have HRG' := hideIt (rowBelowO HRG.out hb10)
      clear HB HD HW HG HRW HRG
      have HB := HB'
      have HD := HD'
      have HW := HW'
      have HG := HG'
      have HRW := HRW'
      have HRG := HRG'
      clear HB' HD' HW' HG' HRW' HRG'
      clear hb10
      have cg0 := (blk_cell HG.out 0).trans rfl
      have cg1 := (blk_cell HG.out 1).trans rfl
      have cg2 := (blk_cell HG.out 2).trans rfl
      have cg3 := (blk_cell HG.out 3).trans rfl
      have cgl := (Array.getElem?_eq_some_iff.1 HG.out).1
      go_wp2_with fail
      clear cg0 cg1 cg2 cg3 cgl
      refine (markWordP_any 3 r (ansP l s 5).length _ _ _ _ _ HRG.out hNN).mono ?_
      rintro e w11 ⟨rfl, h3, ht⟩
      have hG1 := (Array.getElem?_eq_some_iff.1 HG.out).1
      have HD9 := hideIt (ht.at HD.out (fun j e => by have := hG25 j e; omega))
      have HW9 := hideIt (ht.at HW.out (fun j e => by have := hG25 j e; omega))
      have HG9 := hideIt (ht.at HG.out (fun j e => by have := hG25 j e; omega))
      have HRW9 := hideIt (ht.row HRW.out (fun i j e1 e2 => by have := hG0 i e1; have := hG25 j e2; omega))
      have HB9 := hideIt (HB.out.trans (ht.below w.heap.size HB.out.size (fun j e => by have := hG25 j e; omega)))
      have HRG9 := hideIt h3
      clear ht h3 HD HW HG HRW HRG HB
      have HD := HD9
      have HW := HW9
      have HG := HG9
      have HRW := HRW9
      have HRG := HRG9
      have HB := HB9
      clear HD9 HW9 HG9 HRW9 HRG9 HB9
      have cg0 := (blk_cell HG.out 0).trans rfl
      have cg1 := (blk_cell HG.out 1).trans rfl
      have cg2 := (blk_cell HG.out 2).trans rfl
      have cg3 := (blk_cell HG.out 3).trans rfl
      have cgl := (Array.getElem?_eq_some_iff.1 HG.out).1
      go_wp2_with fail
      clear cg0 cg1 cg2 cg3 cgl
      refine (heldWordP_any 3 r (ansP l s 5).length _ _ _ _ HRG.out hNN).mono ?_
      rintro e w12 ⟨rfl, hb12⟩
      have HB' := hideIt (Bstep HB.out hb12)
      have HD' := hideIt (blk_below HD.out hb12)
      have HW' := hideIt (blk_below HW.out hb12)
      have HG' := hideIt (blk_below HG.out hb12)
      have HRW' := hideIt (rowBelowO HRW.out hb12)
      have HRG' := hideIt (rowBelowO HRG.out hb12)
      clear HB HD HW HG HRW HRG
      have HB := HB'
      have HD := HD'
      have HW := HW'
      have HG := HG'
      have HRW := HRW'
      have HRG := HRG'
      clear HB' HD' HW' HG' HRW' HRG'
      clear hb12
      have cd0 := (blk_cell HD.out 0).trans rfl
      have cd1 := (blk_cell HD.out 1).trans rfl
      have cd2 := (blk_cell HD.out 2).trans rfl
      have cd3 := (blk_cell HD.out 3).trans rfl
      have cdl := (Array.getElem?_eq_some_iff.1 HD.out).1
      go_wp2_with fail
      clear cd0 cd1 cd2 cd3 cdl
      refine (toDesk_any r l ws s p q t cap cap2 cap3 _ (HA.out.below HB.out) (by omega) hcap (HS.out.below HB.out) (by omega) hcap2 (HI.out.below HB.out) (by omega) hcap3).mono ?_
      rintro e w13 ⟨⟨k1, k2, k3, rfl, hA13, hB13, hC13⟩, hb13⟩
      have HB' := hideIt (Bstep HB.out hb13)
      have HD' := hideIt (blk_below HD.out hb13)
      have HW' := hideIt (blk_below HW.out hb13)
      have HG' := hideIt (blk_below HG.out hb13)
      have HRW' := hideIt (rowBelowO HRW.out hb13)
      have HRG' := hideIt (rowBelowO HRG.out hb13)
      clear HB HD HW HG HRW HRG
      have HB := HB'
      have HD := HD'
      have HW := HW'
      have HG := HG'
      have HRW := HRW'
      have HRG := HRG'
      clear HB' HD' HW' HG' HRW' HRG'
      clear hb13
      have H1 := hideIt hA13
      have H2 := hideIt hB13
      have H3 := hideIt hC13
      clear hA13 hB13 hC13
      go_wp2_with fail
      refine (implPush_any r l ws s k1 l.length k2 ws.length k3 s.length x _ H1.out (by omega) (Nat.le_refl _) H2.out (by omega) (Nat.le_refl _) H3.out (by omega) (Nat.le_refl _) (errB HB.out h0 he) (posB HB.out h0)).mono ?_
      rintro e w14 ⟨(⟨_, vh, rfl, hI14⟩ | ⟨hf, _⟩), hb14⟩
      rotate_left
      · rw [HZ.out] at hf; cases hf
      obtain ⟨vhp, vhc, rfl⟩ := own_lenW hI14
      have HB' := hideIt (Bstep HB.out hb14)
      have HD' := hideIt (blk_below HD.out hb14)
      have HW' := hideIt (blk_below HW.out hb14)
      have HG' := hideIt (blk_below HG.out hb14)
      have HRW' := hideIt (rowBelowO HRW.out hb14)
      have HRG' := hideIt (rowBelowO HRG.out hb14)
      clear HB HD HW HG HRW HRG
      have HB := HB'
      have HD := HD'
      have HW := HW'
      have HG := HG'
      have HRW := HRW'
      have HRG := HRG'
      clear HB' HD' HW' HG' HRW' HRG'
      clear hb14 H1 H2 H3
      have HRH := hideIt hI14
      clear hI14
      have cp0 := (blk_cell HW.out 0).trans rfl
      have cp1 := (blk_cell HW.out 1).trans rfl
      have cp2 := (blk_cell HW.out 2).trans rfl
      have cp3 := (blk_cell HW.out 3).trans rfl
      have cpl := (Array.getElem?_eq_some_iff.1 HW.out).1
      go_wp2_with fail
      clear cp0 cp1 cp2 cp3 cpl
      have hba : Below w14.heap.size w14 (w14.alloc (.cells #[.int .i64 3, .int .i64 r, .slice none 0 0, .slice vhp (ansP l s 5).length vhc] 46)) := (Below.refl _ _).alloc (Nat.le_refl _) _
      have HB' := hideIt (Bstep HB.out hba)
      have HD' := hideIt (blk_below HD.out hba)
      have HW' := hideIt (blk_below HW.out hba)
      have HG' := hideIt (blk_below HG.out hba)
      have HRW' := hideIt (rowBelowO HRW.out hba)
      have HRG' := hideIt (rowBelowO HRG.out hba)
      have HRH' := hideIt (rowBelowO HRH.out hba)
      clear HB HD HW HG HRW HRG HRH
      have HB := HB'
      have HD := HD'
      have HW := HW'
      have HG := HG'
      have HRW := HRW'
      have HRG := HRG'
      have HRH := HRH'
      clear HB' HD' HW' HG' HRW' HRG' HRH'
      clear hba
      refine (eqWordP_any 3 r (ansP l s 5) _ _ _ _ _ _ _ HRH.out HRW.out hNN).mono ?_
      rintro e w15 ⟨rfl, hb15⟩
      have HB' := hideIt (Bstep HB.out hb15)
      have HD' := hideIt (blk_below HD.out hb15)
      have HW' := hideIt (blk_below HW.out hb15)
      have HG' := hideIt (blk_below HG.out hb15)
      have HRW' := hideIt (rowBelowO HRW.out hb15)
      have HRG' := hideIt (rowBelowO HRG.out hb15)
      have HRH' := hideIt (rowBelowO HRH.out hb15)
      clear HB HD HW HG HRW HRG HRH
      have HB := HB'
      have HD := HD'
      have HW := HW'
      have HG := HG'
      have HRW := HRW'
      have HRG := HRG'
      have HRH := HRH'
      clear HB' HD' HW' HG' HRW' HRG' HRH'
      clear hb15
      have cg0 := (blk_cell HG.out 0).trans rfl
      have cg1 := (blk_cell HG.out 1).trans rfl
      have cg2 := (blk_cell HG.out 2).trans rfl
      have cg3 := (blk_cell HG.out 3).trans rfl
      have cgl := (Array.getElem?_eq_some_iff.1 HG.out).1
      go_wp2_with fail
      clear cg0 cg1 cg2 cg3 cgl
      refine (heldWordP_any 3 r (ansP l s 5).length _ _ _ _ HRG.out hNN).mono ?_
      rintro e w16 ⟨rfl, hb16⟩
      have HB' := hideIt (Bstep HB.out hb16)
      have HD' := hideIt (blk_below HD.out hb16)
      have HW' := hideIt (blk_below HW.out hb16)
      have HG' := hideIt (blk_below HG.out hb16)
      have HRW' := hideIt (rowBelowO HRW.out hb16)
      have HRG' := hideIt (rowBelowO HRG.out hb16)
      have HRH' := hideIt (rowBelowO HRH.out hb16)
      clear HB HD HW HG HRW HRG HRH
      have HB := HB'
      have HD := HD'
      have HW := HW'
      have HG := HG'
      have HRW := HRW'
      have HRG := HRG'
      have HRH := HRH'
      clear HB' HD' HW' HG' HRW' HRG' HRH'
      clear hb16
      go_wp2
      go_ret
      exact ⟨rfl, HB.out⟩
  · go_enter Tryd.func12, Tryd.ntmps12
    go_wp2_with fail
    refine (szDesk_no r p q t l.length cap ws.length cap2 s.length cap3 _ hn (by omega) (by omega) (by omega)).mono ?_
    rintro e w1 ⟨rfl, hb1⟩
    have HB1 := hideIt (Bstep HB.out hb1)
    go_wp2
    go_ret
    exact ⟨rfl, HB1.out⟩
end Go.Proofs.YtficnhlkefpfnaaDoor

namespace Go.Proofs.YtficnhlkefpfnaaDoor
open Go.ChangeShapes Go.WideShapes Go.ChangeAt Go.RowKit Go.Joins Go.Deep

theorem cells_laws_Doc : Tryd.prog.cellsOf 32 = 2 := by kernel_rfl
theorem cells_laws_Ops : Tryd.prog.cellsOf 22 = 1 := by kernel_rfl
theorem trod_struct2 {P : Program} {H : Type} {enc : TypeId × Value → H} {w : World} {base : Nat} {spare : Nat → Bool} {held : Bool} {t : TypeId} {f0 f1 : Field} {fuel : Nat} {cs : List Value} {x : DataW H × List MemPlace} (ht : P.underlying t = some (.struct #[f0, f1])) (h : DataW.trod enc P w base spare held fuel t cs = some x) :
    ∃ y0 y1 n, cs.length = P.cellsOf t ∧ DataW.trod enc P w base spare held n f0.type ((cs.drop f0.offset).take (P.cellsOf f0.type)) = some y0 ∧ DataW.trod enc P w base spare held n f1.type ((cs.drop f1.offset).take (P.cellsOf f1.type)) = some y1 := by
  obtain ⟨xs, n, _, rfl, hl, hlen, hf⟩ := DataW.trod_struct ht h
  match xs, hlen with
  | [y0, y1], _ => exact ⟨y0, y1, n, hl, by simpa using hf 0 f0 rfl, by simpa using hf 1 f1 rfl⟩
set_option maxRecDepth 100000 in
theorem open_cell {H : Type} {enc : TypeId × Value → H} {w : World} {spare : Nat → Bool} {held : Bool} {fuel : Nat} {c : Value} {y : DataW H × List MemPlace}
    (hf : DataW.trod enc Tryd.prog w 0 spare held fuel 22 [c] = some y) :
    ∃ (q : Option Addr) (l : List Op7) (cap : Nat), c = .slice q l.length cap ∧ l.length ≤ cap ∧ cap ≤ maxLen ∧ ArgOps w q l := by
  obtain ⟨d, p⟩ := y
  rcases open_slice Tryd.underlying22 hf with ⟨h0, _⟩ | ⟨a, len, cap, m, n, D, Pl, h1, _, hl, hm, hmm, _, hel⟩
  · simp at h0
    exact ⟨none, [], 0, h0, Nat.le_refl _, Nat.zero_le _, .inl rfl⟩
  · simp at h1
    subst h1
    have hlm : len ≤ m := by rw [hmm]; split <;> omega
    by_cases hz : len = 0
    · subst hz
      exact ⟨some a, [], cap, rfl, Nat.zero_le _, hm, .inl rfl⟩
    obtain ⟨b, off, spot⟩ := a
    have hspot : spot = none := by
      obtain ⟨cs', hc, ht⟩ := hel 0 (by omega)
      rw [cells_laws_Op] at hc
      obtain ⟨xa, xb, xk, xc, xd, xs, xg, rfl⟩ := cells_of_op ht
      obtain ⟨_, _, hget⟩ := World.cells?_some hc
      have h0 := hget 0 (by omega)
      simpa [Addr.add] using World.cell?_spot h0
    subst hspot
    have hex : ∀ i, i < len → ∃ o : Op7, w.cell? ⟨b, off + i * 7, none⟩ = some (.int .i64 o.a) ∧ w.cell? ⟨b, off + i * 7 + 1, none⟩ = some (.int .i64 o.b) ∧ w.cell? ⟨b, off + i * 7 + 2, none⟩ = some (.int .i64 o.k) ∧ w.cell? ⟨b, off + i * 7 + 3, none⟩ = some (.int .i64 o.c) ∧ w.cell? ⟨b, off + i * 7 + 4, none⟩ = some (.int .i64 o.d) ∧ w.cell? ⟨b, off + i * 7 + 5, none⟩ = some (.int .i64 o.s) ∧ w.cell? ⟨b, off + i * 7 + 6, none⟩ = some (.int .i64 o.g) := by
      intro i hi
      obtain ⟨cs', hc, ht⟩ := hel i (by omega)
      rw [cells_laws_Op, add_none] at hc
      obtain ⟨xa, xb, xk, xc, xd, xs, xg, rfl⟩ := cells_of_op ht
      obtain ⟨_, _, hget⟩ := World.cells?_some hc
      simp only [add_none] at hget
      exact ⟨⟨xa, xb, xk, xc, xd, xs, xg⟩, hget 0 (by omega), hget 1 (by omega), hget 2 (by omega), hget 3 (by omega), hget 4 (by omega), hget 5 (by omega), hget 6 (by omega)⟩
    obtain ⟨f, hfe⟩ : ∃ f : Nat → Op7, ∀ i, i < len → w.cell? ⟨b, off + i * 7, none⟩ = some (.int .i64 (f i).a) ∧ w.cell? ⟨b, off + i * 7 + 1, none⟩ = some (.int .i64 (f i).b) ∧ w.cell? ⟨b, off + i * 7 + 2, none⟩ = some (.int .i64 (f i).k) ∧ w.cell? ⟨b, off + i * 7 + 3, none⟩ = some (.int .i64 (f i).c) ∧ w.cell? ⟨b, off + i * 7 + 4, none⟩ = some (.int .i64 (f i).d) ∧ w.cell? ⟨b, off + i * 7 + 5, none⟩ = some (.int .i64 (f i).s) ∧ w.cell? ⟨b, off + i * 7 + 6, none⟩ = some (.int .i64 (f i).g) :=
      ⟨fun i => if h : i < len then Classical.choose (hex i h) else ⟨0, 0, 0, 0, 0, 0, 0⟩, fun i hi => by
        simp only [dif_pos hi]
        exact Classical.choose_spec (hex i hi)⟩
    refine ⟨some ⟨b, off, none⟩, (List.range len).map f, cap, by simp, by simpa using hl, hm, .inr ⟨b, off, rfl, ?_, fun i o ho => ?_⟩⟩
    · exact World.block_lt_of_cell? w _ (hfe 0 (by omega)).1
    · have hi : i < len := by
        have := (List.getElem?_eq_some_iff.1 ho).1
        simpa using this
      obtain rfl : o = f i := by simpa [hi] using ho.symm
      exact hfe i hi
set_option maxRecDepth 100000 in
theorem open_doc {H : Type} {enc : TypeId × Value → H} {w : World} {r : Reach} {b0 : Nat} {spare : Nat → Bool} {held : Bool} {v : Value} {d : DataW H} {p : List MemPlace}
    (hv : Value.okWide Tryd.prog w r b0 32 v) (h : DataW.Trod enc Tryd.prog w 0 spare held 32 v d p) :
    ∃ (q : Option Addr) (l : List Op7) (cap : Nat) (q2 : Option Addr) (ws : List Op7) (cap2 : Nat), v = .agg #[.slice q l.length cap, .slice q2 ws.length cap2] ∧ (l.length ≤ cap ∧ cap ≤ maxLen ∧ ArgOps w q l) ∧ (ws.length ≤ cap2 ∧ cap2 ≤ maxLen ∧ ArgOps w q2 ws) := by
  obtain ⟨cs, rfl, _⟩ := okWide_struct Tryd.underlying32 hv
  obtain ⟨fuel, hf⟩ := h
  obtain ⟨y0, y1, n, hl, g0, g1⟩ := trod_struct2 Tryd.underlying32 hf
  obtain ⟨cl⟩ := cs
  simp only [Value.cells] at hl g0 g1
  rw [cells_laws_Doc] at hl
  match cl, hl with
  | [c0, c1], _ =>
    simp only [cells_laws_Ops] at g0 g1
    obtain ⟨q, l, cap, e0, h0⟩ := open_cell (y := y0) g0
    obtain ⟨q2, ws, cap2, e1, h1⟩ := open_cell (y := y1) g1
    exact ⟨q, l, cap, q2, ws, cap2, by rw [e0, e1], h0, h1⟩
end Go.Proofs.YtficnhlkefpfnaaDoor

namespace Go.Proofs.YtficnhlkefpfnaaDoor
open Go.ChangeShapes Go.WideShapes Go.ChangeAt Go.RowKit Go.Joins


set_option maxRecDepth 100000 in
theorem open_nums {H : Type} {enc : TypeId × Value → H} {w : World} {r : Reach} {b0 : Nat} {spare : Nat → Bool} {held : Bool} {v : Value} {d : DataW H} {p : List MemPlace}
    (hv : Value.okWide Tryd.prog w r b0 33 v) (h : DataW.Trod enc Tryd.prog w 0 spare held 33 v d p) :
    ∃ (q : Option Addr) (l : List Int) (cap : Nat), v = .slice q l.length cap ∧ l.length ≤ cap ∧ cap ≤ maxLen ∧ ArgInts w q l := by
  obtain ⟨q, len, cap, rfl⟩ := okWide_slice Tryd.underlying33 hv
  obtain ⟨fuel, hf⟩ := h
  rcases open_ints Tryd.underlying33 Tryd.underlying3 cells_int hf with ⟨hcs, _⟩ | ⟨a, len', cap', zs, hcs, _, hl, hm, hz, _, hcell, hwz⟩
  · simp [Value.cells] at hcs
    obtain ⟨rfl, rfl, rfl⟩ := hcs
    exact ⟨none, [], 0, rfl, Nat.le_refl _, Nat.zero_le _, .inl rfl⟩
  · simp [Value.cells] at hcs
    obtain ⟨rfl, rfl, rfl⟩ := hcs
    have hlz : len ≤ zs.length := by rw [hz]; split <;> omega
    rcases Nat.eq_zero_or_pos len with h0 | h0
    · subst h0
      exact ⟨some a, [], cap, rfl, hl, hm, .inl rfl⟩
    obtain ⟨b, off, spot⟩ := a
    have hspot : spot = none := by simpa [Addr.add] using World.cell?_spot (hcell 0 (by omega))
    subst hspot
    have hlen : (zs.take len).length = len := by simp; omega
    refine ⟨some ⟨b, off, none⟩, zs.take len, cap, by rw [hlen], by rw [hlen]; exact hl, hm, .inr ⟨b, off, rfl, ?_, fun i x hx => ?_⟩⟩
    · have := World.block_lt_of_cell? w _ (hcell 0 (by omega))
      simpa [Addr.add_lit] using this
    · have hi : i < len := by have := (List.getElem?_eq_some_iff.1 hx).1; omega
      have hc := hcell i (by omega)
      rw [Addr.add_lit] at hc
      have e : zs.getD i 0 = x := by
        rw [List.getElem?_take_of_lt hi] at hx
        simp [List.getD, hx]
      rw [e] at hc
      exact hc
end Go.Proofs.YtficnhlkefpfnaaDoor

namespace Go.Proofs.YtficnhlkefpfnaaDoor
open Go.ChangeShapes Go.WideShapes Go.ChangeAt Go.RowKit Go.Joins Go.Deep

theorem cells_laws_Desk : Tryd.prog.cellsOf 35 = 4 := by kernel_rfl
theorem cells_ints : Tryd.prog.cellsOf 33 = 1 := by kernel_rfl
theorem trod_struct3 {P : Program} {H : Type} {enc : TypeId × Value → H} {w : World} {base : Nat} {spare : Nat → Bool} {held : Bool} {t : TypeId} {f0 f1 f2 : Field} {fuel : Nat} {cs : List Value} {x : DataW H × List MemPlace} (ht : P.underlying t = some (.struct #[f0, f1, f2])) (h : DataW.trod enc P w base spare held fuel t cs = some x) :
    ∃ y0 y1 y2 n, cs.length = P.cellsOf t ∧ DataW.trod enc P w base spare held n f0.type ((cs.drop f0.offset).take (P.cellsOf f0.type)) = some y0 ∧ DataW.trod enc P w base spare held n f1.type ((cs.drop f1.offset).take (P.cellsOf f1.type)) = some y1 ∧ DataW.trod enc P w base spare held n f2.type ((cs.drop f2.offset).take (P.cellsOf f2.type)) = some y2 := by
  obtain ⟨xs, n, _, rfl, hl, hlen, hf⟩ := DataW.trod_struct ht h
  match xs, hlen with
  | [y0, y1, y2], _ => exact ⟨y0, y1, y2, n, hl, by simpa using hf 0 f0 rfl, by simpa using hf 1 f1 rfl, by simpa using hf 2 f2 rfl⟩
theorem open_docc {H : Type} {enc : TypeId × Value → H} {w : World} {spare : Nat → Bool} {held : Bool} {fuel : Nat} {c0 c1 : Value} {y : DataW H × List MemPlace}
    (hf : DataW.trod enc Tryd.prog w 0 spare held fuel 32 [c0, c1] = some y) :
    ∃ (q : Option Addr) (l : List Op7) (cap : Nat) (q2 : Option Addr) (ws : List Op7) (cap2 : Nat), (c0 = .slice q l.length cap ∧ c1 = .slice q2 ws.length cap2) ∧ (l.length ≤ cap ∧ cap ≤ maxLen ∧ ArgOps w q l) ∧ (ws.length ≤ cap2 ∧ cap2 ≤ maxLen ∧ ArgOps w q2 ws) := by
  obtain ⟨y0, y1, n, hl, g0, g1⟩ := trod_struct2 Tryd.underlying32 hf
  simp only [cells_laws_Ops] at g0 g1
  obtain ⟨q, l, cap, e0, h0⟩ := open_cell (y := y0) g0
  obtain ⟨q2, ws, cap2, e1, h1⟩ := open_cell (y := y1) g1
  exact ⟨q, l, cap, q2, ws, cap2, ⟨e0, e1⟩, h0, h1⟩
theorem open_numc {H : Type} {enc : TypeId × Value → H} {w : World} {spare : Nat → Bool} {held : Bool} {fuel : Nat} {c : Value} {y : DataW H × List MemPlace}
    (hf : DataW.trod enc Tryd.prog w 0 spare held fuel 33 [c] = some y) :
    ∃ (q : Option Addr) (l : List Int) (cap : Nat), c = .slice q l.length cap ∧ l.length ≤ cap ∧ cap ≤ maxLen ∧ ArgInts w q l := by
  obtain ⟨d, p⟩ := y
  rcases open_ints Tryd.underlying33 Tryd.underlying3 cells_int hf with ⟨hcs, _⟩ | ⟨a, len, cap, zs, hcs, _, hl, hm, hz, _, hcell, hwz⟩
  · simp at hcs
    exact ⟨none, [], 0, hcs, Nat.le_refl _, Nat.zero_le _, .inl rfl⟩
  · simp at hcs
    subst hcs
    have hlz : len ≤ zs.length := by rw [hz]; split <;> omega
    rcases Nat.eq_zero_or_pos len with h0 | h0
    · subst h0
      exact ⟨some a, [], cap, rfl, hl, hm, .inl rfl⟩
    obtain ⟨b, off, spot⟩ := a
    have hspot : spot = none := by simpa [Addr.add] using World.cell?_spot (hcell 0 (by omega))
    subst hspot
    have hlen : (zs.take len).length = len := by simp; omega
    refine ⟨some ⟨b, off, none⟩, zs.take len, cap, by rw [hlen], by rw [hlen]; exact hl, hm, .inr ⟨b, off, rfl, ?_, fun i x hx => ?_⟩⟩
    · have := World.block_lt_of_cell? w _ (hcell 0 (by omega))
      simpa [Addr.add_lit] using this
    · have hi : i < len := by have := (List.getElem?_eq_some_iff.1 hx).1; omega
      have hc := hcell i (by omega)
      rw [Addr.add_lit] at hc
      have e : zs.getD i 0 = x := by
        rw [List.getElem?_take_of_lt hi] at hx
        simp [List.getD, hx]
      rw [e] at hc
      exact hc
set_option maxRecDepth 100000 in
theorem open_desk {H : Type} {enc : TypeId × Value → H} {w : World} {r : Reach} {b0 : Nat} {spare : Nat → Bool} {held : Bool} {v : Value} {d : DataW H} {p : List MemPlace}
    (hv : Value.okWide Tryd.prog w r b0 35 v) (h : DataW.Trod enc Tryd.prog w 0 spare held 35 v d p) :
    ∃ (rp : Int) (q : Option Addr) (l : List Op7) (cap : Nat) (q2 : Option Addr) (ws : List Op7) (cap2 : Nat) (q3 : Option Addr) (s : List Int) (cap3 : Nat), v = .agg #[.int .i64 rp, .slice q l.length cap, .slice q2 ws.length cap2, .slice q3 s.length cap3] ∧ (l.length ≤ cap ∧ cap ≤ maxLen ∧ ArgOps w q l) ∧ (ws.length ≤ cap2 ∧ cap2 ≤ maxLen ∧ ArgOps w q2 ws) ∧ (s.length ≤ cap3 ∧ cap3 ≤ maxLen ∧ ArgInts w q3 s) := by
  obtain ⟨cs, rfl, _⟩ := okWide_struct Tryd.underlying35 hv
  obtain ⟨fuel, hf⟩ := h
  obtain ⟨y0, y1, y2, n, hl, g0, g1, g2⟩ := trod_struct3 Tryd.underlying35 hf
  obtain ⟨cl⟩ := cs
  simp only [Value.cells] at hl g0 g1 g2
  rw [cells_laws_Desk] at hl
  match cl, hl with
  | [c0, c1, c2, c3], _ =>
    simp only [cells_int, cells_laws_Doc, cells_ints] at g0 g1 g2
    obtain ⟨rp, e0, _, _⟩ := DataW.trod_int (x := y0) Tryd.underlying3 g0
    obtain ⟨q, l, cap, q2, ws, cap2, ⟨e1, e2⟩, h1, h2⟩ := open_docc (y := y1) g1
    obtain ⟨q3, s, cap3, e3, h3⟩ := open_numc (y := y2) g2
    simp at e0
    exact ⟨rp, q, l, cap, q2, ws, cap2, q3, s, cap3, by rw [e0, e1, e2, e3], h1, h2, h3⟩
end Go.Proofs.YtficnhlkefpfnaaDoor

namespace Go.Proofs.YtficnhlkefpfnaaDoor
open Go.ChangeShapes Go.WideShapes Go.ChangeAt Go.RowKit Go.Joins

set_option maxRecDepth 100000 in
theorem fnExactDeskPush_lifted (os : Os) (started : os.Started) (H : Type) (enc : TypeId × Value → H) :
    ReturnsInHanded {} Tryd.checked os 12 .any (fun w args => (Rows.fnExactDeskPushSpec.pre enc Tryd.prog Tryd.f12 [] false w args ∧ laidMetH Tryd.prog laid1 w) ∧ sizedMet enc Tryd.prog Tryd.f12 (OpenSpec.ofChange Rows.fnExactDeskPushSpec) false w args)
      (Rows.fnExactDeskPushSpec.post enc Tryd.prog Tryd.f12 false true false false) := by
  refine returnsInHanded_of_change_and (C := Tryd.checked) (X := fun w _ => laidMetH Tryd.prog laid1 w) (fun _ _ _ hh h => h.of_heap hh) own started (by kernel_rfl) Tryd.func12
    (ChangeSpec.witness_shaped (enc := enc) (C := Tryd.checked) (os := os) (X := fun w _ => laidMetH Tryd.prog laid1 w) false (World.doorLaid Tryd.prog 28 os) #[.agg #[.int .i64 0, .slice none 0 0, .slice none 0 0, .slice none 0 0]] 8 rfl (World.shaped_of_RefB (by kernel_rfl) (by kernel_rfl)) (by kernel_rfl) (by kernel_rfl) (by kernel_rfl) (door_met os _)) ?_
  intro W base args ds gs before hval0 hW _ _ hL _
  have hval : ∀ (j : Nat) t v, Tryd.f12.params[j]? = some t → args[j]? = some v → Value.okWide Tryd.prog W .any base t v := hval0
  have hW' := hW
  obtain ⟨p, q, hA0, hV0, rfl, hfz, hnd⟩ := hW
  have hA : DataW.TrodAll enc Tryd.prog W 0 (fun _ => true) true Tryd.f12.params.toList args.toList ds p := hA0
  have hV : DataW.TrodVars enc Tryd.prog W (fun _ => true) [errName] gs q := hV0
  rw [Tryd.params12] at hA hval
  obtain ⟨v0, d0, rfl, rfl, h0⟩ := trodAll_one hA
  have kk0 := h0
  have lt0 : ∀ x ∈ p, x.block < W.heap.size := by obtain ⟨m, hm⟩ := kk0; exact DataW.trod_lt m _ _ _ hm
  obtain ⟨x, hv, hc, hpos⟩ := of_laid hL
  obtain ⟨rfl, rfl⟩ := hV.unique (vars_read1 enc gErr tErr Tryd.underlying120 hv trivial _)
  obtain ⟨rp0, pa0, l0, cap0, pb0, m0, capb0, pc0, s0, capc0, rfl, ⟨hcap0, hmax0, hargs0⟩, ⟨hcapb0, hmaxb0, hargsb0⟩, ⟨hcapc0, hmaxc0, hargsc0⟩⟩ := open_desk (hval 0 35 v0 rfl rfl) h0
  clear hA0 hV0 hval0
  refine (walkDeskPush rp0 l0 pa0 cap0 m0 pb0 capb0 s0 pc0 capc0 x W hargs0 hcap0 hmax0 hargsb0 hcapb0 hmaxb0 hargsc0 hcapc0 hmaxc0 hc hpos).mono fun e W' ⟨he, bel⟩ => ?_
  subst he
  exact ⟨_, rfl, _, _, _, [], p, [.cell 0 0], hW', trodAll_mk1 (shut_bool Tryd.underlying4 _), trodAll_mk1 (Below.trod laidOut (by kernel_rfl) (of_decide_eq_true (by kernel_rfl)) kk0 bel lt0), vars_read1 enc gErr tErr Tryd.underlying120 (var_kept bel hpos hv) trivial _, bel.frame _, fun h => by cases h⟩

theorem fnExactDeskPush_row : Rows.FnExactDeskPushSaid :=
  OpenClaim.holds_of_wide 12 Tryd.f12 rfl rfl rfl rfl rfl rfl rfl ⟨rfl, rfl, rfl, rfl, rfl⟩ rfl rfl rfl rfl rfl (by kernel_rfl) Tryd.func12 (by kernel_rfl)
    (of_decide_eq_true (by kernel_rfl)) (by unfold Func.isWrapper; first | (rw [if_pos (by decide +kernel)]; kernel_rfl) | (rw [if_neg (by decide +kernel)]; exact ⟨rfl, rfl⟩))
    (fun os started H enc _ => fnExactDeskPush_lifted os started H enc)

/-- THE STATEMENT. -/
theorem fnExactDeskPush_holds : Rows.FnExactDeskPushCardSaid :=
  Claim7.holds_tied_plain_at .later [] Rows.fnExactDeskPushCard.laidKinds true Rows.fnExactDeskPushCard.stood.harness true
    fnExactDeskPush_row (fun _ h => by cases h) (by kernel_rfl) (fun _ h => by cases h) fnExactDeskPush_row_tie rfl ⟨rfl, rfl⟩ (by kernel_rfl) rfl
    (fun f fn hf hfn => by
      obtain rfl : f = 12 := Option.some.inj ((show Tryd.prog.funcNamed Rows.fnExactDeskPushRow.func = some 12 by kernel_rfl).symm.trans hf) |>.symm
      obtain rfl : fn = Tryd.f12 := (Option.some.inj (Tryd.func12.symm.trans hfn)).symm
      exact ⟨by kernel_rfl, fun j t ht => by
        rw [Tryd.params12] at ht
        have hm : t ∈ [35] := by simpa using Array.mem_of_getElem? ht
        have hall : ([35].all fun u => !Tryd.prog.wantsStandIn u) = true := by kernel_rfl
        exact (show Tryd.prog.wantsStandIn t = false by simpa using List.all_eq_true.1 hall t hm)⟩)
    (by kernel_rfl)
#print axioms fnExactDeskPush_holds
end Go.Proofs.YtficnhlkefpfnaaDoor
