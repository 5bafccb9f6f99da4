/-
  PROVED: at every list of things and every two ids the program's MarkSpan answers as the specification's does, and writes nothing into the list (the given card of FnExactMarkSpan), for every input; the one listed variable, the program's error, reads as its own initialiser lays it.
-/
import Derived.Test.YtkbogcbppenaaaaDoorPackP
import Derived.Test.YtkbogcbppenaaaaDoorPackX
import Derived.Test.YtkbogcbppenaaaaDoorPackT
import Derived.Test.YtkbogcbppenaaaaDoorPackO
import Derived.Test.YtkbogcbppenaaaaDoorTie
import Derived.Test.YtkbogcbppenaaaaDoorCards
import Derived.SevenTiedAt
namespace Go.Proofs.YtkbogcbppenaaaaDoor
open Go.RowKit Go.Shelf
set_option linter.unusedSimpArgs false
set_option linter.unusedVariables false
attribute [local go_sem ↓] Go.wp_at_zero Go.wp_at_succ

/-- The text from one mark to another one. -/
def spanT (l : List Op7) (a b c d : Int) : ByteArray := match markP l a b, markP l c d with
  | some f, some t => if f ≤ t then (txtB (shown (lfs l (standL l)))).extract f t else txtB []
  | _, _ => txtB []
theorem span_no1 {l : List Op7} {a b c d : Int} (h : markP l a b = none) : spanT l a b c d = txtB [] := by unfold spanT; rw [h]
theorem span_no2 {l : List Op7} {a b c d : Int} (h : markP l c d = none) : spanT l a b c d = txtB [] := by unfold spanT; rw [h]; cases markP l a b <;> rfl
theorem span_back {l : List Op7} {a b c d : Int} {f t : Nat} (h1 : markP l a b = some f) (h2 : markP l c d = some t) (h : t < f) : spanT l a b c d = txtB [] := by unfold spanT; rw [h1, h2]; simp only; rw [if_neg (by omega)]
theorem span_yes {l : List Op7} {a b c d : Int} {f t : Nat} (h1 : markP l a b = some f) (h2 : markP l c d = some t) (h : f ≤ t) : spanT l a b c d = (txtB (shown (lfs l (standL l)))).extract f t := by unfold spanT; rw [h1, h2]; simp only; rw [if_pos h]
theorem nShown_text (L : List Lf) : (txtB (shown L)).size = nShown L := by rw [txtB_size]; simp [shown, nShown]
/-- The boxes of the two marks. -/
structure MB (a b c d : Int) (w W : World) : Prop where
  one : W.heap[w.heap.size]? = some (.cells #[.int .i64 a, .int .i64 b] 30 (0, 0))
  two : W.heap[w.heap.size + 1]? = some (.cells #[.int .i64 c, .int .i64 d] 30 (0, 0))
  bel : Below w.heap.size w W
theorem MB.below {a b c d : Int} {w W W' : World} (h : MB a b c d w W) (hb : Below W.heap.size W W') : MB a b c d w W' := ⟨blk_below h.one hb, blk_below h.two hb, Bstep h.bel hb⟩
theorem MB.start (a b c d : Int) (w : World) : MB a b c d w ((w.alloc (.cells #[.int .i64 a, .int .i64 b] 30)).alloc (.cells #[.int .i64 c, .int .i64 d] 30)) := by
  refine ⟨(Below.heap_alloc _ _ _ (by simp)).trans (World.alloc_heap_new _ _), ?_, ((Below.refl _ _).alloc (Nat.le_refl _) _).alloc (by simp) _⟩
  have h := World.alloc_heap_new (w.alloc (.cells #[.int .i64 a, .int .i64 b] 30)) (.cells #[.int .i64 c, .int .i64 d] 30)
  rw [World.size_alloc] at h
  exact h

set_option maxRecDepth 100000 in
set_option maxHeartbeats 1000000 in
theorem specSpan_any (l : List Op7) (g cap : Nat) (a b c d : Int) (w : World) (hl : OpsAt w g l) (hn : l.length ≤ 1048576) (hcap : l.length ≤ cap) :
    Calls Tryd.prog 24 #[.slice (some ⟨g, 0, none⟩) l.length cap, .agg #[.int .i64 a, .int .i64 b], .agg #[.int .i64 c, .int .i64 d]] w fun e w' => e = .returned (.string (spanT l a b c d)) ∧ Below w.heap.size w w' := by
  have HL := hideIt hl
  have hgw := hl.1
  clear hl
  have HM0 := hideIt (MB.start a b c d w)
  go_enter Tryd.func24, Tryd.ntmps24
  go_wp2_with fail
  generalize (w.alloc (.cells #[.int .i64 a, .int .i64 b] 30)).alloc (.cells #[.int .i64 c, .int .i64 d] 30) = W0 at *
  refine (specPlace_any l _ _ a b _ (HL.out.below HM0.out.bel hgw) hn hcap).mono ?_
  rintro e w1 ⟨rfl, hb1⟩
  have HM1 := hideIt (HM0.out.below hb1)
  have c0 := (blk_cell HM1.out.two 0).trans rfl
  have c1 := (blk_cell HM1.out.two 1).trans rfl
  unfold plV
  clear hb1 HM0
  go_wp2_with fail
  refine (specPlace_any l _ _ c d _ (HL.out.below HM1.out.bel hgw) hn hcap).mono ?_
  rintro e w2 ⟨rfl, hb2⟩
  have HM2 := hideIt (HM1.out.below hb2)
  unfold plV
  clear hb2 HM1 c0 c1
  cases h1 : markP l a b with
  | none =>
    have HE := hideIt (span_no1 (c := c) (d := d) h1)
    clear h1
    generalize pN (markP l c d) = q at *
    generalize pB (markP l c d) = z at *
    simp only [pN, pB]
    go_wp2
    go_ret
    rw [HE.out]
    exact ⟨rfl, HM2.out.bel⟩
  | some f =>
    cases h2 : markP l c d with
    | none =>
      have HE := hideIt (span_no2 (a := a) (b := b) h2)
      clear h1 h2
      simp only [pN, pB]
      go_wp2
      go_ret
      rw [HE.out]
      exact ⟨rfl, HM2.out.bel⟩
    | some t =>
      by_cases hft : t < f
      · have HE := hideIt (span_back h1 h2 hft)
        have hft' : (t : Int) < (f : Int) := by omega
        clear h1 h2
        simp only [pN, pB]
        go_wp2
        go_ret
        rw [HE.out]
        exact ⟨rfl, HM2.out.bel⟩
      · have HE := hideIt (span_yes h1 h2 (by omega))
        have hft' : ¬ (t : Int) < (f : Int) := by omega
        have hft2 : (f : Int) ≤ (t : Int) := by omega
        have hts := markP_le h2
        rw [← nShown_text] at hts
        have hts' : (t : Int) ≤ ((txtB (shown (lfs l (standL l)))).size : Int) := by omega
        have hf0 : (0 : Int) ≤ (f : Int) := by omega
        have ht0 : (0 : Int) ≤ (t : Int) := by omega
        clear h1 h2
        simp only [pN, pB]
        go_wp2_with fail
        refine (specTxt_any l _ _ _ (HL.out.below HM2.out.bel hgw) hn hcap).mono ?_
        rintro e w3 ⟨rfl, hb3⟩
        have HB3 := hideIt (Bstep HM2.out.bel hb3)
        clear hb3
        generalize txtB (shown (lfs l (standL l))) = T at *
        go_wp2
        go_ret
        exact ⟨by rw [HE.out]; rfl, HB3.out⟩

set_option maxRecDepth 100000 in
set_option maxHeartbeats 1000000 in
theorem implSpan_any (l : List Op7) (g cap : Nat) (a b c d : Int) (x : Addr) (w : World) (hl : OpsAt w g l) (hn : l.length ≤ 1048576) (hcap : l.length ≤ cap)
    (he : w.cell? ⟨0, 0, none⟩ = some (.iface 191 (.pointer (some x)))) (h0 : 0 < w.heap.size) :
    Calls Tryd.prog 25 #[.slice (some ⟨g, 0, none⟩) l.length cap, .agg #[.int .i64 a, .int .i64 b], .agg #[.int .i64 c, .int .i64 d]] w fun e w' => e = .returned (.string (spanT l a b c d)) ∧ Below w.heap.size w w' := by
  have HL := hideIt hl
  have hgw := hl.1
  clear hl
  have HM0 := hideIt (MB.start a b c d w)
  go_enter Tryd.func25, Tryd.ntmps25
  go_wp2_with fail
  generalize (w.alloc (.cells #[.int .i64 a, .int .i64 b] 30)).alloc (.cells #[.int .i64 c, .int .i64 d] 30) = W0 at *
  refine (implPlace_any l _ _ a b x _ (HL.out.below HM0.out.bel hgw) hn hcap (errB HM0.out.bel h0 he) (posB HM0.out.bel h0)).mono ?_
  rintro e w1 ⟨rfl, hb1⟩
  have HM1 := hideIt (HM0.out.below hb1)
  have c0 := (blk_cell HM1.out.two 0).trans rfl
  have c1 := (blk_cell HM1.out.two 1).trans rfl
  unfold plV
  clear hb1 HM0
  go_wp2_with fail
  refine (implPlace_any l _ _ c d x _ (HL.out.below HM1.out.bel hgw) hn hcap (errB HM1.out.bel h0 he) (posB HM1.out.bel h0)).mono ?_
  rintro e w2 ⟨rfl, hb2⟩
  have HM2 := hideIt (HM1.out.below hb2)
  unfold plV
  clear hb2 HM1 c0 c1
  cases h1 : markP l a b with
  | none =>
    have HE := hideIt (span_no1 (c := c) (d := d) h1)
    clear h1
    generalize pN (markP l c d) = q at *
    generalize pB (markP l c d) = z at *
    simp only [pN, pB]
    go_wp2
    go_ret
    rw [HE.out]
    exact ⟨rfl, HM2.out.bel⟩
  | some f =>
    cases h2 : markP l c d with
    | none =>
      have HE := hideIt (span_no2 (a := a) (b := b) h2)
      clear h1 h2
      simp only [pN, pB]
      go_wp2
      go_ret
      rw [HE.out]
      exact ⟨rfl, HM2.out.bel⟩
    | some t =>
      by_cases hft : t < f
      · have HE := hideIt (span_back h1 h2 hft)
        have hft' : (t : Int) < (f : Int) := by omega
        clear h1 h2
        simp only [pN, pB]
        go_wp2
        go_ret
        rw [HE.out]
        exact ⟨rfl, HM2.out.bel⟩
      · have HE := hideIt (span_yes h1 h2 (by omega))
        have hft' : ¬ (t : Int) < (f : Int) := by omega
        have hft2 : (f : Int) ≤ (t : Int) := by omega
        have hts := markP_le h2
        rw [← nShown_text] at hts
        have hts' : (t : Int) ≤ ((txtB (shown (lfs l (standL l)))).size : Int) := by omega
        have hf0 : (0 : Int) ≤ (f : Int) := by omega
        have ht0 : (0 : Int) ≤ (t : Int) := by omega
        clear h1 h2
        simp only [pN, pB]
        go_wp2_with fail
        refine (implTxt_any l _ _ x _ (HL.out.below HM2.out.bel hgw) hn hcap (errB HM2.out.bel h0 he) (posB HM2.out.bel h0)).mono ?_
        rintro e w3 ⟨rfl, hb3⟩
        have HB3 := hideIt (Bstep HM2.out.bel hb3)
        clear hb3
        generalize txtB (shown (lfs l (standL l))) = T at *
        go_wp2
        go_ret
        exact ⟨by rw [HE.out]; rfl, HB3.out⟩
end Go.Proofs.YtkbogcbppenaaaaDoor

namespace Go.Proofs.YtkbogcbppenaaaaDoor
open Go.RowKit
set_option linter.unusedSimpArgs false
set_option linter.unusedVariables false
attribute [local go_sem ↓] Go.wp_at_zero Go.wp_at_succ

/-- The boxes of two ids that came in. -/
structure K2 (S : Nat) (r m r2 m2 : Int) (w W : World) : Prop where
  c0 : W.cell? ⟨S, 0, none⟩ = some (.int .i64 r)
  c1 : W.cell? ⟨S, 1, none⟩ = some (.int .i64 m)
  d0 : W.cell? ⟨S + 1, 0, none⟩ = some (.int .i64 r2)
  d1 : W.cell? ⟨S + 1, 1, none⟩ = some (.int .i64 m2)
  lt : S + 1 < W.heap.size
  bel : Below S w W
theorem K2.below {S : Nat} {r m r2 m2 : Int} {w W W' : World} (h : K2 S r m r2 m2 w W) (hb : Below W.heap.size W W') : K2 S r m r2 m2 w W' :=
  have hl := h.lt
  ⟨((bcell hb).1 _ _ (by omega)).trans h.c0, ((bcell hb).1 _ _ (by omega)).trans h.c1, ((bcell hb).1 _ _ hl).trans h.d0, ((bcell hb).1 _ _ hl).trans h.d1, Nat.lt_of_lt_of_le hl hb.size, h.bel.trans (hb.mono (by omega))⟩

theorem K2.tup {S : Nat} {r m r2 m2 : Int} {w W : World} (h : K2 S r m r2 m2 w W) : W.cell? ⟨S, 0, none⟩ = some (.int .i64 r) ∧ W.cell? ⟨S, 1, none⟩ = some (.int .i64 m) ∧ W.cell? ⟨S + 1, 0, none⟩ = some (.int .i64 r2) ∧ W.cell? ⟨S + 1, 1, none⟩ = some (.int .i64 m2) ∧ S + 1 < W.heap.size ∧ Below S w W := ⟨h.c0, h.c1, h.d0, h.d1, h.lt, h.bel⟩
theorem K2.of {S : Nat} {r m r2 m2 : Int} {w W : World} (h : W.cell? ⟨S, 0, none⟩ = some (.int .i64 r) ∧ W.cell? ⟨S, 1, none⟩ = some (.int .i64 m) ∧ W.cell? ⟨S + 1, 0, none⟩ = some (.int .i64 r2) ∧ W.cell? ⟨S + 1, 1, none⟩ = some (.int .i64 m2) ∧ S + 1 < W.heap.size ∧ Below S w W) : K2 S r m r2 m2 w W := ⟨h.1, h.2.1, h.2.2.1, h.2.2.2.1, h.2.2.2.2.1, h.2.2.2.2.2⟩
theorem keep2 {S : Nat} {r m r2 m2 : Int} {w W W' : World} (hb : Below W.heap.size W W') (h : W.cell? ⟨S, 0, none⟩ = some (.int .i64 r) ∧ W.cell? ⟨S, 1, none⟩ = some (.int .i64 m) ∧ W.cell? ⟨S + 1, 0, none⟩ = some (.int .i64 r2) ∧ W.cell? ⟨S + 1, 1, none⟩ = some (.int .i64 m2) ∧ S + 1 < W.heap.size ∧ Below S w W) : W'.cell? ⟨S, 0, none⟩ = some (.int .i64 r) ∧ W'.cell? ⟨S, 1, none⟩ = some (.int .i64 m) ∧ W'.cell? ⟨S + 1, 0, none⟩ = some (.int .i64 r2) ∧ W'.cell? ⟨S + 1, 1, none⟩ = some (.int .i64 m2) ∧ S + 1 < W'.heap.size ∧ Below S w W' := ((K2.of h).below hb).tup

set_option maxRecDepth 100000 in
set_option maxHeartbeats 1000000 in
theorem walkMarkSpan (l : List Op7) (p : Option Addr) (cap : Nat) (r m r2 m2 : Int) (x : Addr) (w : World) (hl : ArgOps w p l) (hcap : l.length ≤ cap) (hmax : cap ≤ maxLen)
    (he : w.cell? ⟨0, 0, none⟩ = some (.iface 191 (.pointer (some x)))) (h0 : 0 < w.heap.size) :
    Calls Tryd.prog 5 #[.slice p l.length cap, .agg #[.int .i64 r, .int .i64 m], .agg #[.int .i64 r2, .int .i64 m2]] w fun e w' => e = .returned (.bool true) ∧ Below w.heap.size w w' := by
  have HA := hideIt hl
  clear hl
  have HK0 : Hid (K2 w.heap.size r m r2 m2 w ((w.alloc (.cells #[.int .i64 r, .int .i64 m] 24)).alloc (.cells #[.int .i64 r2, .int .i64 m2] 24))) := ⟨by simp [go_sem], by simp [go_sem], by simp [go_sem], by simp [go_sem], by simp, ((Below.refl _ _).alloc (Nat.le_refl _) _).alloc (by simp) _⟩
  by_cases hn : l.length ≤ 1048576
  · go_enter Tryd.func5, Tryd.ntmps5
    go_wp2_with (first | (go_at_call 15; refine (sz_small _ _ _ _ hn).mono ?_; rintro e w' ⟨rfl, rfl⟩))
    generalize hW0 : (w.alloc (.cells #[.int .i64 r, .int .i64 m] 24)).alloc (.cells #[.int .i64 r2, .int .i64 m2] 24) = W0 at *
    clear hW0
    obtain ⟨c0, c1, d0, d1, lt0, _⟩ := HK0.out
    have HKd : Hid (K2 w.heap.size r m r2 m2 w W0.drew) := HK0.out.below ((Below.refl _ _).drew)
    go_region_held3 (fun w' => w'.cell? ⟨w.heap.size, 0, none⟩ = some (.int .i64 r) ∧ w'.cell? ⟨w.heap.size, 1, none⟩ = some (.int .i64 m) ∧ w'.cell? ⟨w.heap.size + 1, 0, none⟩ = some (.int .i64 r2) ∧ w'.cell? ⟨w.heap.size + 1, 1, none⟩ = some (.int .i64 m2) ∧ w.heap.size + 1 < w'.heap.size ∧ Below w.heap.size w w')
      (first | exact keep2 hb2 (by with_reducible assumption) | exact HKd.out.tup)
      (first
        | (go_at_call 17; refine (toOpS_any l p cap _ (HA.out.below HKd.out.bel) hn hcap).mono ?_; rintro e w1 ⟨rfl, hA1, hb2⟩; have HA1 := hideIt hA1; clear hA1)
        | (go_at_call 18; refine (toId_any _ _ _).mono ?_; rintro e w2 ⟨rfl, hb2⟩; have HA2 := hideIt (HA1.out.below hb2 HA1.out.1); clear HA1)
        | (go_at_call 18; refine (toId_any _ _ _).mono ?_; rintro e w22 ⟨rfl, hb2⟩; have HA3 := hideIt (HA2.out.below hb2 HA2.out.1); clear HA2)
        | (go_at_call 24; refine (specSpan_any l _ _ _ _ _ _ _ HA3.out hn (Nat.le_refl _)).mono ?_; rintro e w3 ⟨rfl, hb2⟩))
    rename_i hS
    have HK3 := hideIt (K2.of hS)
    clear hS hb2 HA3 HKd HK0 c0 c1 d0 d1 lt0
    generalize hTT : spanT l r m r2 m2 = TT at *
    have HTT := hideIt hTT
    clear hTT
    go_wp2_with fail
    refine (toOpS_any l p cap _ (HA.out.below HK3.out.bel) hn hcap).mono ?_
    rintro e w4 ⟨rfl, hA4, hB4⟩
    have HA4 := hideIt hA4
    have HK4 := hideIt (HK3.out.below hB4)
    obtain ⟨c0, c1, d0, d1, lt0, _⟩ := HK4.out
    have lt1 : w.heap.size < w4.heap.size := by omega
    have HKd : Hid (K2 w.heap.size r m r2 m2 w w4.drew) := HK4.out.below ((Below.refl _ _).drew)
    have HAd := hideIt (HA4.out.below ((Below.refl _ _).drew) HA4.out.1)
    clear hA4 hB4 HK3 HA4
    go_wp2_with fail
    go_region_held3 (fun w' => w'.cell? ⟨w.heap.size, 0, none⟩ = some (.int .i64 r) ∧ w'.cell? ⟨w.heap.size, 1, none⟩ = some (.int .i64 m) ∧ w'.cell? ⟨w.heap.size + 1, 0, none⟩ = some (.int .i64 r2) ∧ w'.cell? ⟨w.heap.size + 1, 1, none⟩ = some (.int .i64 m2) ∧ w.heap.size + 1 < w'.heap.size ∧ Below w.heap.size w w')
      (first | exact keep2 hb2 (by with_reducible assumption) | exact HKd.out.tup)
      (first
        | (go_at_call 18; refine (toId_any _ _ _).mono ?_; rintro e w5 ⟨rfl, hb2⟩; have HA5 := hideIt (HAd.out.below hb2 HAd.out.1); clear HAd)
        | (go_at_call 18; refine (toId_any _ _ _).mono ?_; rintro e w6 ⟨rfl, hb2⟩; have HA6 := hideIt (HA5.out.below hb2 HA5.out.1); have HK6 : Hid (Below w.heap.size w w6) := (Bstep (by assumption : _ ∧ _ ∧ _ ∧ _ ∧ _ ∧ Below w.heap.size w w5).2.2.2.2.2 hb2); clear HA5)
        | (go_at_call 25; refine (implSpan_any l _ _ _ _ _ _ x _ HA6.out hn (Nat.le_refl _) (errB HK6.out h0 he) (posB HK6.out h0)).mono ?_; rintro e w7 ⟨rfl, hb2⟩))
    rename_i hS
    have HK7 := hideIt (K2.of hS)
    have HA7 := hideIt (HA6.out.below hb2 HA6.out.1)
    have HB7 := hideIt HK7.out.bel
    clear hS hb2 HA6 HKd HK4 HK6 HK7 c0 c1 d0 d1 lt0 lt1
    rw [HTT.out]
    go_wp2_with fail
    refine (toOpS_any l p cap _ (HA.out.below HB7.out) hn hcap).mono ?_
    rintro e w8 ⟨rfl, hA9, hB8⟩
    have HA89 := hideIt (HA7.out.below hB8 HA7.out.1)
    have HA9 := hideIt hA9
    have HB8 := hideIt (Bstep HB7.out hB8)
    clear hA9 hB8
    go_wp2_with fail
    refine (eqOpS_same l _ _ _ _ _ HA89.out HA9.out hn (Nat.le_refl _) (Nat.le_refl _)).mono ?_
    rintro e w9 ⟨rfl, hB9⟩
    have HB9 := hideIt (Bstep HB8.out hB9)
    clear hB9
    go_wp2
    go_ret
    exact ⟨rfl, HB9.out⟩
  · go_enter Tryd.func5, Tryd.ntmps5
    go_wp2_with (first | (go_at_call 15; refine (sz_big _ _ _ _ (by omega) (by omega)).mono ?_; rintro e w' ⟨rfl, rfl⟩))
    go_ret
    exact ⟨rfl, HK0.out.bel⟩
end Go.Proofs.YtkbogcbppenaaaaDoor

namespace Go.Proofs.YtkbogcbppenaaaaDoor
open Go.ChangeShapes Go.WideShapes Go.ChangeAt Go.RowKit Go.Joins

set_option maxRecDepth 100000 in
theorem fnExactMarkSpan_lifted (os : Os) (started : os.Started) (H : Type) (enc : TypeId × Value → H) :
    ReturnsInHanded {} Tryd.checked os 5 .any (fun w args => (Rows.fnExactMarkSpanSpec.pre enc Tryd.prog Tryd.f5 [] false w args ∧ laidMetH Tryd.prog laid1 w) ∧ sizedMet enc Tryd.prog Tryd.f5 (OpenSpec.ofChange Rows.fnExactMarkSpanSpec) false w args)
      (Rows.fnExactMarkSpanSpec.post enc Tryd.prog Tryd.f5 false true false false) := by
  refine returnsInHanded_of_change_and (C := Tryd.checked) (X := fun w _ => laidMetH Tryd.prog laid1 w) (fun _ _ _ hh h => h.of_heap hh) own started (by kernel_rfl) Tryd.func5
    (ChangeSpec.witness_shaped (enc := enc) (C := Tryd.checked) (os := os) (X := fun w _ => laidMetH Tryd.prog laid1 w) false (World.doorLaid Tryd.prog 28 os) #[.slice none 0 0, .agg #[.int .i64 0, .int .i64 0], .agg #[.int .i64 0, .int .i64 0]] 8 rfl (World.shaped_of_RefB (by kernel_rfl) (by kernel_rfl)) (by kernel_rfl) (by kernel_rfl) (by kernel_rfl) (door_met os _)) ?_
  intro W base args ds gs before hval0 hW _ _ hL _
  have hval : ∀ (j : Nat) t v, Tryd.f5.params[j]? = some t → args[j]? = some v → Value.okWide Tryd.prog W .any base t v := hval0
  have hW' := hW
  obtain ⟨p, q, hA0, hV0, rfl, hfz, hnd⟩ := hW
  have hA : DataW.TrodAll enc Tryd.prog W 0 (fun _ => true) true Tryd.f5.params.toList args.toList ds p := hA0
  have hV : DataW.TrodVars enc Tryd.prog W (fun _ => true) [errName] gs q := hV0
  rw [Tryd.params5] at hA hval
  obtain ⟨v0, v1, v2, d0, d1, d2, p0, p1, p2, rfl, rfl, rfl, h0, h1, h2⟩ := trodAll_three hA
  have kk0 := h0
  have lt0 : ∀ x ∈ p0, x.block < W.heap.size := by obtain ⟨m, hm⟩ := kk0; exact DataW.trod_lt m _ _ _ hm
  have kk1 := h1
  have lt1 : ∀ x ∈ p1, x.block < W.heap.size := by obtain ⟨m, hm⟩ := kk1; exact DataW.trod_lt m _ _ _ hm
  have kk2 := h2
  have lt2 : ∀ x ∈ p2, x.block < W.heap.size := by obtain ⟨m, hm⟩ := kk2; exact DataW.trod_lt m _ _ _ hm
  obtain ⟨x, hv, hc, hpos⟩ := of_laid hL
  obtain ⟨rfl, rfl⟩ := hV.unique (vars_read1 enc gErr tErr Tryd.underlying88 hv trivial _)
  obtain ⟨pa0, l0, cap0, rfl, hcap0, hmax0, hargs0⟩ := open_ops (hval 0 22 v0 rfl rfl) h0
  obtain ⟨r1, m1, rfl⟩ := open_id (hval 1 24 v1 rfl rfl) h1
  obtain ⟨r2, m2, rfl⟩ := open_id (hval 2 24 v2 rfl rfl) h2
  clear hA0 hV0 hval0
  refine (walkMarkSpan l0 pa0 cap0 r1 m1 r2 m2 x W hargs0 hcap0 hmax0 hc hpos).mono fun e W' ⟨he, bel⟩ => ?_
  subst he
  exact ⟨_, rfl, _, _, _, [], _, [.cell 0 0], hW', trodAll_mk1 (shut_bool Tryd.underlying4 _), (trodAll_cons_mk (Below.trod laidOut (by kernel_rfl) (of_decide_eq_true (by kernel_rfl)) kk0 bel lt0) (trodAll_cons_mk (Below.trod laidOut (by kernel_rfl) (of_decide_eq_true (by kernel_rfl)) kk1 bel lt1) (trodAll_cons_mk (Below.trod laidOut (by kernel_rfl) (of_decide_eq_true (by kernel_rfl)) kk2 bel lt2) trodAll_mk0))), vars_read1 enc gErr tErr Tryd.underlying88 (var_kept bel hpos hv) trivial _, bel.frame _, fun h => by cases h⟩

theorem fnExactMarkSpan_row : Rows.FnExactMarkSpanSaid :=
  OpenClaim.holds_of_wide 5 Tryd.f5 rfl rfl rfl rfl rfl rfl rfl ⟨rfl, rfl, rfl, rfl, rfl⟩ rfl rfl rfl rfl rfl (by kernel_rfl) Tryd.func5 (by kernel_rfl)
    (of_decide_eq_true (by kernel_rfl)) (by unfold Func.isWrapper; first | (rw [if_pos (by decide +kernel)]; kernel_rfl) | (rw [if_neg (by decide +kernel)]; exact ⟨rfl, rfl⟩))
    (fun os started H enc _ => fnExactMarkSpan_lifted os started H enc)

/-- THE STATEMENT. -/
theorem fnExactMarkSpan_holds : Rows.FnExactMarkSpanCardSaid :=
  Claim7.holds_tied_plain_at .later [] Rows.fnExactMarkSpanCard.laidKinds true Rows.fnExactMarkSpanCard.stood.harness true
    fnExactMarkSpan_row (fun _ h => by cases h) (by kernel_rfl) (fun _ h => by cases h) fnExactMarkSpan_row_tie rfl ⟨rfl, rfl⟩ (by kernel_rfl) rfl
    (fun f fn hf hfn => by
      obtain rfl : f = 5 := Option.some.inj ((show Tryd.prog.funcNamed Rows.fnExactMarkSpanRow.func = some 5 by kernel_rfl).symm.trans hf) |>.symm
      obtain rfl : fn = Tryd.f5 := (Option.some.inj (Tryd.func5.symm.trans hfn)).symm
      exact ⟨by kernel_rfl, fun j t ht => by
        rw [Tryd.params5] at ht
        have hm : t ∈ [22, 24] := by simpa using Array.mem_of_getElem? ht
        have hall : ([22, 24].all fun u => !Tryd.prog.wantsStandIn u) = true := by kernel_rfl
        exact (show Tryd.prog.wantsStandIn t = false by simpa using List.all_eq_true.1 hall t hm)⟩)
    (by kernel_rfl)
#print axioms fnExactMarkSpan_holds
end Go.Proofs.YtkbogcbppenaaaaDoor
