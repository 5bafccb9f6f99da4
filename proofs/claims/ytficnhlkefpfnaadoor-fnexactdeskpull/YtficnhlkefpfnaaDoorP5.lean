/- The contract of the program's DeskOk. -/
import Derived.Test.YtficnhlkefpfnaaDoorP0
import Derived.BigQuiet
import Derived.WalkSmall
import Derived.Deep.RegionHeld3
import Derived.Test.YtficnhlkefpfnaaDoorP2
import Derived.Test.YtficnhlkefpfnaaDoorP3
namespace Go.Proofs.YtficnhlkefpfnaaDoor
open Go.RowKit
set_option linter.unusedSimpArgs false
set_option linter.unusedVariables false

theorem eqIntS_none (p q : Option Addr) (c1 c2 : Nat) (w : World) :
    Calls Tryd.prog 38 #[.slice p 0 c1, .slice q 0 c2] w fun e w' => e = .returned (.bool true) ∧ w' = w := by
  go_enter Tryd.func38, Tryd.ntmps38
  go_wp2
  refine wp_loop_rounds 1 ?_
  rw [rounds_succ]
  go_wp2
  go_ret
  exact ⟨rfl, rfl⟩
theorem heldIntS_none (p : Option Addr) (c : Nat) (w : World) :
    Calls Tryd.prog 71 #[.slice p 0 c, .int .i64 1] w fun e w' => e = .returned (.int .i64 1) ∧ w' = w := by
  go_enter Tryd.func71, Tryd.ntmps71
  go_wp2
  refine wp_loop_rounds 1 ?_
  rw [rounds_succ]
  go_wp2
  go_ret
  exact ⟨rfl, rfl⟩
theorem markIntS_none (p : Option Addr) (c : Nat) (w : World) :
    Calls Tryd.prog 39 #[.slice p 0 c, .int .i64 1] w fun e w' => e = .returned (.int .i64 1) ∧ w' = w := by
  go_enter Tryd.func39, Tryd.ntmps39
  go_wp2
  refine wp_loop_rounds 1 ?_
  rw [rounds_succ]
  go_wp2
  go_ret
  exact ⟨rfl, rfl⟩
set_option maxHeartbeats 1000000 in
theorem eqIntS_same (xs : List Int) (g1 g2 cap1 cap2 : Nat) (w : World) (hl1 : IntsAt w g1 xs) (hl2 : IntsAt w g2 xs) (hn : xs.length ≤ 1048576) (hcap1 : xs.length ≤ cap1) (hcap2 : xs.length ≤ cap2) :
    Calls Tryd.prog 38 #[.slice (some ⟨g1, 0, none⟩) xs.length cap1, .slice (some ⟨g2, 0, none⟩) xs.length cap2] w fun e w' => e = .returned (.bool true) ∧ Below w.heap.size w w' := by
  go_enter Tryd.func38, Tryd.ntmps38
  go_wp2
  go_loopw [5] (fun i wr => ∃ k : Nat, k ≤ xs.length ∧ i = .int .i64 k ∧ Below w.heap.size w wr)
    (fun i _ => xs.length - (intOf i).toNat)
  case atStart => exact ⟨0, Nat.zero_le _, rfl, by go_grown⟩
  case round =>
    obtain ⟨k, hk, rfl, hB⟩ := hrel
    have HB : Hid (Below w.heap.size w wr) := hB
    by_cases hlt : k < xs.length
    · have j1 := (hl1.below hB hl1.1).2 k xs[k] (by simp [hlt])
      have j2 := (hl2.below hB hl2.1).2 k xs[k] (by simp [hlt])
      generalize xs[k] = x at *
      have hlt' : (k : Int) < (xs.length : Int) := by omega
      have hk0 : (0 : Int) ≤ (k : Int) := by omega
      clear hB hl1 hl2
      go_wp2
      go_quiet (fail)
      go_wp2
      exact ⟨⟨k + 1, by omega, by go_num, below_drewN HB.out _⟩, by simp [intOf]; omega⟩
    · clear hB hl1 hl2
      go_wp2
      go_ret
      exact ⟨rfl, HB.out⟩
theorem held3 (g cap : Nat) (w : World) (hl : IntsAt w g [1, 2, 3]) :
    Calls Tryd.prog 71 #[.slice (some ⟨g, 0, none⟩) 3 3, .int .i64 1] w fun e w' => e = .returned (.int .i64 4) ∧ w' = w := by
  have h0 := hl.2 0 _ rfl
  have h1 := hl.2 1 _ rfl
  have h2 := hl.2 2 _ rfl
  clear hl
  go_enter Tryd.func71, Tryd.ntmps71
  go_wp2
  go_rounds 4
  go_ret
  exact ⟨rfl, rfl⟩
theorem mark3 (g : Nat) (x1 x2 x3 : Int) (w : World) (hl : IntsAt w g [x1, x2, x3]) (hf : ∀ j, w.frozen? ⟨g, j, none⟩ = false) :
    Calls Tryd.prog 39 #[.slice (some ⟨g, 0, none⟩) 3 3, .int .i64 1] w fun e w' => e = .returned (.int .i64 4) ∧ w' = ((w.setCell ⟨g, 0, none⟩ (.int .i64 1)).setCell ⟨g, 1, none⟩ (.int .i64 2)).setCell ⟨g, 2, none⟩ (.int .i64 3) := by
  have h0 := hl.2 0 _ rfl
  have h1 := hl.2 1 _ rfl
  have h2 := hl.2 2 _ rfl
  clear hl
  go_enter Tryd.func39, Tryd.ntmps39
  go_wp2
  go_rounds 4
  go_ret
  exact ⟨rfl, rfl⟩
/-- But for one block nothing has turned. -/
structure OnlyBlk (g : Nat) (w w' : World) : Prop where
  os : w'.os = w.os
  tape : w'.tape = w.tape
  output : w'.output = w.output
  size : w'.heap.size = w.heap.size
  block : ∀ k, k ≠ g → w'.heap[k]? = w.heap[k]?
theorem OnlyBlk.refl (g : Nat) (w : World) : OnlyBlk g w w := ⟨rfl, rfl, rfl, rfl, fun _ _ => rfl⟩
theorem OnlyBlk.setCell {g : Nat} {w w' : World} (h : OnlyBlk g w w') (j : Nat) (u : Value) : OnlyBlk g w (w'.setCell ⟨g, j, none⟩ u) :=
  ⟨h.os, h.tape, h.output, by simp [h.size], fun k hk => by rw [Below.heap_setCell _ _ _ _ hk]; exact h.block k hk⟩
theorem OnlyBlk.below {g B : Nat} {w w' : World} (h : OnlyBlk g w w') (hB : B ≤ g) : Below B w w' :=
  ⟨h.os, h.tape, h.output, by rw [h.size]; exact Nat.le_refl _, fun k hk => h.block k (by omega)⟩
theorem OnlyBlk.ints {g b : Nat} {w w' : World} {xs : List Int} (h : OnlyBlk g w w') (hb : b ≠ g) (hl : IntsAt w b xs) : IntsAt w' b xs := by
  refine ⟨by rw [h.size]; exact hl.1, fun i x hx => ?_⟩
  have e : w'.cell? ⟨b, i, none⟩ = w.cell? ⟨b, i, none⟩ := by simp [World.cell?, h.block b hb]
  rw [e]; exact hl.2 i x hx
/-- A block of things that may be written. -/
def Blk (w : World) (g n : Nat) : Prop := ∃ cur : Array Value, w.heap[g]? = some (.cells cur 71 (0, 0)) ∧ cur.size = n * 7
theorem Blk.setCell {w : World} {g n : Nat} (h : Blk w g n) (j : Nat) (u : Value) : Blk (w.setCell ⟨g, j, none⟩ u) g n := by
  obtain ⟨cur, h1, h2⟩ := h
  exact ⟨_, heap_setCell_same w g j cur 71 u h1, by simpa using h2⟩
theorem Blk.frozen {w : World} {g n : Nat} (h : Blk w g n) (j : Nat) : w.frozen? ⟨g, j, none⟩ = false := by
  obtain ⟨cur, h1, _⟩ := h
  simp [World.frozen?, h1]
theorem Blk.cell {w : World} {g n : Nat} (h : Blk w g n) (j : Nat) (hj : j < n * 7) : ∃ u, w.cell? ⟨g, j, none⟩ = some u := by
  obtain ⟨cur, h1, h2⟩ := h
  exact ⟨cur[j]'(by omega), by simp [World.cell?, h1]⟩

set_option maxHeartbeats 2000000 in
theorem markOpS_any (g n cap : Nat) (w : World) (hl : Blk w g n) (hn : n ≤ 1048576) (hcap : n ≤ cap) :
    Calls Tryd.prog 18 #[.slice (some ⟨g, 0, none⟩) n cap, .int .i64 1] w fun e w' => e = .returned (.int .i64 (1 + 7 * n)) ∧ OnlyBlk g w w' := by
  have HL := hideIt hl
  clear hl
  go_enter Tryd.func18, Tryd.ntmps18
  go_wp2
  go_loopw [1, 5] (fun m i wr => ∃ k : Nat, k ≤ n ∧ i = .int .i64 k ∧ m = .int .i64 (1 + 7 * k) ∧ Blk wr g n ∧ OnlyBlk g w wr)
    (fun _ i _ => n - (intOf i).toNat)
  case atStart => exact ⟨0, Nat.zero_le _, rfl, rfl, HL.out, OnlyBlk.refl _ _⟩
  case round =>
    obtain ⟨k, hk, rfl, rfl, hb, ho⟩ := hrel
    have HBK := hideIt hb
    have HO := hideIt ho
    clear ho
    by_cases hlt : k < n
    · have hfz : ∀ j, wr.frozen? ⟨g, j, none⟩ = false := fun j => hb.frozen j
      obtain ⟨u0, e0⟩ := hb.cell (k * 7) (by omega)
      obtain ⟨v1, e1⟩ := hb.cell (k * 7 + 1) (by omega)
      obtain ⟨v2, e2⟩ := hb.cell (k * 7 + 2) (by omega)
      obtain ⟨v3, e3⟩ := hb.cell (k * 7 + 3) (by omega)
      obtain ⟨v4, e4⟩ := hb.cell (k * 7 + 4) (by omega)
      obtain ⟨v5, e5⟩ := hb.cell (k * 7 + 5) (by omega)
      obtain ⟨v6, e6⟩ := hb.cell (k * 7 + 6) (by omega)
      have hlt' : (k : Int) < (n : Int) := by omega
      have hk0 : (0 : Int) ≤ (k : Int) := by omega
      clear hb
      go_wp2
      exact ⟨⟨k + 1, by omega, by go_num, by go_num, ((((((HBK.out.setCell _ _).setCell _ _).setCell _ _).setCell _ _).setCell _ _).setCell _ _).setCell _ _, ((((((HO.out.setCell _ _).setCell _ _).setCell _ _).setCell _ _).setCell _ _).setCell _ _).setCell _ _⟩, by simp [intOf]; omega⟩
    · obtain rfl : k = n := by omega
      clear hb
      go_wp2
      go_ret
      exact ⟨rfl, HO.out⟩
end Go.Proofs.YtficnhlkefpfnaaDoor

namespace Go.Proofs.YtficnhlkefpfnaaDoor
open Go.RowKit
set_option linter.unusedSimpArgs false
set_option linter.unusedVariables false

/-- Numbers that came in, from an offset on. -/
def NumsAt (w : World) (b off : Nat) (xs : List Int) : Prop := b < w.heap.size ∧ ∀ (i : Nat) (x : Int), xs[i]? = some x → w.cell? ⟨b, off + i, none⟩ = some (.int .i64 x)
theorem NumsAt.below {w w' : World} {g off B : Nat} {l : List Int} (h : NumsAt w g off l) (hb : Below B w w') (hB : g < B) : NumsAt w' g off l :=
  ⟨Nat.lt_of_lt_of_le h.1 hb.size, fun i x hx => (hb.cell (p := ⟨g, _, none⟩) hB).trans (h.2 i x hx)⟩
def ArgInts (w : World) (p : Option Addr) (l : List Int) : Prop := l = [] ∨ ∃ b off, p = some ⟨b, off, none⟩ ∧ NumsAt w b off l
theorem ArgInts.below {w w' : World} {p : Option Addr} {l : List Int} (h : ArgInts w p l) (hb : Below w.heap.size w w') : ArgInts w' p l := by
  rcases h with h | ⟨b, off, h1, h2⟩
  · exact .inl h
  · exact .inr ⟨b, off, h1, h2.below hb h2.1⟩
/-- A block of numbers that may be written; the first k are there already. -/
def IFill (w : World) (B k : Nat) (l : List Int) : Prop := ∃ cur : Array Value, w.heap[B]? = some (.cells cur 3 (0, 0)) ∧ cur.size = l.length ∧ ∀ (i : Nat) (x : Int), l[i]? = some x → i < k → cur[i]? = some (.int .i64 x)
def IBlk (w : World) (g n : Nat) : Prop := ∃ cur : Array Value, w.heap[g]? = some (.cells cur 3 (0, 0)) ∧ cur.size = n
theorem IFill.blk {w : World} {g k : Nat} {l : List Int} (h : IFill w g k l) : IBlk w g l.length := by
  obtain ⟨cur, h1, h2, _⟩ := h
  exact ⟨cur, h1, h2⟩
theorem IBlk.below {w w' : World} {g n B : Nat} (h : IBlk w g n) (hb : Below B w w') (hB : g < B) : IBlk w' g n := by
  obtain ⟨cur, h1, h2⟩ := h
  exact ⟨cur, (hb.block g hB).trans h1, h2⟩
theorem IBlk.only {w w' : World} {g b n : Nat} (h : IBlk w b n) (ho : OnlyBlk g w w') (hb : b ≠ g) : IBlk w' b n := by
  obtain ⟨cur, h1, h2⟩ := h
  exact ⟨cur, (ho.block b hb).trans h1, h2⟩
theorem IBlk.setCell {w : World} {g n : Nat} (h : IBlk w g n) (j : Nat) (u : Value) : IBlk (w.setCell ⟨g, j, none⟩ u) g n := by
  obtain ⟨cur, h1, h2⟩ := h
  exact ⟨_, heap_setCell_same w g j cur 3 u h1, by simpa using h2⟩
theorem IBlk.frozen {w : World} {g n : Nat} (h : IBlk w g n) (j : Nat) : w.frozen? ⟨g, j, none⟩ = false := by
  obtain ⟨cur, h1, _⟩ := h
  simp [World.frozen?, h1]
theorem IBlk.cell {w : World} {g n : Nat} (h : IBlk w g n) (j : Nat) (hj : j < n) : ∃ u, w.cell? ⟨g, j, none⟩ = some u := by
  obtain ⟨cur, h1, h2⟩ := h
  exact ⟨cur[j]'(by omega), by simp [World.cell?, h1]⟩
theorem IFill.step {w : World} {B k : Nat} {l : List Int} (h : IFill w B k l) (hk : k < l.length) : IFill (w.setCell ⟨B, k, none⟩ (.int .i64 l[k])) B (k + 1) l := by
  obtain ⟨cur, hb, hs, hc⟩ := h
  refine ⟨_, heap_setCell_same w B k cur 3 (.int .i64 l[k]) hb, by simpa using hs, fun i x hx hi => ?_⟩
  rw [Array.getElem?_setIfInBounds]
  by_cases e : k = i
  · subst e
    rw [List.getElem?_eq_getElem hk] at hx
    cases hx
    simp; omega
  · rw [if_neg e]
    exact hc i x hx (by omega)
theorem IFill.below {w w' : World} {B C k : Nat} {l : List Int} (h : IFill w B k l) (hb : Below C w w') (hB : B < C) : IFill w' B k l := by
  obtain ⟨cur, h1, h2, h3⟩ := h
  exact ⟨cur, (hb.block B hB).trans h1, h2, h3⟩
theorem IFill.at {w : World} {B : Nat} {l : List Int} (h : IFill w B l.length l) : IntsAt w B l := by
  obtain ⟨cur, hb, hs, hc⟩ := h
  refine ⟨(Array.getElem?_eq_some_iff.1 hb).1, fun i o ho => ?_⟩
  have hi : i < l.length := (List.getElem?_eq_some_iff.1 ho).1
  rw [cell_of_block hb]
  exact hc i o ho hi

set_option maxHeartbeats 1000000 in
theorem toIntS_some (l : List Int) (b off cap : Nat) (w : World) (hl : NumsAt w b off l) (hn : l.length ≤ 1048576) (hcap : l.length ≤ cap) :
    Calls Tryd.prog 36 #[.slice (some ⟨b, off, none⟩) l.length cap] w fun e w' => e = .returned (.slice (some ⟨w.heap.size, 0, none⟩) l.length l.length) ∧ IFill w' w.heap.size l.length l ∧ Below w.heap.size w w' := by
  obtain ⟨i0, hi, hz0, hz1, hz2⟩ := info_parts infoInt
  go_enter Tryd.func36, Tryd.ntmps36
  go_wp2_with (first
    | (at_make; refine wpList_make_full _ rfl _ _ 33 rfl w.heap.size 3 i0 _ 1 Tryd.underlying33 hi hz0 hz1 .i64 .i64 _ _ l.length rfl rfl rfl rfl (by rw [hz2]; omega) (by unfold maxLen; omega) (Nat.le_refl _) ?_; intro w1 hown hgrow))
  clear hi hz0 hz1 hz2
  have hB1 : Below w.heap.size w w1 := (Below.refl _ _).grown hgrow (Nat.le_refl _) (fun k h => by cases h)
  have hF0 : IFill w1 w.heap.size 0 l := by
    obtain ⟨_, ⟨h, _⟩ | ⟨g, cap', cur, hv, _, hb, _, _, hs, _⟩⟩ := hown
    · cases h
    · simp only [Value.slice.injEq, Option.some.injEq, Addr.mk.injEq] at hv
      obtain ⟨⟨rfl, _⟩, _, rfl⟩ := hv
      exact ⟨cur, hb, by simpa using hs, fun i o _ h => by omega⟩
  clear hown hgrow
  go_loopw [4] (fun i wr => ∃ k : Nat, k ≤ l.length ∧ i = .int .i64 k ∧ IFill wr w.heap.size k l ∧ Below w.heap.size w wr)
    (fun i _ => l.length - (intOf i).toNat)
  case atStart => exact ⟨0, Nat.zero_le _, rfl, hF0, hB1⟩
  case round =>
    obtain ⟨k, hk, rfl, hF, hB⟩ := hrel
    have HB : Hid (Below w.heap.size w wr) := hB
    have HF : Hid (IFill wr w.heap.size k l) := hF
    by_cases hlt : k < l.length
    · have h0 := (hl.below hB hl.1).2 k l[k] (by simp [hlt])
      have hbk := (hl.below hB hl.1).1
      have hBlt : w.heap.size < wr.heap.size := by obtain ⟨cur, hblk, _⟩ := hF; exact (Array.getElem?_eq_some_iff.1 hblk).1
      have hfz : ∀ o, wr.frozen? ⟨w.heap.size, o, none⟩ = false := fun o => hF.blk.frozen o
      obtain ⟨u0, e0⟩ := hF.blk.cell k hlt
      have hlt' : (k : Int) < (l.length : Int) := by omega
      have hk0 : (0 : Int) ≤ (k : Int) := by omega
      have HST := hideIt (HF.out.step hlt)
      generalize l[k] = x at *
      clear hB hF hl hB1 hF0
      go_wp2
      exact ⟨⟨k + 1, by omega, by go_num, HST.out, HB.out.setCell (Nat.le_refl _) _⟩, by simp [intOf]; omega⟩
    · obtain rfl : k = l.length := by omega
      clear hB hF hl hB1 hF0
      go_wp2
      go_ret
      exact ⟨rfl, HF.out, HB.out⟩

set_option maxHeartbeats 1000000 in
theorem toIntS_zero (p : Option Addr) (cap : Nat) (w : World) :
    Calls Tryd.prog 36 #[.slice p 0 cap] w fun e w' => e = .returned (.slice (some ⟨w.heap.size, 0, none⟩) 0 0) ∧ IFill w' w.heap.size 0 [] ∧ Below w.heap.size w w' := by
  obtain ⟨i0, hi, hz0, hz1, hz2⟩ := info_parts infoInt
  go_enter Tryd.func36, Tryd.ntmps36
  go_wp2_with (first
    | (at_make; refine wpList_make_full _ rfl _ _ 33 rfl w.heap.size 3 i0 _ 1 Tryd.underlying33 hi hz0 hz1 .i64 .i64 _ _ 0 rfl rfl rfl rfl (by omega) (by unfold maxLen; omega) (Nat.le_refl _) ?_; intro w1 hown hgrow))
  clear hi hz0 hz1 hz2
  have hB1 : Below w.heap.size w w1 := (Below.refl _ _).grown hgrow (Nat.le_refl _) (fun k h => by cases h)
  have hF0 : IFill w1 w.heap.size 0 [] := by
    obtain ⟨_, ⟨h, _⟩ | ⟨g, cap', cur, hv, _, hb, _, _, hs, _⟩⟩ := hown
    · cases h
    · simp only [Value.slice.injEq, Option.some.injEq, Addr.mk.injEq] at hv
      obtain ⟨⟨rfl, _⟩, _, rfl⟩ := hv
      exact ⟨cur, hb, by simpa using hs, fun i o _ h => by omega⟩
  clear hown hgrow
  refine wp_loop_rounds 1 ?_
  rw [rounds_succ]
  go_wp2
  go_ret
  exact ⟨rfl, hF0, hB1⟩
theorem toIntS_any (l : List Int) (p : Option Addr) (cap : Nat) (w : World) (hl : ArgInts w p l) (hn : l.length ≤ 1048576) (hcap : l.length ≤ cap) :
    Calls Tryd.prog 36 #[.slice p l.length cap] w fun e w' => e = .returned (.slice (some ⟨w.heap.size, 0, none⟩) l.length l.length) ∧ IntsAt w' w.heap.size l ∧ IBlk w' w.heap.size l.length ∧ Below w.heap.size w w' := by
  rcases hl with rfl | ⟨b, off, rfl, hl⟩
  · refine (toIntS_zero p cap w).mono ?_
    rintro e w' ⟨rfl, hF, hB⟩
    exact ⟨rfl, hF.at, hF.blk, hB⟩
  · refine (toIntS_some l b off cap w hl hn hcap).mono ?_
    rintro e w' ⟨rfl, hF, hB⟩
    exact ⟨rfl, hF.at, hF.blk, hB⟩
set_option maxHeartbeats 2000000 in
theorem markIntS_any (g n cap m0 : Nat) (w : World) (hl : IBlk w g n) (hn : n ≤ 1048576) (hcap : n ≤ cap) (hm : m0 ≤ 9437184) :
    Calls Tryd.prog 39 #[.slice (some ⟨g, 0, none⟩) n cap, .int .i64 m0] w fun e w' => e = .returned (.int .i64 ((m0 : Int) + n)) ∧ OnlyBlk g w w' := by
  have HL := hideIt hl
  clear hl
  go_enter Tryd.func39, Tryd.ntmps39
  go_wp2
  go_loopw [1, 5] (fun m i wr => ∃ k : Nat, k ≤ n ∧ i = .int .i64 k ∧ m = .int .i64 ((m0 : Int) + k) ∧ IBlk wr g n ∧ OnlyBlk g w wr)
    (fun _ i _ => n - (intOf i).toNat)
  case atStart => exact ⟨0, Nat.zero_le _, rfl, by simp, HL.out, OnlyBlk.refl _ _⟩
  case round =>
    obtain ⟨k, hk, rfl, rfl, hb, ho⟩ := hrel
    have HBK := hideIt hb
    have HO := hideIt ho
    clear ho
    by_cases hlt : k < n
    · have hfz : ∀ j, wr.frozen? ⟨g, j, none⟩ = false := fun j => hb.frozen j
      obtain ⟨u0, e0⟩ := hb.cell k (by omega)
      have hlt' : (k : Int) < (n : Int) := by omega
      have hk0 : (0 : Int) ≤ (k : Int) := by omega
      clear hb
      go_wp2
      exact ⟨⟨k + 1, by omega, by go_num, by go_num, HBK.out.setCell _ _, HO.out.setCell _ _⟩, by simp [intOf]; omega⟩
    · obtain rfl : k = n := by omega
      clear hb
      go_wp2
      go_ret
      exact ⟨rfl, HO.out⟩
end Go.Proofs.YtficnhlkefpfnaaDoor

namespace Go.Proofs.YtficnhlkefpfnaaDoor
open Go.RowKit
set_option linter.unusedSimpArgs false
set_option linter.unusedVariables false
attribute [local go_sem ↓] Go.wp_at_zero Go.wp_at_succ

theorem szInts_ok (p : Option Addr) (n cap k : Nat) (w : World) (hk : k ≤ 1048576) (hn : n ≤ k) :
    Calls Tryd.prog 61 #[.slice p n cap, .int .i64 k] w fun e w' => e = .returned (.int .i64 ((k - n : Nat) : Int)) ∧ w' = w := by
  have h1 : IntKind.i64.wrap ((k : Int) - (n : Int)) = ((k - n : Nat) : Int) := by rw [IntWalk.i64_in _ ⟨by omega, by omega⟩]; omega
  have h2 : ¬ (((k - n : Nat) : Int) < 0) := by omega
  go_enter Tryd.func61, Tryd.ntmps61
  go_wp2
  go_ret
  exact ⟨rfl, rfl⟩
theorem szInts_no (p : Option Addr) (n cap k : Nat) (w : World) (hk : k ≤ 1048576) (hn : k < n) (hm : n ≤ maxLen) :
    Calls Tryd.prog 61 #[.slice p n cap, .int .i64 k] w fun e w' => e = .returned (.int .i64 (-1)) ∧ w' = w := by
  unfold maxLen at hm
  obtain ⟨d, hd⟩ : ∃ d : Int, (k : Int) - (n : Int) = d := ⟨_, rfl⟩
  have h1 : IntKind.i64.wrap ((k : Int) - (n : Int)) = d := by rw [IntWalk.i64_in _ ⟨by omega, by omega⟩]; exact hd
  have h2 : d < 0 := by omega
  clear hd
  go_enter Tryd.func61, Tryd.ntmps61
  go_wp2
  go_ret
  exact ⟨rfl, rfl⟩
theorem szDoc_val (p q : Option Addr) (n cap m cap2 : Nat) (w : World) (h : n + m ≤ 1048576) :
    Calls Tryd.prog 40 #[.agg #[.slice p n cap, .slice q m cap2], .int .i64 1048576] w fun e w' => e = .returned (.int .i64 ((1048576 - n - m : Nat) : Int)) ∧ Below w.heap.size w w' := by
  have HB0 : Hid (Below w.heap.size w (w.alloc (.cells #[.slice p n cap, .slice q m cap2] 32))) := (Below.refl _ _).alloc (Nat.le_refl _) _
  have h3 : ¬ (((1048576 - n : Nat) : Int) < 0) := by omega
  have h4 : ¬ (((1048576 - n - m : Nat) : Int) < 0) := by omega
  go_enter Tryd.func40, Tryd.ntmps40
  go_wp2_with fail
  refine (szAny_ok p n cap 1048576 _ (Nat.le_refl _) (by omega)).mono ?_
  rintro e w' ⟨rfl, rfl⟩
  go_wp2_with fail
  refine (szAny_ok q m cap2 (1048576 - n) _ (by omega) (by omega)).mono ?_
  rintro e w' ⟨rfl, rfl⟩
  go_wp2
  go_ret
  exact ⟨rfl, HB0.out⟩
theorem szDesk_ok (r : Int) (p q t : Option Addr) (n cap m cap2 k cap3 : Nat) (w : World) (h : n + m + k ≤ 1048576) :
    Calls Tryd.prog 20 #[.agg #[.int .i64 r, .slice p n cap, .slice q m cap2, .slice t k cap3], .int .i64 1048576] w fun e w' => (∃ s : Nat, e = .returned (.int .i64 s)) ∧ Below w.heap.size w w' := by
  have HB0 : Hid (Below w.heap.size w (w.alloc (.cells #[.int .i64 r, .slice p n cap, .slice q m cap2, .slice t k cap3] 35))) := (Below.refl _ _).alloc (Nat.le_refl _) _
  have hD0 : (w.alloc (.cells #[.int .i64 r, .slice p n cap, .slice q m cap2, .slice t k cap3] 35)).heap[w.heap.size]? = some (.cells #[.int .i64 r, .slice p n cap, .slice q m cap2, .slice t k cap3] 35 (0, 0)) := World.alloc_heap_new _ _
  have HD0 := hideIt hD0
  clear hD0
  have h3 : ¬ (((1048576 - n - m : Nat) : Int) < 0) := by omega
  have h4 : ¬ (((1048576 - n - m - k : Nat) : Int) < 0) := by omega
  go_enter Tryd.func20, Tryd.ntmps20
  go_wp2_with fail
  refine (szDoc_val p q n cap m cap2 _ (by omega)).mono ?_
  rintro e w1 ⟨rfl, hb1⟩
  have HB1 := hideIt (Bstep HB0.out hb1)
  have hd := blk_below HD0.out hb1
  have d3 := (blk_cell hd 3).trans rfl
  have dl := (Array.getElem?_eq_some_iff.1 hd).1
  clear hb1 hd HD0 HB0
  go_wp2_with fail
  refine (szInts_ok t k cap3 (1048576 - n - m) _ (by omega) (by omega)).mono ?_
  rintro e w' ⟨rfl, hw⟩
  rw [hw]
  clear hw
  go_wp2
  go_ret
  exact ⟨⟨_, rfl⟩, HB1.out⟩
theorem szDesk_no (r : Int) (p q t : Option Addr) (n cap m cap2 k cap3 : Nat) (w : World) (h : ¬ n + m + k ≤ 1048576) (hn : n ≤ maxLen) (hm : m ≤ maxLen) (hk : k ≤ maxLen) :
    Calls Tryd.prog 20 #[.agg #[.int .i64 r, .slice p n cap, .slice q m cap2, .slice t k cap3], .int .i64 1048576] w fun e w' => e = .returned (.int .i64 (-1)) ∧ Below w.heap.size w w' := by
  have HB0 : Hid (Below w.heap.size w (w.alloc (.cells #[.int .i64 r, .slice p n cap, .slice q m cap2, .slice t k cap3] 35))) := (Below.refl _ _).alloc (Nat.le_refl _) _
  have hD0 : (w.alloc (.cells #[.int .i64 r, .slice p n cap, .slice q m cap2, .slice t k cap3] 35)).heap[w.heap.size]? = some (.cells #[.int .i64 r, .slice p n cap, .slice q m cap2, .slice t k cap3] 35 (0, 0)) := World.alloc_heap_new _ _
  have HD0 := hideIt hD0
  clear hD0
  go_enter Tryd.func20, Tryd.ntmps20
  go_wp2_with fail
  by_cases hnm : n + m ≤ 1048576
  · have h3 : ¬ (((1048576 - n - m : Nat) : Int) < 0) := by omega
    refine (szDoc_val p q n cap m cap2 _ hnm).mono ?_
    rintro e w1 ⟨rfl, hb1⟩
    have HB1 := hideIt (Bstep HB0.out hb1)
    have hd := blk_below HD0.out hb1
    have d3 := (blk_cell hd 3).trans rfl
    have dl := (Array.getElem?_eq_some_iff.1 hd).1
    clear hb1 hd HD0 HB0
    go_wp2_with fail
    refine (szInts_no t k cap3 (1048576 - n - m) _ (by omega) (by omega) hk).mono ?_
    rintro e w' ⟨rfl, hw⟩
    rw [hw]
    clear hw
    go_wp2
    go_ret
    exact ⟨rfl, HB1.out⟩
  · refine (szDoc_no p q n cap m cap2 _ hnm hn hm).mono ?_
    rintro e w1 ⟨rfl, hb1⟩
    have HB1 := hideIt (Bstep HB0.out hb1)
    clear hb1 HD0 HB0
    go_wp2
    go_ret
    exact ⟨rfl, HB1.out⟩

theorem IntsAt.away {W : World} {g b i : Nat} {l : List Int} {u : Value} (h : IntsAt W g l) (hne : g ≠ b) : IntsAt (W.setCell ⟨b, i, none⟩ u) g l := by
  refine ⟨by simpa using h.1, fun j o ho => ?_⟩
  exact (World.cell?_setCell_other _ _ _ _ (by intro he; have := congrArg Addr.block he; simp at this; omega)).trans (h.2 j o ho)
theorem set_cs {W : World} {b i : Nat} {T : TypeId} {cs : Array Value} {u : Value} (h : W.heap[b]? = some (.cells cs T (0, 0))) : (W.setCell ⟨b, i, none⟩ u).heap[b]? = some (.cells (cs.setIfInBounds i u) T (0, 0)) := by
  simp only [World.setCell, Array.getElem?_modify, if_true, h, Option.map_some]
  rfl
set_option maxRecDepth 100000 in
set_option maxHeartbeats 1000000 in
theorem toDocB_any (l ws : List Op7) (p q : Option Addr) (cap cap2 : Nat) (w : World) (hl : ArgOps w p l) (hn : l.length ≤ 1048576) (hcap : l.length ≤ cap) (hs : ArgOps w q ws) (hn2 : ws.length ≤ 1048576) (hcap2 : ws.length ≤ cap2) :
    Calls Tryd.prog 42 #[.agg #[.slice p l.length cap, .slice q ws.length cap2]] w fun e w' => (∃ g g2, e = .returned (.agg #[.slice (some ⟨g, 0, none⟩) l.length l.length, .slice (some ⟨g2, 0, none⟩) ws.length ws.length]) ∧ OpsAt w' g l ∧ OpsAt w' g2 ws ∧ w.heap.size ≤ g ∧ w.heap.size ≤ g2) ∧ Below w.heap.size w w' := by
  have HL := hideIt hl
  have HS := hideIt hs
  clear hl hs
  obtain ⟨W0, hW0⟩ : ∃ W0, ((w.alloc (.cells #[.slice p l.length cap, .slice q ws.length cap2] 32)).alloc (.cells #[.slice none 0 0, .slice none 0 0] 39)).alloc (.cells #[.slice none 0 0, .slice none 0 0] 39) = W0 := ⟨_, rfl⟩
  have hB0 : Below w.heap.size w W0 := by rw [← hW0]; exact (((Below.refl _ _).alloc (Nat.le_refl _) _).alloc (by simp) _).alloc (by simp; omega) _
  have hA0 : W0.heap[w.heap.size]? = some (.cells #[.slice p l.length cap, .slice q ws.length cap2] 32 (0, 0)) := by
    rw [← hW0]
    exact blk_below (World.alloc_heap_new _ _) (((Below.refl _ _).alloc (Nat.le_refl _) _).alloc (by simp) _)
  have hR0 : W0.heap[w.heap.size + 1]? = some (.cells #[.slice none 0 0, .slice none 0 0] 39 (0, 0)) := by
    rw [← hW0]
    have h := World.alloc_heap_new (w.alloc (.cells #[.slice p l.length cap, .slice q ws.length cap2] 32)) (.cells #[.slice none 0 0, .slice none 0 0] 39)
    rw [World.size_alloc] at h
    exact blk_below h ((Below.refl _ _).alloc (Nat.le_refl _) _)
  have hO0 : W0.heap[w.heap.size + 1 + 1]? = some (.cells #[.slice none 0 0, .slice none 0 0] 39 (0, 0)) := by
    rw [← hW0]
    have h := World.alloc_heap_new ((w.alloc (.cells #[.slice p l.length cap, .slice q ws.length cap2] 32)).alloc (.cells #[.slice none 0 0, .slice none 0 0] 39)) (.cells #[.slice none 0 0, .slice none 0 0] 39)
    rw [World.size_alloc, World.size_alloc] at h
    exact h
  have HB0 := hideIt hB0
  have HA0 := hideIt hA0
  have HR0 := hideIt hR0
  have HO0 := hideIt hO0
  have HW0 := hideIt hW0
  clear hB0 hA0 hR0 hO0 hW0
  go_enter Tryd.func42, Tryd.ntmps42
  go_wp2_with fail
  rw [HW0.out]
  clear HW0
  have hz0 : w.heap.size + 1 + 1 < W0.heap.size := (Array.getElem?_eq_some_iff.1 HO0.out).1
  refine (toOpS_any l p cap _ (HL.out.below HB0.out) hn hcap).mono ?_
  rintro e w1 ⟨rfl, hA1, hb1⟩
  have HG := hideIt hA1
  have hG1 : w.heap.size ≤ W0.heap.size := by omega
  have HB1 := hideIt (Bstep HB0.out hb1)
  have HA1 := hideIt (blk_below HA0.out hb1)
  have HR1 := hideIt (blk_below HR0.out hb1)
  have HO1 := hideIt (blk_below HO0.out hb1)
  clear hA1 hb1 HB0 HA0 HR0 HO0
  generalize W0.heap.size = G at *
  have a1 := (blk_cell HA1.out 1).trans rfl
  have al := (Array.getElem?_eq_some_iff.1 HA1.out).1
  have o0 := (blk_cell HO1.out 0).trans rfl
  have o1 := (blk_cell HO1.out 1).trans rfl
  have ol := (Array.getElem?_eq_some_iff.1 HO1.out).1
  have of : ∀ j, w1.frozen? ⟨w.heap.size + 1 + 1, j, none⟩ = false := fun j => by simp [World.frozen?, HO1.out]
  go_wp2_with fail
  have HO2 := hideIt (set_fst (u' := .slice (some ⟨G, 0, none⟩) l.length l.length) HO1.out)
  have HR2 := hideIt (set_off (c := w.heap.size + 1 + 1) (i := 0) (u := .slice (some ⟨G, 0, none⟩) l.length l.length) HR1.out (by omega))
  have HG2 := hideIt (OpsAt.away (b := w.heap.size + 1 + 1) (i := 0) (u := .slice (some ⟨G, 0, none⟩) l.length l.length) HG.out (by omega))
  have HB2 := hideIt (HB1.out.setCell (p := ⟨w.heap.size + 1 + 1, 0, none⟩) (by show w.heap.size ≤ w.heap.size + 1 + 1; omega) (.slice (some ⟨G, 0, none⟩) l.length l.length))
  clear HO1 HR1 HG HB1 a1 al o0 o1 ol of HA1
  generalize w1.setCell ⟨w.heap.size + 1 + 1, 0, none⟩ (.slice (some ⟨G, 0, none⟩) l.length l.length) = W2 at *
  refine (toOpS_any ws q cap2 _ (HS.out.below HB2.out) hn2 hcap2).mono ?_
  rintro e w3 ⟨rfl, hA3, hb3⟩
  have HK3 := hideIt hA3
  have HG3 := hideIt (HG2.out.below hb3 HG2.out.1)
  have HB3 := hideIt (Bstep HB2.out hb3)
  have HO3 := hideIt (blk_below HO2.out hb3)
  have HR3 := hideIt (blk_below HR2.out hb3)
  have hz2 : w.heap.size + 1 + 1 < W2.heap.size := (Array.getElem?_eq_some_iff.1 HO2.out).1
  clear hA3 hb3 HO2 HR2 HG2 HB2
  generalize W2.heap.size = K2 at *
  have o0 := (blk_cell HO3.out 0).trans rfl
  have o1 := (blk_cell HO3.out 1).trans rfl
  have ol := (Array.getElem?_eq_some_iff.1 HO3.out).1
  have of : ∀ j, w3.frozen? ⟨w.heap.size + 1 + 1, j, none⟩ = false := fun j => by simp [World.frozen?, HO3.out]
  have r0 := (blk_cell HR3.out 0).trans rfl
  have r1 := (blk_cell HR3.out 1).trans rfl
  have rl := (Array.getElem?_eq_some_iff.1 HR3.out).1
  have rf : ∀ j, w3.frozen? ⟨w.heap.size + 1, j, none⟩ = false := fun j => by simp [World.frozen?, HR3.out]
  have n1 : ¬ w.heap.size + 1 + 1 = w.heap.size + 1 := by omega
  have n2 : ¬ w.heap.size + 1 = w.heap.size + 1 + 1 := by omega
  go_wp2
  have hb9 := set_snd (v' := .slice (some ⟨K2, 0, none⟩) ws.length ws.length) (set_fst (u' := .slice (some ⟨G, 0, none⟩) l.length l.length) (set_off (c := w.heap.size + 1 + 1) (i := 1) (u := .slice (some ⟨K2, 0, none⟩) ws.length ws.length) HR3.out n2))
  have v0 := (blk_cell hb9 0).trans rfl
  have v1 := (blk_cell hb9 1).trans rfl
  exact bodyPost_ret (v := .agg #[.slice (some ⟨G, 0, none⟩) l.length l.length, .slice (some ⟨K2, 0, none⟩) ws.length ws.length]) (by simp [results, Tryd.results42, go_sem, v0, v1]) rfl
    ⟨⟨G, K2, rfl, ((HG3.out.away (by omega)).away (by omega)).away (by omega), ((HK3.out.away (by omega)).away (by omega)).away (by omega), by omega, by omega⟩,
      ((HB3.out.setCell (p := ⟨w.heap.size + 1 + 1, 1, none⟩) (by show w.heap.size ≤ w.heap.size + 1 + 1; omega) _).setCell (p := ⟨w.heap.size + 1, 0, none⟩) (by show w.heap.size ≤ w.heap.size + 1; omega) _).setCell (p := ⟨w.heap.size + 1, 1, none⟩) (by show w.heap.size ≤ w.heap.size + 1; omega) _⟩

/-- What toDesk makes. -/
def DeskMade (W : World) (e : Ending) (r : Int) (l ws : List Op7) (s : List Int) : Prop := ∃ g g2 g3, e = .returned (.agg #[.int .i64 r, .slice (some ⟨g, 0, none⟩) l.length l.length, .slice (some ⟨g2, 0, none⟩) ws.length ws.length, .slice (some ⟨g3, 0, none⟩) s.length s.length]) ∧ OpsAt W g l ∧ OpsAt W g2 ws ∧ IntsAt W g3 s
set_option maxRecDepth 100000 in
set_option maxHeartbeats 2000000 in
theorem toDesk_any (r : Int) (l ws : List Op7) (s : List Int) (p q t : Option Addr) (cap cap2 cap3 : Nat) (w : World) (hl : ArgOps w p l) (hn : l.length ≤ 1048576) (hcap : l.length ≤ cap) (hs : ArgOps w q ws) (hn2 : ws.length ≤ 1048576) (hcap2 : ws.length ≤ cap2) (hi : ArgInts w t s) (hn3 : s.length ≤ 1048576) (hcap3 : s.length ≤ cap3) :
    Calls Tryd.prog 22 #[.agg #[.int .i64 r, .slice p l.length cap, .slice q ws.length cap2, .slice t s.length cap3]] w fun e w' => DeskMade w' e r l ws s ∧ Below w.heap.size w w' := by
  have HL := hideIt hl
  have HS := hideIt hs
  have HI := hideIt hi
  clear hl hs hi
  obtain ⟨W0, hW0⟩ : ∃ W0, ((w.alloc (.cells #[.int .i64 r, .slice p l.length cap, .slice q ws.length cap2, .slice t s.length cap3] 35)).alloc (.cells #[.int .i64 0, .slice none 0 0, .slice none 0 0, .slice none 0 0] 41)).alloc (.cells #[.int .i64 r, .slice none 0 0, .slice none 0 0, .slice none 0 0] 41) = W0 := ⟨_, rfl⟩
  have hB0 : Below w.heap.size w W0 := by rw [← hW0]; exact (((Below.refl _ _).alloc (Nat.le_refl _) _).alloc (by simp) _).alloc (by simp; omega) _
  have hA0 : W0.heap[w.heap.size]? = some (.cells #[.int .i64 r, .slice p l.length cap, .slice q ws.length cap2, .slice t s.length cap3] 35 (0, 0)) := by
    rw [← hW0]
    exact blk_below (World.alloc_heap_new _ _) (((Below.refl _ _).alloc (Nat.le_refl _) _).alloc (by simp) _)
  have hR0 : W0.heap[w.heap.size + 1]? = some (.cells #[.int .i64 0, .slice none 0 0, .slice none 0 0, .slice none 0 0] 41 (0, 0)) := by
    rw [← hW0]
    have h := World.alloc_heap_new (w.alloc (.cells #[.int .i64 r, .slice p l.length cap, .slice q ws.length cap2, .slice t s.length cap3] 35)) (.cells #[.int .i64 0, .slice none 0 0, .slice none 0 0, .slice none 0 0] 41)
    rw [World.size_alloc] at h
    exact blk_below h ((Below.refl _ _).alloc (Nat.le_refl _) _)
  have hO0 : W0.heap[w.heap.size + 1 + 1]? = some (.cells #[.int .i64 r, .slice none 0 0, .slice none 0 0, .slice none 0 0] 41 (0, 0)) := by
    rw [← hW0]
    have h := World.alloc_heap_new ((w.alloc (.cells #[.int .i64 r, .slice p l.length cap, .slice q ws.length cap2, .slice t s.length cap3] 35)).alloc (.cells #[.int .i64 0, .slice none 0 0, .slice none 0 0, .slice none 0 0] 41)) (.cells #[.int .i64 r, .slice none 0 0, .slice none 0 0, .slice none 0 0] 41)
    rw [World.size_alloc, World.size_alloc] at h
    exact h
  have HB0 := hideIt hB0
  have HA0 := hideIt hA0
  have HR0 := hideIt hR0
  have HO0 := hideIt hO0
  have HW0 := hideIt hW0
  clear hB0 hA0 hR0 hO0 hW0
  go_enter Tryd.func22, Tryd.ntmps22
  go_wp2_with fail
  rw [HW0.out]
  clear HW0
  have hz0 : w.heap.size + 1 + 1 < W0.heap.size := (Array.getElem?_eq_some_iff.1 HO0.out).1
  refine (toDocB_any l ws p q cap cap2 _ (HL.out.below HB0.out) hn hcap (HS.out.below HB0.out) hn2 hcap2).mono ?_
  rintro e w1 ⟨⟨g, g2, rfl, hg, hg2, hgg, hgg2⟩, hb1⟩
  have hgz : w.heap.size + 1 + 1 < w1.heap.size := Nat.lt_of_lt_of_le hz0 hb1.size
  have HB1 := hideIt (Bstep HB0.out hb1)
  have HA1 := hideIt (blk_below HA0.out hb1)
  have HR1 := hideIt (blk_below HR0.out hb1)
  have HO1 := hideIt (blk_below HO0.out hb1)
  have HG := hideIt hg
  have HG2 := hideIt hg2
  clear hg hg2 HB0 HA0 HR0 HO0
  have a3 := (blk_cell HA1.out 3).trans rfl
  have al := (Array.getElem?_eq_some_iff.1 HA1.out).1
  have o0 := (blk_cell HO1.out 0).trans rfl
  have o1 := (blk_cell HO1.out 1).trans rfl
  have o2 := (blk_cell HO1.out 2).trans rfl
  have o3 := (blk_cell HO1.out 3).trans rfl
  have of : ∀ j, w1.frozen? ⟨w.heap.size + 1 + 1, j, none⟩ = false := fun j => by simp [World.frozen?, HO1.out]
  go_wp2_with fail
  have HO2 := hideIt (set_cs (i := 2) (u := .slice (some ⟨g2, 0, none⟩) ws.length ws.length) (set_cs (i := 1) (u := .slice (some ⟨g, 0, none⟩) l.length l.length) HO1.out))
  have HA2 := hideIt (set_off (i := 2) (u := .slice (some ⟨g2, 0, none⟩) ws.length ws.length) (set_off (c := w.heap.size + 1 + 1) (i := 1) (u := .slice (some ⟨g, 0, none⟩) l.length l.length) HA1.out (by omega)) (show w.heap.size ≠ w.heap.size + 1 + 1 by omega))
  have HR2 := hideIt (set_off (i := 2) (u := .slice (some ⟨g2, 0, none⟩) ws.length ws.length) (set_off (c := w.heap.size + 1 + 1) (i := 1) (u := .slice (some ⟨g, 0, none⟩) l.length l.length) HR1.out (by omega)) (show w.heap.size + 1 ≠ w.heap.size + 1 + 1 by omega))
  have HG' := hideIt (OpsAt.away (i := 2) (u := .slice (some ⟨g2, 0, none⟩) ws.length ws.length) (OpsAt.away (b := w.heap.size + 1 + 1) (i := 1) (u := .slice (some ⟨g, 0, none⟩) l.length l.length) HG.out (by omega)) (show g ≠ w.heap.size + 1 + 1 by omega))
  have HG2' := hideIt (OpsAt.away (i := 2) (u := .slice (some ⟨g2, 0, none⟩) ws.length ws.length) (OpsAt.away (b := w.heap.size + 1 + 1) (i := 1) (u := .slice (some ⟨g, 0, none⟩) l.length l.length) HG2.out (by omega)) (show g2 ≠ w.heap.size + 1 + 1 by omega))
  have HB2 := hideIt ((HB1.out.setCell (p := ⟨w.heap.size + 1 + 1, 1, none⟩) (by show w.heap.size ≤ w.heap.size + 1 + 1; omega) (.slice (some ⟨g, 0, none⟩) l.length l.length)).setCell (p := ⟨w.heap.size + 1 + 1, 2, none⟩) (by show w.heap.size ≤ w.heap.size + 1 + 1; omega) (.slice (some ⟨g2, 0, none⟩) ws.length ws.length))
  clear HO1 HA1 HR1 HG HG2 HB1 a3 al o0 o1 o2 o3 of
  have hgz2 : w.heap.size + 1 + 1 < ((w1.setCell ⟨w.heap.size + 1 + 1, 1, none⟩ (.slice (some ⟨g, 0, none⟩) l.length l.length)).setCell ⟨w.heap.size + 1 + 1, 2, none⟩ (.slice (some ⟨g2, 0, none⟩) ws.length ws.length)).heap.size := by simpa using hgz
  generalize (w1.setCell ⟨w.heap.size + 1 + 1, 1, none⟩ (.slice (some ⟨g, 0, none⟩) l.length l.length)).setCell ⟨w.heap.size + 1 + 1, 2, none⟩ (.slice (some ⟨g2, 0, none⟩) ws.length ws.length) = W2 at *
  refine (toIntS_any s t cap3 _ (HI.out.below HB2.out) hn3 hcap3).mono ?_
  rintro e w3 ⟨rfl, hi3, _, hb3⟩
  have HI3 := hideIt hi3
  have HG3 := hideIt (HG'.out.below hb3 HG'.out.1)
  have HK3 := hideIt (HG2'.out.below hb3 HG2'.out.1)
  have HB3 := hideIt (Bstep HB2.out hb3)
  have HO3 := hideIt (blk_below HO2.out hb3)
  have HR3 := hideIt (blk_below HR2.out hb3)
  clear hi3 hb3 HO2 HA2 HR2 HG' HG2' HB2
  generalize W2.heap.size = C at *
  have o0 := (blk_cell HO3.out 0).trans rfl
  have o1 := (blk_cell HO3.out 1).trans rfl
  have o2 := (blk_cell HO3.out 2).trans rfl
  have o3 := (blk_cell HO3.out 3).trans rfl
  have ol := (Array.getElem?_eq_some_iff.1 HO3.out).1
  have of : ∀ j, w3.frozen? ⟨w.heap.size + 1 + 1, j, none⟩ = false := fun j => by simp [World.frozen?, HO3.out]
  have r0 := (blk_cell HR3.out 0).trans rfl
  have r1 := (blk_cell HR3.out 1).trans rfl
  have r2 := (blk_cell HR3.out 2).trans rfl
  have r3 := (blk_cell HR3.out 3).trans rfl
  have rl := (Array.getElem?_eq_some_iff.1 HR3.out).1
  have rf : ∀ j, w3.frozen? ⟨w.heap.size + 1, j, none⟩ = false := fun j => by simp [World.frozen?, HR3.out]
  have n1 : ¬ w.heap.size + 1 + 1 = w.heap.size + 1 := by omega
  have n2 : ¬ w.heap.size + 1 = w.heap.size + 1 + 1 := by omega
  go_wp2
  have hb9 := set_cs (i := 3) (u := .slice (some ⟨C, 0, none⟩) s.length s.length) (set_cs (i := 2) (u := .slice (some ⟨g2, 0, none⟩) ws.length ws.length) (set_cs (i := 1) (u := .slice (some ⟨g, 0, none⟩) l.length l.length) (set_cs (i := 0) (u := .int .i64 r) (set_off (c := w.heap.size + 1 + 1) (i := 3) (u := .slice (some ⟨C, 0, none⟩) s.length s.length) HR3.out n2))))
  have v0 := (blk_cell hb9 0).trans rfl
  have v1 := (blk_cell hb9 1).trans rfl
  have v2 := (blk_cell hb9 2).trans rfl
  have v3 := (blk_cell hb9 3).trans rfl
  exact bodyPost_ret (v := .agg #[.int .i64 r, .slice (some ⟨g, 0, none⟩) l.length l.length, .slice (some ⟨g2, 0, none⟩) ws.length ws.length, .slice (some ⟨C, 0, none⟩) s.length s.length]) (by simp [results, Tryd.results22, go_sem, v0, v1, v2, v3]) rfl
    ⟨⟨g, g2, C, rfl, ((((HG3.out.away (by omega)).away (by omega)).away (by omega)).away (by omega)).away (by omega), ((((HK3.out.away (by omega)).away (by omega)).away (by omega)).away (by omega)).away (by omega), ((((HI3.out.away (by omega)).away (by omega)).away (by omega)).away (by omega)).away (by omega)⟩,
      ((((HB3.out.setCell (p := ⟨w.heap.size + 1 + 1, 3, none⟩) (by show w.heap.size ≤ w.heap.size + 1 + 1; omega) _).setCell (p := ⟨w.heap.size + 1, 0, none⟩) (by show w.heap.size ≤ w.heap.size + 1; omega) _).setCell (p := ⟨w.heap.size + 1, 1, none⟩) (by show w.heap.size ≤ w.heap.size + 1; omega) _).setCell (p := ⟨w.heap.size + 1, 2, none⟩) (by show w.heap.size ≤ w.heap.size + 1; omega) _).setCell (p := ⟨w.heap.size + 1, 3, none⟩) (by show w.heap.size ≤ w.heap.size + 1; omega) _⟩

set_option maxHeartbeats 1000000 in
theorem eqDesk_same (r : Int) (l ws : List Op7) (s : List Int) (g g2 g3 h h2 h3 : Nat) (w : World) (h1 : OpsAt w g l) (h2' : OpsAt w g2 ws) (h3' : IntsAt w g3 s) (k1 : OpsAt w h l) (k2 : OpsAt w h2 ws) (k3 : IntsAt w h3 s) (hn : l.length ≤ 1048576) (hn2 : ws.length ≤ 1048576) (hn3 : s.length ≤ 1048576) :
    Calls Tryd.prog 24 #[.agg #[.int .i64 r, .slice (some ⟨g, 0, none⟩) l.length l.length, .slice (some ⟨g2, 0, none⟩) ws.length ws.length, .slice (some ⟨g3, 0, none⟩) s.length s.length], .agg #[.int .i64 r, .slice (some ⟨h, 0, none⟩) l.length l.length, .slice (some ⟨h2, 0, none⟩) ws.length ws.length, .slice (some ⟨h3, 0, none⟩) s.length s.length]] w fun e w' => e = .returned (.bool true) ∧ Below w.heap.size w w' := by
  have H1 := hideIt h1
  have H2 := hideIt h2'
  have H3 := hideIt h3'
  have K1 := hideIt k1
  have K2 := hideIt k2
  have K3 := hideIt k3
  have l1 := h1.1
  have l2 := h2'.1
  have l3 := h3'.1
  have m1 := k1.1
  have m2 := k2.1
  have m3 := k3.1
  clear h1 h2' h3' k1 k2 k3
  go_enter Tryd.func24, Tryd.ntmps24
  go_wp2_with fail
  have HB0 : Hid (Below w.heap.size w ((w.alloc (.cells #[.int .i64 r, .slice (some ⟨g, 0, none⟩) l.length l.length, .slice (some ⟨g2, 0, none⟩) ws.length ws.length, .slice (some ⟨g3, 0, none⟩) s.length s.length] 41)).alloc (.cells #[.int .i64 r, .slice (some ⟨h, 0, none⟩) l.length l.length, .slice (some ⟨h2, 0, none⟩) ws.length ws.length, .slice (some ⟨h3, 0, none⟩) s.length s.length] 41))) := ((Below.refl _ _).alloc (Nat.le_refl _) _).alloc (by simp) _
  refine (eqDoc_same l ws _ _ _ _ _ (H1.out.below HB0.out l1) (H2.out.below HB0.out l2) (K1.out.below HB0.out m1) (K2.out.below HB0.out m2) hn hn2).mono ?_
  rintro e w1 ⟨rfl, hb1⟩
  have HB1 := hideIt (Bstep HB0.out hb1)
  have hc : ∀ b o, b < w.heap.size + 2 → w1.cell? ⟨b, o, none⟩ = _ := fun b o h => (bcell hb1).1 b o (by simp; omega)
  have x1 := hc w.heap.size 3 (by omega)
  have y1 := hc (w.heap.size + 1) 3 (by omega)
  simp [go_sem] at x1 y1
  clear hb1 hc
  go_wp2_with fail
  refine (eqIntS_same s _ _ _ _ _ (H3.out.below HB1.out l3) (K3.out.below HB1.out m3) hn3 (Nat.le_refl _) (Nat.le_refl _)).mono ?_
  rintro e w2 ⟨rfl, hb2⟩
  clear x1 y1
  go_wp2
  go_ret
  first | exact ⟨rfl, Bstep HB1.out hb2⟩ | exact ⟨rfl, by subst hb2; exact HB1.out⟩
end Go.Proofs.YtficnhlkefpfnaaDoor

namespace Go.Proofs.YtficnhlkefpfnaaDoor
open Go.RowKit
set_option linter.unusedSimpArgs false
set_option linter.unusedVariables false
attribute [local go_sem ↓] Go.wp_at_zero Go.wp_at_succ

theorem repI_any (n : Int) (w : World) :
    Calls Tryd.prog 65 #[.int .i64 n] w fun e w' => e = .returned (.bool (inB n 1 3)) ∧ Below w.heap.size w w' := by
  go_enter Tryd.func65, Tryd.ntmps65
  go_wp2
  all_goals
    go_ret
    exact ⟨ret_bool (by (try simp only [inB, Bool.not_eq_true, decide_eq_true_eq, decide_eq_false_iff_not, bne_iff_ne, beq_iff_eq, beq_eq_false_iff_ne, ne_eq] at *); first | (apply decide_eq_decide.2; omega) | (symm; apply decide_eq_true; omega) | (symm; apply decide_eq_false; omega) | (rw [Bool.eq_iff_iff]; simp only [Bool.and_eq_true, Bool.or_eq_true, decide_eq_true_eq, beq_iff_eq, bne_iff_ne, Bool.not_eq_true, ne_eq]; omega)), Below.refl _ _⟩
/-- Numbers of how much of each was seen. -/
def vecB (s : List Int) : Bool := s.all (fun n => inB n 0 12) && decide (s.length = 3)
theorem vec_no {s : List Int} {k : Nat} (hk : k < s.length) (h : inB s[k] 0 12 = false) : vecB s = false := by
  unfold vecB
  have : s.all (fun n => inB n 0 12) = false := by
    rw [List.all_eq_false]
    exact ⟨s[k], List.getElem_mem hk, by simp [h]⟩
  rw [this]; rfl
theorem vec_all {s : List Int} (h : ∀ j (hj : j < s.length), inB s[j] 0 12 = true) : vecB s = decide (s.length = 3) := by
  unfold vecB
  have : s.all (fun n => inB n 0 12) = true := by
    rw [List.all_eq_true]
    intro x hx
    obtain ⟨j, hj, rfl⟩ := List.getElem_of_mem hx
    exact h j hj
  rw [this]; rfl
set_option maxHeartbeats 1000000 in
theorem specVec_any (s : List Int) (g cap : Nat) (w : World) (hs : IntsAt w g s) (hn : s.length ≤ 1048576) (hcap : s.length ≤ cap) :
    Calls Tryd.prog 63 #[.slice (some ⟨g, 0, none⟩) s.length cap] w fun e w' => e = .returned (.bool (vecB s)) ∧ Below w.heap.size w w' := by
  have HS := hideIt hs
  have hgw := hs.1
  clear hs
  go_enter Tryd.func63, Tryd.ntmps63
  go_wp2
  go_loopw [3] (fun i wr => ∃ k : Nat, k ≤ s.length ∧ i = .int .i64 k ∧ (∀ j (hj : j < s.length), j < k → inB s[j] 0 12 = true) ∧ Below w.heap.size w wr) (fun i _ => s.length - (intOf i).toNat)
  case atStart => exact ⟨0, Nat.zero_le _, rfl, fun j hj h => by omega, by go_grown⟩
  case round =>
    obtain ⟨k, hk, rfl, hall, hB⟩ := hrel
    have HB := hideIt hB
    have HA := hideIt hall
    clear hB hall
    by_cases hlt : k < s.length
    · have hlt' : (k : Int) < (s.length : Int) := by omega
      have hk0 : (0 : Int) ≤ (k : Int) := by omega
      have y0 := (HS.out.below HB.out hgw).2 k s[k] (by simp [hlt])
      have hbad : Hid (inB s[k] 0 12 = false → vecB s = false) := fun h => vec_no hlt h
      have hnext : Hid (inB s[k] 0 12 = true → ∀ j (hj : j < s.length), j < k + 1 → inB s[j] 0 12 = true) := fun h j hj hj1 => by
        rcases Nat.lt_or_ge j k with h1 | h1
        · exact HA.out j hj h1
        · obtain rfl : j = k := by omega
          exact h
      generalize s[k] = n at *
      go_wp2_with fail
      refine (l6In_any n 0 12 _).mono ?_
      rintro e w2 ⟨rfl, hw2⟩
      rw [hw2]
      clear hw2 y0
      cases hi : inB n 0 12
      · have HR := hideIt (hbad.out hi)
        go_wp2
        go_ret
        exact ⟨ret_bool HR.out.symm, HB.out⟩
      · have HN := hideIt (hnext.out hi)
        go_wp2
        exact ⟨⟨k + 1, by omega, by go_num, HN.out, HB.out⟩, by simp [intOf]; omega⟩
    · obtain rfl : k = s.length := by omega
      have HR := hideIt (vec_all (s := s) fun j hj => HA.out j hj hj)
      go_wp2
      go_ret
      refine ⟨ret_bool ?_, HB.out⟩
      rw [HR.out]
      by_cases h3 : s.length = 3
      · simp [h3]
      · have : ¬ ((s.length : Int) = 3) := by omega
        simp [h3, this]
set_option maxHeartbeats 1000000 in
theorem implVec_any (s : List Int) (g cap : Nat) (w : World) (hs : IntsAt w g s) (hn : s.length ≤ 1048576) (hcap : s.length ≤ cap) :
    Calls Tryd.prog 66 #[.slice (some ⟨g, 0, none⟩) s.length cap] w fun e w' => e = .returned (.bool (vecB s)) ∧ Below w.heap.size w w' := by
  have HS := hideIt hs
  have hgw := hs.1
  clear hs
  go_enter Tryd.func66, Tryd.ntmps66
  by_cases h3 : s.length = 3
  · have h3' : (s.length : Int) = 3 := by omega
    go_wp2
    go_loopw [10] (fun i wr => ∃ k : Nat, k ≤ s.length ∧ i = .int .i64 k ∧ (∀ j (hj : j < s.length), j < k → inB s[j] 0 12 = true) ∧ Below w.heap.size w wr) (fun i _ => s.length - (intOf i).toNat)
    case atStart => exact ⟨0, Nat.zero_le _, rfl, fun j hj h => by omega, by go_grown⟩
    case round =>
      obtain ⟨k, hk, rfl, hall, hB⟩ := hrel
      have HB := hideIt hB
      have HA := hideIt hall
      clear hB hall
      by_cases hlt : k < s.length
      · have hlt' : (k : Int) < 3 := by omega
        have hlt2 : (k : Int) < (s.length : Int) := by omega
        have hk0 : (0 : Int) ≤ (k : Int) := by omega
        have y0 := (HS.out.below HB.out hgw).2 k s[k] (by simp [hlt])
        have hbad : Hid (inB s[k] 0 12 = false → vecB s = false) := fun h => vec_no hlt h
        have hnext : Hid (inB s[k] 0 12 = true → ∀ j (hj : j < s.length), j < k + 1 → inB s[j] 0 12 = true) := fun h j hj hj1 => by
          rcases Nat.lt_or_ge j k with h1 | h1
          · exact HA.out j hj h1
          · obtain rfl : j = k := by omega
            exact h
        generalize s[k] = n at *
        by_cases h1 : n < 0
        · have HR := hideIt (hbad.out (by simp [inB]; omega))
          go_wp2
          go_ret
          exact ⟨ret_bool HR.out.symm, HB.out⟩
        · by_cases h2 : 12 < n
          · have HR := hideIt (hbad.out (by simp [inB]; omega))
            go_wp2
            go_ret
            exact ⟨ret_bool HR.out.symm, HB.out⟩
          · have HN := hideIt (hnext.out (by simp [inB]; omega))
            go_wp2
            exact ⟨⟨k + 1, by omega, by go_num, HN.out, HB.out⟩, by simp [intOf]; omega⟩
      · obtain rfl : k = s.length := by omega
        have HR := hideIt (vec_all (s := s) fun j hj => HA.out j hj hj)
        go_wp2
        go_ret
        exact ⟨ret_bool (by rw [HR.out, decide_eq_true h3]), HB.out⟩
  · have h3' : ¬ ((s.length : Int) = 3) := by omega
    go_wp2
    go_ret
    exact ⟨ret_bool (by unfold vecB; rw [decide_eq_false h3]; simp), Below.refl _ _⟩
end Go.Proofs.YtficnhlkefpfnaaDoor

namespace Go.Proofs.YtficnhlkefpfnaaDoor
open Go.RowKit
set_option linter.unusedSimpArgs false
set_option linter.unusedVariables false
attribute [local go_sem ↓] Go.wp_at_zero Go.wp_at_succ

/-- A desk that is ok. -/
def deskB (r : Int) (l ws : List Op7) (s : List Int) : Bool := inB r 1 3 && (docB l ws && (vecB s && ws.all (fun o => !(o.a == r))))
theorem own_no {r : Int} {ws : List Op7} {k : Nat} (hk : k < ws.length) (h : ws[k].a = r) : (ws.all fun o => !(o.a == r)) = false := by
  rw [List.all_eq_false]
  exact ⟨ws[k], List.getElem_mem hk, by simp [h]⟩
theorem own_all {r : Int} {ws : List Op7} (h : ∀ j (hj : j < ws.length), ¬ ws[j].a = r) : (ws.all fun o => !(o.a == r)) = true := by
  rw [List.all_eq_true]
  intro x hx
  obtain ⟨j, hj, rfl⟩ := List.getElem_of_mem hx
  simp [h j hj]

set_option maxRecDepth 100000 in
set_option maxHeartbeats 2000000 in
theorem specDesk_any (r : Int) (l ws : List Op7) (s : List Int) (g cap g2 cap2 g3 cap3 : Nat) (w : World) (hl : OpsAt w g l) (hn : l.length ≤ 1048576) (hcap : l.length ≤ cap) (hs : OpsAt w g2 ws) (hn2 : ws.length ≤ 1048576) (hcap2 : ws.length ≤ cap2) (hi : IntsAt w g3 s) (hn3 : s.length ≤ 1048576) (hcap3 : s.length ≤ cap3) :
    Calls Tryd.prog 21 #[.agg #[.int .i64 r, .slice (some ⟨g, 0, none⟩) l.length cap, .slice (some ⟨g2, 0, none⟩) ws.length cap2, .slice (some ⟨g3, 0, none⟩) s.length cap3]] w fun e w' => e = .returned (.bool (deskB r l ws s)) ∧ Below w.heap.size w w' := by
  have HL := hideIt hl
  have HS := hideIt hs
  have HI := hideIt hi
  have hgw := hl.1
  have hgs := hs.1
  have hgi := hi.1
  clear hl hs hi
  have hB0 : Below w.heap.size w (w.alloc (.cells #[.int .i64 r, .slice (some ⟨g, 0, none⟩) l.length cap, .slice (some ⟨g2, 0, none⟩) ws.length cap2, .slice (some ⟨g3, 0, none⟩) s.length cap3] 41)) := (Below.refl _ _).alloc (Nat.le_refl _) _
  have hD0 : (w.alloc (.cells #[.int .i64 r, .slice (some ⟨g, 0, none⟩) l.length cap, .slice (some ⟨g2, 0, none⟩) ws.length cap2, .slice (some ⟨g3, 0, none⟩) s.length cap3] 41)).heap[w.heap.size]? = some (.cells #[.int .i64 r, .slice (some ⟨g, 0, none⟩) l.length cap, .slice (some ⟨g2, 0, none⟩) ws.length cap2, .slice (some ⟨g3, 0, none⟩) s.length cap3] 41 (0, 0)) := World.alloc_heap_new _ _
  have HB0 := hideIt hB0
  have HD0 := hideIt hD0
  clear hB0 hD0
  have hdk : deskB r l ws s = (inB r 1 3 && (docB l ws && (vecB s && ws.all (fun o => !(o.a == r))))) := rfl
  have HK := hideIt hdk
  clear hdk
  have facts : ∀ W : World, W.heap[w.heap.size]? = some (.cells #[.int .i64 r, .slice (some ⟨g, 0, none⟩) l.length cap, .slice (some ⟨g2, 0, none⟩) ws.length cap2, .slice (some ⟨g3, 0, none⟩) s.length cap3] 41 (0, 0)) → W.cell? ⟨w.heap.size, 0, none⟩ = some (.int .i64 r) ∧ W.cell? ⟨w.heap.size, 1, none⟩ = some (.slice (some ⟨g, 0, none⟩) l.length cap) ∧ W.cell? ⟨w.heap.size, 2, none⟩ = some (.slice (some ⟨g2, 0, none⟩) ws.length cap2) ∧ W.cell? ⟨w.heap.size, 3, none⟩ = some (.slice (some ⟨g3, 0, none⟩) s.length cap3) := fun W h => ⟨(blk_cell h 0).trans rfl, (blk_cell h 1).trans rfl, (blk_cell h 2).trans rfl, (blk_cell h 3).trans rfl⟩
  have HF := hideIt facts
  clear facts
  cases hr : inB r 1 3
  all_goals
    have HR := hideIt hr
    clear hr
    go_enter Tryd.func21, Tryd.ntmps21
    go_wp2_with fail
    refine (l6In_any r 1 3 _).mono ?_
    rintro e w1 ⟨rfl, hw1⟩
    rw [hw1, HR.out]
    clear hw1
  · go_wp2
    go_ret
    exact ⟨ret_bool (by rw [HK.out, HR.out]; rfl), HB0.out⟩
  · go_wp2_with fail
    refine (specDoc_any l ws g cap g2 cap2 _ (HL.out.below HB0.out hgw) hn hcap (HS.out.below HB0.out hgs) hn2 hcap2).mono ?_
    rintro e w2 ⟨rfl, hb2⟩
    have HB2 := hideIt (Bstep HB0.out hb2)
    have HD2 := hideIt (blk_below HD0.out hb2)
    clear hb2 HB0 HD0
    obtain ⟨d0, d1, d2, d3⟩ := HF.out _ HD2.out
    have dl := (Array.getElem?_eq_some_iff.1 HD2.out).1
    cases hd : docB l ws
    all_goals
      have HDC := hideIt hd
      clear hd
    · go_wp2
      go_ret
      exact ⟨ret_bool (by rw [HK.out, HDC.out]; simp), HB2.out⟩
    · go_wp2_with fail
      refine (specVec_any s g3 cap3 _ (HI.out.below HB2.out hgi) hn3 hcap3).mono ?_
      rintro e w3 ⟨rfl, hb3⟩
      have HB3 := hideIt (Bstep HB2.out hb3)
      have HD3 := hideIt (blk_below HD2.out hb3)
      clear hb3 HB2 HD2 d0 d1 d2 d3 dl
      cases hv : vecB s
      all_goals
        have HV := hideIt hv
        clear hv
      · go_wp2
        go_ret
        exact ⟨ret_bool (by rw [HK.out, HV.out]; simp), HB3.out⟩
      · go_wp2
        go_loopw [3] (fun i wr => ∃ k : Nat, k ≤ ws.length ∧ i = .int .i64 k ∧ (∀ j (hj : j < ws.length), j < k → ¬ ws[j].a = r) ∧ wr.heap[w.heap.size]? = some (.cells #[.int .i64 r, .slice (some ⟨g, 0, none⟩) l.length cap, .slice (some ⟨g2, 0, none⟩) ws.length cap2, .slice (some ⟨g3, 0, none⟩) s.length cap3] 41 (0, 0)) ∧ Below w.heap.size w wr) (fun i _ => ws.length - (intOf i).toNat)
        case atStart => exact ⟨0, Nat.zero_le _, rfl, fun j hj h => by omega, HD3.out, HB3.out⟩
        case round =>
          clear HB3 HD3
          obtain ⟨k, hk, rfl, hall, hD, hB⟩ := hrel
          have HB := hideIt hB
          have HD := hideIt hD
          have HA := hideIt hall
          clear hB hD hall
          obtain ⟨d0, d1, d2, d3⟩ := HF.out _ HD.out
          have dl := (Array.getElem?_eq_some_iff.1 HD.out).1
          by_cases hlt : k < ws.length
          · have hlt' : (k : Int) < (ws.length : Int) := by omega
            have hk0 : (0 : Int) ≤ (k : Int) := by omega
            obtain ⟨y0, y1, y2, y3, y4, y5, y6⟩ := (HS.out.below HB.out hgs).2 k ws[k] (by simp [hlt])
            have hbad : Hid (ws[k].a = r → (ws.all fun o => !(o.a == r)) = false) := own_no hlt
            have hnext : Hid (¬ ws[k].a = r → ∀ j (hj : j < ws.length), j < k + 1 → ¬ ws[j].a = r) := fun h j hj hj1 => by
              rcases Nat.lt_or_ge j k with h1 | h1
              · exact HA.out j hj h1
              · obtain rfl : j = k := by omega
                exact h
            generalize ws[k] = o at *
            by_cases ha : o.a = r
            · have HW := hideIt (hbad.out ha)
              clear hbad hnext
              go_wp2
              go_quiet (fail)
              go_wp2
              go_ret
              exact ⟨ret_bool (by rw [HK.out, HR.out, HDC.out, HV.out, HW.out]; rfl), below_drewN HB.out _⟩
            · have HN := hideIt (hnext.out ha)
              clear hbad hnext
              go_wp2
              go_quiet (fail)
              go_wp2
              exact ⟨⟨k + 1, by omega, by go_num, HN.out, HD.out, below_drewN HB.out _⟩, by simp [intOf]; omega⟩
          · obtain rfl : k = ws.length := by omega
            have HW := hideIt (own_all (ws := ws) (r := r) fun j hj => HA.out j hj hj)
            go_wp2
            go_ret
            exact ⟨ret_bool (by rw [HK.out, HR.out, HDC.out, HV.out, HW.out]; rfl), HB.out⟩
end Go.Proofs.YtficnhlkefpfnaaDoor

namespace Go.Proofs.YtficnhlkefpfnaaDoor
open Go.RowKit
set_option linter.unusedSimpArgs false
set_option linter.unusedVariables false
attribute [local go_sem ↓] Go.wp_at_zero Go.wp_at_succ

/-- A desk at work, in its block. -/
def WorkAt (W : World) (b : Nat) (u v : Value) (r : Int) (z : Value) : Prop := W.heap[b]? = some (.cells #[u, v, .int .i64 r, z] 89 (0, 0))
theorem WorkAt.below {W W' : World} {b : Nat} {u v z : Value} {r : Int} (h : WorkAt W b u v r z) (hb : Below W.heap.size W W') : WorkAt W' b u v r z := blk_below h hb
theorem WorkAt.keep {w W : World} {b : Nat} {u v z : Value} {r : Int} (h : WorkAt w b u v r z) (hb : Below w.heap.size w W) : WorkAt W b u v r z := blk_below h hb
theorem WorkAt.cells {W : World} {b : Nat} {u v z : Value} {r : Int} (h : WorkAt W b u v r z) : W.cell? ⟨b, 0, none⟩ = some u ∧ W.cell? ⟨b, 1, none⟩ = some v ∧ W.cell? ⟨b, 2, none⟩ = some (.int .i64 r) ∧ W.cell? ⟨b, 3, none⟩ = some z := ⟨(blk_cell h 0).trans rfl, (blk_cell h 1).trans rfl, (blk_cell h 2).trans rfl, (blk_cell h 3).trans rfl⟩

theorem workOf_any (r : Int) (p q t : Option Addr) (n c m d k e : Nat) (w : World) :
    Calls Tryd.prog 64 #[.agg #[.int .i64 r, .slice p n c, .slice q m d, .slice t k e]] w fun en w' => ∃ b, en = .returned (.pointer (some ⟨b, 0, none⟩)) ∧ w.heap.size ≤ b ∧ WorkAt w' b (.slice p n c) (.slice q m d) r (.slice t k e) ∧ Below w.heap.size w w' := by
  go_enter Tryd.func64, Tryd.ntmps64
  go_wp2
  go_ret
  refine ⟨_, rfl, Nat.le_succ _, ?_, ((Below.refl _ _).alloc (Nat.le_refl _) _).alloc (by simp) _⟩
  have h := World.alloc_heap_new (w.alloc (.cells #[.int .i64 r, .slice p n c, .slice q m d, .slice t k e] 41)) (.cells #[.slice p n c, .slice q m d, .int .i64 r, .slice t k e] 89)
  rw [World.size_alloc] at h
  exact h
theorem isOwn_any (b : Nat) (o : Op7) (u v z : Value) (r : Int) (w : World) (h : WorkAt w b u v r z) :
    Calls Tryd.prog 68 #[.pointer (some ⟨b, 0, none⟩), .agg #[.int .i64 o.a, .int .i64 o.b, .int .i64 o.k, .int .i64 o.c, .int .i64 o.d, .int .i64 o.s, .int .i64 o.g]] w fun en w' => en = .returned (.bool (o.a == r)) ∧ Below w.heap.size w w' := by
  obtain ⟨h0, h1, h2, h3⟩ := h.cells
  have hl := (Array.getElem?_eq_some_iff.1 h).1
  have HB := hideIt ((Below.refl w.heap.size w).alloc (Nat.le_refl _) (.cells #[.int .i64 o.a, .int .i64 o.b, .int .i64 o.k, .int .i64 o.c, .int .i64 o.d, .int .i64 o.s, .int .i64 o.g] 71))
  go_enter Tryd.func68, Tryd.ntmps68
  go_wp2
  go_quiet (fail)
  go_wp2
  go_ret
  exact ⟨ret_bool (by by_cases h : o.a = r <;> simp [h]), below_drewN HB.out _⟩

end Go.Proofs.YtficnhlkefpfnaaDoor

namespace Go.Proofs.YtficnhlkefpfnaaDoor
open Go.RowKit
set_option linter.unusedSimpArgs false
set_option linter.unusedVariables false
attribute [local go_sem ↓] Go.wp_at_zero Go.wp_at_succ

set_option maxRecDepth 100000 in
set_option maxHeartbeats 1000000 in
theorem indexOwn_any (ws : List Op7) (g2 cap2 b : Nat) (u v z : Value) (r : Int) (w : World) (hs : OpsAt w g2 ws) (hn2 : ws.length ≤ 1048576) (hcap2 : ws.length ≤ cap2) (hw : WorkAt w b u v r z) :
    Calls Tryd.prog 102 #[.slice (some ⟨g2, 0, none⟩) ws.length cap2, .func (.func 68) #[.pointer (some ⟨b, 0, none⟩)] #[]] w fun e w' => (∃ i : Int, e = .returned (.int .i64 i) ∧ decide (0 ≤ i) = !(ws.all fun o => !(o.a == r))) ∧ Below w.heap.size w w' := by
  have HS := hideIt hs
  have HW := hideIt hw
  have hgs := hs.1
  clear hs hw
  go_enter Tryd.func102, Tryd.ntmps102
  go_wp2
  go_loopw [5, 8] (fun u0 i wr => ∃ k : Nat, k ≤ ws.length ∧ i = .int .i64 k ∧ (∀ j (hj : j < ws.length), j < k → ¬ ws[j].a = r) ∧ Below w.heap.size w wr) (fun _ i _ => ws.length - (intOf i).toNat)
  case atStart => exact ⟨0, Nat.zero_le _, rfl, fun j hj h => by omega, by go_grown⟩
  case round =>
    obtain ⟨k, hk, rfl, hall, hB⟩ := hrel
    have HB := hideIt hB
    have HA := hideIt hall
    clear hB hall
    by_cases hlt : k < ws.length
    · have hlt' : (k : Int) < (ws.length : Int) := by omega
      have hk0 : (0 : Int) ≤ (k : Int) := by omega
      obtain ⟨y0, y1, y2, y3, y4, y5, y6⟩ := (HS.out.below HB.out hgs).2 k ws[k] (by simp [hlt])
      have hbad : Hid (ws[k].a = r → (ws.all fun o => !(o.a == r)) = false) := own_no hlt
      have hnext : Hid (¬ ws[k].a = r → ∀ j (hj : j < ws.length), j < k + 1 → ¬ ws[j].a = r) := fun h j hj hj1 => by
        rcases Nat.lt_or_ge j k with h1 | h1
        · exact HA.out j hj h1
        · obtain rfl : j = k := by omega
          exact h
      generalize ws[k] = o at *
      go_wp2_with fail
      refine (isOwn_any b o u v z r _ (WorkAt.keep HW.out HB.out)).mono ?_
      rintro e w2 ⟨rfl, hb2⟩
      have HB2 := hideIt (Bstep HB.out hb2)
      clear hb2 y0 y1 y2 y3 y4 y5 y6
      by_cases ha : o.a = r
      · have HE := hideIt (hbad.out ha)
        have hq : (o.a == r) = true := by simp [ha]
        rw [hq]
        clear hq ha hbad hnext
        go_wp2
        go_ret
        exact ⟨⟨k, rfl, by rw [HE.out]; simp⟩, HB2.out⟩
      · have HN := hideIt (hnext.out ha)
        have hq : (o.a == r) = false := by simp [ha]
        rw [hq]
        clear hq ha hbad hnext
        go_wp2
        exact ⟨⟨k + 1, by omega, by go_num, HN.out, HB2.out⟩, by simp [intOf]; omega⟩
    · obtain rfl : k = ws.length := by omega
      have HE := hideIt (own_all (ws := ws) (r := r) fun j hj => HA.out j hj hj)
      go_wp2
      go_ret
      exact ⟨⟨-1, rfl, by rw [HE.out]; rfl⟩, HB.out⟩
set_option maxRecDepth 100000 in
theorem hasOwn_any (ws : List Op7) (g2 cap2 b : Nat) (u v z : Value) (r : Int) (w : World) (hs : OpsAt w g2 ws) (hn2 : ws.length ≤ 1048576) (hcap2 : ws.length ≤ cap2) (hw : WorkAt w b u v r z) :
    Calls Tryd.prog 67 #[.slice (some ⟨g2, 0, none⟩) ws.length cap2, .func (.func 68) #[.pointer (some ⟨b, 0, none⟩)] #[]] w fun e w' => e = .returned (.bool (!(ws.all fun o => !(o.a == r)))) ∧ Below w.heap.size w w' := by
  have HS := hideIt hs
  have HW := hideIt hw
  clear hs hw
  go_enter Tryd.func67, Tryd.ntmps67
  go_wp2_with fail
  refine (indexOwn_any ws g2 cap2 b u v z r _ HS.out hn2 hcap2 HW.out).mono ?_
  rintro e w1 ⟨⟨i, rfl, hi⟩, hb1⟩
  have HB := hideIt hb1
  clear hb1
  go_wp2
  go_ret
  first | exact ⟨ret_bool hi, HB.out⟩ | exact ⟨rfl, HB.out⟩
end Go.Proofs.YtficnhlkefpfnaaDoor

namespace Go.Proofs.YtficnhlkefpfnaaDoor
open Go.RowKit
set_option linter.unusedSimpArgs false
set_option linter.unusedVariables false
attribute [local go_sem ↓] Go.wp_at_zero Go.wp_at_succ

set_option maxRecDepth 100000 in
set_option maxHeartbeats 2000000 in
theorem implDesk_any (r : Int) (l ws : List Op7) (s : List Int) (g cap g2 cap2 g3 cap3 : Nat) (x : Addr) (w : World) (hl : OpsAt w g l) (hn : l.length ≤ 1048576) (hcap : l.length ≤ cap) (hs : OpsAt w g2 ws) (hn2 : ws.length ≤ 1048576) (hcap2 : ws.length ≤ cap2) (hi : IntsAt w g3 s) (hn3 : s.length ≤ 1048576) (hcap3 : s.length ≤ cap3)
    (he : w.cell? ⟨0, 0, none⟩ = some (.iface 200 (.pointer (some x)))) (h0 : 0 < w.heap.size) :
    Calls Tryd.prog 23 #[.agg #[.int .i64 r, .slice (some ⟨g, 0, none⟩) l.length cap, .slice (some ⟨g2, 0, none⟩) ws.length cap2, .slice (some ⟨g3, 0, none⟩) s.length cap3]] w fun e w' => e = .returned (.bool (deskB r l ws s)) ∧ Below w.heap.size w w' := by
  have HL := hideIt hl
  have HS := hideIt hs
  have HI := hideIt hi
  have hgw := hl.1
  have hgs := hs.1
  have hgi := hi.1
  clear hl hs hi
  have hB0 : Below w.heap.size w (w.alloc (.cells #[.int .i64 r, .slice (some ⟨g, 0, none⟩) l.length cap, .slice (some ⟨g2, 0, none⟩) ws.length cap2, .slice (some ⟨g3, 0, none⟩) s.length cap3] 41)) := (Below.refl _ _).alloc (Nat.le_refl _) _
  have HB0 := hideIt hB0
  clear hB0
  have hdk : deskB r l ws s = (inB r 1 3 && (docB l ws && (vecB s && ws.all (fun o => !(o.a == r))))) := rfl
  have HK := hideIt hdk
  clear hdk
  cases hr : inB r 1 3
  all_goals
    have HR := hideIt hr
    clear hr
    go_enter Tryd.func23, Tryd.ntmps23
    go_wp2_with fail
    refine (workOf_any r _ _ _ _ _ _ _ _ _ _).mono ?_
    rintro e w1 ⟨b, rfl, hb, hW1, hb1⟩
    have HW1 := hideIt hW1
    have HB1 := hideIt (Bstep HB0.out hb1)
    clear hW1 hb1 HB0
    obtain ⟨c0, c1, c2, c3⟩ := HW1.out.cells
    have cl := (Array.getElem?_eq_some_iff.1 HW1.out).1
    go_wp2_with fail
    refine (repI_any r _).mono ?_
    rintro e w2 ⟨rfl, hb2⟩
    rw [HR.out]
    have HW2 := hideIt (HW1.out.below hb2)
    have HB2 := hideIt (Bstep HB1.out hb2)
    clear hb2 HW1 HB1 c0 c1 c2 c3 cl
  · go_wp2
    go_ret
    exact ⟨ret_bool (by rw [HK.out, HR.out]; rfl), HB2.out⟩
  · obtain ⟨c0, c1, c2, c3⟩ := HW2.out.cells
    have cl := (Array.getElem?_eq_some_iff.1 HW2.out).1
    go_wp2_with fail
    refine (implVec_any s g3 cap3 _ (HI.out.below HB2.out hgi) hn3 hcap3).mono ?_
    rintro e w3 ⟨rfl, hb3⟩
    have HW3 := hideIt (HW2.out.below hb3)
    have HB3 := hideIt (Bstep HB2.out hb3)
    clear hb3 HW2 HB2 c0 c1 c2 c3 cl
    obtain ⟨c0, c1, c2, c3⟩ := HW3.out.cells
    have cl := (Array.getElem?_eq_some_iff.1 HW3.out).1
    cases hv : vecB s
    all_goals
      have HV := hideIt hv
      clear hv
    · go_wp2
      go_ret
      exact ⟨ret_bool (by rw [HK.out, HV.out]; simp), HB3.out⟩
    · go_wp2_with fail
      refine (implDoc_any l ws g cap g2 cap2 x _ (HL.out.below HB3.out hgw) hn hcap (HS.out.below HB3.out hgs) hn2 hcap2 (errB HB3.out h0 he) (posB HB3.out h0)).mono ?_
      rintro e w4 ⟨rfl, hb4⟩
      have HW4 := hideIt (HW3.out.below hb4)
      have HB4 := hideIt (Bstep HB3.out hb4)
      clear hb4 HW3 HB3 c0 c1 c2 c3 cl
      obtain ⟨c0, c1, c2, c3⟩ := HW4.out.cells
      have cl := (Array.getElem?_eq_some_iff.1 HW4.out).1
      cases hd : docB l ws
      all_goals
        have HDC := hideIt hd
        clear hd
      · go_wp2
        go_ret
        exact ⟨ret_bool (by rw [HK.out, HDC.out]; simp), HB4.out⟩
      · go_wp2_with fail
        refine (hasOwn_any ws g2 cap2 b _ _ _ r _ (HS.out.below HB4.out hgs) hn2 hcap2 HW4.out).mono ?_
        rintro e w5 ⟨rfl, hb5⟩
        have HB5 := hideIt (Bstep HB4.out hb5)
        clear hb5 HW4 HB4 c0 c1 c2 c3 cl
        go_wp2
        go_ret
        exact ⟨ret_bool (by rw [HK.out, HR.out, HDC.out, HV.out]; simp), HB5.out⟩
end Go.Proofs.YtficnhlkefpfnaaDoor
