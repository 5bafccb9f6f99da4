/- toOpS once more: what it makes is a block that may be written. -/
import Derived.Test.YtpkdadccapemcaaDoorToOps
import Derived.Test.YtpkdadccapemcaaDoorMarks
namespace Go.Proofs.YtpkdadccapemcaaDoor
open Go.RowKit
set_option linter.unusedSimpArgs false
set_option linter.unusedVariables false

set_option maxHeartbeats 1000000 in
theorem toOpS_someF (l : List Op7) (b off cap : Nat) (w : World) (hl : LawAt w b off l) (hn : l.length ≤ 1048576) (hcap : l.length ≤ cap) :
    Calls Tryd.prog 9 #[.slice (some ⟨b, off, none⟩) l.length cap] w fun e w' => e = .returned (.slice (some ⟨w.heap.size, 0, none⟩) l.length l.length) ∧ Filled w' w.heap.size l.length l ∧ Below w.heap.size w w' := by
  obtain ⟨i0, hi, hz0, hz1, hz2⟩ := info_parts infoOp
  go_enter Tryd.func9, Tryd.ntmps9
  go_wp2_with (first
    | (at_make; refine wpList_make_full _ rfl _ _ 26 rfl w.heap.size 47 i0 _ 7 Tryd.underlying26 hi hz0 hz1 .i64 .i64 _ _ l.length rfl rfl rfl rfl (by rw [hz2]; omega) (by unfold maxLen; omega) (Nat.le_refl _) ?_; intro w1 hown hgrow))
  clear hi hz0 hz1 hz2
  have hB1 : Below w.heap.size w w1 := (Below.refl _ _).grown hgrow (Nat.le_refl _) (fun k h => by cases h)
  have hF0 : Filled w1 w.heap.size 0 l := by
    obtain ⟨_, ⟨h, _⟩ | ⟨g, cap', cur, hv, _, hb, _, _, hs, _⟩⟩ := hown
    · cases h
    · simp only [Value.slice.injEq, Option.some.injEq, Addr.mk.injEq] at hv
      obtain ⟨⟨rfl, _⟩, _, rfl⟩ := hv
      exact ⟨cur, hb, hs, fun i o _ h => by omega⟩
  clear hown hgrow
  go_loopw [4] (fun i wr => ∃ k : Nat, k ≤ l.length ∧ i = .int .i64 k ∧ Filled wr w.heap.size k l ∧ Below w.heap.size w wr)
    (fun i _ => l.length - (intOf i).toNat)
  case atStart => exact ⟨0, Nat.zero_le _, rfl, hF0, hB1⟩
  case round =>
    obtain ⟨k, hk, rfl, hF, hB⟩ := hrel
    have HB : Hid (Below w.heap.size w wr) := hB
    have HF : Hid (Filled wr w.heap.size k l) := hF
    by_cases hlt : k < l.length
    · obtain ⟨h0, h1, h2, h3, h4, h5, h6⟩ := (hl.below hB hl.1).2 k l[k] (by simp [hlt])
      have hbk := (hl.below hB hl.1).1
      obtain ⟨cur, hblk, hsz, hcur⟩ := hF
      have hBlt : w.heap.size < wr.heap.size := by
        rcases Nat.lt_or_ge w.heap.size wr.heap.size with h | h
        · exact h
        · simp [Array.getElem?_eq_none h] at hblk
      have hfz : ∀ o, wr.frozen? ⟨w.heap.size, o, none⟩ = false := fun o => frozen_of_block hblk o
      have hex : ∀ j, j < 7 → ∃ u, wr.cell? ⟨w.heap.size, k * 7 + j, none⟩ = some u := fun j hj => by
        rw [cell_of_block hblk]; exact ⟨_, Array.getElem?_eq_getElem (by omega)⟩
      obtain ⟨u0, e0⟩ := hex 0 (by omega)
      obtain ⟨u1, e1⟩ := hex 1 (by omega)
      obtain ⟨u2, e2⟩ := hex 2 (by omega)
      obtain ⟨u3, e3⟩ := hex 3 (by omega)
      obtain ⟨u4', e4⟩ := hex 4 (by omega)
      obtain ⟨u5', e5⟩ := hex 5 (by omega)
      obtain ⟨u6', e6⟩ := hex 6 (by omega)
      simp only [Nat.add_zero] at e0
      have hlt' : (k : Int) < (l.length : Int) := by omega
      have hk0 : (0 : Int) ≤ (k : Int) := by omega
      clear hB hl hblk hsz hcur hex hB1 hF0
      go_wp2_with (first
        | (go_at_call 28; refine (toOp_any _ _ _ _ _ _ _ _).mono ?_; rintro e w2 ⟨rfl, hb2⟩; obtain ⟨hc2, hf2⟩ := bcell hb2; have HB2 : Hid (Below wr.heap.size wr w2) := hb2; clear hb2))
      exact ⟨⟨k + 1, by omega, by go_num, (HF.out.below HB2.out hBlt).step hlt, (((((((Bstep HB.out HB2.out).setCell (Nat.le_refl _) _).setCell (Nat.le_refl _) _).setCell (Nat.le_refl _) _).setCell (Nat.le_refl _) _).setCell (Nat.le_refl _) _).setCell (Nat.le_refl _) _).setCell (Nat.le_refl _) _⟩, by simp [intOf]; omega⟩
    · obtain rfl : k = l.length := by omega
      clear hB hF hl hB1 hF0
      go_wp2
      go_ret
      exact ⟨rfl, HF.out, HB.out⟩

set_option maxHeartbeats 1000000 in
theorem toOpS_zeroF (p : Option Addr) (cap : Nat) (w : World) :
    Calls Tryd.prog 9 #[.slice p 0 cap] w fun e w' => e = .returned (.slice (some ⟨w.heap.size, 0, none⟩) 0 0) ∧ Filled w' w.heap.size 0 [] ∧ Below w.heap.size w w' := by
  obtain ⟨i0, hi, hz0, hz1, hz2⟩ := info_parts infoOp
  go_enter Tryd.func9, Tryd.ntmps9
  go_wp2_with (first
    | (at_make; refine wpList_make_full _ rfl _ _ 26 rfl w.heap.size 47 i0 _ 7 Tryd.underlying26 hi hz0 hz1 .i64 .i64 _ _ 0 rfl rfl rfl rfl (by omega) (by unfold maxLen; omega) (Nat.le_refl _) ?_; intro w1 hown hgrow))
  clear hi hz0 hz1 hz2
  have hB1 : Below w.heap.size w w1 := (Below.refl _ _).grown hgrow (Nat.le_refl _) (fun k h => by cases h)
  have hF0 : Filled w1 w.heap.size 0 [] := by
    obtain ⟨_, ⟨h, _⟩ | ⟨g, cap', cur, hv, _, hb, _, _, hs, _⟩⟩ := hown
    · cases h
    · simp only [Value.slice.injEq, Option.some.injEq, Addr.mk.injEq] at hv
      obtain ⟨⟨rfl, _⟩, _, rfl⟩ := hv
      exact ⟨cur, hb, by simpa using hs, fun i o _ h => by omega⟩
  clear hown hgrow
  refine wp_loop_rounds 1 ?_
  rw [rounds_succ]
  go_wp2
  go_ret
  exact ⟨rfl, hF0, hB1⟩


theorem Filled.blk {w : World} {g k : Nat} {l : List Op7} (h : Filled w g k l) : Blk w g l.length := by
  obtain ⟨cur, h1, h2, _⟩ := h
  exact ⟨cur, h1, h2⟩
theorem Blk.below {w w' : World} {g n B : Nat} (h : Blk w g n) (hb : Below B w w') (hB : g < B) : Blk w' g n := by
  obtain ⟨cur, h1, h2⟩ := h
  exact ⟨cur, (hb.block g hB).trans h1, h2⟩
theorem toOpS_anyF (l : List Op7) (p : Option Addr) (cap : Nat) (w : World) (hl : ArgOps w p l) (hn : l.length ≤ 1048576) (hcap : l.length ≤ cap) :
    Calls Tryd.prog 9 #[.slice p l.length cap] w fun e w' => e = .returned (.slice (some ⟨w.heap.size, 0, none⟩) l.length l.length) ∧ OpsAt w' w.heap.size l ∧ Blk w' w.heap.size l.length ∧ Below w.heap.size w w' := by
  rcases hl with rfl | ⟨b, off, rfl, hl⟩
  · refine (toOpS_zeroF p cap w).mono ?_
    rintro e w' ⟨rfl, hF, hB⟩
    exact ⟨rfl, hF.at, hF.blk, hB⟩
  · refine (toOpS_someF l b off cap w hl hn hcap).mono ?_
    rintro e w' ⟨rfl, hF, hB⟩
    exact ⟨rfl, hF.at, hF.blk, hB⟩
end Go.Proofs.YtpkdadccapemcaaDoor
