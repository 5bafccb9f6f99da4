/-
  PROVED: at every list of things, every two numbers and every text the program's TypeRun answers as the specification's does, in memory of its own, and writes nothing into the list (the given card of FnExactTypeRun), for every input; the one listed variable, the program's error, reads as its own initialiser lays it.
-/
import Derived.Test.YtficnhlkefpfnaaDoorP6
import Derived.Test.YtficnhlkefpfnaaDoorP5
import Derived.Test.YtficnhlkefpfnaaDoorP0
import Derived.BigQuiet
import Derived.WalkSmall
import Derived.Deep.RegionHeld3
import Derived.Deep.DrawnRows
import Derived.Test.YtficnhlkefpfnaaDoorRows
import Derived.WalkKit
import Derived.ProofKit
import Derived.OpenShut
import Derived.ChangeOld
import Derived.Below
import Derived.Lib.SmallJoins
import Derived.Stop.LaidErr
import Derived.LaidMore
import Derived.Stop.Joined
import Derived.Deep.Slices
import Derived.Test.YtficnhlkefpfnaaDoorP1
import Derived.ChangeMaps5
import Derived.Test.YtficnhlkefpfnaaDoorTie
import Derived.Test.YtficnhlkefpfnaaDoorCards
import Derived.SevenTiedAt
import Derived.Carry
namespace Go.Proofs.YtficnhlkefpfnaaDoor
open Go.RowKit
set_option linter.unusedSimpArgs false
set_option linter.unusedVariables false

set_option maxHeartbeats 1000000 in
theorem toOpS_someF (l : List Op7) (b off cap : Nat) (w : World) (hl : LawAt w b off l) (hn : l.length ≤ 1048576) (hcap : l.length ≤ cap) :
    Calls Tryd.prog 15 #[.slice (some ⟨b, off, none⟩) l.length cap] w fun e w' => e = .returned (.slice (some ⟨w.heap.size, 0, none⟩) l.length l.length) ∧ Filled w' w.heap.size l.length l ∧ Below w.heap.size w w' := by
  obtain ⟨i0, hi, hz0, hz1, hz2⟩ := info_parts infoOp
  go_enter Tryd.func15, Tryd.ntmps15
  go_wp2_with (first
    | (at_make; refine wpList_make_full _ rfl _ _ 24 rfl w.heap.size 71 i0 _ 7 Tryd.underlying24 hi hz0 hz1 .i64 .i64 _ _ l.length rfl rfl rfl rfl (by rw [hz2]; omega) (by unfold maxLen; omega) (Nat.le_refl _) ?_; intro w1 hown hgrow))
  clear hi hz0 hz1 hz2
  have hB1 : Below w.heap.size w w1 := (Below.refl _ _).grown hgrow (Nat.le_refl _) (fun k h => by cases h)
  have hF0 : Filled w1 w.heap.size 0 l := by
    obtain ⟨_, ⟨h, _⟩ | ⟨g, cap', cur, hv, _, hb, _, _, hs, _⟩⟩ := hown
    · cases h
    · simp only [Value.slice.injEq, Option.some.injEq, Addr.mk.injEq] at hv
      obtain ⟨⟨rfl, _⟩, _, rfl⟩ := hv
      exact ⟨cur, hb, hs, fun i o _ h => by omega⟩
  clear hown hgrow
  go_loopw [4] (fun i wr => ∃ k : Nat, k ≤ l.length ∧ i = .int .i64 k ∧ Filled wr w.heap.size k l ∧ Below w.heap.size w wr)
    (fun i _ => l.length - (intOf i).toNat)
  case atStart => exact ⟨0, Nat.zero_le _, rfl, hF0, hB1⟩
  case round =>
    obtain ⟨k, hk, rfl, hF, hB⟩ := hrel
    have HB : Hid (Below w.heap.size w wr) := hB
    have HF : Hid (Filled wr w.heap.size k l) := hF
    by_cases hlt : k < l.length
    · obtain ⟨h0, h1, h2, h3, h4, h5, h6⟩ := (hl.below hB hl.1).2 k l[k] (by simp [hlt])
      have hbk := (hl.below hB hl.1).1
      obtain ⟨cur, hblk, hsz, hcur⟩ := hF
      have hBlt : w.heap.size < wr.heap.size := by
        rcases Nat.lt_or_ge w.heap.size wr.heap.size with h | h
        · exact h
        · simp [Array.getElem?_eq_none h] at hblk
      have hfz : ∀ o, wr.frozen? ⟨w.heap.size, o, none⟩ = false := fun o => frozen_of_block hblk o
      have hex : ∀ j, j < 7 → ∃ u, wr.cell? ⟨w.heap.size, k * 7 + j, none⟩ = some u := fun j hj => by
        rw [cell_of_block hblk]; exact ⟨_, Array.getElem?_eq_getElem (by omega)⟩
      obtain ⟨u0, e0⟩ := hex 0 (by omega)
      obtain ⟨u1, e1⟩ := hex 1 (by omega)
      obtain ⟨u2, e2⟩ := hex 2 (by omega)
      obtain ⟨u3, e3⟩ := hex 3 (by omega)
      obtain ⟨u4', e4⟩ := hex 4 (by omega)
      obtain ⟨u5', e5⟩ := hex 5 (by omega)
      obtain ⟨u6', e6⟩ := hex 6 (by omega)
      simp only [Nat.add_zero] at e0
      have hlt' : (k : Int) < (l.length : Int) := by omega
      have hk0 : (0 : Int) ≤ (k : Int) := by omega
      clear hB hl hblk hsz hcur hex hB1 hF0
      go_wp2_with (first
        | (go_at_call 46; refine (toOp_any _ _ _ _ _ _ _ _).mono ?_; rintro e w2 ⟨rfl, hb2⟩; obtain ⟨hc2, hf2⟩ := bcell hb2; have HB2 : Hid (Below wr.heap.size wr w2) := hb2; clear hb2))
      exact ⟨⟨k + 1, by omega, by go_num, (HF.out.below HB2.out hBlt).step hlt, (((((((Bstep HB.out HB2.out).setCell (Nat.le_refl _) _).setCell (Nat.le_refl _) _).setCell (Nat.le_refl _) _).setCell (Nat.le_refl _) _).setCell (Nat.le_refl _) _).setCell (Nat.le_refl _) _).setCell (Nat.le_refl _) _⟩, by simp [intOf]; omega⟩
    · obtain rfl : k = l.length := by omega
      clear hB hF hl hB1 hF0
      go_wp2
      go_ret
      exact ⟨rfl, HF.out, HB.out⟩

set_option maxHeartbeats 1000000 in
theorem toOpS_zeroF (p : Option Addr) (cap : Nat) (w : World) :
    Calls Tryd.prog 15 #[.slice p 0 cap] w fun e w' => e = .returned (.slice (some ⟨w.heap.size, 0, none⟩) 0 0) ∧ Filled w' w.heap.size 0 [] ∧ Below w.heap.size w w' := by
  obtain ⟨i0, hi, hz0, hz1, hz2⟩ := info_parts infoOp
  go_enter Tryd.func15, Tryd.ntmps15
  go_wp2_with (first
    | (at_make; refine wpList_make_full _ rfl _ _ 24 rfl w.heap.size 71 i0 _ 7 Tryd.underlying24 hi hz0 hz1 .i64 .i64 _ _ 0 rfl rfl rfl rfl (by omega) (by unfold maxLen; omega) (Nat.le_refl _) ?_; intro w1 hown hgrow))
  clear hi hz0 hz1 hz2
  have hB1 : Below w.heap.size w w1 := (Below.refl _ _).grown hgrow (Nat.le_refl _) (fun k h => by cases h)
  have hF0 : Filled w1 w.heap.size 0 [] := by
    obtain ⟨_, ⟨h, _⟩ | ⟨g, cap', cur, hv, _, hb, _, _, hs, _⟩⟩ := hown
    · cases h
    · simp only [Value.slice.injEq, Option.some.injEq, Addr.mk.injEq] at hv
      obtain ⟨⟨rfl, _⟩, _, rfl⟩ := hv
      exact ⟨cur, hb, by simpa using hs, fun i o _ h => by omega⟩
  clear hown hgrow
  refine wp_loop_rounds 1 ?_
  rw [rounds_succ]
  go_wp2
  go_ret
  exact ⟨rfl, hF0, hB1⟩


theorem Filled.blk {w : World} {g k : Nat} {l : List Op7} (h : Filled w g k l) : Blk w g l.length := by
  obtain ⟨cur, h1, h2, _⟩ := h
  exact ⟨cur, h1, h2⟩
theorem Blk.below {w w' : World} {g n B : Nat} (h : Blk w g n) (hb : Below B w w') (hB : g < B) : Blk w' g n := by
  obtain ⟨cur, h1, h2⟩ := h
  exact ⟨cur, (hb.block g hB).trans h1, h2⟩
theorem toOpS_anyF (l : List Op7) (p : Option Addr) (cap : Nat) (w : World) (hl : ArgOps w p l) (hn : l.length ≤ 1048576) (hcap : l.length ≤ cap) :
    Calls Tryd.prog 15 #[.slice p l.length cap] w fun e w' => e = .returned (.slice (some ⟨w.heap.size, 0, none⟩) l.length l.length) ∧ OpsAt w' w.heap.size l ∧ Blk w' w.heap.size l.length ∧ Below w.heap.size w w' := by
  rcases hl with rfl | ⟨b, off, rfl, hl⟩
  · refine (toOpS_zeroF p cap w).mono ?_
    rintro e w' ⟨rfl, hF, hB⟩
    exact ⟨rfl, hF.at, hF.blk, hB⟩
  · refine (toOpS_someF l b off cap w hl hn hcap).mono ?_
    rintro e w' ⟨rfl, hF, hB⟩
    exact ⟨rfl, hF.at, hF.blk, hB⟩
end Go.Proofs.YtficnhlkefpfnaaDoor

namespace Go.Proofs.YtficnhlkefpfnaaDoor
open Go.RowKit
set_option linter.unusedSimpArgs false
set_option linter.unusedVariables false
attribute [local go_sem ↓] Go.wp_at_zero Go.wp_at_succ

set_option maxHeartbeats 1000000 in
theorem eqOp_same (a b k c d s g : Int) (w : World) :
    Calls Tryd.prog 60 #[.agg #[.int .i64 a, .int .i64 b, .int .i64 k, .int .i64 c, .int .i64 d, .int .i64 s, .int .i64 g], .agg #[.int .i64 a, .int .i64 b, .int .i64 k, .int .i64 c, .int .i64 d, .int .i64 s, .int .i64 g]] w fun e w' => e = .returned (.bool true) ∧ Below w.heap.size w w' := by
  go_enter Tryd.func60, Tryd.ntmps60
  go_wp2
  go_ret
  exact ⟨rfl, by go_grown⟩

set_option maxHeartbeats 1000000 in
theorem eqOpS_same (l : List Op7) (g1 g2 cap1 cap2 : Nat) (w : World) (hl1 : OpsAt w g1 l) (hl2 : OpsAt w g2 l) (hn : l.length ≤ 1048576) (hcap1 : l.length ≤ cap1) (hcap2 : l.length ≤ cap2) :
    Calls Tryd.prog 17 #[.slice (some ⟨g1, 0, none⟩) l.length cap1, .slice (some ⟨g2, 0, none⟩) l.length cap2] w fun e w' => e = .returned (.bool true) ∧ Below w.heap.size w w' := by
  go_enter Tryd.func17, Tryd.ntmps17
  go_wp2
  go_loopw [5] (fun i wr => ∃ k : Nat, k ≤ l.length ∧ i = .int .i64 k ∧ Below w.heap.size w wr)
    (fun i _ => l.length - (intOf i).toNat)
  case atStart => exact ⟨0, Nat.zero_le _, rfl, by go_grown⟩
  case round =>
    obtain ⟨k, hk, rfl, hB⟩ := hrel
    have HB : Hid (Below w.heap.size w wr) := hB
    by_cases hlt : k < l.length
    · obtain ⟨h0, h1, h2, h3, h4, h5, h6⟩ := (hl1.below hB hl1.1).2 k l[k] (by simp [hlt])
      obtain ⟨j0, j1, j2, j3, j4, j5, j6⟩ := (hl2.below hB hl2.1).2 k l[k] (by simp [hlt])
      have hg1 := (hl1.below hB hl1.1).1
      have hg2 := (hl2.below hB hl2.1).1
      generalize l[k].a = xa at *
      generalize l[k].b = xb at *
      generalize l[k].k = xk at *
      generalize l[k].c = xc at *
      generalize l[k].d = xd at *
      generalize l[k].s = xs at *
      generalize l[k].g = xg at *
      have hlt' : (k : Int) < (l.length : Int) := by omega
      have hk0 : (0 : Int) ≤ (k : Int) := by omega
      clear hB hl1 hl2
      go_wp2
      go_region_held3 (fun w' => w'.cell? ⟨g1, k * 7, none⟩ = some (.int .i64 xa) ∧ w'.cell? ⟨g1, k * 7 + 1, none⟩ = some (.int .i64 xb) ∧ w'.cell? ⟨g1, k * 7 + 2, none⟩ = some (.int .i64 xk) ∧ w'.cell? ⟨g1, k * 7 + 3, none⟩ = some (.int .i64 xc) ∧ w'.cell? ⟨g1, k * 7 + 4, none⟩ = some (.int .i64 xd) ∧ w'.cell? ⟨g1, k * 7 + 5, none⟩ = some (.int .i64 xs) ∧ w'.cell? ⟨g1, k * 7 + 6, none⟩ = some (.int .i64 xg) ∧
          w'.cell? ⟨g2, k * 7, none⟩ = some (.int .i64 xa) ∧ w'.cell? ⟨g2, k * 7 + 1, none⟩ = some (.int .i64 xb) ∧ w'.cell? ⟨g2, k * 7 + 2, none⟩ = some (.int .i64 xk) ∧ w'.cell? ⟨g2, k * 7 + 3, none⟩ = some (.int .i64 xc) ∧ w'.cell? ⟨g2, k * 7 + 4, none⟩ = some (.int .i64 xd) ∧ w'.cell? ⟨g2, k * 7 + 5, none⟩ = some (.int .i64 xs) ∧ w'.cell? ⟨g2, k * 7 + 6, none⟩ = some (.int .i64 xg)) (go_keep)
        (first | (go_at_call 60; refine (eqOp_same _ _ _ _ _ _ _ _).mono ?_; rintro e w2 ⟨rfl, hb2⟩; have hcA : ∀ o, w2.cell? ⟨g1, o, none⟩ = wr.cell? ⟨g1, o, none⟩ := (fun o => (bcell hb2).1 _ _ hg1); have hcB : ∀ o, w2.cell? ⟨g2, o, none⟩ = wr.cell? ⟨g2, o, none⟩ := (fun o => (bcell hb2).1 _ _ hg2); have HB2 : Hid (Below w.heap.size w w2) := Bstep HB.out.drew hb2; clear hb2))
      rename_i hS
      clear hS hcA hcB
      go_wp2
      exact ⟨⟨k + 1, by omega, by go_num, HB2.out⟩, by simp [intOf]; omega⟩
    · clear hB hl1 hl2
      go_wp2
      go_ret
      exact ⟨rfl, HB.out⟩
end Go.Proofs.YtficnhlkefpfnaaDoor

namespace Go.Proofs.YtficnhlkefpfnaaDoor
open Go.RowKit
set_option linter.unusedSimpArgs false
set_option linter.unusedVariables false
attribute [local go_sem ↓] Go.wp_at_zero Go.wp_at_succ

theorem rowBelowO {w w' : World} {b : Nat} {T : TypeId} {m : Nat} {v : Value} {n : Nat} {xs : List Value} (h : w.ownsRow b T m v n xs) (hb : Below w.heap.size w w') : w'.ownsRow b T m v n xs :=
  h.kept (row := none) ⟨hb.os, hb.tape, hb.output, hb.size, fun i hi _ => hb.block i hi⟩ (by cases v.ownBlock <;> simp)
set_option maxHeartbeats 1000000 in
theorem eqOpS_rows (L : List Op7) (v1 v2 : Value) (base1 base2 : Nat) (w : World) (h1 : w.ownsRow base1 71 7 v1 L.length (opCells L)) (h2 : w.ownsRow base2 71 7 v2 L.length (opCells L)) (hn : L.length ≤ 1048576) :
    Calls Tryd.prog 17 #[v1, v2] w fun e w' => e = .returned (.bool true) ∧ Below w.heap.size w w' := by
  rcases opRow_cases h1 with ⟨h0, p1, c1, rfl⟩ | ⟨h0, g1, c1, rfl, hc1, hg1, hx1⟩
  · rcases opRow_cases h2 with ⟨_, p2, c2, rfl⟩ | ⟨h0', _⟩
    · clear h1 h2
      go_enter Tryd.func17, Tryd.ntmps17
      go_wp2
      refine wp_loop_rounds 1 ?_
      rw [rounds_succ]
      go_wp2
      go_ret
      exact ⟨rfl, Below.refl _ _⟩
    · omega
  · rcases opRow_cases h2 with ⟨h0', _⟩ | ⟨_, g2, c2, rfl, hc2, hg2, hx2⟩
    · omega
    · have at1 : OpsAt w g1 L := OwnOps.at (show OwnOps w base1 g1 c1 L from h1)
      have at2 : OpsAt w g2 L := OwnOps.at (show OwnOps w base2 g2 c2 L from h2)
      exact eqOpS_same L g1 g2 c1 c2 w at1 at2 hn hc1 hc2


/-- The specification's answer, the program's, and the blocks X to Z of what was handed in. -/
structure QR (w W : World) (L Lg : List Op7) (vw vg : Value) (X Z : Nat) : Prop where
  rw : W.ownsRow w.heap.size 71 7 vw L.length (opCells L)
  rg : W.ownsRow (Z + 1) 71 7 vg Lg.length (opCells Lg)
  wx : ∀ j, vw.ownBlock = some j → j < X
  xz : w.heap.size ≤ X
  xl : X ≤ Z
  zl : Z < W.heap.size
  bel : Below w.heap.size w W
theorem QR.below {w W W' : World} {L Lg : List Op7} {vw vg : Value} {X Z : Nat} (h : QR w W L Lg vw vg X Z) (hb : Below W.heap.size W W') : QR w W' L Lg vw vg X Z :=
  ⟨rowBelowO h.rw hb, rowBelowO h.rg hb, h.wx, h.xz, h.xl, Nat.lt_of_lt_of_le h.zl hb.size, Bstep h.bel hb⟩
theorem QR.marked {w W W' : World} {L Lg : List Op7} {vw vg : Value} {X Z b : Nat} (h : QR w W L Lg vw vg X Z) (ho : OnlyBlk b W W') (h1 : X ≤ b) (h2 : b ≤ Z) : QR w W' L Lg vw vg X Z := by
  have hx := h.xz
  have hz := h.zl
  have hg : W.grownBy W' (some b) := ⟨ho.os, ho.tape, ho.output, by rw [ho.size]; exact Nat.le_refl _, fun i _ hne => ho.block i (fun e => hne (by rw [e]))⟩
  refine ⟨h.rw.kept hg ?_, h.rg.kept hg ?_, h.wx, hx, h.xl, by rw [ho.size]; exact hz, h.bel.trans (ho.below (by omega))⟩
  · cases hv : vw.ownBlock with
    | none => exact .inl rfl
    | some j => exact .inr fun e => by have := h.wx j hv; have := Option.some.inj e; omega
  · cases hv : vg.ownBlock with
    | none => exact .inl rfl
    | some j => exact .inr fun e => by have := (h.rg.lt j hv).1; have := Option.some.inj e; omega
theorem QR.own {w W W' : World} {L Lg Lg' : List Op7} {vw vg : Value} {X Z : Nat} (h : QR w W L Lg vw vg X Z) (hg : W.grownBy W' vg.ownBlock) (hr : W'.ownsRow (Z + 1) 71 7 vg Lg'.length (opCells Lg')) : QR w W' L Lg' vw vg X Z := by
  have h1 := h.xz
  have h2 := h.xl
  have ge : ∀ j, vg.ownBlock = some j → Z + 1 ≤ j := fun j e => (h.rg.lt j e).1
  refine ⟨h.rw.kept hg ?_, hr, h.wx, h1, h2, Nat.lt_of_lt_of_le h.zl hg.size, below_grown h.bel hg h.bel.size (fun j e => by have := ge j e; omega)⟩
  cases hv : vw.ownBlock with
  | none => exact .inl rfl
  | some j => exact .inr fun e => by have := h.wx j hv; have := ge j e.symm; omega
end Go.Proofs.YtficnhlkefpfnaaDoor

namespace Go.Proofs.YtficnhlkefpfnaaDoor
open Go.RowKit
set_option linter.unusedSimpArgs false
set_option linter.unusedVariables false
attribute [local go_sem ↓] Go.wp_at_zero Go.wp_at_succ

theorem ansR_len (l : List Op7) (r t : Int) (s : ByteArray) : (ansR l r t s).length ≤ 1048576 := by
  cases h : runR l r t s with
  | none => rw [(run_no h).2]; simp
  | some L =>
    rw [(run_yes h).2]
    unfold runR at h
    split at h
    · rename_i hh
      have := ops_36 (runTo_ok hh.1 h)
      omega
    · cases h

set_option maxRecDepth 100000 in
set_option maxHeartbeats 4000000 in
theorem walkRun (l : List Op7) (p : Option Addr) (cap : Nat) (r t : Int) (s : ByteArray) (x : Addr) (w : World) (hl : ArgOps w p l) (hcap : l.length ≤ cap) (hmax : cap ≤ maxLen)
    (he : w.cell? ⟨0, 0, none⟩ = some (.iface 200 (.pointer (some x)))) (h0 : 0 < w.heap.size) :
    Calls Tryd.prog 3 #[.slice p l.length cap, .int .i64 r, .int .i64 t, .string s] w fun e w' => e = .returned (.bool true) ∧ Below w.heap.size w w' := by
  have HA := hideIt hl
  clear hl
  unfold maxLen at hmax
  by_cases hs : s.size ≤ 1048576
  · by_cases hn : l.length ≤ 1048576
    · have HKL : Hid ((ansR l r t s).length ≤ 1048576) := ansR_len l r t s
      have hs' : ¬ ((1048576 : Int) < (s.size : Int)) := by omega
      go_enter Tryd.func3, Tryd.ntmps3
      go_wp2_with (first | (go_at_call 13; refine (sz_small _ _ _ _ hn).mono ?_; rintro e w' ⟨rfl, hw'⟩; rw [hw']; clear hw'))
      refine (toOpS_any l p cap _ HA.out hn hcap).mono ?_
      rintro e w1 ⟨rfl, hA1, hB1⟩
      have HA1 := hideIt hA1
      have HB1 := hideIt hB1
      clear hA1 hB1
      go_wp2_with fail
      refine (specRun_any l _ _ r t s _ HA1.out hn (Nat.le_refl _) hs).mono ?_
      rintro e w3 ⟨vw, rfl, hrw, hB3⟩
      have HRW := hideIt (ownsRow_base (b' := w.heap.size) HB1.out.size hrw)
      have HB3 := hideIt (Bstep HB1.out hB3)
      clear hrw hB3 HA1 HB1
      obtain ⟨zz, hzz⟩ : ∃ zz, okR l r t s = zz := ⟨_, rfl⟩
      have HZZ := hideIt hzz
      rw [hzz]
      clear hzz
      go_wp2_with fail
      refine (toOpS_anyF l p cap _ (HA.out.below HB3.out) hn hcap).mono ?_
      rintro e w4 ⟨rfl, hA4, hK4, hB4⟩
      have HA4 := hideIt hA4
      have HK4 := hideIt hK4
      have HR4 := hideIt (rowBelowO HRW.out hB4)
      have HWX : Hid (∀ j, vw.ownBlock = some j → j < w3.heap.size) := fun j e => (HRW.out.lt j e).2
      have hX : w.heap.size ≤ w3.heap.size := HB3.out.size
      have HB4 := hideIt (Bstep HB3.out hB4)
      clear hA4 hK4 hB4 HRW HB3
      generalize hXX : w3.heap.size = X at *
      clear hXX
      go_wp2_with fail
      refine (implRun_any l _ _ r t s x _ HA4.out hn (Nat.le_refl _) hs (errB HB4.out h0 he) (posB HB4.out h0)).mono ?_
      rintro e w6 ⟨vg, hee, hrg, hB6⟩
      have HOKE : okR l r t s = zz := HZZ.out
      rw [HOKE] at hee
      subst hee
      have HA6 := hideIt (HA4.out.below hB6 HA4.out.1)
      have HK6 := hideIt (HK4.out.below hB6 HA4.out.1)
      have HW6 : Hid (QR w w6 (ansR l r t s) (ansR l r t s) vw vg X X) := ⟨rowBelowO HR4.out hB6, ownsRow_base HA4.out.1 hrg, HWX.out, hX, Nat.le_refl _, HA6.out.1, Bstep HB4.out hB6⟩
      clear hrg hB6 HA4 HK4 HR4 HB4
      go_wp2_with fail
      refine (eqOpS_rows (ansR l r t s) _ _ _ _ _ HW6.out.rg HW6.out.rw HKL.out).mono ?_
      rintro e w7 ⟨rfl, hB7⟩
      have HA7 := hideIt (HA6.out.below hB7 HA6.out.1)
      have HK7 := hideIt (HK6.out.below hB7 HA6.out.1)
      have HW7 := hideIt (HW6.out.below hB7)
      clear hB7 HA6 HK6 HW6
      go_wp2_with fail
      refine (toOpS_any l p cap _ (HA.out.below HW7.out.bel) hn hcap).mono ?_
      rintro e w8 ⟨rfl, hA8', hB8⟩
      have HA88 := hideIt hA8'
      have HA8 := hideIt (HA7.out.below hB8 HA7.out.1)
      have HK8 := hideIt (HK7.out.below hB8 HA7.out.1)
      have HW8 := hideIt (HW7.out.below hB8)
      clear hA8' hB8 HA7 HK7 HW7
      go_wp2_with fail
      refine (eqOpS_same l _ _ _ _ _ HA8.out HA88.out hn (Nat.le_refl _) (Nat.le_refl _)).mono ?_
      rintro e w9 ⟨rfl, hB9⟩
      have HK9 := hideIt (HK8.out.below hB9 HA8.out.1)
      have hX9 : X < w9.heap.size := Nat.lt_of_lt_of_le HA8.out.1 hB9.size
      have HW9 := hideIt (HW8.out.below hB9)
      clear hB9 HA8 HA88 HK8 HW8
      go_wp2_with fail
      refine (markOpS_any X l.length _ _ HK9.out hn (Nat.le_refl _)).mono ?_
      rintro e w12 ⟨rfl, hO12⟩
      have HW12 := hideIt (HW9.out.marked hO12 (Nat.le_refl _) (Nat.le_refl _))
      clear hO12 HK9 HW9
      go_wp2_with fail
      refine (eqOpS_rows (ansR l r t s) _ _ _ _ _ HW12.out.rg HW12.out.rw HKL.out).mono ?_
      rintro e w14 ⟨rfl, hB14⟩
      have HW14 := hideIt (HW12.out.below hB14)
      clear hB14 HW12
      go_wp2_with fail
      refine (markOpS_row vg (ansR l r t s).length _ _ _ HW14.out.rg HKL.out).mono ?_
      rintro e w15 ⟨rfl, hr15, hg15⟩
      have HW15 := hideIt (HW14.out.own (Lg' := marksO (ansR l r t s).length) hg15 (by rw [marksO_len]; exact hr15))
      clear hr15 hg15 HW14
      go_wp2_with fail
      refine (heldOpS_row vg (ansR l r t s).length _ _ (by have h := HW15.out.rg; rw [marksO_len] at h; exact h) HKL.out).mono ?_
      rintro e w16 ⟨rfl, hB16⟩
      have HW16 := hideIt (HW15.out.below hB16)
      have hkl := HKL.out
      generalize hNN : (ansR l r t s).length = N at *
      have HNN := hideIt hNN
      clear hNN hB16 HW15
      go_wp2_with fail
      refine (toOpS_any l p cap _ (HA.out.below HW16.out.bel) hn hcap).mono ?_
      rintro e w17 ⟨rfl, hA17, hB17⟩
      have HA17 := hideIt hA17
      have HW17 := hideIt (HW16.out.below hB17)
      clear hA17 hB17 HW16
      go_wp2_with fail
      refine (implRun_any l _ _ r t s x _ HA17.out hn (Nat.le_refl _) hs (errB HW17.out.bel h0 he) (posB HW17.out.bel h0)).mono ?_
      rintro e w19 ⟨vh, hee, hrh, hB19⟩
      rw [HZZ.out] at hee
      subst hee
      have HRH := hideIt hrh
      have HW19 := hideIt (HW17.out.below hB19)
      clear hrh hB19 HA17 HW17
      go_wp2_with fail
      refine (eqOpS_rows (ansR l r t s) _ _ _ _ _ HRH.out HW19.out.rw (by rw [HNN.out]; exact hkl)).mono ?_
      rintro e w20 ⟨rfl, hB20⟩
      have HW20 := hideIt (HW19.out.below hB20)
      clear hB20 HRH HW19
      go_wp2_with fail
      refine (heldOpS_row vg N _ _ (by have h := HW20.out.rg; rw [marksO_len] at h; exact h) hkl).mono ?_
      rintro e w21 ⟨rfl, hB21⟩
      have HW21 := hideIt (HW20.out.below hB21)
      clear hB21
      go_wp2
      go_ret
      exact ⟨rfl, HW21.out.bel⟩
    · have hs' : ¬ ((1048576 : Int) < (s.size : Int)) := by omega
      go_enter Tryd.func3, Tryd.ntmps3
      go_wp2_with (first | (go_at_call 13; refine (sz_big _ _ _ _ (by omega) (by unfold maxLen; omega)).mono ?_; rintro e w' ⟨rfl, hw'⟩; rw [hw']; clear hw'))
      go_ret
      exact ⟨rfl, Below.refl _ _⟩
  · have hs' : (1048576 : Int) < (s.size : Int) := by omega
    go_enter Tryd.func3, Tryd.ntmps3
    go_wp2
    go_ret
    exact ⟨rfl, Below.refl _ _⟩
end Go.Proofs.YtficnhlkefpfnaaDoor

namespace Go.Proofs.YtficnhlkefpfnaaDoor
open Go.ChangeShapes Go.WideShapes Go.ChangeAt Go.RowKit Go.Joins

theorem own : ownKnob Tryd.prog.godebug = none := by kernel_rfl
theorem laidOut : laidOutB Tryd.prog = true := by kernel_rfl
theorem cells_laws_Id : Tryd.prog.cellsOf 65 = 2 := by kernel_rfl
theorem cells_laws_Op : Tryd.prog.cellsOf 67 = 7 := by kernel_rfl
theorem cells_int : Tryd.prog.cellsOf 3 = 1 := by kernel_rfl

set_option maxRecDepth 100000 in
theorem cells_of_id {H : Type} {enc : TypeId × Value → H} {w : World} {base : Nat} {spare : Nat → Bool} {held : Bool} {fuel : Nat} {cs : List Value} {x : DataW H × List MemPlace}
    (h : DataW.trod enc Tryd.prog w base spare held fuel 65 cs = some x) : ∃ a b, cs = [.int .i64 a, .int .i64 b] := by
  obtain ⟨y0, y1, n, _, hl, h0, h1⟩ := trod_struct2 Tryd.underlying65 h
  rw [cells_laws_Id] at hl
  match cs, hl with
  | [c0, c1], _ =>
    simp only [cells_int] at h0 h1
    obtain ⟨a, e0, _, _⟩ := DataW.trod_int Tryd.underlying3 h0
    obtain ⟨b, e1, _, _⟩ := DataW.trod_int Tryd.underlying3 h1
    simp at e0 e1
    exact ⟨a, b, by rw [e0, e1]⟩

theorem trod_struct5 {P : Program} {H : Type} {enc : TypeId × Value → H} {w : World} {base : Nat} {spare : Nat → Bool} {held : Bool} {t : TypeId} {f0 f1 f2 f3 f4 : Field} {fuel : Nat} {cs : List Value} {x : DataW H × List MemPlace} (ht : P.underlying t = some (.struct #[f0, f1, f2, f3, f4])) (h : DataW.trod enc P w base spare held fuel t cs = some x) :
    ∃ y0 y1 y2 y3 y4 n, cs.length = P.cellsOf t ∧ DataW.trod enc P w base spare held n f0.type ((cs.drop f0.offset).take (P.cellsOf f0.type)) = some y0 ∧
      DataW.trod enc P w base spare held n f1.type ((cs.drop f1.offset).take (P.cellsOf f1.type)) = some y1 ∧ DataW.trod enc P w base spare held n f2.type ((cs.drop f2.offset).take (P.cellsOf f2.type)) = some y2 ∧
      DataW.trod enc P w base spare held n f3.type ((cs.drop f3.offset).take (P.cellsOf f3.type)) = some y3 ∧ DataW.trod enc P w base spare held n f4.type ((cs.drop f4.offset).take (P.cellsOf f4.type)) = some y4 := by
  obtain ⟨xs, n, _, rfl, hl, hlen, hf⟩ := DataW.trod_struct ht h
  match xs, hlen with
  | [y0, y1, y2, y3, y4], _ => exact ⟨y0, y1, y2, y3, y4, n, hl, by simpa using hf 0 f0 rfl, by simpa using hf 1 f1 rfl, by simpa using hf 2 f2 rfl, by simpa using hf 3 f3 rfl, by simpa using hf 4 f4 rfl⟩

set_option maxRecDepth 100000 in
theorem cells_of_op {H : Type} {enc : TypeId × Value → H} {w : World} {base : Nat} {spare : Nat → Bool} {held : Bool} {fuel : Nat} {cs : List Value} {x : DataW H × List MemPlace}
    (h : DataW.trod enc Tryd.prog w base spare held fuel 67 cs = some x) :
    ∃ a b k c d s g, cs = [.int .i64 a, .int .i64 b, .int .i64 k, .int .i64 c, .int .i64 d, .int .i64 s, .int .i64 g] := by
  obtain ⟨y0, y1, y2, y3, y4, n, hl, g0, g1, g2, g3, g4⟩ := trod_struct5 Tryd.underlying67 h
  rw [cells_laws_Op] at hl
  match cs, hl with
  | [c0, c1, c2, c3, c4, c5, c6], _ =>
    simp only [cells_int, cells_laws_Id] at g0 g1 g2 g3 g4
    obtain ⟨a, b, e0⟩ := cells_of_id (x := y0) g0
    obtain ⟨k, e1, _, _⟩ := DataW.trod_int (x := y1) Tryd.underlying3 g1
    obtain ⟨c, d, e2⟩ := cells_of_id (x := y2) g2
    obtain ⟨s, e3, _, _⟩ := DataW.trod_int (x := y3) Tryd.underlying3 g3
    obtain ⟨g, e4, _, _⟩ := DataW.trod_int (x := y4) Tryd.underlying3 g4
    simp at e0 e1 e2 e3 e4
    exact ⟨a, b, k, c, d, s, g, by rw [e0.1, e0.2, e1, e2.1, e2.2, e3, e4]⟩

set_option maxRecDepth 100000 in
theorem open_op {H : Type} {enc : TypeId × Value → H} {w : World} {r : Reach} {b0 base : Nat} {spare : Nat → Bool} {held : Bool} {v : Value} {d : DataW H} {p : List MemPlace}
    (hv : Value.okWide Tryd.prog w r b0 67 v) (h : DataW.Trod enc Tryd.prog w base spare held 67 v d p) :
    ∃ a b k c d s g, v = .agg #[.int .i64 a, .int .i64 b, .int .i64 k, .int .i64 c, .int .i64 d, .int .i64 s, .int .i64 g] := by
  obtain ⟨cs, rfl, _⟩ := okWide_struct Tryd.underlying67 hv
  obtain ⟨fuel, hf⟩ := h
  obtain ⟨a, b, k, c, d, s, g, e⟩ := cells_of_op hf
  obtain ⟨l⟩ := cs
  simp [Value.cells] at e
  exact ⟨a, b, k, c, d, s, g, by rw [e]⟩

/-- The name of the one listed variable. -/
abbrev errName : String := Rows.fnExactTypeRunSpec.vars.headD ""
/-- What the rows list. -/
abbrev laid1 : List (String × DataW Unit) := Rows.fnExactTypeRunRow.laid
theorem gErr : Tryd.prog.globalNamed errName = some 0 := by kernel_rfl
theorem tErr : (Tryd.prog.globals[0]?).map (·.type) = some 120 := by kernel_rfl
def nmOf : DataW Unit → String
  | .iface n _ => n
  | _ => ""
theorem star : "*" ++ "errors.errorString" = nmOf Rows.laid_loop_example_tatting_impl_errNoThing := by decide
theorem nameErr (u : TypeId) (h : Tryd.prog.typeName? 3 u = some (nmOf Rows.laid_loop_example_tatting_impl_errNoThing)) : u = 200 :=
  typeName_ptr_named (nm := "errors.errorString") (by rw [star]; kernel_rfl) (by kernel_rfl) (by decide) u (by rw [star]; exact h)

theorem door_met (os : Os) (args : Array Value) : laidMetH Tryd.prog laid1 ((World.doorLaid Tryd.prog 28 os).forCall (fun _ _ => 0) ⟨#[], args, []⟩).memory :=
  laidMetH_of_parts3 (fuel := 8) (laidMet_of_run' 8 (by kernel_rfl) (by kernel_rfl)) (by kernel_rfl) (by kernel_rfl)

/-- WHAT THE CONDITION GIVES THE WALKS: the one error's cell. -/
theorem of_laid {W : World} (h : laidMetH Tryd.prog laid1 W) : ∃ x : Addr, W.var? Tryd.prog errName = some #[.iface 200 (.pointer (some x))] ∧ W.cell? ⟨0, 0, none⟩ = some (.iface 200 (.pointer (some x))) ∧ 0 < W.heap.size := by
  rw [MakeChecks.laidMetH_plain _ _ _ (by kernel_rfl)] at h
  obtain ⟨x, s, hv, hc, _, _⟩ := laid_sentinel h gErr tErr Tryd.underlying120 nameErr Tryd.underlying200 Tryd.underlying226 rfl rfl Tryd.underlying9 (by kernel_rfl) (by kernel_rfl)
  have hcell : W.cell? ⟨0, 0, none⟩ = some (.iface 200 (.pointer (some x))) := by simpa using World.var?_cell gErr hv 0
  refine ⟨x, hv, hcell, ?_⟩
  rcases Nat.eq_zero_or_pos W.heap.size with h0 | h0
  · exfalso
    simp [World.cell?, Array.eq_empty_of_size_eq_zero h0] at hcell
  · exact h0

/-- The variable holds what it held, where nothing that was there has turned. -/
theorem var_kept {W W' : World} {x : Value} (hb : Below W.heap.size W W') (h0 : 0 < W.heap.size) (hv : W.var? Tryd.prog errName = some #[x]) : W'.var? Tryd.prog errName = some #[x] := by
  unfold World.var? at hv ⊢
  rw [gErr] at hv ⊢
  simp only [Option.bind_some] at hv ⊢
  rw [hb.block 0 h0]
  exact hv
end Go.Proofs.YtficnhlkefpfnaaDoor

namespace Go.Proofs.YtficnhlkefpfnaaDoor
open Go.ChangeShapes Go.WideShapes Go.ChangeAt Go.RowKit Go.Joins Go.Deep

theorem add_none (b off j : Nat) : (⟨b, off, none⟩ : Addr).add j = ⟨b, off + j, none⟩ := by
  unfold Addr.add
  split
  · rename_i h; simp_all
  · rfl

set_option maxRecDepth 100000 in
theorem open_ops {H : Type} {enc : TypeId × Value → H} {w : World} {r : Reach} {b0 : Nat} {spare : Nat → Bool} {held : Bool} {v : Value} {d : DataW H} {p : List MemPlace}
    (hv : Value.okWide Tryd.prog w r b0 22 v) (h : DataW.Trod enc Tryd.prog w 0 spare held 22 v d p) :
    ∃ (q : Option Addr) (l : List Op7) (cap : Nat), v = .slice q l.length cap ∧ l.length ≤ cap ∧ cap ≤ maxLen ∧ ArgOps w q l := by
  obtain ⟨q, len, cap, rfl⟩ := okWide_slice Tryd.underlying22 hv
  obtain ⟨fuel, hf⟩ := h
  rcases open_slice Tryd.underlying22 hf with ⟨h0, _⟩ | ⟨a, len', cap', m, n, D, Pl, h1, _, hl, hm, hmm, _, hel⟩
  · simp [Value.cells] at h0
    obtain ⟨rfl, rfl, rfl⟩ := h0
    exact ⟨none, [], 0, rfl, Nat.le_refl _, Nat.zero_le _, .inl rfl⟩
  · simp [Value.cells] at h1
    obtain ⟨rfl, rfl, rfl⟩ := h1
    have hlm : len ≤ m := by rw [hmm]; split <;> omega
    by_cases hz : len = 0
    · subst hz
      exact ⟨some a, [], cap, rfl, Nat.zero_le _, hm, .inl rfl⟩
    obtain ⟨b, off, spot⟩ := a
    have hspot : spot = none := by
      obtain ⟨cs', hc, ht⟩ := hel 0 (by omega)
      rw [cells_laws_Op] at hc
      obtain ⟨xa, xb, xk, xc, xd, xs, xg, rfl⟩ := cells_of_op ht
      obtain ⟨_, _, hget⟩ := World.cells?_some hc
      have h0 := hget 0 (by omega)
      simpa [Addr.add] using World.cell?_spot h0
    subst hspot
    have hex : ∀ i, i < len → ∃ o : Op7, w.cell? ⟨b, off + i * 7, none⟩ = some (.int .i64 o.a) ∧ w.cell? ⟨b, off + i * 7 + 1, none⟩ = some (.int .i64 o.b) ∧ w.cell? ⟨b, off + i * 7 + 2, none⟩ = some (.int .i64 o.k) ∧ w.cell? ⟨b, off + i * 7 + 3, none⟩ = some (.int .i64 o.c) ∧ w.cell? ⟨b, off + i * 7 + 4, none⟩ = some (.int .i64 o.d) ∧ w.cell? ⟨b, off + i * 7 + 5, none⟩ = some (.int .i64 o.s) ∧ w.cell? ⟨b, off + i * 7 + 6, none⟩ = some (.int .i64 o.g) := by
      intro i hi
      obtain ⟨cs', hc, ht⟩ := hel i (by omega)
      rw [cells_laws_Op, add_none] at hc
      obtain ⟨xa, xb, xk, xc, xd, xs, xg, rfl⟩ := cells_of_op ht
      obtain ⟨_, _, hget⟩ := World.cells?_some hc
      simp only [add_none] at hget
      exact ⟨⟨xa, xb, xk, xc, xd, xs, xg⟩, hget 0 (by omega), hget 1 (by omega), hget 2 (by omega), hget 3 (by omega), hget 4 (by omega), hget 5 (by omega), hget 6 (by omega)⟩
    obtain ⟨f, hfe⟩ : ∃ f : Nat → Op7, ∀ i, i < len → w.cell? ⟨b, off + i * 7, none⟩ = some (.int .i64 (f i).a) ∧ w.cell? ⟨b, off + i * 7 + 1, none⟩ = some (.int .i64 (f i).b) ∧ w.cell? ⟨b, off + i * 7 + 2, none⟩ = some (.int .i64 (f i).k) ∧ w.cell? ⟨b, off + i * 7 + 3, none⟩ = some (.int .i64 (f i).c) ∧ w.cell? ⟨b, off + i * 7 + 4, none⟩ = some (.int .i64 (f i).d) ∧ w.cell? ⟨b, off + i * 7 + 5, none⟩ = some (.int .i64 (f i).s) ∧ w.cell? ⟨b, off + i * 7 + 6, none⟩ = some (.int .i64 (f i).g) :=
      ⟨fun i => if h : i < len then Classical.choose (hex i h) else ⟨0, 0, 0, 0, 0, 0, 0⟩, fun i hi => by
        simp only [dif_pos hi]
        exact Classical.choose_spec (hex i hi)⟩
    refine ⟨some ⟨b, off, none⟩, (List.range len).map f, cap, by simp, by simpa using hl, hm, .inr ⟨b, off, rfl, ?_, fun i o ho => ?_⟩⟩
    · exact World.block_lt_of_cell? w _ (hfe 0 (by omega)).1
    · have hi : i < len := by
        have := (List.getElem?_eq_some_iff.1 ho).1
        simpa using this
      obtain rfl : o = f i := by simpa [hi] using ho.symm
      exact hfe i hi

set_option maxRecDepth 100000 in
theorem open_id {H : Type} {enc : TypeId × Value → H} {w : World} {r : Reach} {b0 base : Nat} {spare : Nat → Bool} {held : Bool} {v : Value} {d : DataW H} {p : List MemPlace}
    (hv : Value.okWide Tryd.prog w r b0 65 v) (h : DataW.Trod enc Tryd.prog w base spare held 65 v d p) : ∃ a b, v = .agg #[.int .i64 a, .int .i64 b] := by
  obtain ⟨cs, rfl, _⟩ := okWide_struct Tryd.underlying65 hv
  obtain ⟨fuel, hf⟩ := h
  obtain ⟨a, b, e⟩ := cells_of_id hf
  obtain ⟨l⟩ := cs
  simp [Value.cells] at e
  exact ⟨a, b, by rw [e]⟩
end Go.Proofs.YtficnhlkefpfnaaDoor

namespace Go.Proofs.YtficnhlkefpfnaaDoor
open Go.ChangeShapes Go.WideShapes Go.ChangeAt Go.RowKit Go.Joins

set_option maxRecDepth 100000 in
theorem open_idw {H : Type} {enc : TypeId × Value → H} {w : World} {r : Reach} {b0 base : Nat} {spare : Nat → Bool} {held : Bool} {v : Value} {d : DataW H} {p : List MemPlace}
    (hv : Value.okWide Tryd.prog w r b0 65 v) (h : DataW.Trod enc Tryd.prog w base spare held 65 v d p) : ∃ a b, v = .agg #[.int .i64 a, .int .i64 b] ∧ wf64 a ∧ wf64 b := by
  obtain ⟨cs, rfl, _⟩ := okWide_struct Tryd.underlying65 hv
  obtain ⟨fuel, hf⟩ := h
  obtain ⟨y0, y1, n, _, hl, h0, h1⟩ := trod_struct2 Tryd.underlying65 hf
  rw [cells_laws_Id] at hl
  obtain ⟨l⟩ := cs
  simp only [Value.cells] at hl h0 h1
  match l, hl with
  | [c0, c1], _ =>
    simp only [cells_int] at h0 h1
    obtain ⟨a, e0, _, wa⟩ := DataW.trod_int Tryd.underlying3 h0
    obtain ⟨b, e1, _, wb⟩ := DataW.trod_int Tryd.underlying3 h1
    simp at e0 e1
    exact ⟨a, b, by rw [e0, e1], wa, wb⟩
set_option maxRecDepth 100000 in
theorem open_int {H : Type} {enc : TypeId × Value → H} {w : World} {r : Reach} {b0 base : Nat} {spare : Nat → Bool} {held : Bool} {v : Value} {d : DataW H} {p : List MemPlace}
    (hv : Value.okWide Tryd.prog w r b0 3 v) (h : DataW.Trod enc Tryd.prog w base spare held 3 v d p) : ∃ n, v = .int .i64 n ∧ wf64 n := by
  obtain ⟨n, rfl⟩ := okWide_int Tryd.underlying3 hv
  obtain ⟨fuel, hf⟩ := h
  obtain ⟨n', e0, _, wn⟩ := DataW.trod_int Tryd.underlying3 hf
  simp [Value.cells] at e0
  subst e0
  exact ⟨_, rfl, wn⟩
end Go.Proofs.YtficnhlkefpfnaaDoor

namespace Go.Proofs.YtficnhlkefpfnaaDoor
open Go.ChangeShapes Go.WideShapes Go.ChangeAt Go.RowKit Go.Joins

set_option maxRecDepth 100000 in
theorem fnExactTypeRun_lifted (os : Os) (started : os.Started) (H : Type) (enc : TypeId × Value → H) :
    ReturnsInHanded {} Tryd.checked os 3 .any (fun w args => (Rows.fnExactTypeRunSpec.pre enc Tryd.prog Tryd.f3 [] false w args ∧ laidMetH Tryd.prog laid1 w) ∧ sizedMet enc Tryd.prog Tryd.f3 (OpenSpec.ofChange Rows.fnExactTypeRunSpec) false w args)
      (Rows.fnExactTypeRunSpec.post enc Tryd.prog Tryd.f3 false true false false) := by
  refine returnsInHanded_of_change_and (C := Tryd.checked) (X := fun w _ => laidMetH Tryd.prog laid1 w) (fun _ _ _ hh h => h.of_heap hh) own started (by kernel_rfl) Tryd.func3
    (ChangeSpec.witness_shaped (enc := enc) (C := Tryd.checked) (os := os) (X := fun w _ => laidMetH Tryd.prog laid1 w) false (World.doorLaid Tryd.prog 28 os) #[.slice none 0 0, .int .i64 0, .int .i64 0, .string ⟨#[]⟩] 8 rfl (World.shaped_of_RefB (by kernel_rfl) (by kernel_rfl)) (by kernel_rfl) (by kernel_rfl) (by kernel_rfl) (door_met os _)) ?_
  intro W base args ds gs before hval0 hW _ _ hL _
  have hval : ∀ (j : Nat) t v, Tryd.f3.params[j]? = some t → args[j]? = some v → Value.okWide Tryd.prog W .any base t v := hval0
  have hW' := hW
  obtain ⟨p, q, hA0, hV0, rfl, hfz, hnd⟩ := hW
  have hA : DataW.TrodAll enc Tryd.prog W 0 (fun _ => true) true Tryd.f3.params.toList args.toList ds p := hA0
  have hV : DataW.TrodVars enc Tryd.prog W (fun _ => true) [errName] gs q := hV0
  rw [Tryd.params3] at hA hval
  obtain ⟨v0, v1, v2, v3, d0, d1, d2, d3, p0, p1, p2, p3, rfl, rfl, rfl, h0, h1, h2, h3⟩ := trodAll_four hA
  have kk0 := h0
  have lt0 : ∀ x ∈ p0, x.block < W.heap.size := by obtain ⟨m, hm⟩ := kk0; exact DataW.trod_lt m _ _ _ hm
  have kk1 := h1
  have lt1 : ∀ x ∈ p1, x.block < W.heap.size := by obtain ⟨m, hm⟩ := kk1; exact DataW.trod_lt m _ _ _ hm
  have kk2 := h2
  have lt2 : ∀ x ∈ p2, x.block < W.heap.size := by obtain ⟨m, hm⟩ := kk2; exact DataW.trod_lt m _ _ _ hm
  have kk3 := h3
  have lt3 : ∀ x ∈ p3, x.block < W.heap.size := by obtain ⟨m, hm⟩ := kk3; exact DataW.trod_lt m _ _ _ hm
  obtain ⟨x, hv, hc, hpos⟩ := of_laid hL
  obtain ⟨rfl, rfl⟩ := hV.unique (vars_read1 enc gErr tErr Tryd.underlying120 hv trivial _)
  obtain ⟨pa0, l0, cap0, rfl, hcap0, hmax0, hargs0⟩ := open_ops (hval 0 22 v0 rfl rfl) h0
  obtain ⟨n1, rfl, -⟩ := open_int (hval 1 3 v1 rfl rfl) h1
  obtain ⟨n2, rfl, -⟩ := open_int (hval 2 3 v2 rfl rfl) h2
  obtain ⟨s3, rfl, -, -, -⟩ := Go.ChangeMaps.open_string Tryd.underlying9 (hval 3 9 v3 rfl rfl) h3
  clear hA0 hV0 hval0
  refine (walkRun l0 pa0 cap0 n1 n2 s3 x W hargs0 hcap0 hmax0 hc hpos).mono fun e W' ⟨he, bel⟩ => ?_
  subst he
  exact ⟨_, rfl, _, _, _, [], _, [.cell 0 0], hW', trodAll_mk1 (shut_bool Tryd.underlying4 _), (trodAll_cons_mk (Below.trod laidOut (by kernel_rfl) (of_decide_eq_true (by kernel_rfl)) kk0 bel lt0) (trodAll_cons_mk (Below.trod laidOut (by kernel_rfl) (of_decide_eq_true (by kernel_rfl)) kk1 bel lt1) (trodAll_cons_mk (Below.trod laidOut (by kernel_rfl) (of_decide_eq_true (by kernel_rfl)) kk2 bel lt2) (trodAll_cons_mk (Below.trod laidOut (by kernel_rfl) (of_decide_eq_true (by kernel_rfl)) kk3 bel lt3) trodAll_mk0)))), vars_read1 enc gErr tErr Tryd.underlying120 (var_kept bel hpos hv) trivial _, bel.frame _, fun h => by cases h⟩

theorem fnExactTypeRun_row : Rows.FnExactTypeRunSaid :=
  OpenClaim.holds_of_wide 3 Tryd.f3 rfl rfl rfl rfl rfl rfl rfl ⟨rfl, rfl, rfl, rfl, rfl⟩ rfl rfl rfl rfl rfl (by kernel_rfl) Tryd.func3 (by kernel_rfl)
    (of_decide_eq_true (by kernel_rfl)) (by unfold Func.isWrapper; first | (rw [if_pos (by decide +kernel)]; kernel_rfl) | (rw [if_neg (by decide +kernel)]; exact ⟨rfl, rfl⟩))
    (fun os started H enc _ => fnExactTypeRun_lifted os started H enc)

/-- THE STATEMENT. -/
theorem fnExactTypeRun_holds : Rows.FnExactTypeRunCardSaid :=
  Claim7.holds_tied_plain_at .later [] Rows.fnExactTypeRunCard.laidKinds true Rows.fnExactTypeRunCard.stood.harness true
    fnExactTypeRun_row (fun _ h => by cases h) (by kernel_rfl) (fun _ h => by cases h) fnExactTypeRun_row_tie rfl ⟨rfl, rfl⟩ (by kernel_rfl) rfl
    (fun f fn hf hfn => by
      obtain rfl : f = 3 := Option.some.inj ((show Tryd.prog.funcNamed Rows.fnExactTypeRunRow.func = some 3 by kernel_rfl).symm.trans hf) |>.symm
      obtain rfl : fn = Tryd.f3 := (Option.some.inj (Tryd.func3.symm.trans hfn)).symm
      exact ⟨by kernel_rfl, fun j t ht => by
        rw [Tryd.params3] at ht
        have hm : t ∈ [22, 3, 9] := by simpa using Array.mem_of_getElem? ht
        have hall : ([22, 3, 9].all fun u => !Tryd.prog.wantsStandIn u) = true := by kernel_rfl
        exact (show Tryd.prog.wantsStandIn t = false by simpa using List.all_eq_true.1 hall t hm)⟩)
    (by kernel_rfl)
#print axioms fnExactTypeRun_holds
end Go.Proofs.YtficnhlkefpfnaaDoor
