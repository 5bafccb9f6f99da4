/- The contract of l71Rep: some small number. -/
import Derived.Test.YtjadkhejdbdpoaaDoorProg
import Derived.WalkKit
import Derived.Below
import Derived.Handy
import Derived.Outline
import Derived.Laws.BitsAllLaws
import Derived.Deep.RegionHeld3
import Derived.Deep.DrawnRows
import Derived.BigQuiet
import Derived.WalkSmall
import Derived.Test.YtjadkhejdbdpoaaDoorPackB
import Derived.Lib.SmallJoins
import Derived.Laws.BytesArg
import Derived.Test.YtjadkhejdbdpoaaDoorPackH
import Derived.RangeFuncBox
namespace Go.Proofs.YtjadkhejdbdpoaaDoor
open Go.RowKit
set_option linter.unusedSimpArgs false
set_option linter.unusedVariables false
attribute [local go_sem ↓] Go.wp_at_zero Go.wp_at_succ

theorem i64_xor_nat (a b : Nat) (ha : a < 9223372036854775808) (hb : b < 9223372036854775808) : bits .xor .i64 (a : Int) (b : Int) = ((a ^^^ b : Nat) : Int) := by
  have hx : a ^^^ b < 2 ^ 63 := Nat.xor_lt_two_pow (by omega) (by omega)
  show IntKind.i64.wrap ((BitVec.ofInt 64 (a : Int) ^^^ BitVec.ofInt 64 (b : Int)).toNat : Int) = _
  rw [BitVec.toNat_xor, ofInt_u64 a (by omega), ofInt_u64 b (by omega)]
  exact IntWalk.i64_in _ ⟨by omega, by omega⟩

/-- Bytes that came in. -/
def BytesAt (w : World) (q : Nat) (p : Option Addr) (n : Nat) : Prop := n = 0 ∨ ∃ b off, p = some ⟨b, off, none⟩ ∧ b ≠ q ∧ b < w.heap.size ∧ ∀ i, i < n → ∃ c : Int, 0 ≤ c ∧ c ≤ 255 ∧ w.cell? ⟨b, off + i, none⟩ = some (.int .u8 c)
/-- A reader that has drawn k numbers. -/
structure RdAt (w : World) (q : Nat) (p : Option Addr) (n cap k : Nat) : Prop where
  b : w.cell? ⟨q, 0, none⟩ = some (.slice p n cap)
  k : w.cell? ⟨q, 1, none⟩ = some (.int .i64 k)
  fz : ∀ j, w.frozen? ⟨q, j, none⟩ = false
  lt : q < w.heap.size
  few : n ≤ 2000
  bytes : BytesAt w q p n
/-- Only the reader's block turned, and what is behind all. -/
structure OnlyQ (q : Nat) (w w' : World) : Prop where
  size : w.heap.size ≤ w'.heap.size
  cell : ∀ b o, b < w.heap.size → b ≠ q → w'.cell? ⟨b, o, none⟩ = w.cell? ⟨b, o, none⟩
  frozen : ∀ b o, b < w.heap.size → b ≠ q → w'.frozen? ⟨b, o, none⟩ = w.frozen? ⟨b, o, none⟩
  below : Below q w w'
  block : ∀ b, b < w.heap.size → b ≠ q → w'.heap[b]? = w.heap[b]?
theorem BytesAt.only {w w' : World} {q n : Nat} {p : Option Addr} (h : BytesAt w q p n) (ho : OnlyQ q w w') : BytesAt w' q p n := by
  rcases h with h | ⟨b, off, hp, hq, hlt, hc⟩
  · exact .inl h
  · exact .inr ⟨b, off, hp, hq, Nat.lt_of_lt_of_le hlt ho.size, fun i hi => by
      obtain ⟨c, h0, h1, h2⟩ := hc i hi
      exact ⟨c, h0, h1, (ho.cell _ _ hlt hq).trans h2⟩⟩
theorem only_set (q : Nat) (w : World) (v : Value) (hq : q < w.heap.size) : OnlyQ q w (w.setCell ⟨q, 1, none⟩ v) :=
  ⟨by simp, fun b o hb hne => by simp [go_sem, hne, Ne.symm hne], fun b o hb hne => by simp, (Below.refl q w).setCell (p := ⟨q, 1, none⟩) (Nat.le_refl q) v, fun b hb hne => heap_setCell_other w ⟨q, 1, none⟩ b v (fun e => hne e)⟩
theorem OnlyQ.drew {q : Nat} {w w' : World} (h : OnlyQ q w w') : OnlyQ q w w'.drew :=
  ⟨by simpa using h.size, fun b o hb hne => by simpa using h.cell b o hb hne, fun b o hb hne => by simpa using h.frozen b o hb hne, h.below.drew, fun b hb hne => h.block b hb hne⟩
theorem RdAt.set {w : World} {q : Nat} {p : Option Addr} {n cap k : Nat} (h : RdAt w q p n cap k) : RdAt (w.setCell ⟨q, 1, none⟩ (.int .i64 ((k + 1 : Nat) : Int))) q p n cap (k + 1) :=
  ⟨by have := h.b; simp [go_sem, this], by have := h.k; simp [go_sem, this], fun j => by simp [h.fz], by simpa using h.lt, h.few, h.bytes.only (only_set q w _ h.lt)⟩

theorem OnlyQ.drewN {q : Nat} {w w' : World} (h : OnlyQ q w w') (j : Nat) : OnlyQ q w (w'.drewN j) :=
  ⟨by simpa using h.size, fun b o hb hne => by simpa using h.cell b o hb hne, fun b o hb hne => by simpa using h.frozen b o hb hne, below_drewN h.below _, fun b hb hne => by simpa using h.block b hb hne⟩
theorem OnlyQ.refl (q : Nat) (w : World) : OnlyQ q w w := ⟨Nat.le_refl _, fun _ _ _ _ => rfl, fun _ _ _ _ => rfl, Below.refl _ _, fun _ _ _ => rfl⟩
theorem OnlyQ.trans {q : Nat} {w w1 w2 : World} (h : OnlyQ q w w1) (h' : OnlyQ q w1 w2) : OnlyQ q w w2 :=
  ⟨Nat.le_trans h.size h'.size, fun b o hb hne => (h'.cell b o (Nat.lt_of_lt_of_le hb h.size) hne).trans (h.cell b o hb hne), fun b o hb hne => (h'.frozen b o (Nat.lt_of_lt_of_le hb h.size) hne).trans (h.frozen b o hb hne), h.below.trans h'.below, fun b hb hne => (h'.block b (Nat.lt_of_lt_of_le hb h.size) hne).trans (h.block b hb hne)⟩
theorem RdAt.drewN {w : World} {q : Nat} {p : Option Addr} {n cap k : Nat} (h : RdAt w q p n cap k) (j : Nat) : RdAt (w.drewN j) q p n cap k :=
  ⟨by simpa using h.b, by simpa using h.k, fun i => by simpa using h.fz i, by simpa using h.lt, h.few, h.bytes.only ((OnlyQ.refl q w).drewN j)⟩
theorem rem_xor (z m : Int) (h0 : 0 ≤ z) (h1 : z < 9223372036854775808) (hm : 1 ≤ m) : 0 ≤ (bits .xor .i64 z (z / 64)).tmod m ∧ (bits .xor .i64 z (z / 64)).tmod m < m := by
  obtain ⟨Z, rfl⟩ := Int.eq_ofNat_of_zero_le h0
  have e : ((Z : Int) / 64) = ((Z / 64 : Nat) : Int) := by simp
  rw [e, i64_xor_nat Z (Z / 64) (by omega) (by omega)]
  exact ⟨Int.tmod_nonneg _ (by omega), Int.tmod_lt_of_pos _ (by omega)⟩

set_option maxRecDepth 100000 in
set_option maxHeartbeats 1000000 in
theorem pick_any (w : World) (q : Nat) (p : Option Addr) (n cap k : Nat) (m : Int) (h : RdAt w q p n cap k) (hm : 1 ≤ m) (hm' : m ≤ 1048576) (hk : k ≤ 1073741824) :
    Calls Tryd.prog 41 #[.pointer (some ⟨q, 0, none⟩), .int .i64 m] w fun e w' => (∃ c : Int, 0 ≤ c ∧ c < m ∧ e = .returned (.int .i64 c)) ∧ RdAt w' q p n cap (k + 1) ∧ OnlyQ q w w' := by
  have H := hideIt h
  have c0 := h.b
  have c1 := h.k
  have f1 := h.fz
  have hlt := h.lt
  have few := h.few
  have hby := hideIt h.bytes
  clear h
  by_cases hn : n = 0
  · subst hn
    go_enter Tryd.func41, Tryd.ntmps41
    go_wp2
    go_ret
    exact ⟨⟨0, by omega, by omega, rfl⟩, H.out.set, only_set _ _ _ hlt⟩
  · obtain h | ⟨b, off, rfl, hbq, hbw, hcell⟩ := hby.out
    · exact absurd h hn
    have hbq' : ¬ q = b := fun h => hbq h.symm
    have hm1 : decide (m < 1) = false := by simpa using hm
    have hn1 : ((n : Int) == 0) = false := by simpa using hn
    by_cases hkn : k < n
    · obtain ⟨c, hc0, hc1, hc⟩ := hcell k hkn
      have hkn' : (k : Int) < (n : Int) := by omega
      have hk0 : (0 : Int) ≤ (k : Int) := by omega
      have ht1 := Int.emod_nonneg c (show m ≠ 0 by omega)
      have ht2 := Int.emod_lt_of_pos c (show 0 < m by omega)
      clear hcell
      go_enter Tryd.func41, Tryd.ntmps41
      go_wp2
      go_ret
      exact ⟨⟨_, ht1, ht2, rfl⟩, H.out.set, only_set _ _ _ hlt⟩
    · have hkn' : ¬ (k : Int) < (n : Int) := by omega
      have hk0 : (0 : Int) ≤ (k : Int) := by omega
      have hn0 : 0 < n := by omega
      obtain ⟨c, hc0, hc1, hc⟩ := hcell (k % n) (Nat.mod_lt _ hn0)
      obtain ⟨d, hd0, hd1, hd⟩ := hcell ((k * 7 + 3) % n) (Nat.mod_lt _ hn0)
      clear hcell
      have e1 : (k : Int) % (n : Int) = ((k % n : Nat) : Int) := by simp
      have e2 : ((k : Int) * 7 + 3) % (n : Int) = (((k * 7 + 3) % n : Nat) : Int) := by simp
      have e3 : (k : Int) / (n : Int) = ((k / n : Nat) : Int) := by simp
      have e4 : Int.tmod (k : Int) (n : Int) = ((k % n : Nat) : Int) := (Int.ofNat_tmod k n).symm
      have e5 : Int.tmod ((k : Int) * 7 + 3) (n : Int) = (((k * 7 + 3) % n : Nat) : Int) := by have h := Int.ofNat_tmod (k * 7 + 3) n; simpa using h.symm
      have e6 : Int.tdiv (k : Int) (n : Int) = ((k / n : Nat) : Int) := (Int.ofNat_tdiv k n).symm
      have l1 := Nat.mod_lt k hn0
      have l2 := Nat.mod_lt (k * 7 + 3) hn0
      have l3 := Nat.div_le_self k n
      generalize hr1 : k % n = r1 at *
      generalize hr2 : (k * 7 + 3) % n = r2 at *
      generalize hr3 : k / n = r3 at *
      clear hr1 hr2 hr3
      go_enter Tryd.func41, Tryd.ntmps41
      go_wp2
      go_quiet (fail)
      go_wp2
      go_ret
      obtain ⟨x1, x2⟩ := rem_xor (c * 131 + d * 1117 + ↑k * 29 + ↑r3 * 53) m (by omega) (by omega) (by omega)
      exact ⟨⟨_, x1, x2, rfl⟩, H.out.set.drewN nq, (only_set _ _ _ hlt).drewN nq⟩
end Go.Proofs.YtjadkhejdbdpoaaDoor

namespace Go.Proofs.YtjadkhejdbdpoaaDoor
open Go.RowKit
set_option linter.unusedSimpArgs false
set_option linter.unusedVariables false
attribute [local go_sem ↓] Go.wp_at_zero Go.wp_at_succ

/-- Bytes that came in, from an offset on. -/
def ArgBytes (w : World) (p : Option Addr) (n : Nat) : Prop := n = 0 ∨ ∃ b off, p = some ⟨b, off, none⟩ ∧ b < w.heap.size ∧ ∀ i, i < n → ∃ c : Int, 0 ≤ c ∧ c ≤ 255 ∧ w.cell? ⟨b, off + i, none⟩ = some (.int .u8 c)
theorem ArgBytes.below {w w' : World} {p : Option Addr} {n : Nat} (h : ArgBytes w p n) (hb : Below w.heap.size w w') : ArgBytes w' p n := by
  rcases h with h | ⟨b, off, hp, hlt, hc⟩
  · exact .inl h
  · exact .inr ⟨b, off, hp, Nat.lt_of_lt_of_le hlt hb.size, fun i hi => by
      obtain ⟨c, h0, h1, h2⟩ := hc i hi
      exact ⟨c, h0, h1, (hb.cell (p := ⟨b, _, none⟩) hlt).trans h2⟩⟩
theorem ArgBytes.at {w w' : World} {p : Option Addr} {n m q : Nat} (h : ArgBytes w p n) (hb : Below w.heap.size w w') (hq : w.heap.size ≤ q) (hm : m ≤ n) : BytesAt w' q p m := by
  rcases h with h | ⟨b, off, hp, hlt, hc⟩
  · exact .inl (by omega)
  · exact .inr ⟨b, off, hp, by omega, Nat.lt_of_lt_of_le hlt hb.size, fun i hi => by
      obtain ⟨c, h0, h1, h2⟩ := hc i (by omega)
      exact ⟨c, h0, h1, (hb.cell (p := ⟨b, _, none⟩) hlt).trans h2⟩⟩

set_option maxRecDepth 100000 in
theorem open_any (w : World) (p : Option Addr) (n cap : Nat) (h : ArgBytes w p n) (hcap : n ≤ cap) (hn : n ≤ 1048576) :
    Calls Tryd.prog 39 #[.slice p n cap] w fun e w' => ∃ n', e = .returned (.pointer (some ⟨w.heap.size, 0, none⟩)) ∧ RdAt w' w.heap.size p n' cap 0 ∧ Below w.heap.size w w' := by
  have H := hideIt h
  clear h
  by_cases hb : n ≤ 2000
  · go_enter Tryd.func39, Tryd.ntmps39
    go_wp2
    go_ret
    exact ⟨n, rfl, ⟨by simp [go_sem], by simp [go_sem], fun j => by simp [go_sem], by simp, hb, H.out.at ((Below.refl _ _).alloc (Nat.le_refl _) _) (Nat.le_refl _) (Nat.le_refl _)⟩, by go_grown⟩
  · go_enter Tryd.func39, Tryd.ntmps39
    go_wp2
    go_ret
    exact ⟨2000, rfl, ⟨by simp [go_sem], by simp [go_sem], fun j => by simp [go_sem], by simp, Nat.le_refl _, H.out.at ((Below.refl _ _).alloc (Nat.le_refl _) _) (Nat.le_refl _) (by omega)⟩, by go_grown⟩

theorem OnlyQ.alloc {q : Nat} {w w' : World} (h : OnlyQ q w w') (hq : q < w.heap.size) (o : Obj) : OnlyQ q w (w'.alloc o) :=
  ⟨Nat.le_trans h.size (by simp), fun b x hb hne => by rw [World.cell?_alloc_lt _ _ _ (show (Addr.mk b x none).block < _ from Nat.lt_of_lt_of_le hb h.size)]; exact h.cell b x hb hne,
    fun b x hb hne => by rw [World.frozen?_alloc_past _ _ _ (Nat.lt_of_lt_of_le hb h.size)]; exact h.frozen b x hb hne, h.below.alloc (by have := h.size; omega) _, fun b hb hne => (Below.heap_alloc _ _ _ (Nat.lt_of_lt_of_le hb h.size)).trans (h.block b hb hne)⟩
theorem RdAt.alloc {w : World} {q : Nat} {p : Option Addr} {n cap k : Nat} (h : RdAt w q p n cap k) (o : Obj) : RdAt (w.alloc o) q p n cap k :=
  ⟨by rw [World.cell?_alloc_lt _ _ _ (show (Addr.mk q _ none).block < _ from h.lt)]; exact h.b, by rw [World.cell?_alloc_lt _ _ _ (show (Addr.mk q _ none).block < _ from h.lt)]; exact h.k,
    fun j => by rw [World.frozen?_alloc_past _ _ _ h.lt]; exact h.fz j, Nat.lt_of_lt_of_le h.lt (by simp), h.few, h.bytes.only ((OnlyQ.refl q w).alloc h.lt o)⟩

theorem OnlyQ.set {q : Nat} {w w' : World} (h : OnlyQ q w w') (hq : q < w.heap.size) {g : Nat} (hg : w.heap.size ≤ g) (j : Nat) (v : Value) : OnlyQ q w (w'.setCell ⟨g, j, none⟩ v) :=
  ⟨by simpa using h.size, fun b o hb hne => by rw [World.cell?_setCell_other _ _ _ _ (by intro he; have := congrArg Addr.block he; simp at this; omega)]; exact h.cell b o hb hne,
    fun b o hb hne => by rw [World.frozen?_setCell]; exact h.frozen b o hb hne, h.below.setCell (p := ⟨g, j, none⟩) (show q ≤ g by omega) v, fun b hb hne => (heap_setCell_other w' ⟨g, j, none⟩ b v (by show ¬ b = g; omega)).trans (h.block b hb hne)⟩
theorem RdAt.fin {w w2 wf : World} {q : Nat} {p : Option Addr} {n cap k k2 : Nat} (H : RdAt w q p n cap k) (h2 : RdAt w2 q p n cap k2) (hO : OnlyQ q w wf) (hc : ∀ o, wf.cell? ⟨q, o, none⟩ = w2.cell? ⟨q, o, none⟩) (hf : ∀ o, wf.frozen? ⟨q, o, none⟩ = w2.frozen? ⟨q, o, none⟩) : RdAt wf q p n cap k2 :=
  ⟨(hc _).trans h2.b, (hc _).trans h2.k, fun j => (hf j).trans (h2.fz j), Nat.lt_of_lt_of_le H.lt hO.size, H.few, H.bytes.only hO⟩

set_option maxRecDepth 100000 in
set_option maxHeartbeats 1000000 in
theorem l71Id_any (w : World) (q : Nat) (p : Option Addr) (n cap k : Nat) (h : RdAt w q p n cap k) (hk : k ≤ 1073741800) :
    Calls Tryd.prog 73 #[.pointer (some ⟨q, 0, none⟩)] w fun e w' => (∃ r m : Int, e = .returned (.agg #[.int .i64 r, .int .i64 m])) ∧ (∃ k', k' ≤ k + 3 ∧ RdAt w' q p n cap k') ∧ OnlyQ q w w' := by
  have H := hideIt h
  clear h
  go_enter Tryd.func73, Tryd.ntmps73
  go_wp2_with fail
  refine (pick_any _ q p n cap k 12 (H.out.alloc _) (by omega) (by omega) (by omega)).mono ?_
  rintro e w1 ⟨⟨c, hc0, hc1, rfl⟩, hR, hO⟩
  have hqw := H.out.lt
  have r0 : w1.cell? ⟨w.heap.size, 0, none⟩ = some (.int .i64 0) := by rw [hO.cell _ _ (by simp) (by omega)]; simp [go_sem]
  have r1 : w1.cell? ⟨w.heap.size, 1, none⟩ = some (.int .i64 0) := by rw [hO.cell _ _ (by simp) (by omega)]; simp [go_sem]
  have rf : ∀ j, w1.frozen? ⟨w.heap.size, j, none⟩ = false := fun j => by rw [hO.frozen _ _ (by simp) (by omega)]; simp [go_sem]
  have hs1 : w.heap.size < w1.heap.size := by have := hO.size; simp at this; omega
  have HR := hideIt hR
  have HO := hideIt (((OnlyQ.refl q w).alloc H.out.lt _).trans hO)
  clear hR hO
  have hne : ¬ w.heap.size = q := by omega
  have hne' : ¬ q = w.heap.size := by omega
  by_cases hz : c = 0
  · subst hz
    go_wp2_with fail
    refine (pick_any _ q p n cap (k + 1) 5 (HR.out.alloc _) (by omega) (by omega) (by omega)).mono ?_
    rintro e w2 ⟨⟨d, hd0, hd1, rfl⟩, hR2, hO2⟩
    have s0 : w2.cell? ⟨w.heap.size, 0, none⟩ = some (.int .i64 0) := by rw [hO2.cell _ _ (by simp; omega) hne, World.cell?_alloc_lt _ _ _ hs1]; exact r0
    have s1 : w2.cell? ⟨w.heap.size, 1, none⟩ = some (.int .i64 0) := by rw [hO2.cell _ _ (by simp; omega) hne, World.cell?_alloc_lt _ _ _ hs1]; exact r1
    have sf : ∀ j, w2.frozen? ⟨w.heap.size, j, none⟩ = false := fun j => by rw [hO2.frozen _ _ (by simp; omega) hne, World.frozen?_alloc_past _ _ _ hs1]; exact rf j
    have sl : ∀ j, w2.cell? ⟨w1.heap.size, j, none⟩ = _ := fun j => hO2.cell w1.heap.size j (by simp) (by omega)
    have HO2 := hideIt ((HO.out.alloc hqw _).trans hO2)
    have HR2 := hideIt hR2
    clear hR2 hO2 r0 r1 rf
    obtain rfl | rfl | rfl | rfl | rfl : d = 0 ∨ d = 1 ∨ d = 2 ∨ d = 3 ∨ d = 4 := by omega
    all_goals
      go_wp2
      have hO3 : ∀ u v, OnlyQ q w ((w2.setCell ⟨w.heap.size, 0, none⟩ u).setCell ⟨w.heap.size, 1, none⟩ v) := fun u v => (HO2.out.set hqw (g := w.heap.size) (Nat.le_refl _) 0 u).set hqw (g := w.heap.size) (Nat.le_refl _) 1 v
      have hR3 : ∀ u v, RdAt ((w2.setCell ⟨w.heap.size, 0, none⟩ u).setCell ⟨w.heap.size, 1, none⟩ v) q p n cap (k + 2) := fun u v => H.out.fin HR2.out (hO3 u v) (fun o => by simp [go_sem, hne, hne']) (fun o => by simp)
    · exact bodyPost_ret (v := .agg #[.int .i64 0, .int .i64 0]) (by simp [results, Tryd.results73, go_sem, s0, s1]) rfl ⟨⟨_, _, rfl⟩, ⟨k + 2, by omega, hR3 _ _⟩, hO3 _ _⟩
    · exact bodyPost_ret (v := .agg #[.int .i64 4, .int .i64 1]) (by simp [results, Tryd.results73, go_sem, s0, s1]) rfl ⟨⟨_, _, rfl⟩, ⟨k + 2, by omega, hR3 _ _⟩, hO3 _ _⟩
    · exact bodyPost_ret (v := .agg #[.int .i64 1, .int .i64 0]) (by simp [results, Tryd.results73, go_sem, s0, s1]) rfl ⟨⟨_, _, rfl⟩, ⟨k + 2, by omega, hR3 _ _⟩, hO3 _ _⟩
    · exact bodyPost_ret (v := .agg #[.int .i64 1, .int .i64 13]) (by simp [results, Tryd.results73, go_sem, s0, s1]) rfl ⟨⟨_, _, rfl⟩, ⟨k + 2, by omega, hR3 _ _⟩, hO3 _ _⟩
    · exact bodyPost_ret (v := .agg #[.int .i64 (-1), .int .i64 2]) (by simp [results, Tryd.results73, go_sem, s0, s1]) rfl ⟨⟨_, _, rfl⟩, ⟨k + 2, by omega, hR3 _ _⟩, hO3 _ _⟩
  · go_wp2_with fail
    refine (pick_any _ q p n cap (k + 1) 3 HR.out (by omega) (by omega) (by omega)).mono ?_
    rintro e w2 ⟨⟨d, hd0, hd1, rfl⟩, hR2, hO2⟩
    have s0 : w2.cell? ⟨w.heap.size, 0, none⟩ = some (.int .i64 0) := by rw [hO2.cell _ _ hs1 hne]; exact r0
    have s1 : w2.cell? ⟨w.heap.size, 1, none⟩ = some (.int .i64 0) := by rw [hO2.cell _ _ hs1 hne]; exact r1
    have sf : ∀ j, w2.frozen? ⟨w.heap.size, j, none⟩ = false := fun j => by rw [hO2.frozen _ _ hs1 hne]; exact rf j
    have hs2 := Nat.lt_of_lt_of_le hs1 hO2.size
    have HO2 := hideIt (HO.out.trans hO2)
    have HR2 := hideIt hR2
    clear hR2 hO2 r0 r1 rf
    go_wp2_with fail
    refine (pick_any _ q p n cap (k + 2) 5 HR2.out (by omega) (by omega) (by omega)).mono ?_
    rintro e w3 ⟨⟨f, hf0, hf1, rfl⟩, hR3, hO3⟩
    have t0 : w3.cell? ⟨w.heap.size, 0, none⟩ = some (.int .i64 0) := by rw [hO3.cell _ _ hs2 hne]; exact s0
    have t1 : w3.cell? ⟨w.heap.size, 1, none⟩ = some (.int .i64 0) := by rw [hO3.cell _ _ hs2 hne]; exact s1
    have tf : ∀ j, w3.frozen? ⟨w.heap.size, j, none⟩ = false := fun j => by rw [hO3.frozen _ _ hs2 hne]; exact sf j
    have HO3 := hideIt (HO2.out.trans hO3)
    have HR3 := hideIt hR3
    clear hR3 hO3 s0 s1 sf
    go_wp2
    have hO4 := (HO3.out.set hqw (g := w.heap.size) (Nat.le_refl _) 0 (.int .i64 (1 + d))).set hqw (g := w.heap.size) (Nat.le_refl _) 1 (.int .i64 (1 + f))
    exact bodyPost_ret (v := .agg #[.int .i64 (1 + d), .int .i64 (1 + f)]) (by simp [results, Tryd.results73, go_sem, t0, t1]) rfl ⟨⟨_, _, rfl⟩, ⟨k + 3, by omega, H.out.fin HR3.out hO4 (fun o => by simp [go_sem, hne, hne']) (fun o => by simp)⟩, hO4⟩
end Go.Proofs.YtjadkhejdbdpoaaDoor

namespace Go.Proofs.YtjadkhejdbdpoaaDoor
open Go.RowKit
set_option linter.unusedSimpArgs false
set_option linter.unusedVariables false
attribute [local go_sem ↓] Go.wp_at_zero Go.wp_at_succ

/-- Bytes as a text. -/
def txtB (gs : List Int) : ByteArray := ⟨(gs.map fun n => UInt8.ofNat n.toNat).toArray⟩
theorem txtB_more (gs : List Int) (g : Int) : txtB gs ++ txtB [g] = txtB (gs ++ [g]) := by
  apply ByteArray.ext
  simp [txtB]
theorem txtB_size (gs : List Int) : (txtB gs).size = gs.length := by
  show (txtB gs).data.size = _
  simp [txtB]
/-- The signs of leaves that are not gone, as bytes. -/
def shown (L : List Lf) : List Int := (L.filter fun x => !x.z).map fun x => x.g % 256
theorem shown_len (L : List Lf) : (shown L).length ≤ L.length := by simp [shown]; exact List.length_filter_le _ _
theorem shown_gone {L : List Lf} {x : Lf} (h : x.z = true) : shown (L ++ [x]) = shown L := by simp [shown, List.filter_append, h]
theorem shown_there {L : List Lf} {x : Lf} (h : x.z = false) : shown (L ++ [x]) = shown L ++ [x.g % 256] := by simp [shown, List.filter_append, h]

theorem convT (W : World) (b : Nat) (c : Int) (h : W.cell? ⟨b, 0, none⟩ = some (.int .u8 c)) :
    (convert 22 9 (.slice (some ⟨b, 0, none⟩) 1 1)).run Tryd.prog W = .ok (.string (txtB [c])) W := by
  have h := run_convert_bytes_arg (P := Tryd.prog) W 22 5 Tryd.underlying22 Tryd.underlying5 b 0 1 1 [c] rfl (fun i hi => by
    obtain rfl : i = 0 := by omega
    exact h) 9 Tryd.underlying9
  rw [h]
  rfl

set_option maxRecDepth 100000 in
set_option maxHeartbeats 1000000 in
theorem l2Text_any (L : List Lf) (G c base : Nat) (w : World) (h : w.ownsRow base 44 4 (.slice (some ⟨G, 0, none⟩) L.length c) L.length (lfCells L)) (hn : L.length ≤ 1048576) (hc : L.length ≤ c) :
    Calls Tryd.prog 74 #[.slice (some ⟨G, 0, none⟩) L.length c] w fun e w' => e = .returned (.string (txtB (shown L))) ∧ Below w.heap.size w w' := by
  have hG := (h.lt G rfl).2
  have HC : Hid (∀ j, j < L.length * 4 → w.cell? ⟨G, j, none⟩ = (lfCells L)[j]?) := fun j hj => h.cellAt j hj
  clear h
  go_enter Tryd.func74, Tryd.ntmps74
  go_wp2
  go_loopw [3, 4] (fun v i wr => ∃ k : Nat, k ≤ L.length ∧ i = .int .i64 k ∧ v = .string (txtB (shown (L.take k))) ∧ Below w.heap.size w wr)
    (fun _ i _ => L.length - (intOf i).toNat)
  case atStart => exact ⟨0, Nat.zero_le _, rfl, rfl, Below.refl _ _⟩
  case round =>
    obtain ⟨k, hk, rfl, rfl, hB⟩ := hrel
    have HB := hideIt hB
    by_cases hlt : k < L.length
    · obtain ⟨i0, i1, i2, i3⟩ := lfCells_at L k L[k] (by simp [hlt])
      have y2 := ((bcell hB).1 G _ hG).trans ((HC.out (k * 4 + 2) (by omega)).trans i2)
      have y3 := ((bcell hB).1 G _ hG).trans ((HC.out (k * 4 + 3) (by omega)).trans i3)
      have hGr := Nat.lt_of_lt_of_le hG hB.size
      have htk : L.take (k + 1) = L.take k ++ [L[k]] := List.take_succ_eq_append_getElem hlt
      have hgone : Hid (L[k].z = true → shown (L.take (k + 1)) = shown (L.take k)) := fun h => by rw [htk, shown_gone h]
      have hthere : Hid (L[k].z = false → shown (L.take (k + 1)) = shown (L.take k) ++ [L[k].g % 256]) := fun h => by rw [htk, shown_there h]
      have hsz : (txtB (shown (L.take k))).size ≤ k := by rw [txtB_size]; exact Nat.le_trans (shown_len _) (List.length_take_le _ _)
      have ka := run_string_add_sum (P := Tryd.prog) (w := wr.alloc (.cells #[.int .u8 (L[k].g % 256)] 5)) (txtB (shown (L.take k))) (txtB [L[k].g % 256]) (by rw [txtB_size [_]]; simp; omega)
      have kc := convT (wr.alloc (.cells #[.int .u8 (L[k].g % 256)] 5)) wr.heap.size (L[k].g % 256) (by simp [go_sem])
      generalize L[k].g = xg at *
      generalize L[k].z = xz at *
      have hlt' : (k : Int) < (L.length : Int) := by omega
      have hk0 : (0 : Int) ≤ (k : Int) := by omega
      clear hB i0 i1 i2 i3 htk
      cases xz
      · have hsame := hideIt (hthere.out rfl)
        go_wp2
        exact ⟨⟨k + 1, by omega, by go_num, by rw [hsame.out, ← txtB_more], HB.out.alloc HB.out.size _⟩, by simp [intOf]; omega⟩
      · have hsame := hideIt (hgone.out rfl)
        go_wp2
        exact ⟨⟨k + 1, by omega, by go_num, by rw [hsame.out], HB.out⟩, by simp [intOf]; omega⟩
    · obtain rfl : k = L.length := by omega
      go_wp2
      go_ret
      exact ⟨by rw [List.take_length]; rfl, HB.out⟩

set_option maxRecDepth 100000 in
set_option maxHeartbeats 1000000 in
theorem specTxt_any (l : List Op7) (g cap : Nat) (w : World) (hl : OpsAt w g l) (hn : l.length ≤ 1048576) (hcap : l.length ≤ cap) :
    Calls Tryd.prog 43 #[.slice (some ⟨g, 0, none⟩) l.length cap] w fun e w' => e = .returned (.string (txtB (shown (lfs l (standL l))))) ∧ Below w.heap.size w w' := by
  have HL := hideIt hl
  clear hl
  go_enter Tryd.func43, Tryd.ntmps43
  go_wp2_with fail
  refine (specLeaves_any l _ _ _ HL.out hn hcap).mono ?_
  rintro e w1 ⟨G, c, rfl, hr, hb1⟩
  have hc : (lfs l (standL l)).length ≤ c := by
    rcases hr.2 with ⟨h, _⟩ | ⟨g', c', cur, h, _, _, h2, _⟩
    · cases h
    · cases h; rw [lfs_len]; exact h2
  rw [lfs_cells, ← lfs_len l (standL l)] at hr
  have HR := hideIt hr
  have HB1 := hideIt hb1
  have HN : Hid ((lfs l (standL l)).length ≤ 1048576) := by show (lfs l (standL l)).length ≤ 1048576; rw [lfs_len]; exact Nat.le_trans (stand_len l) hn
  rw [← lfs_len l (standL l)]
  clear hr hb1
  go_wp2_with fail
  refine (l2Text_any (lfs l (standL l)) G c _ _ HR.out HN.out hc).mono ?_
  rintro e w2 ⟨rfl, hb2⟩
  have HB2 := hideIt (Bstep HB1.out hb2)
  clear hb2
  go_wp2
  go_ret
  exact ⟨rfl, HB2.out⟩
end Go.Proofs.YtjadkhejdbdpoaaDoor

namespace Go.Proofs.YtjadkhejdbdpoaaDoor
open Go.RowKit
set_option linter.unusedSimpArgs false
set_option linter.unusedVariables false
attribute [local go_sem ↓] Go.wp_at_zero Go.wp_at_succ

theorem OnlyQ.grown {q : Nat} {w w' : World} (h : OnlyQ q w w') : w.grownBy w' (some q) :=
  ⟨h.below.os, h.below.tape, h.below.output, h.size, fun i hi hne => h.block i hi (fun e => hne (by rw [e]))⟩
theorem OnlyQ.then {q : Nat} {w w1 w2 : World} (h : OnlyQ q w w1) (hq : q < w.heap.size) (hb : Below w1.heap.size w1 w2) : OnlyQ q w w2 := by
  have hz := h.size
  exact ⟨Nat.le_trans hz hb.size, fun b o hb' hne => (hb.cell (p := ⟨b, o, none⟩) (show b < _ by omega)).trans (h.cell b o hb' hne),
    fun b o hb' hne => (World.frozen?_of_block (a := ⟨b, o, none⟩) (hb.block b (by omega))).trans (h.frozen b o hb' hne),
    ⟨hb.os.trans h.below.os, hb.tape.trans h.below.tape, hb.output.trans h.below.output, Nat.le_trans hz hb.size, fun i hi => (hb.block i (by omega)).trans (h.below.block i hi)⟩,
    fun b hb' hne => (hb.block b (by omega)).trans (h.block b hb' hne)⟩
theorem RdAt.below {w w' : World} {q : Nat} {p : Option Addr} {n cap k : Nat} (h : RdAt w q p n cap k) (hb : Below w.heap.size w w') : RdAt w' q p n cap k :=
  ⟨(hb.cell (p := ⟨q, _, none⟩) h.lt).trans h.b, (hb.cell (p := ⟨q, _, none⟩) h.lt).trans h.k, fun j => (World.frozen?_of_block (a := ⟨q, j, none⟩) (hb.block q h.lt)).trans (h.fz j), Nat.lt_of_lt_of_le h.lt hb.size, h.few, h.bytes.only ((OnlyQ.refl q w).then h.lt hb)⟩
theorem OwnOps.only {w w' : World} {q base g cap : Nat} {L : List Op7} (h : OwnOps w base g cap L) (ho : OnlyQ q w w') (hne : g ≠ q) : OwnOps w' base g cap L :=
  World.ownsRow.kept h ho.grown (.inr (by simp [Value.ownBlock]; exact hne))
theorem OwnOps.lt {w : World} {base g cap : Nat} {L : List Op7} (h : OwnOps w base g cap L) : base ≤ g ∧ g < w.heap.size := World.ownsRow.lt h g rfl

/-- Three rows of things, each of its own, and their slices in a block. -/
structure Docs (B : Nat) (w : World) (D : Nat) : Prop where
  lt : D < w.heap.size
  ge : B ≤ D
  fz : ∀ k, w.frozen? ⟨D, k, none⟩ = false
  row : ∀ k, k < 3 → ∃ G c L, w.cell? ⟨D, k, none⟩ = some (.slice (some ⟨G, 0, none⟩) (L : List Op7).length c) ∧ OwnOps w B G c L ∧ G ≠ D ∧ L.length ≤ 73
theorem Docs.only {B q D : Nat} {w w' : World} (h : Docs B w D) (ho : OnlyQ q w w') (hq : q < B) : Docs B w' D :=
  have hne : D ≠ q := by have := h.ge; omega
  ⟨Nat.lt_of_lt_of_le h.lt ho.size, h.ge, fun k => (ho.frozen D k h.lt hne).trans (h.fz k), fun k hk => by
    obtain ⟨G, c, L, h1, h2, h3, h4⟩ := h.row k hk
    exact ⟨G, c, L, (ho.cell D k h.lt hne).trans h1, h2.only ho (by have := h2.lt.1; omega), h3, h4⟩⟩
theorem Docs.below {B D : Nat} {w w' : World} (h : Docs B w D) (hb : Below w.heap.size w w') : Docs B w' D :=
  ⟨Nat.lt_of_lt_of_le h.lt hb.size, h.ge, fun k => (World.frozen?_of_block (a := ⟨D, k, none⟩) (hb.block D h.lt)).trans (h.fz k), fun k hk => by
    obtain ⟨G, c, L, h1, h2, h3, h4⟩ := h.row k hk
    exact ⟨G, c, L, (hb.cell (p := ⟨D, k, none⟩) h.lt).trans h1, h2.below hb, h3, h4⟩⟩
theorem OwnOps.set {w : World} {base g cap D k : Nat} {L : List Op7} (h : OwnOps w base g cap L) (hne : g ≠ D) (v : Value) : OwnOps (w.setCell ⟨D, k, none⟩ v) base g cap L :=
  World.ownsRow.kept (row := some D) h ⟨rfl, rfl, rfl, by simp, fun i _ hi => heap_setCell_other w ⟨D, k, none⟩ i v (fun e => hi (by rw [e]))⟩ (.inr (by simp [Value.ownBlock]; exact hne))
theorem Docs.put {B D k G c : Nat} {w : World} {L : List Op7} (h : Docs B w D) (hk : k < 3) (ho : OwnOps w B G c L) (hne : G ≠ D) (hL : L.length ≤ 73) : Docs B (w.setCell ⟨D, k, none⟩ (.slice (some ⟨G, 0, none⟩) L.length c)) D := by
  refine ⟨by simpa using h.lt, h.ge, fun j => by rw [World.frozen?_setCell]; exact h.fz j, fun j hj => ?_⟩
  by_cases e : j = k
  · subst e
    obtain ⟨G', c', L', h1, _⟩ := h.row j hj
    exact ⟨G, c, L, by simp [go_sem, h1], ho.set hne _, hne, hL⟩
  · obtain ⟨G', c', L', h1, h2, h3, h4⟩ := h.row j hj
    exact ⟨G', c', L', by rw [World.cell?_setCell_other _ _ _ _ (by intro he; have := congrArg Addr.off he; simp at this; exact e this.symm)]; exact h1, h2.set h3 _, h3, h4⟩
theorem OnlyQ.put {q B D : Nat} {w w' : World} (h : OnlyQ q w w') (hq : q < w.heap.size) (hD : w.heap.size ≤ D) (k : Nat) (v : Value) : OnlyQ q w (w'.setCell ⟨D, k, none⟩ v) := h.set hq hD k v
theorem RdAt.put {w : World} {q : Nat} {p : Option Addr} {n cap k D j : Nat} {v : Value} (h : RdAt w q p n cap k) (hne : D ≠ q) (hb : BytesAt (w.setCell ⟨D, j, none⟩ v) q p n) : RdAt (w.setCell ⟨D, j, none⟩ v) q p n cap k :=
  ⟨by rw [World.cell?_setCell_other _ _ _ _ (by intro he; have := congrArg Addr.block he; simp at this; exact hne this)]; exact h.b,
   by rw [World.cell?_setCell_other _ _ _ _ (by intro he; have := congrArg Addr.block he; simp at this; exact hne this)]; exact h.k,
   fun i => by rw [World.frozen?_setCell]; exact h.fz i, by simpa using h.lt, h.few, hb⟩

/-- A slice stored into its cell. -/
theorem store_sl (W : World) (D x G n c : Nat) (v0 : Value) (hc : W.cell? ⟨D, x, none⟩ = some v0) (hf : W.frozen? ⟨D, x, none⟩ = false) : (Instr.storeAt 23 (.pointer (some ⟨D, x, none⟩)) (.slice (some ⟨G, 0, none⟩) n c)).run Tryd.prog W = .ok () (W.setCell ⟨D, x, none⟩ (.slice (some ⟨G, 0, none⟩) n c)) := by
  simp [go_sem, hc, hf]

/-- Texts in a block. -/
def StrsAt (w : World) (g : Nat) (m : Nat) : Prop := g < w.heap.size ∧ ∀ i, i < m → ∃ s : ByteArray, s.size ≤ 1048576 ∧ w.cell? ⟨g, i, none⟩ = some (.string s)

set_option maxRecDepth 100000 in
set_option maxHeartbeats 1000000 in
theorem of_any (w : World) (q g : Nat) (p : Option Addr) (n cap k m mc : Nat) (h : RdAt w q p n cap k) (hs : StrsAt w g m) (hg : g ≠ q) (hm : 1 ≤ m) (hm' : m ≤ 1048576) (hmc : m ≤ mc) (hk : k ≤ 1073741824) :
    Calls Tryd.prog 68 #[.pointer (some ⟨q, 0, none⟩), .slice (some ⟨g, 0, none⟩) m mc] w fun e w' => (∃ s : ByteArray, s.size ≤ 1048576 ∧ e = .returned (.string s)) ∧ RdAt w' q p n cap (k + 1) ∧ OnlyQ q w w' := by
  have H := hideIt h
  have HS := hideIt hs
  have hglt := hs.1
  clear h hs
  go_enter Tryd.func68, Tryd.ntmps68
  go_wp2_with fail
  refine (pick_any _ q p n cap k m H.out (by omega) (by omega) (by omega)).mono ?_
  rintro e w1 ⟨⟨c, hc0, hc1, rfl⟩, hR, hO⟩
  have HR := hideIt hR
  have HO := hideIt hO
  obtain ⟨j, rfl⟩ := Int.eq_ofNat_of_zero_le hc0
  obtain ⟨s, hs, hj⟩ := HS.out.2 j (by omega)
  have hj1 : w1.cell? ⟨g, j, none⟩ = some (.string s) := (hO.cell g j hglt hg).trans hj
  clear hR hO hj
  go_wp2
  go_ret
  exact ⟨⟨s, hs, rfl⟩, HR.out, HO.out⟩
end Go.Proofs.YtjadkhejdbdpoaaDoor

namespace Go.Proofs.YtjadkhejdbdpoaaDoor
open Go.RowKit
set_option linter.unusedSimpArgs false
set_option linter.unusedVariables false
attribute [local go_sem ↓] Go.wp_at_zero Go.wp_at_succ store_op_new
attribute [-go_sem] Instr.storeAt

theorem mayTake_ok {l : List Op7} {r t : Int} (h : mayTake l r t = true) : opsB l = true := by
  simp only [mayTake, mayMore, Bool.and_eq_true] at h
  exact h.1.1.1
/-- A box with a thing. -/
def opObj (o : Op7) : Obj := .cells #[.int .i64 o.a, .int .i64 o.b, .int .i64 o.k, .int .i64 o.c, .int .i64 o.d, .int .i64 o.s, .int .i64 o.g] 29
theorem boxed_op (w : World) (o : Op7) : (w.alloc (opObj o)).cell? ⟨w.heap.size, 0, none⟩ = some (.int .i64 o.a) ∧ (w.alloc (opObj o)).cell? ⟨w.heap.size, 1, none⟩ = some (.int .i64 o.b) ∧ (w.alloc (opObj o)).cell? ⟨w.heap.size, 2, none⟩ = some (.int .i64 o.k) ∧ (w.alloc (opObj o)).cell? ⟨w.heap.size, 3, none⟩ = some (.int .i64 o.c) ∧ (w.alloc (opObj o)).cell? ⟨w.heap.size, 4, none⟩ = some (.int .i64 o.d) ∧ (w.alloc (opObj o)).cell? ⟨w.heap.size, 5, none⟩ = some (.int .i64 o.s) ∧ (w.alloc (opObj o)).cell? ⟨w.heap.size, 6, none⟩ = some (.int .i64 o.g) := by
  unfold opObj
  simp [go_sem]
theorem st_put {w W w7 : World} {q D x j n cap G7 c7 : Nat} {p : Option Addr} {L7 : List Op7} (hq : q < w.heap.size) (hx : x < 3) (hR : RdAt W q p n cap j) (hD : Docs w.heap.size W D) (hO : OnlyQ q w W) (hb : Below W.heap.size W w7) (hS : OwnOps w7 W.heap.size G7 c7 L7) (hL : L7.length ≤ 73) :
    RdAt (w7.setCell ⟨D, x, none⟩ (.slice (some ⟨G7, 0, none⟩) L7.length c7)) q p n cap j ∧ Docs w.heap.size (w7.setCell ⟨D, x, none⟩ (.slice (some ⟨G7, 0, none⟩) L7.length c7)) D ∧ OnlyQ q w (w7.setCell ⟨D, x, none⟩ (.slice (some ⟨G7, 0, none⟩) L7.length c7)) := by
  have hO' := (hO.then hq hb).put hq hD.ge x (.slice (some ⟨G7, 0, none⟩) L7.length c7) (B := 0)
  have hg := hS.lt
  have hd := hD.lt
  have hdg := hD.ge
  have hR' := hR.below hb
  have hOq : OnlyQ q w7 (w7.setCell ⟨D, x, none⟩ (.slice (some ⟨G7, 0, none⟩) L7.length c7)) → True := fun _ => trivial
  refine ⟨hR'.put (by omega) ?_, (hD.below hb).put hx (ownsRow_base hO.size hS) (by omega) hL, hO'⟩
  rcases hR'.bytes with h | ⟨b, off, hp, hbq, hlt, hc⟩
  · exact .inl h
  · exact .inr ⟨b, off, hp, hbq, by simpa using hlt, fun i hi => by
      obtain ⟨c, h0, h1, h2⟩ := hc i hi
      refine ⟨c, h0, h1, ?_⟩
      rw [World.cell?_setCell_other _ _ _ _ (by
        intro he
        have h3 := congrArg Addr.block he
        simp at h3
        subst h3
        have h4 := (hD.below hb).row x hx
        have h5 := congrArg Addr.off he
        simp at h5
        subst h5
        obtain ⟨G, c', L, h6, _⟩ := h4
        rw [h6] at h2
        cases h2)]
      exact h2⟩
theorem merge_len {a b L : List Op7} {z : Bool} (h : MergeSaid a b L z) : L.length ≤ 73 := by
  rcases h with ⟨_, ha, hb, _, rfl⟩ | ⟨_, rfl, _⟩
  · have h1 := ops_36 ha
    have h2 := ops_36 hb
    have h3 := mer_len (a := a) (Nat.le_refl b.length)
    omega
  · simp
theorem StrsAt.below {w w' : World} {g m : Nat} (h : StrsAt w g m) (hb : Below w.heap.size w w') : StrsAt w' g m :=
  ⟨Nat.lt_of_lt_of_le h.1 hb.size, fun i hi => by obtain ⟨s, hs, hc⟩ := h.2 i hi; exact ⟨s, hs, (hb.cell (p := ⟨g, i, none⟩) h.1).trans hc⟩⟩
theorem strs3 (w : World) (a b c : ByteArray) {t : TypeId} (ha : a.size ≤ 1048576) (hb : b.size ≤ 1048576) (hc : c.size ≤ 1048576) : StrsAt (w.alloc (.cells #[.string a, .string b, .string c] t)) w.heap.size 3 := by
  refine ⟨by simp, fun i hi => ?_⟩
  obtain rfl | rfl | rfl : i = 0 ∨ i = 1 ∨ i = 2 := by omega
  · exact ⟨a, ha, by simp [go_sem]⟩
  · exact ⟨b, hb, by simp [go_sem]⟩
  · exact ⟨c, hc, by simp [go_sem]⟩
/-- Behind something new that was laid, and a call that turned the reader alone. -/
theorem only_back {q : Nat} {w W w' : World} (hq : q < w.heap.size) (hb : Below w.heap.size w W) (ho : OnlyQ q W w') : OnlyQ q w w' := ((OnlyQ.refl q w).then hq hb).trans ho
theorem keepA {W : World} {b o : Nat} {v : Value} (h : W.cell? ⟨b, o, none⟩ = some v) (O : Obj) : (W.alloc O).cell? ⟨b, o, none⟩ = some v := by
  have hlt : b < W.heap.size := by
    rcases Nat.lt_or_ge b W.heap.size with h' | h'
    · exact h'
    · have hn : W.heap[b]? = none := by simp; omega
      simp [World.cell?, hn] at h
  rw [World.cell?_alloc_lt _ _ _ hlt]
  exact h
theorem typePut_some (l : List Op7) (g cap : Nat) (r t sg : Int) (w : World) (hl : OpsAt w g l) (hn : l.length ≤ 1048576) (hcap : l.length ≤ cap) :
    Calls Tryd.prog 16 #[.slice (some ⟨g, 0, none⟩) l.length cap, .int .i64 r, .int .i64 t, .int .i64 sg] w fun e w' =>
      ∃ (o : Op7) (z : Bool), e = .returned (.tuple #[.agg #[.int .i64 o.a, .int .i64 o.b, .int .i64 o.k, .int .i64 o.c, .int .i64 o.d, .int .i64 o.s, .int .i64 o.g], .bool z]) ∧ (z = true → opsB l = true) ∧ Below w.heap.size w w' := by
  refine (typePut_any l g cap r t sg w hl hn hcap).mono ?_
  rintro e w' ⟨(⟨hm, rfl⟩ | ⟨hm, rfl⟩), hb⟩
  · exact ⟨⟨0, 0, 0, 0, 0, 0, 0⟩, false, rfl, (fun h => nomatch h), hb⟩
  · exact ⟨putO l r t.toNat sg, true, rfl, fun _ => mayPut_ok hm, hb⟩
theorem OnlyQ.row {q b : Nat} {w w' : World} (h : OnlyQ q w w') (hb : w.heap.size ≤ b) (cs : Array Value) : OnlyQ q w (w'.setRow b cs) :=
  ⟨by simpa using h.size, fun a o ha hne => (cell_setRow_other w' b cs ⟨a, o, none⟩ (by show ¬ a = b; omega)).trans (h.cell a o ha hne),
    fun a o ha hne => (World.frozen?_of_block (a := ⟨a, o, none⟩) (setRow_other w' b a cs (by omega))).trans (h.frozen a o ha hne),
    ⟨h.below.os, h.below.tape, h.below.output, by simpa using h.size, fun i hi => by
      by_cases hlt : i < w.heap.size
      · exact (setRow_other w' b i cs (by omega)).trans (h.below.block i hi)
      · by_cases he : i = b
        · have := h.below.block i hi
          have hs : w.heap[i]? = none := by simp; omega
          rw [hs] at this ⊢
          simp at this ⊢
          exact this
        · exact (setRow_other w' b i cs he).trans (h.below.block i hi)⟩,
    fun a ha hne => (setRow_other w' b a cs (by omega)).trans (h.block a ha hne)⟩
theorem row_cells {W : World} {b : Nat} {o : Op7} {T : TypeId} (h : W.heap[b]? = some (.cells #[.int .i64 o.a, .int .i64 o.b, .int .i64 o.k, .int .i64 o.c, .int .i64 o.d, .int .i64 o.s, .int .i64 o.g] T (0, 0))) : W.cell? ⟨b, 0, none⟩ = some (.int .i64 o.a) ∧ W.cell? ⟨b, 1, none⟩ = some (.int .i64 o.b) ∧ W.cell? ⟨b, 2, none⟩ = some (.int .i64 o.k) ∧ W.cell? ⟨b, 3, none⟩ = some (.int .i64 o.c) ∧ W.cell? ⟨b, 4, none⟩ = some (.int .i64 o.d) ∧ W.cell? ⟨b, 5, none⟩ = some (.int .i64 o.s) ∧ W.cell? ⟨b, 6, none⟩ = some (.int .i64 o.g) :=
  ⟨(blkCell h 0).trans rfl, (blkCell h 1).trans rfl, (blkCell h 2).trans rfl, (blkCell h 3).trans rfl, (blkCell h 4).trans rfl, (blkCell h 5).trans rfl, (blkCell h 6).trans rfl⟩
theorem fin_row {w5 w7 : World} {q b j k n cap : Nat} {p : Option Addr} {cur : Array Value} {T : TypeId} {o : Op7} (hO : OnlyQ q w5 w7) (H5 : RdAt w5 q p n cap k) (h7 : RdAt w7 q p n cap j) (hx : w7.heap[b]? = some (.cells cur T (0, 0))) (hb : w5.heap.size ≤ b) :
    OnlyQ q w5 (w7.setRow b #[.int .i64 o.a, .int .i64 o.b, .int .i64 o.k, .int .i64 o.c, .int .i64 o.d, .int .i64 o.s, .int .i64 o.g]) ∧ RdAt (w7.setRow b #[.int .i64 o.a, .int .i64 o.b, .int .i64 o.k, .int .i64 o.c, .int .i64 o.d, .int .i64 o.s, .int .i64 o.g]) q p n cap j ∧ ((w7.setRow b #[.int .i64 o.a, .int .i64 o.b, .int .i64 o.k, .int .i64 o.c, .int .i64 o.d, .int .i64 o.s, .int .i64 o.g]).cell? ⟨b, 0, none⟩ = some (.int .i64 o.a) ∧ (w7.setRow b #[.int .i64 o.a, .int .i64 o.b, .int .i64 o.k, .int .i64 o.c, .int .i64 o.d, .int .i64 o.s, .int .i64 o.g]).cell? ⟨b, 1, none⟩ = some (.int .i64 o.b) ∧ (w7.setRow b #[.int .i64 o.a, .int .i64 o.b, .int .i64 o.k, .int .i64 o.c, .int .i64 o.d, .int .i64 o.s, .int .i64 o.g]).cell? ⟨b, 2, none⟩ = some (.int .i64 o.k) ∧ (w7.setRow b #[.int .i64 o.a, .int .i64 o.b, .int .i64 o.k, .int .i64 o.c, .int .i64 o.d, .int .i64 o.s, .int .i64 o.g]).cell? ⟨b, 3, none⟩ = some (.int .i64 o.c) ∧ (w7.setRow b #[.int .i64 o.a, .int .i64 o.b, .int .i64 o.k, .int .i64 o.c, .int .i64 o.d, .int .i64 o.s, .int .i64 o.g]).cell? ⟨b, 4, none⟩ = some (.int .i64 o.d) ∧ (w7.setRow b #[.int .i64 o.a, .int .i64 o.b, .int .i64 o.k, .int .i64 o.c, .int .i64 o.d, .int .i64 o.s, .int .i64 o.g]).cell? ⟨b, 5, none⟩ = some (.int .i64 o.s) ∧ (w7.setRow b #[.int .i64 o.a, .int .i64 o.b, .int .i64 o.k, .int .i64 o.c, .int .i64 o.d, .int .i64 o.s, .int .i64 o.g]).cell? ⟨b, 6, none⟩ = some (.int .i64 o.g)) ∧ b < (w7.setRow b #[.int .i64 o.a, .int .i64 o.b, .int .i64 o.k, .int .i64 o.c, .int .i64 o.d, .int .i64 o.s, .int .i64 o.g]).heap.size := by
  have hq := H5.lt
  have hO' := hO.row hb #[.int .i64 o.a, .int .i64 o.b, .int .i64 o.k, .int .i64 o.c, .int .i64 o.d, .int .i64 o.s, .int .i64 o.g]
  refine ⟨hO', H5.fin h7 hO' (fun y => cell_setRow_other w7 b _ ⟨q, y, none⟩ (by show ¬ q = b; omega)) (fun y => World.frozen?_of_block (a := ⟨q, y, none⟩) (setRow_other w7 b q _ (by omega))), row_cells (setRow_heap w7 b _ _ _ _ hx), ?_⟩
  rw [size_setRow]
  exact (Array.getElem?_eq_some_iff.1 hx).1
theorem fin_new {w5 w7 : World} {q j k n cap : Nat} {p : Option Addr} (o : Op7) (hO : OnlyQ q w5 w7) (H5 : RdAt w5 q p n cap k) (h7 : RdAt w7 q p n cap j) :
    OnlyQ q w5 (w7.alloc (opObj o)) ∧ RdAt (w7.alloc (opObj o)) q p n cap j ∧ ((w7.alloc (opObj o)).cell? ⟨w7.heap.size, 0, none⟩ = some (.int .i64 o.a) ∧ (w7.alloc (opObj o)).cell? ⟨w7.heap.size, 1, none⟩ = some (.int .i64 o.b) ∧ (w7.alloc (opObj o)).cell? ⟨w7.heap.size, 2, none⟩ = some (.int .i64 o.k) ∧ (w7.alloc (opObj o)).cell? ⟨w7.heap.size, 3, none⟩ = some (.int .i64 o.c) ∧ (w7.alloc (opObj o)).cell? ⟨w7.heap.size, 4, none⟩ = some (.int .i64 o.d) ∧ (w7.alloc (opObj o)).cell? ⟨w7.heap.size, 5, none⟩ = some (.int .i64 o.s) ∧ (w7.alloc (opObj o)).cell? ⟨w7.heap.size, 6, none⟩ = some (.int .i64 o.g)) ∧ w7.heap.size < (w7.alloc (opObj o)).heap.size :=
  ⟨hO.alloc H5.lt _, h7.alloc _, boxed_op w7 o, by simp⟩
theorem docs_new (w : World) : Docs w.heap.size ((((w.alloc (.cells #[] 29)).alloc (.cells #[] 29)).alloc (.cells #[] 29)).alloc (.cells #[.slice (some ⟨w.heap.size, 0, none⟩) 0 0, .slice (some ⟨w.heap.size + 1, 0, none⟩) 0 0, .slice (some ⟨w.heap.size + 1 + 1, 0, none⟩) 0 0] 23)) (w.heap.size + 1 + 1 + 1) := by
  have h0 := World.ownsRow_made (base := w.heap.size) (e := 29) (size := 7) w #[] 0 (Nat.le_refl _) (Nat.zero_le _) rfl
  have h1 := World.ownsRow_made (base := w.heap.size) (e := 29) (size := 7) (w.alloc (.cells #[] 29)) #[] 0 (by simp) (Nat.zero_le _) rfl
  have h2 := World.ownsRow_made (base := w.heap.size) (e := 29) (size := 7) ((w.alloc (.cells #[] 29)).alloc (.cells #[] 29)) #[] 0 (by simp; omega) (Nat.zero_le _) rfl
  simp only [World.size_alloc] at h1 h2
  refine ⟨by simp, by omega, fun k => by simp [go_sem], fun k hk => ?_⟩
  obtain rfl | rfl | rfl : k = 0 ∨ k = 1 ∨ k = 2 := by omega
  · exact ⟨_, _, [], by simp [go_sem], ((h0.alloc _).alloc _).alloc _, by omega, by simp⟩
  · exact ⟨_, _, [], by simp [go_sem], (h1.alloc _).alloc _, by omega, by simp⟩
  · exact ⟨_, _, [], by simp [go_sem], h2.alloc _, by omega, by simp⟩

set_option maxRecDepth 100000 in
set_option maxHeartbeats 4000000 in
theorem l71Docs_any (w : World) (q : Nat) (p : Option Addr) (n cap k : Nat) (h : RdAt w q p n cap k) (hk : k ≤ 1000) :
    Calls Tryd.prog 95 #[.pointer (some ⟨q, 0, none⟩)] w fun e w' => (∃ D, e = .returned (.slice (some ⟨D, 0, none⟩) 3 3) ∧ Docs w.heap.size w' D) ∧ (∃ k', k' ≤ k + 200 ∧ RdAt w' q p n cap k') ∧ OnlyQ q w w' := by
  have H := hideIt h
  have hqw := h.lt
  clear h
  go_enter Tryd.func95, Tryd.ntmps95
  go_wp2_with fail
  have hD0 := docs_new w
  have hR0 := (((H.out.alloc (.cells #[] 29)).alloc (.cells #[] 29)).alloc (.cells #[] 29)).alloc (.cells #[.slice (some ⟨w.heap.size, 0, none⟩) 0 0, .slice (some ⟨w.heap.size + 1, 0, none⟩) 0 0, .slice (some ⟨w.heap.size + 1 + 1, 0, none⟩) 0 0] 23)
  have hO0 := (((((OnlyQ.refl q w).alloc hqw (.cells #[] 29)).alloc hqw (.cells #[] 29)).alloc hqw (.cells #[] 29)).alloc hqw (.cells #[.slice (some ⟨w.heap.size, 0, none⟩) 0 0, .slice (some ⟨w.heap.size + 1, 0, none⟩) 0 0, .slice (some ⟨w.heap.size + 1 + 1, 0, none⟩) 0 0] 23))
  have hDw : w.heap.size ≤ w.heap.size + 1 + 1 + 1 := by omega
  generalize w.heap.size + 1 + 1 + 1 = D at *
  generalize ((((w.alloc (.cells #[] 29)).alloc (.cells #[] 29)).alloc (.cells #[] 29)).alloc (.cells #[.slice (some ⟨w.heap.size, 0, none⟩) 0 0, .slice (some ⟨w.heap.size + 1, 0, none⟩) 0 0, .slice (some ⟨w.heap.size + 1 + 1, 0, none⟩) 0 0] 23)) = w0 at *
  refine (pick_any _ q p n cap k 26 hR0 (by omega) (by omega) (by omega)).mono ?_
  rintro e w1 ⟨⟨c, hc0, hc1, rfl⟩, hR, hO⟩
  obtain ⟨m, rfl⟩ := Int.eq_ofNat_of_zero_le hc0
  have HR := hideIt hR
  have HD := hideIt (hD0.only hO hqw)
  have HO := hideIt (hO0.trans hO)
  clear hR hO hR0 hO0 hD0
  go_wp2
  go_loopw [4] (fun v wr => ∃ m j : Nat, m ≤ 25 ∧ v = .int .i64 m ∧ j ≤ k + 1 + 5 * (25 - m) ∧ RdAt wr q p n cap j ∧ Docs w.heap.size wr D ∧ OnlyQ q w wr)
    (fun v _ => (intOf v).toNat)
  case atStart => exact ⟨m, k + 1, by omega, rfl, by omega, HR.out, HD.out, HO.out⟩
  case round =>
    clear HR HD HO hc0 hc1
    obtain ⟨m, j, hm, rfl, hj, hR, hD, hO⟩ := hrel
    have HR := hideIt hR
    have HD := hideIt hD
    have HO := hideIt hO
    clear hR hD hO
    by_cases hz : m = 0
    · subst hz
      go_wp2
      go_ret
      exact ⟨⟨D, rfl, HD.out⟩, ⟨j, by omega, HR.out⟩, HO.out⟩
    · have hpos : (0 : Int) < (m : Int) := by omega
      have hm1 : IntKind.i64.wrap ((m : Int) - 1) = ((m - 1 : Nat) : Int) := by rw [show ((m : Int) - 1) = ((m - 1 : Nat) : Int) by omega]; exact IntWalk.i64_in _ ⟨by omega, by omega⟩
      go_wp2_with fail
      refine (pick_any _ q p n cap j 3 HR.out (by omega) (by omega) (by omega)).mono ?_
      rintro e w2 ⟨⟨c, hc0, hc1, rfl⟩, hR2, hO2⟩
      obtain ⟨x, rfl⟩ := Int.eq_ofNat_of_zero_le hc0
      have hx : x < 3 := by omega
      have hx' : (x : Int) < 3 := by omega
      have HR2 := hideIt hR2
      have HD2 := hideIt (HD.out.only hO2 hqw)
      have HO2 := hideIt (HO.out.trans hO2)
      clear hR2 hO2 HR HD HO
      obtain ⟨G, cp, L, hcell, hown, hne, hlen⟩ := HD2.out.row x hx
      have HW := hideIt hown
      clear hown
      go_wp2_with fail
      refine (specTxt_any L G cp _ HW.out.at (by omega) HW.out.cap).mono ?_
      rintro e w3 ⟨rfl, hb3⟩
      have HR3 := hideIt (HR2.out.below hb3)
      have HD3 := hideIt (HD2.out.below hb3)
      have HO3 := hideIt (HO2.out.then hqw hb3)
      have HW3 := hideIt (HW.out.below hb3)
      have hcell3 : w3.cell? ⟨D, x, none⟩ = _ := (hb3.cell (p := ⟨D, x, none⟩) HD2.out.lt).trans hcell
      have htl : (txtB (shown (lfs L (standL L)))).size ≤ 73 := by
        have := shown_len (lfs L (standL L))
        have := stand_len L
        rw [txtB_size]
        rw [lfs_len] at *
        omega
      clear hb3 hcell HR2 HD2 HO2 HW
      generalize txtB (shown (lfs L (standL L))) = tx at *
      go_wp2_with fail
      refine (pick_any _ q p n cap (j + 1) _ HR3.out (by omega) (by omega) (by omega)).mono ?_
      rintro e w4 ⟨⟨c, hy0, hy1, rfl⟩, hR4, hO4⟩
      obtain ⟨y, rfl⟩ := Int.eq_ofNat_of_zero_le hy0
      have hcell4 : w4.cell? ⟨D, x, none⟩ = _ := (hO4.cell D x HD3.out.lt (by omega)).trans hcell3
      have HR4 := hideIt hR4
      have HD4 := hideIt (HD3.out.only hO4 hqw)
      have HW4 := hideIt (HW3.out.only hO4 (by have := HW3.out.lt.1; omega))
      have HO4 := hideIt (HO3.out.trans hO4)
      clear hR4 hO4 HR3 HD3 HO3 HW3 hcell3
      go_wp2_with fail
      refine (pick_any _ q p n cap (j + 1 + 1) 9 HR4.out (by omega) (by omega) (by omega)).mono ?_
      rintro e w5 ⟨⟨s, hs0, hs1, rfl⟩, hR5, hO5⟩
      have hcell5 : w5.cell? ⟨D, x, none⟩ = _ := (hO5.cell D x HD4.out.lt (by omega)).trans hcell4
      have HR5 := hideIt hR5
      have HD5 := hideIt (HD4.out.only hO5 hqw)
      have HW5 := hideIt (HW4.out.only hO5 (by have := HW4.out.lt.1; omega))
      have HO5 := hideIt (HO4.out.trans hO5)
      clear hR5 hO5 HR4 HD4 HO4 HW4 hcell4
      have hx1 : IntKind.i64.wrap ((x : Int) + 1) = (x : Int) + 1 := IntWalk.i64_in _ ⟨by omega, by omega⟩
      have hcases : (s = 0 ∨ s = 1) ∨ s = 2 ∨ s = 3 ∨ (¬ s = 0 ∧ ¬ s = 1 ∧ ¬ s = 2 ∧ ¬ s = 3) := by omega
      clear hy0 hy1 hs0 hs1
      rcases hcases with hs | rfl | rfl | ⟨n0, n1, n2, n3⟩
      · rcases hs with rfl | rfl
        all_goals
          go_wp2_with fail
          refine (typeTake_any L G cp _ _ _ HW5.out.at (by omega) HW5.out.cap).mono ?_
          rintro e w6 ⟨(⟨hm, rfl⟩ | ⟨hm, rfl⟩), hb6⟩
          · have HR6 := hideIt (HR5.out.below hb6)
            have HD6 := hideIt (HD5.out.below hb6)
            have HO6 := hideIt (HO5.out.then hqw hb6)
            clear hb6 HR5 HD5 HO5 HW5 hcell5 hm
            go_wp2
            exact ⟨⟨m - 1, j + 1 + 1 + 1, by omega, rfl, by omega, HR6.out.alloc _, HD6.out.below ((Below.refl _ _).alloc (Nat.le_refl _) _), HO6.out.alloc hqw _⟩, by simp [intOf]; omega⟩
          · have h36 : L.length ≤ 36 := ops_36 (mayTake_ok hm)
            have HR6 := hideIt (HR5.out.below hb6)
            have HD6 := hideIt (HD5.out.below hb6)
            have HO6 := hideIt (HO5.out.then hqw hb6)
            have HW6 := hideIt (HW5.out.below hb6)
            have hcell6 : w6.cell? ⟨D, x, none⟩ = _ := (hb6.cell (p := ⟨D, x, none⟩) HD5.out.lt).trans hcell5
            clear hb6 HR5 HD5 HO5 HW5 hcell5 hm
            generalize takeO L _ _ = o
            unfold opV
            go_wp2_with fail
            have hbx : w6.heap.size ≤ w6.heap.size := Nat.le_refl _
            have bc := boxed_op w6 o
            have hBa : Below w6.heap.size w6 (w6.alloc (opObj o)) := (Below.refl _ _).alloc (Nat.le_refl _) _
            have HRb := hideIt (HR6.out.alloc (opObj o))
            have HDb := hideIt (HD6.out.below hBa)
            have HOb := hideIt (HO6.out.alloc hqw (opObj o))
            have HWb := hideIt (HW6.out.below hBa)
            have hcb : (w6.alloc (opObj o)).cell? ⟨D, x, none⟩ = _ := (hBa.cell (p := ⟨D, x, none⟩) HD6.out.lt).trans hcell6
            have hbl : w6.heap.size < (w6.alloc (opObj o)).heap.size := by simp
            clear HR6 HD6 HO6 HW6 hcell6 hBa hbx
            change Code.wp _ _ _ _ (w6.alloc (opObj o))
            generalize w6.alloc (opObj o) = W at *
            generalize w6.heap.size = bx at *
            have hfb := HDb.out.fz x
            have hDl := HDb.out.lt
            obtain ⟨b0, b1, b2, b3, b4, b5, b6⟩ := bc
            go_region_with (first | (go_at_call 69; refine (l3With_any L G cp o _ (HWb.out.below ((Below.refl _ _).drew)).at (by omega) HWb.out.cap).mono ?_; rintro e w7 ⟨G7, c7, rfl, hS7, hb7⟩; have hc7 : w7.cell? ⟨D, x, none⟩ = _ := ((bcell hb7).1 D _ hDl).trans hcb; have hf7 : w7.frozen? ⟨D, x, none⟩ = false := ((bcell hb7).2 D _ hDl).trans hfb; have ks7 := store_sl w7 D x G7 (withL L o).length c7 _ hc7 hf7; have HS7 := hideIt hS7; clear hS7))
            all_goals
              have hfin := st_put hqw hx HRb.out HDb.out HOb.out (Bstep ((Below.refl _ _).drew) hb7) HS7.out (by have := withL_le L o; omega)
              clear hc7 hf7 hb7 HS7 HRb HDb HOb HWb
              go_wp2
              exact ⟨⟨m - 1, j + 1 + 1 + 1, by omega, rfl, by omega, hfin.1, hfin.2.1, hfin.2.2⟩, by simp [intOf]; omega⟩
      · have hDl := HD5.out.lt
        have hDq : ¬ D = q := by omega
        go_wp2
        go_region_with (first
          | (go_at_call 41; refine (pick_any _ q p n cap (j + 1 + 1 + 1) 3 (HR5.out.below ((Below.refl _ _).drew)) (by omega) (by omega) (by omega)).mono ?_; rintro e w6 ⟨⟨c, hz0, hz1, rfl⟩, hR6, hO6⟩; obtain ⟨z, rfl⟩ := Int.eq_ofNat_of_zero_le hz0; have hz3 : z < 3 := (by omega); have hz3' : (z : Int) < 3 := (by omega);
             have hcell6 : w6.cell? ⟨D, x, none⟩ = _ := (hO6.cell D x hDl hDq).trans hcell5; have HR6 := hideIt hR6; have HD6 := hideIt ((HD5.out.below ((Below.refl _ _).drew)).only hO6 hqw); have HW6 := hideIt ((HW5.out.below ((Below.refl _ _).drew)).only hO6 (by have := HW5.out.lt.1; omega)); have HO6 := hideIt ((HO5.out.then hqw ((Below.refl _ _).drew)).trans hO6);
             obtain ⟨Gz, cz, Lz, hcz, hoz, hnz, hlz⟩ := HD6.out.row z hz3; have HWz := hideIt hoz; clear hoz hR6 hO6)
          | (go_at_call 96; refine (opsMerge_any L Lz G cp Gz cz _ HW6.out.at HWz.out.at (by omega) (by omega) HW6.out.cap HWz.out.cap).mono ?_; rintro e w7 ⟨G7, c7, L7, z7, rfl, hS7, hM7, hb7⟩; have HS7 := hideIt hS7; have hL7 : L7.length ≤ 73 := merge_len hM7; clear hS7 hM7))
        all_goals
          have HR7 := hideIt (HR6.out.below hb7)
          have HD7 := hideIt (HD6.out.below hb7)
          have HO7 := hideIt (HO6.out.then hqw hb7)
          have hc7 : w7.cell? ⟨D, x, none⟩ = _ := ((bcell hb7).1 D _ HD6.out.lt).trans hcell6
          have hf7 := HD7.out.fz x
          have hz6 := HO6.out.size
          have hd6 := HD6.out.lt
          cases z7
          · clear HS7 hb7
            go_wp2
            exact ⟨⟨m - 1, j + 1 + 1 + 1 + 1, by omega, rfl, by omega, HR7.out, HD7.out, HO7.out⟩, by simp [intOf]; omega⟩
          · have hfin := st_put hqw hx HR6.out HD6.out HO6.out hb7 HS7.out hL7
            have ks7 := store_sl w7 D x G7 L7.length c7 _ hc7 hf7
            clear HS7 hb7 HR7 HD7 HO7 HR6 HD6 HO6 HW6 HWz
            go_wp2
            exact ⟨⟨m - 1, j + 1 + 1 + 1 + 1, by omega, rfl, by omega, hfin.1, hfin.2.1, hfin.2.2⟩, by simp [intOf]; omega⟩
      · have hDl := HD5.out.lt
        have hDq : ¬ D = q := by omega
        go_wp2
        go_region_with (first
          | (go_at_call 68; refine (of_any _ q _ p n cap (j + 1 + 1 + 1) 3 3 ?_ ?_ ?_ (by omega) (by omega) (by omega) (by omega)).mono ?_; (first | exact (HR5.out.alloc _).below ((Below.refl _ _).drew) | exact (HR5.out.below ((Below.refl _ _).drew)).alloc _); (first | exact (strs3 w5 _ _ _ (by decide) (by decide) (by decide)).below ((Below.refl _ _).drew) | exact strs3 w5.drew _ _ _ (by decide) (by decide) (by decide)); (have := HR5.out.lt; (try simp); omega);
             rintro e w6 ⟨⟨s6, hs6, rfl⟩, hR6, hO6⟩; have hO56 : OnlyQ q w5 w6 := only_back HR5.out.lt (by first | exact ((Below.refl _ _).alloc (Nat.le_refl _) _).drew | exact ((Below.refl _ _).drew).alloc (Nat.le_refl _) _) hO6; have HO6 := hideIt (HO5.out.trans hO56);
             have hcell6 : w6.cell? ⟨D, x, none⟩ = _ := (hO56.cell D x hDl hDq).trans hcell5; have HR6 := hideIt hR6; have HD6 := hideIt (HD5.out.only hO56 hqw); have HW6 := hideIt (HW5.out.only hO56 (by have := HW5.out.lt.1; omega)); clear hR6 hO6 hO56)
          | (go_at_call 34; refine (typeRun_any L G cp _ _ _ _ HW6.out.at (by omega) HW6.out.cap hs6).mono ?_; rintro e w7 ⟨G7, c7, L7, z7, rfl, hS7, hL7, hb7⟩; have HS7 := hideIt hS7; clear hS7))
        all_goals
          have HR7 := hideIt (HR6.out.below hb7)
          have HD7 := hideIt (HD6.out.below hb7)
          have HO7 := hideIt (HO6.out.then hqw hb7)
          have hc7 : w7.cell? ⟨D, x, none⟩ = _ := ((bcell hb7).1 D _ HD6.out.lt).trans hcell6
          have hf7 := HD7.out.fz x
          have hd6 := HD6.out.lt
          cases z7
          · clear HS7 hb7
            go_wp2
            exact ⟨⟨m - 1, j + 1 + 1 + 1 + 1, by omega, rfl, by omega, HR7.out, HD7.out, HO7.out⟩, by simp [intOf]; omega⟩
          · have hfin := st_put hqw hx HR6.out HD6.out HO6.out hb7 HS7.out hL7
            have ks7 := store_sl w7 D x G7 L7.length c7 _ hc7 hf7
            clear HS7 hb7 HR7 HD7 HO7 HR6 HD6 HO6 HW6
            go_wp2
            exact ⟨⟨m - 1, j + 1 + 1 + 1 + 1, by omega, rfl, by omega, hfin.1, hfin.2.1, hfin.2.2⟩, by simp [intOf]; omega⟩
      · have hDl := HD5.out.lt
        have hDq : ¬ D = q := by omega
        go_wp2
        go_region_held3 (fun w' => w'.cell? ⟨D, x, none⟩ = some (.slice (some ⟨G, 0, none⟩) L.length cp))
          (first | exact hcell7 | exact hcell6 | exact hcell5 | exact keepA hcell7 _ | exact keepA hcell6 _ | exact keepA hcell5 _ | exact setRow_cell (by omega) hcell7)
          (first
          | (go_at_call 41; refine (pick_any _ q p n cap (j + 1 + 1 + 1) 26 ?_ (by omega) (by omega) (by omega)).mono ?_; (first | exact HR5.out.below ((Below.refl _ _).drew) | exact (HR5.out.alloc _).below ((Below.refl _ _).drew) | exact (HR5.out.below ((Below.refl _ _).drew)).alloc _);
             rintro e w6 ⟨⟨c, hz0, hz1, rfl⟩, hR6, hO6⟩; have hO56 : OnlyQ q w5 w6 := only_back HR5.out.lt (by first | exact (Below.refl _ _).drew | exact ((Below.refl _ _).alloc (Nat.le_refl _) _).drew | exact ((Below.refl _ _).drew).alloc (Nat.le_refl _) _) hO6;
             have hcell6 : w6.cell? ⟨D, x, none⟩ = _ := (hO56.cell D x hDl hDq).trans hcell5; have HR6 := hideIt hR6; have HW6 := hideIt (HW5.out.only hO56 (by have := HW5.out.lt.1; omega));
             have HO56 := hideIt hO56; have hs56 := hO56.size; (try have hx6 : w6.heap[w5.heap.size]? = some (.cells #[.int .i64 0, .int .i64 0, .int .i64 0, .int .i64 0, .int .i64 0, .int .i64 0, .int .i64 0] 29 (0, 0)) := (hO6.block w5.heap.size (by simp) (by have := HR5.out.lt; omega)).trans (World.alloc_heap_new w5 _)); clear hR6 hO6 hO56)
          | (go_at_call 16; refine (typePut_some L G cp _ _ _ _ ?_ (by omega) HW6.out.cap).mono ?_; (first | exact HW6.out.at | exact (HW6.out.below ((Below.refl _ _).alloc (Nat.le_refl _) _)).at);
             rintro e w7 ⟨o, z7, rfl, hz7, hb7⟩; have hB67 : Below w6.heap.size w6 w7 := (by first | exact hb7 | exact Bstep ((Below.refl _ _).alloc (Nat.le_refl _) _) hb7);
             have HO57 := hideIt (HO56.out.then HR5.out.lt hB67); have HR7 := hideIt (HR6.out.below hB67); have hcell7 : w7.cell? ⟨D, x, none⟩ = _ := ((bcell hB67).1 D _ (by omega)).trans hcell6;
             (try have hx7 : w7.heap[w5.heap.size]? = some (.cells #[.int .i64 0, .int .i64 0, .int .i64 0, .int .i64 0, .int .i64 0, .int .i64 0, .int .i64 0] 29 (0, 0)) := (hb7.block _ (Array.getElem?_eq_some_iff.1 hx6).1).trans hx6); (try have hx7 : w7.heap[w6.heap.size]? = some (.cells #[.int .i64 0, .int .i64 0, .int .i64 0, .int .i64 0, .int .i64 0, .int .i64 0, .int .i64 0] 29 (0, 0)) := (hb7.block _ (by simp)).trans (World.alloc_heap_new w6 _)); (try have ks := store_op w7 _ _ hx7 rfl o.a o.b o.k o.c o.d o.s o.g)))
        all_goals
          first
            | (have hF := fin_row (o := o) HO57.out HR5.out HR7.out hx7 (by omega); generalize w7.setRow _ _ = W at hF ⊢; (first | generalize w5.heap.size = bx at hF ⊢ | skip); (try generalize w6.heap.size = bx at hF ⊢))
            | (have hF := fin_new o HO57.out HR5.out HR7.out; change Exit.then _ _ _ _ (w7.alloc (opObj o)); generalize w7.alloc (opObj o) = W at hF ⊢; generalize w7.heap.size = bx at hF ⊢)
          obtain ⟨hOf, hRf, ⟨b0, b1, b2, b3, b4, b5, b6⟩, hbl⟩ := hF
          have HRb := hideIt hRf
          have HDb := hideIt (HD5.out.only hOf hqw)
          have HOb := hideIt (HO5.out.trans hOf)
          have HWb := hideIt (HW5.out.only hOf (by have := HW5.out.lt.1; omega))
          have hcb : W.cell? ⟨D, x, none⟩ = _ := (hOf.cell D x hDl hDq).trans hcell5
          have h36 : z7 = true → L.length ≤ 36 := fun h => ops_36 (hz7 h)
          clear hRf hOf HO57 HR7 hz7 HR5 HD5 HO5 HW5
          cases z7
          · go_wp2
            exact ⟨⟨m - 1, j + 1 + 1 + 1 + 1, by omega, rfl, by omega, HRb.out, HDb.out, HOb.out⟩, by simp [intOf]; omega⟩
          · have h36 := h36 rfl
            have hfb := HDb.out.fz x
            have hDl := HDb.out.lt
            go_wp2
            go_region_with (first | (go_at_call 69; refine (l3With_any L G cp o _ (HWb.out.below ((Below.refl _ _).drew)).at (by omega) HWb.out.cap).mono ?_; rintro e w7 ⟨G7, c7, rfl, hS7, hb7⟩; have hc7 : w7.cell? ⟨D, x, none⟩ = _ := ((bcell hb7).1 D _ hDl).trans hcb; have hf7 : w7.frozen? ⟨D, x, none⟩ = false := ((bcell hb7).2 D _ hDl).trans hfb; have ks7 := store_sl w7 D x G7 (withL L o).length c7 _ hc7 hf7; have HS7 := hideIt hS7; clear hS7))
            all_goals
              have hfin := st_put hqw hx HRb.out HDb.out HOb.out (Bstep ((Below.refl _ _).drew) hb7) HS7.out (by have := withL_le L o; omega)
              clear hc7 hf7 hb7 HS7 HRb HDb HOb HWb
              go_wp2
              exact ⟨⟨m - 1, j + 1 + 1 + 1 + 1, by omega, rfl, by omega, hfin.1, hfin.2.1, hfin.2.2⟩, by simp [intOf]; omega⟩
end Go.Proofs.YtjadkhejdbdpoaaDoor

namespace Go.Proofs.YtjadkhejdbdpoaaDoor
open Go.RowKit
set_option linter.unusedSimpArgs false
set_option linter.unusedVariables false
attribute [local go_sem ↓] Go.wp_at_zero Go.wp_at_succ

set_option maxRecDepth 100000 in
set_option maxHeartbeats 4000000 in
theorem l71Ops_any (w : World) (q : Nat) (p : Option Addr) (n cap k : Nat) (h : RdAt w q p n cap k) (hk : k ≤ 1000) :
    Calls Tryd.prog 72 #[.pointer (some ⟨q, 0, none⟩)] w fun e w' => (∃ G c L, e = .returned (.slice (some ⟨G, 0, none⟩) (L : List Op7).length c) ∧ OwnOps w' w.heap.size G c L ∧ L.length ≤ 73) ∧ (∃ k', k' ≤ k + 202 ∧ RdAt w' q p n cap k') ∧ OnlyQ q w w' := by
  have H := hideIt h
  have hqw := h.lt
  clear h
  go_enter Tryd.func72, Tryd.ntmps72
  go_wp2_with fail
  refine (l71Docs_any w q p n cap k H.out hk).mono ?_
  rintro e w1 ⟨⟨D, rfl, hD⟩, ⟨k1, hk1, hR1⟩, hO1⟩
  have HD := hideIt hD
  have HR1 := hideIt hR1
  have HO1 := hideIt hO1
  obtain ⟨Ga, ca, La, hca, hoa, hna, hla⟩ := hD.row 0 (by omega)
  obtain ⟨Gb, cb, Lb, hcb, hob, hnb, hlb⟩ := hD.row 1 (by omega)
  have HA := hideIt hoa
  have HB := hideIt hob
  have hDl := hD.lt
  have hDg := hD.ge
  clear hD hR1 hO1 hoa hob
  go_wp2
  go_region_held3 (fun w' => w'.cell? ⟨D, 0, none⟩ = some (.slice (some ⟨Ga, 0, none⟩) La.length ca) ∧ w'.cell? ⟨D, 1, none⟩ = some (.slice (some ⟨Gb, 0, none⟩) Lb.length cb))
    (first | exact ⟨hca, hcb⟩ | exact ⟨((bcell hb2).1 D _ hDl).trans hca, ((bcell hb2).1 D _ hDl).trans hcb⟩)
    (first | (go_at_call 96; refine (opsMerge_any La Lb Ga ca Gb cb _ (HA.out.below ((Below.refl _ _).drew)).at (HB.out.below ((Below.refl _ _).drew)).at (by omega) (by omega) HA.out.cap HB.out.cap).mono ?_; rintro e w2 ⟨G2, c2, L2, z2, rfl, hS2, hM2, hb2⟩))
  rename_i hHH
  clear hHH
  have hL2 := merge_len hM2
  have HS2 : Hid (OwnOps w2 w.heap.size G2 c2 L2) := ownsRow_base HO1.out.size hS2
  have HD2 := hideIt ((HD.out.below ((Below.refl _ _).drew)).below hb2)
  have HR2 := hideIt ((HR1.out.below ((Below.refl _ _).drew)).below hb2)
  have HO2 := hideIt ((HO1.out.then hqw ((Below.refl _ _).drew)).then hqw hb2)
  clear hS2 hM2 hb2 HD HR1 HO1 HA HB hca hcb
  go_wp2_with fail
  refine (pick_any _ q p n cap k1 3 HR2.out (by omega) (by omega) (by omega)).mono ?_
  rintro e w3 ⟨⟨c, hc0, hc1, rfl⟩, hR3, hO3⟩
  have HR3 := hideIt hR3
  have HD3 := hideIt (HD2.out.only hO3 hqw)
  have HS3 := hideIt (HS2.out.only hO3 (by have := HS2.out.lt.1; omega))
  have HO3 := hideIt (HO2.out.trans hO3)
  clear hR3 hO3 HR2 HD2 HS2 HO2
  by_cases hz : c = 0
  · subst hz
    go_wp2_with fail
    refine (pick_any _ q p n cap (k1 + 1) 3 HR3.out (by omega) (by omega) (by omega)).mono ?_
    rintro e w4 ⟨⟨c, hx0, hx1, rfl⟩, hR4, hO4⟩
    obtain ⟨x, rfl⟩ := Int.eq_ofNat_of_zero_le hx0
    have HR4 := hideIt hR4
    have HO4 := hideIt (HO3.out.trans hO4)
    obtain ⟨Gx, cx, Lx, hcx, hox, hnx, hlx⟩ := (HD3.out.only hO4 hqw).row x (by omega)
    have HX := hideIt hox
    clear hR4 hO4 hox
    have hx3 : (x : Int) < 3 := by omega
    go_wp2
    go_ret
    exact ⟨⟨Gx, cx, Lx, rfl, HX.out, hlx⟩, ⟨k1 + 1 + 1, by omega, HR4.out⟩, HO4.out⟩
  · obtain ⟨Gx, cx, Lx, hcx, hox, hnx, hlx⟩ := HD3.out.row 2 (by omega)
    have HX := hideIt hox
    clear hox
    go_wp2_with fail
    refine (opsMerge_any L2 Lx G2 c2 Gx cx _ HS3.out.at HX.out.at (by omega) (by omega) HS3.out.cap HX.out.cap).mono ?_
    rintro e w4 ⟨G4, c4, L4, z4, rfl, hS4, hM4, hb4⟩
    have hL4 := merge_len hM4
    have HS4 : Hid (OwnOps w4 w.heap.size G4 c4 L4) := ownsRow_base HO3.out.size hS4
    have HR4 := hideIt (HR3.out.below hb4)
    have HO4 := hideIt (HO3.out.then hqw hb4)
    clear hS4 hM4 hb4
    go_wp2
    go_ret
    exact ⟨⟨G4, c4, L4, rfl, HS4.out, hL4⟩, ⟨k1 + 1, by omega, HR4.out⟩, HO4.out⟩
end Go.Proofs.YtjadkhejdbdpoaaDoor

namespace Go.Proofs.YtjadkhejdbdpoaaDoor
open Go.RowKit
set_option linter.unusedSimpArgs false
set_option linter.unusedVariables false

theorem opCells_nums : ∀ (xs : List Value) (m : Nat), xs.length = m * 7 → (∀ u ∈ xs, ∃ n : Int, u = .int .i64 n) → ∃ L : List Op7, L.length = m ∧ opCells L = xs
  | xs, 0, hl, _ => ⟨[], rfl, by cases xs with | nil => rfl | cons a r => simp at hl⟩
  | xs, m + 1, hl, hn => by
    match xs, hl, hn with
    | x0 :: x1 :: x2 :: x3 :: x4 :: x5 :: x6 :: r, hl, hn =>
      obtain ⟨n0, rfl⟩ := hn x0 (by simp)
      obtain ⟨n1, rfl⟩ := hn x1 (by simp)
      obtain ⟨n2, rfl⟩ := hn x2 (by simp)
      obtain ⟨n3, rfl⟩ := hn x3 (by simp)
      obtain ⟨n4, rfl⟩ := hn x4 (by simp)
      obtain ⟨n5, rfl⟩ := hn x5 (by simp)
      obtain ⟨n6, rfl⟩ := hn x6 (by simp)
      obtain ⟨L, h1, h2⟩ := opCells_nums r m (by simp at hl; omega) (fun u hu => hn u (by simp [hu]))
      exact ⟨⟨n0, n1, n2, n3, n4, n5, n6⟩ :: L, by simp [h1], by rw [← h2]; simp [opCells]⟩
    | [], hl, _ => simp at hl
    | [_], hl, _ => simp at hl; omega
    | [_, _], hl, _ => simp at hl; omega
    | [_, _, _], hl, _ => simp at hl; omega
    | [_, _, _, _], hl, _ => simp at hl; omega
    | [_, _, _, _, _], hl, _ => simp at hl; omega
    | [_, _, _, _, _, _], hl, _ => simp at hl; omega
theorem opCells_int (L : List Op7) : ∀ u ∈ opCells L, ∃ n : Int, u = .int .i64 n := by
  intro u hu
  unfold opCells at hu
  obtain ⟨o, _, ho⟩ := List.mem_flatMap.1 hu
  simp at ho
  rcases ho with rfl | rfl | rfl | rfl | rfl | rfl | rfl <;> exact ⟨_, rfl⟩
/-- One number of a thing is turned: a list as long. -/
theorem OwnOps.turn {w : World} {base g cap j : Nat} {L : List Op7} (h : OwnOps w base g cap L) (hj : j < L.length * 7) (v : Int) : ∃ L', L'.length = L.length ∧ OwnOps (w.setCell ⟨g, j, none⟩ (.int .i64 v)) base g cap L' := by
  rcases h.2 with ⟨e, _⟩ | ⟨g', c', cur, e, hb, hg, hn, hm, hs, ht⟩
  · cases e
  cases e
  have hjc : j < cur.size := by rw [hs]; exact Nat.lt_of_lt_of_le hj (Nat.mul_le_mul_right 7 hn)
  obtain ⟨L', h1, h2⟩ := opCells_nums ((opCells L).set j (.int .i64 v)) L.length (by simp [opCells_len]) (fun u hu => by
    rcases List.mem_or_eq_of_mem_set hu with hu | hu
    · exact opCells_int L u hu
    · exact ⟨v, hu⟩)
  refine ⟨L', h1, ?_⟩
  unfold OwnOps
  rw [h1, h2]
  refine ⟨by simp [opCells_len], .inr ⟨g, cap, cur.setIfInBounds j (.int .i64 v), rfl, hb, ?_, hn, hm, by simpa using hs, ?_⟩⟩
  · have := heap_setCell_same w g j cur 29 (.int .i64 v) hg
    exact this
  · rw [← ht]
    simp [List.take_set]
theorem OpsAt.cellsTake {w : World} {g : Nat} {l : List Op7} (h : OpsAt w g l) (x : Nat) : ∀ j u, (opCells (l.take x))[j]? = some u → w.cell? ((⟨g, 0, none⟩ : Addr).add j) = some u := fun j u hj => by
  refine h.cells j u ?_
  have e : opCells l = opCells (l.take x) ++ opCells (l.drop x) := by rw [← opCells_app, List.take_append_drop]
  rw [e, List.getElem?_append_left (List.getElem?_eq_some_iff.1 hj).1]
  exact hj
theorem add_off (g o j : Nat) : (⟨g, o, none⟩ : Addr).add j = ⟨g, o + j, none⟩ := by
  unfold Addr.add
  split <;> simp_all
theorem OpsAt.cellsDrop {w : World} {g : Nat} {l : List Op7} (h : OpsAt w g l) {x : Nat} (hx : x ≤ l.length) : ∀ j u, (opCells (l.drop x))[j]? = some u → w.cell? ((⟨g, x * 7, none⟩ : Addr).add j) = some u := fun j u hj => by
  have e : opCells l = opCells (l.take x) ++ opCells (l.drop x) := by rw [← opCells_app, List.take_append_drop]
  have h1 := h.cells (x * 7 + j) u (by
    rw [e, List.getElem?_append_right (by rw [opCells_len]; simp; omega)]
    rw [← hj]
    congr 1
    rw [opCells_len]
    simp
    omega)
  rw [add_plain] at h1
  rw [add_off]
  exact h1
/-- Some list of at most so many things, in memory of one's own. -/
def SomeOps (w : World) (base G c m : Nat) (N : Nat) : Prop := ∃ L : List Op7, L.length = m ∧ m ≤ N ∧ OwnOps w base G c L
theorem SomeOps.turn {w : World} {base g cap j m N : Nat} (h : SomeOps w base g cap m N) (hj : j < m * 7) (v : Int) : SomeOps (w.setCell ⟨g, j, none⟩ (.int .i64 v)) base g cap m N := by
  obtain ⟨L, h1, h2, h3⟩ := h
  obtain ⟨L', h4, h5⟩ := h3.turn (j := j) (by omega) v
  exact ⟨L', by omega, h2, h5⟩
theorem SomeOps.only {w w' : World} {q base g cap m N : Nat} (h : SomeOps w base g cap m N) (ho : OnlyQ q w w') (hq : q < base) : SomeOps w' base g cap m N := by
  obtain ⟨L, h1, h2, h3⟩ := h
  exact ⟨L, h1, h2, h3.only ho (by have := h3.lt.1; omega)⟩
theorem SomeOps.below {w w' : World} {base g cap m N : Nat} (h : SomeOps w base g cap m N) (hb : Below w.heap.size w w') : SomeOps w' base g cap m N := by
  obtain ⟨L, h1, h2, h3⟩ := h
  exact ⟨L, h1, h2, h3.below hb⟩
/-- The cells of a thing, and that they may be written. -/
theorem SomeOps.cells {w : World} {base g cap m N : Nat} (h : SomeOps w base g cap m N) {k : Nat} (hk : k < m) : ∃ o : Op7, w.cell? ⟨g, k * 7, none⟩ = some (.int .i64 o.a) ∧ w.cell? ⟨g, k * 7 + 1, none⟩ = some (.int .i64 o.b) ∧ w.cell? ⟨g, k * 7 + 2, none⟩ = some (.int .i64 o.k) ∧ w.cell? ⟨g, k * 7 + 3, none⟩ = some (.int .i64 o.c) ∧ w.cell? ⟨g, k * 7 + 4, none⟩ = some (.int .i64 o.d) ∧ w.cell? ⟨g, k * 7 + 5, none⟩ = some (.int .i64 o.s) ∧ w.cell? ⟨g, k * 7 + 6, none⟩ = some (.int .i64 o.g) := by
  obtain ⟨L, h1, h2, h3⟩ := h
  exact ⟨L[k]'(by omega), h3.at.2 k _ (by simp [h1, hk])⟩
theorem SomeOps.fz {w : World} {base g cap m N : Nat} (h : SomeOps w base g cap m N) (j : Nat) : w.frozen? ⟨g, j, none⟩ = false := by
  obtain ⟨L, h1, h2, h3⟩ := h
  rcases h3.2 with ⟨e, _⟩ | ⟨g', c', cur, e, hb, hg, _⟩
  · cases e
  · cases e
    simp [World.frozen?, hg]
theorem SomeOps.lt {w : World} {base g cap m N : Nat} (h : SomeOps w base g cap m N) : base ≤ g ∧ g < w.heap.size := by
  obtain ⟨L, h1, h2, h3⟩ := h
  exact h3.lt
end Go.Proofs.YtjadkhejdbdpoaaDoor

namespace Go.Proofs.YtjadkhejdbdpoaaDoor
open Go.RowKit
set_option linter.unusedSimpArgs false
set_option linter.unusedVariables false
attribute [local go_sem ↓] Go.wp_at_zero Go.wp_at_succ

theorem OnlyQ.grow {q : Nat} {w W w' : World} {row : Option Nat} (h : OnlyQ q w W) (hq : q < w.heap.size) (hg : W.grownBy w' row) (hr : ∀ j, row = some j → w.heap.size ≤ j) : OnlyQ q w w' := by
  have hz := h.size
  have hb : ∀ b, b < w.heap.size → w'.heap[b]? = W.heap[b]? := fun b hb => hg.block b (by omega) (fun e => by have := hr b e.symm; omega)
  exact ⟨Nat.le_trans hz hg.size, fun b o hb' hne => (World.cell?_of_block (a := ⟨b, o, none⟩) (hb b hb')).trans (h.cell b o hb' hne),
    fun b o hb' hne => (World.frozen?_of_block (a := ⟨b, o, none⟩) (hb b hb')).trans (h.frozen b o hb' hne),
    ⟨hg.os.trans h.below.os, hg.tape.trans h.below.tape, hg.output.trans h.below.output, Nat.le_trans hz hg.size, fun i hi => (hb i (by omega)).trans (h.below.block i hi)⟩,
    fun b hb' hne => (hb b hb').trans (h.block b hb' hne)⟩

set_option maxRecDepth 100000 in
set_option maxHeartbeats 4000000 in
theorem l71Off_any (w : World) (q : Nat) (p : Option Addr) (n cap k : Nat) (h : RdAt w q p n cap k) (hk : k ≤ 1000) :
    Calls Tryd.prog 40 #[.pointer (some ⟨q, 0, none⟩)] w fun e w' => (∃ G c m, e = .returned (.slice (some ⟨G, 0, none⟩) m c) ∧ SomeOps w' w.heap.size G c m 74) ∧ (∃ k', k' ≤ k + 210 ∧ RdAt w' q p n cap k') ∧ OnlyQ q w w' := by
  have H := hideIt h
  have hqw := h.lt
  clear h
  obtain ⟨i0, hi, hz0', hz1', hz2⟩ := info_parts infoOp
  have HI1 := hideIt hi
  have HZ0 := hideIt hz0'
  have HZ1 := hideIt hz1'
  have HZ2 := hideIt hz2
  clear hi hz0' hz1' hz2
  go_enter Tryd.func40, Tryd.ntmps40
  go_wp2_with fail
  refine (l71Ops_any w q p n cap k H.out hk).mono ?_
  rintro e w1 ⟨⟨G, cp, L, rfl, hS1, hL⟩, ⟨k1, hk1, hR1⟩, hO1⟩
  have HS1 := hideIt hS1
  have HR1 := hideIt hR1
  have HO1 := hideIt hO1
  clear hS1 hR1 hO1
  go_wp2_with fail
  refine (pick_any _ q p n cap k1 12 HR1.out (by omega) (by omega) (by omega)).mono ?_
  rintro e w2 ⟨⟨c, hc0, hc1, rfl⟩, hR2, hO2⟩
  have HR2 := hideIt hR2
  have HS2 := hideIt (HS1.out.only hO2 (by have := HS1.out.lt.1; omega))
  have HO2 := hideIt (HO1.out.trans hO2)
  clear hR2 hO2 HR1 HS1 HO1
  by_cases hz : c = 0
  · subst hz
    by_cases hn0 : L.length = 0
    · have hn0' : (L.length : Int) = 0 := by omega
      go_wp2
      go_ret
      have hS : SomeOps w2 w.heap.size G cp L.length 74 := ⟨L, rfl, by omega, HS2.out⟩
      rw [hn0] at hS
      exact ⟨⟨G, cp, _, rfl, hS⟩, ⟨k1 + 1, by omega, HR2.out⟩, HO2.out⟩
    · have hn0' : ¬ (L.length : Int) = 0 := by omega
      go_wp2_with fail
      refine (pick_any _ q p n cap (k1 + 1) _ HR2.out (by omega) (by omega) (by omega)).mono ?_
      rintro e w3 ⟨⟨c, hx0, hx1, rfl⟩, hR3, hO3⟩
      obtain ⟨x, rfl⟩ := Int.eq_ofNat_of_zero_le hx0
      have hx : x < L.length := by omega
      have HR3 := hideIt hR3
      have HS3 := hideIt (HS2.out.only hO3 (by have := HS2.out.lt.1; omega))
      have HO3 := hideIt (HO2.out.trans hO3)
      clear hR3 hO3 HR2 HS2 HO2
      go_wp2_with fail
      refine (pick_any _ q p n cap (k1 + 1 + 1) 8 HR3.out (by omega) (by omega) (by omega)).mono ?_
      rintro e w4 ⟨⟨s, hs0, hs1, rfl⟩, hR4, hO4⟩
      have HR4 := hideIt hR4
      have HS4 := hideIt (HS3.out.only hO4 (by have := HS3.out.lt.1; omega))
      have HO4 := hideIt (HO3.out.trans hO4)
      clear hR4 hO4 HR3 HS3 HO3 hx0
      have HZ4 : Hid (SomeOps w4 w.heap.size G cp L.length 74) := ⟨L, rfl, by omega, HS4.out⟩
      have hcases : s = 0 ∨ s = 1 ∨ s = 2 ∨ s = 3 ∨ s = 4 ∨ s = 5 ∨ s = 6 ∨ s = 7 := by omega
      clear hs0 hs1
      rcases hcases with rfl | rfl | rfl | rfl | rfl | rfl | rfl | rfl
      · go_wp2_with fail
        refine (l71Id_any _ q p n cap (k1 + 1 + 1 + 1) HR4.out (by omega)).mono ?_
        rintro e w5 ⟨⟨ir, im, rfl⟩, ⟨k5, hk5, hR5⟩, hO5⟩
        have HR5 := hideIt hR5
        have HZ5 := hideIt (HZ4.out.only hO5 hqw)
        have HO5 := hideIt (HO4.out.trans hO5)
        clear hR5 hO5 HR4 HS4 HZ4 HO4
        obtain ⟨o, y0, y1, y2, y3, y4, y5, y6⟩ := HZ5.out.cells hx
        have f0 := HZ5.out.fz (x * 7)
        have f1 := HZ5.out.fz (x * 7 + 1)
        have f2 := HZ5.out.fz (x * 7 + 2)
        have f3 := HZ5.out.fz (x * 7 + 3)
        have f4 := HZ5.out.fz (x * 7 + 4)
        have f5 := HZ5.out.fz (x * 7 + 5)
        have f6 := HZ5.out.fz (x * 7 + 6)
        have hGl := HZ5.out.lt
        have hGq : ¬ G = q := by omega
        have hGq' : ¬ q = G := by omega
        have hx' : (x : Int) < (L.length : Int) := by omega
        go_wp2
        go_ret
        refine ⟨⟨G, cp, _, rfl, ?_⟩, ⟨k5, by omega, ?_⟩, ?_⟩
        · repeat first | exact HZ5.out | (refine SomeOps.turn ?_ (by omega) _)
        · refine H.out.fin HR5.out ?_ (fun o => by simp [go_sem, hGq, hGq']) (fun o => by simp)
          repeat first | exact HO5.out | (refine OnlyQ.set ?_ hqw hGl.1 _ _)
        · repeat first | exact HO5.out | (refine OnlyQ.set ?_ hqw hGl.1 _ _)
      · go_wp2_with fail
        refine (l71Id_any _ q p n cap (k1 + 1 + 1 + 1) HR4.out (by omega)).mono ?_
        rintro e w5 ⟨⟨ir, im, rfl⟩, ⟨k5, hk5, hR5⟩, hO5⟩
        have HR5 := hideIt hR5
        have HZ5 := hideIt (HZ4.out.only hO5 hqw)
        have HO5 := hideIt (HO4.out.trans hO5)
        clear hR5 hO5 HR4 HS4 HZ4 HO4
        obtain ⟨o, y0, y1, y2, y3, y4, y5, y6⟩ := HZ5.out.cells hx
        have f0 := HZ5.out.fz (x * 7)
        have f1 := HZ5.out.fz (x * 7 + 1)
        have f2 := HZ5.out.fz (x * 7 + 2)
        have f3 := HZ5.out.fz (x * 7 + 3)
        have f4 := HZ5.out.fz (x * 7 + 4)
        have f5 := HZ5.out.fz (x * 7 + 5)
        have f6 := HZ5.out.fz (x * 7 + 6)
        have hGl := HZ5.out.lt
        have hGq : ¬ G = q := by omega
        have hGq' : ¬ q = G := by omega
        have hx' : (x : Int) < (L.length : Int) := by omega
        go_wp2
        go_ret
        refine ⟨⟨G, cp, _, rfl, ?_⟩, ⟨k5, by omega, ?_⟩, ?_⟩
        · repeat first | exact HZ5.out | (refine SomeOps.turn ?_ (by omega) _)
        · refine H.out.fin HR5.out ?_ (fun o => by simp [go_sem, hGq, hGq']) (fun o => by simp)
          repeat first | exact HO5.out | (refine OnlyQ.set ?_ hqw hGl.1 _ _)
        · repeat first | exact HO5.out | (refine OnlyQ.set ?_ hqw hGl.1 _ _)
      · go_wp2_with fail
        refine (pick_any _ q p n cap (k1 + 1 + 1 + 1) 4 HR4.out (by omega) (by omega) (by omega)).mono ?_
        rintro e w5 ⟨⟨f, hf0, hf1, rfl⟩, hR5, hO5⟩
        have HR5 := hideIt hR5
        have HZ5 := hideIt (HZ4.out.only hO5 hqw)
        have HO5 := hideIt (HO4.out.trans hO5)
        clear hR5 hO5 HR4 HS4 HZ4 HO4
        obtain ⟨o, y0, y1, y2, y3, y4, y5, y6⟩ := HZ5.out.cells hx
        have f0 := HZ5.out.fz (x * 7)
        have f1 := HZ5.out.fz (x * 7 + 1)
        have f2 := HZ5.out.fz (x * 7 + 2)
        have f3 := HZ5.out.fz (x * 7 + 3)
        have f4 := HZ5.out.fz (x * 7 + 4)
        have f5 := HZ5.out.fz (x * 7 + 5)
        have f6 := HZ5.out.fz (x * 7 + 6)
        have hGl := HZ5.out.lt
        have hGq : ¬ G = q := by omega
        have hGq' : ¬ q = G := by omega
        have hx' : (x : Int) < (L.length : Int) := by omega
        go_wp2
        go_ret
        refine ⟨⟨G, cp, _, rfl, ?_⟩, ⟨k1 + 1 + 1 + 1 + 1, by omega, ?_⟩, ?_⟩
        · repeat first | exact HZ5.out | (refine SomeOps.turn ?_ (by omega) _)
        · refine H.out.fin HR5.out ?_ (fun o => by simp [go_sem, hGq, hGq']) (fun o => by simp)
          repeat first | exact HO5.out | (refine OnlyQ.set ?_ hqw hGl.1 _ _)
        · repeat first | exact HO5.out | (refine OnlyQ.set ?_ hqw hGl.1 _ _)
      · go_wp2_with fail
        refine (pick_any _ q p n cap (k1 + 1 + 1 + 1) 4 (HR4.out.alloc _) (by omega) (by omega) (by omega)).mono ?_
        rintro e w5 ⟨⟨f, hf0, hf1, rfl⟩, hR5, hO5⟩
        have hl4 : w4.heap.size ≠ q := by have := HR4.out.lt; omega
        have i0 : w5.cell? ⟨w4.heap.size, 0, none⟩ = some (.int .i64 0) := (hO5.cell _ 0 (by simp) hl4).trans (by simp [go_sem])
        have i1 : w5.cell? ⟨w4.heap.size, 1, none⟩ = some (.int .i64 65) := (hO5.cell _ 1 (by simp) hl4).trans (by simp [go_sem])
        have i2 : w5.cell? ⟨w4.heap.size, 2, none⟩ = some (.int .i64 123) := (hO5.cell _ 2 (by simp) hl4).trans (by simp [go_sem])
        have i3 : w5.cell? ⟨w4.heap.size, 3, none⟩ = some (.int .i64 98) := (hO5.cell _ 3 (by simp) hl4).trans (by simp [go_sem])
        have HR5 := hideIt hR5
        have HZ5 := hideIt ((HZ4.out.below ((Below.refl _ _).alloc (Nat.le_refl _) _)).only hO5 hqw)
        have HO5 := hideIt ((HO4.out.alloc hqw _).trans hO5)
        clear hR5 hO5 HR4 HS4 HZ4 HO4
        obtain ⟨o, y0, y1, y2, y3, y4, y5, y6⟩ := HZ5.out.cells hx
        have f0 := HZ5.out.fz (x * 7)
        have f1 := HZ5.out.fz (x * 7 + 1)
        have f2 := HZ5.out.fz (x * 7 + 2)
        have f3 := HZ5.out.fz (x * 7 + 3)
        have f4 := HZ5.out.fz (x * 7 + 4)
        have f5 := HZ5.out.fz (x * 7 + 5)
        have f6 := HZ5.out.fz (x * 7 + 6)
        have hGl := HZ5.out.lt
        have hGq : ¬ G = q := by omega
        have hGq' : ¬ q = G := by omega
        have hx' : (x : Int) < (L.length : Int) := by omega
        obtain rfl | rfl | rfl | rfl : f = 0 ∨ f = 1 ∨ f = 2 ∨ f = 3 := by omega
        all_goals
          go_wp2
          go_ret
          refine ⟨⟨G, cp, _, rfl, ?_⟩, ⟨k1 + 1 + 1 + 1 + 1, by omega, ?_⟩, ?_⟩
          · repeat first | exact HZ5.out | (refine SomeOps.turn ?_ (by omega) _)
          · refine H.out.fin HR5.out ?_ (fun o => by simp [go_sem, hGq, hGq']) (fun o => by simp)
            repeat first | exact HO5.out | (refine OnlyQ.set ?_ hqw hGl.1 _ _)
          · repeat first | exact HO5.out | (refine OnlyQ.set ?_ hqw hGl.1 _ _)
      · go_wp2_with fail
        refine (pick_any _ q p n cap (k1 + 1 + 1 + 1) 4 HR4.out (by omega) (by omega) (by omega)).mono ?_
        rintro e w5 ⟨⟨f, hf0, hf1, rfl⟩, hR5, hO5⟩
        have HR5 := hideIt hR5
        have HZ5 := hideIt (HZ4.out.only hO5 hqw)
        have HO5 := hideIt (HO4.out.trans hO5)
        clear hR5 hO5 HR4 HS4 HZ4 HO4
        obtain ⟨o, y0, y1, y2, y3, y4, y5, y6⟩ := HZ5.out.cells hx
        have f0 := HZ5.out.fz (x * 7)
        have f1 := HZ5.out.fz (x * 7 + 1)
        have f2 := HZ5.out.fz (x * 7 + 2)
        have f3 := HZ5.out.fz (x * 7 + 3)
        have f4 := HZ5.out.fz (x * 7 + 4)
        have f5 := HZ5.out.fz (x * 7 + 5)
        have f6 := HZ5.out.fz (x * 7 + 6)
        have hGl := HZ5.out.lt
        have hGq : ¬ G = q := by omega
        have hGq' : ¬ q = G := by omega
        have hx' : (x : Int) < (L.length : Int) := by omega
        go_wp2
        go_ret
        refine ⟨⟨G, cp, _, rfl, ?_⟩, ⟨k1 + 1 + 1 + 1 + 1, by omega, ?_⟩, ?_⟩
        · repeat first | exact HZ5.out | (refine SomeOps.turn ?_ (by omega) _)
        · refine H.out.fin HR5.out ?_ (fun o => by simp [go_sem, hGq, hGq']) (fun o => by simp)
          repeat first | exact HO5.out | (refine OnlyQ.set ?_ hqw hGl.1 _ _)
        · repeat first | exact HO5.out | (refine OnlyQ.set ?_ hqw hGl.1 _ _)
      · obtain ⟨y0, y1, y2, y3, y4, y5, y6⟩ := HS4.out.at.2 x L[x] (by simp [hx])
        have hx' : (x : Int) < (L.length : Int) := by omega
        have hw4 := HS4.out.lt
        have HCC := hideIt (HS4.out.cap)
        generalize L[x] = o at *
        go_wp2_with (first
          | (at_builtin; refine wpList_append_own_at _ rfl _ _ 23 rfl w.heap.size 29 i0 _ 7 56 Tryd.underlying23 HI1.out HZ0.out HZ1.out HZ2.out rfl (by decide) _ _ _ rfl (World.ownsRow.alloc HS4.out _) ⟨w4.heap.size, 0, none⟩ 1 1 (opCells [o]) rfl rfl (cells_new w4 (opCells [o]) 29) (opCells_one _) (by unfold maxLen; omega) (by omega) (by simp; omega) ?_; intro v' w5 hown5 hg5 _ _;
              obtain ⟨g', cap', hv'⟩ := ownsRow_succ hown5; subst hv'))
        have HO5 := hideIt ((HO4.out.alloc hqw (opObj o)).grow hqw hg5 (fun j e => by cases e; exact hw4.1))
        have hq4 := HR4.out.lt
        have hR5 := H.out.fin (HR4.out.alloc (opObj o)) HO5.out (fun y => World.cell?_of_block (a := ⟨q, y, none⟩) (hg5.block q (by simp; omega) (by intro e; have e' : q = G := (by cases e; rfl); omega))) (fun y => World.frozen?_of_block (a := ⟨q, y, none⟩) (hg5.block q (by simp; omega) (by intro e; have e' : q = G := (by cases e; rfl); omega)))
        have hZ5 : SomeOps w5 w.heap.size g' cap' (L.length + 1) 74 := ⟨L ++ [o], by simp, by omega, by
          unfold OwnOps
          rw [opCells_app, List.length_append]
          exact hown5⟩
        clear hown5 hg5
        go_ret
        exact ⟨⟨g', cap', _, rfl, hZ5⟩, ⟨k1 + 1 + 1 + 1, by omega, hR5⟩, HO5.out⟩
      · have hx' : (x : Int) < (L.length : Int) := by omega
        have hx0 : (0 : Int) ≤ (x : Int) := by omega
        have hcap := HS4.out.cap
        have hxc : (x : Int) ≤ (cp : Int) := by omega
        have hx1 : IntKind.i64.wrap ((x : Int) + 1) = (x : Int) + 1 := IntWalk.i64_in _ ⟨by omega, by omega⟩
        have hx2 : (0 : Int) ≤ (x : Int) + 1 := by omega
        have hx3 : (x : Int) + 1 ≤ (L.length : Int) := by omega
        have hx4 : ((x : Int) + 1).toNat = x + 1 := by omega
        have hw4 := HS4.out.lt
        have hLd : (L.drop (x + 1)).length = L.length - (x + 1) := by simp
        have HSA : Hid (((w4.alloc (.cells #[] 29)).drew).ownsRow w.heap.size 29 7 (.slice (some ⟨w4.heap.size, 0, none⟩) 0 0) 0 []) :=
          rowKeep (World.ownsRow_made (base := w.heap.size) (e := 29) (size := 7) w4 #[] 0 HO4.out.size (Nat.zero_le _) rfl) ((Below.refl _ _).drew)
        have HSB := hideIt ((HS4.out.below ((Below.refl _ _).alloc (Nat.le_refl _) (.cells #[] 29))).below ((Below.refl _ _).drew))
        have hzA : w.heap.size ≤ ((w4.alloc (.cells #[] 29)).drew).heap.size := Nat.le_trans HO4.out.size (by simp)
        obtain ⟨v5, w5, hap1, hown5, hg5, hnil5, hloc5⟩ := run_append_own_at (P := Tryd.prog) ((w4.alloc (.cells #[] 29)).drew) w.heap.size 23 23 29 i0 _ 7 56 Tryd.underlying23 HI1.out HZ0.out HZ1.out HZ2.out rfl (by decide) _ 0 [] HSA.out ⟨G, 0, none⟩ x cp (opCells (L.take x)) (by rw [opCells_len]; simp; omega) (HSB.out.at.cellsTake x) (opCells_one _) (by unfold maxLen; omega) (by omega) hzA
        have hS5 : OwnOps w5 w.heap.size G cp L := World.ownsRow.kept HSB.out hg5 (.inr (by intro e; have e' : G = w4.heap.size := (by cases e; rfl); omega))
        have hsrc : ∀ j u, (opCells (L.drop (x + 1)))[j]? = some u → w5.cell? ((⟨G, if cp = x + 1 then 0 else (x + 1) * 7, none⟩ : Addr).add j) = some u := by
          intro j u hj
          by_cases hcx : cp = x + 1
          · have h0 : L.drop (x + 1) = [] := List.drop_eq_nil_of_le (by omega)
            rw [h0] at hj
            simp [opCells] at hj
          · rw [if_neg hcx]
            exact hS5.at.cellsDrop (by omega) j u hj
        have haddr : (if cp = x + 1 then (some ⟨G, 0, none⟩ : Option Addr) else some ⟨G, (x + 1) * 7, none⟩) = some ⟨G, if cp = x + 1 then 0 else (x + 1) * 7, none⟩ := by split <;> rfl
        obtain ⟨v6, w6, hap2, hown6, hg6, hnil6, hloc6⟩ := run_append_own_at (P := Tryd.prog) w5 w.heap.size 23 23 29 i0 _ 7 56 Tryd.underlying23 HI1.out HZ0.out HZ1.out HZ2.out rfl (by decide) v5 _ _ hown5 ⟨G, if cp = x + 1 then 0 else (x + 1) * 7, none⟩ (L.length - (x + 1)) (cp - (x + 1)) (opCells (L.drop (x + 1))) (by rw [opCells_len, hLd]) hsrc (opCells_one _) (by unfold maxLen; omega) (by omega) (Nat.le_trans hzA hg5.size)
        have hr5 : v5.ownBlock = some w4.heap.size ∨ v5.ownBlock = some ((w4.alloc (.cells #[] 29)).drew).heap.size := hloc5
        have hO6 : OnlyQ q w w6 := (((HO4.out.alloc hqw (.cells #[] 29)).drew).grow hqw hg5 (fun j e => by have e' : j = w4.heap.size := (by cases e; rfl); have := HO4.out.size; omega)).grow hqw hg6 (fun j e => by
          rcases hr5 with h | h <;> rw [h] at e <;> cases e
          · exact HO4.out.size
          · exact hzA)
        have hq4 := HR4.out.lt
        have hbq : w6.heap[q]? = w4.heap[q]? := by
          rw [hg6.block q (Nat.lt_of_lt_of_le (show q < ((w4.alloc (.cells #[] 29)).drew).heap.size from Nat.lt_of_lt_of_le hq4 (by simp)) hg5.size) (by
            intro e
            rcases hr5 with h | h <;> rw [h] at e <;> cases e
            · omega
            · simp at hq4; omega),
            hg5.block q (Nat.lt_of_lt_of_le hq4 (by simp)) (by intro e; have e' : q = w4.heap.size := (by cases e; rfl); omega)]
          exact Below.heap_alloc _ _ _ hq4
        have hR6 := H.out.fin HR4.out hO6 (fun y => World.cell?_of_block (a := ⟨q, y, none⟩) hbq) (fun y => World.frozen?_of_block (a := ⟨q, y, none⟩) hbq)
        have HX : Hid (∃ g' c', v6 = .slice (some ⟨g', 0, none⟩) (L.length - 1) c' ∧ SomeOps w6 w.heap.size g' c' (L.length - 1) 74) := by
          show ∃ g' c', _
          have hn5 : ¬ v5 = .slice none 0 0 := fun e => by have := (hnil5.1 e).1; cases this
          have hlen : 0 + x + (L.length - (x + 1)) = L.length - 1 := by omega
          rw [hlen] at hown6
          rcases hown6.2 with ⟨e, _⟩ | ⟨g', c', cur, e, _⟩
          · exact absurd (hnil6.1 e).1 hn5
          · subst e
            refine ⟨g', c', rfl, L.take x ++ L.drop (x + 1), by simp; omega, by omega, ?_⟩
            unfold OwnOps
            rw [opCells_app, show (L.take x ++ L.drop (x + 1)).length = L.length - 1 by simp; omega]
            simpa using hown6
        have HXR := hideIt hR6
        have HXO := hideIt hO6
        clear hown5 hg5 hnil5 hloc5 hown6 hg6 hnil6 hloc6 hS5 hr5 hbq hR6 hO6 hsrc
        go_wp2
        go_region_held3 (fun _ => True) (exact trivial) (first
          | (refine append_arm (t := 23) (v := .slice (some ⟨w4.heap.size, 0, none⟩) 0 0) (u := .slice (some ⟨G, 0, none⟩) x cp) rfl rfl rfl rfl rfl hap1 ?_; clear hap1)
          | (refine append_arm (t := 23) (v := v5) (u := .slice (some ⟨G, if cp = x + 1 then 0 else (x + 1) * 7, none⟩) (L.length - (x + 1)) (cp - (x + 1))) rfl rfl rfl rfl rfl hap2 ?_; clear hap2))
        all_goals
          obtain ⟨g6, c6, rfl, hZ6⟩ := HX.out
          go_wp2
          all_goals
            go_ret
            exact ⟨⟨g6, c6, _, rfl, hZ6⟩, ⟨k1 + 1 + 1 + 1, by omega, HXR.out⟩, HXO.out⟩
      · have HR5 := HR4
        have HZ5 := HZ4
        have HO5 := HO4
        obtain ⟨o, y0, y1, y2, y3, y4, y5, y6⟩ := HZ5.out.cells hx
        have f0 := HZ5.out.fz (x * 7)
        have f1 := HZ5.out.fz (x * 7 + 1)
        have f2 := HZ5.out.fz (x * 7 + 2)
        have f3 := HZ5.out.fz (x * 7 + 3)
        have f4 := HZ5.out.fz (x * 7 + 4)
        have f5 := HZ5.out.fz (x * 7 + 5)
        have f6 := HZ5.out.fz (x * 7 + 6)
        have hGl := HZ5.out.lt
        have hGq : ¬ G = q := by omega
        have hGq' : ¬ q = G := by omega
        have hx' : (x : Int) < (L.length : Int) := by omega
        go_wp2
        go_ret
        refine ⟨⟨G, cp, _, rfl, ?_⟩, ⟨k1 + 1 + 1 + 1, by omega, ?_⟩, ?_⟩
        · repeat first | exact HZ5.out | (refine SomeOps.turn ?_ (by omega) _)
        · refine H.out.fin HR5.out ?_ (fun o => by simp [go_sem, hGq, hGq']) (fun o => by simp)
          repeat first | exact HO5.out | (refine OnlyQ.set ?_ hqw hGl.1 _ _)
        · repeat first | exact HO5.out | (refine OnlyQ.set ?_ hqw hGl.1 _ _)
  · go_wp2
    go_ret
    exact ⟨⟨G, cp, _, rfl, L, rfl, by omega, HS2.out⟩, ⟨k1 + 1, by omega, HR2.out⟩, HO2.out⟩
end Go.Proofs.YtjadkhejdbdpoaaDoor

namespace Go.Proofs.YtjadkhejdbdpoaaDoor
open Go.RowKit
set_option linter.unusedSimpArgs false
set_option linter.unusedVariables false
attribute [local go_sem ↓] Go.wp_at_zero Go.wp_at_succ

theorem SomeOps.base {w : World} {base base' g cap m N : Nat} (h : SomeOps w base g cap m N) (hb : base' ≤ base) : SomeOps w base' g cap m N := by
  obtain ⟨L, h1, h2, h3⟩ := h
  exact ⟨L, h1, h2, ownsRow_base hb h3⟩

set_option maxRecDepth 100000 in
set_option maxHeartbeats 1000000 in
theorem l71Some_any (w : World) (q : Nat) (p : Option Addr) (n cap k base G c m : Nat) (h : RdAt w q p n cap k) (hk : k ≤ 100000) (hs : SomeOps w base G c m 74) (hq : q < base) (hqw : q < w.heap.size) :
    Calls Tryd.prog 64 #[.pointer (some ⟨q, 0, none⟩), .slice (some ⟨G, 0, none⟩) m c] w fun e w' => (∃ r m : Int, e = .returned (.agg #[.int .i64 r, .int .i64 m])) ∧ (∃ k', k' ≤ k + 4 ∧ RdAt w' q p n cap k') ∧ OnlyQ q w w' := by
  have H := hideIt h
  have HS := hideIt hs
  have hm : m ≤ 74 := by obtain ⟨L, h1, h2, _⟩ := hs; exact h2
  clear h hs
  have hne : ¬ w.heap.size = q := by omega
  have hne' : ¬ q = w.heap.size := by omega
  by_cases h0 : m = 0
  · subst h0
    go_enter Tryd.func64, Tryd.ntmps64
    go_wp2_with fail
    refine (l71Id_any _ q p n cap k (H.out.alloc _) (by omega)).mono ?_
    rintro e w9 ⟨⟨a, b, rfl⟩, ⟨k9, hk9, hR9⟩, hO8⟩
    have s0 : w9.cell? ⟨w.heap.size, 0, none⟩ = some (.int .i64 0) := by rw [hO8.cell _ _ (by simp) (by omega)]; simp [go_sem]
    have s1 : w9.cell? ⟨w.heap.size, 1, none⟩ = some (.int .i64 0) := by rw [hO8.cell _ _ (by simp) (by omega)]; simp [go_sem]
    have sf : ∀ j, w9.frozen? ⟨w.heap.size, j, none⟩ = false := fun j => by rw [hO8.frozen _ _ (by simp) (by omega)]; simp [go_sem]
    have HR9 := hideIt hR9
    have HO9 := hideIt (((OnlyQ.refl q w).alloc hqw _).trans hO8)
    clear hR9 hO8
    go_wp2
    have hO9 := (HO9.out.set hqw (g := w.heap.size) (Nat.le_refl _) 0 (.int .i64 a)).set hqw (g := w.heap.size) (Nat.le_refl _) 1 (.int .i64 b)
    exact bodyPost_ret (v := .agg #[.int .i64 a, .int .i64 b]) (by simp [results, Tryd.results64, go_sem, s0, s1]) rfl ⟨⟨_, _, rfl⟩, ⟨k9, by omega, H.out.fin HR9.out hO9 (fun o => by simp [go_sem, hne, hne']) (fun o => by simp)⟩, hO9⟩
  · go_enter Tryd.func64, Tryd.ntmps64
    go_wp2_with fail
    refine (pick_any _ q p n cap k 6 (H.out.alloc _) (by omega) (by omega) (by omega)).mono ?_
    rintro e w1 ⟨⟨x, hx0, hx1, rfl⟩, hR1, hO1⟩
    have r0 : w1.cell? ⟨w.heap.size, 0, none⟩ = some (.int .i64 0) := by rw [hO1.cell _ _ (by simp) (by omega)]; simp [go_sem]
    have r1 : w1.cell? ⟨w.heap.size, 1, none⟩ = some (.int .i64 0) := by rw [hO1.cell _ _ (by simp) (by omega)]; simp [go_sem]
    have rf : ∀ j, w1.frozen? ⟨w.heap.size, j, none⟩ = false := fun j => by rw [hO1.frozen _ _ (by simp) (by omega)]; simp [go_sem]
    have hs1 : w.heap.size < w1.heap.size := by have := hO1.size; simp at this; omega
    have HS1 := hideIt ((HS.out.below ((Below.refl _ _).alloc (Nat.le_refl _) _)).only hO1 hq)
    have HR1 := hideIt hR1
    have HO1 := hideIt (((OnlyQ.refl q w).alloc hqw _).trans hO1)
    clear hR1 hO1
    by_cases hz : x = 0
    · subst hz
      go_wp2_with fail
      refine (l71Id_any _ q p n cap (k + 1) HR1.out (by omega)).mono ?_
      rintro e w9 ⟨⟨a, b, rfl⟩, ⟨k9, hk9, hR9⟩, hO8⟩
      have s0 : w9.cell? ⟨w.heap.size, 0, none⟩ = some (.int .i64 0) := by rw [hO8.cell _ _ (by omega) (by omega)]; exact r0
      have s1 : w9.cell? ⟨w.heap.size, 1, none⟩ = some (.int .i64 0) := by rw [hO8.cell _ _ (by omega) (by omega)]; exact r1
      have sf : ∀ j, w9.frozen? ⟨w.heap.size, j, none⟩ = false := fun j => by rw [hO8.frozen _ _ (by omega) (by omega)]; exact rf j
      have HR9 := hideIt hR9
      have HO9 := hideIt (HO1.out.trans hO8)
      clear hR9 hO8
      go_wp2
      have hO9 := (HO9.out.set hqw (g := w.heap.size) (Nat.le_refl _) 0 (.int .i64 a)).set hqw (g := w.heap.size) (Nat.le_refl _) 1 (.int .i64 b)
      exact bodyPost_ret (v := .agg #[.int .i64 a, .int .i64 b]) (by simp [results, Tryd.results64, go_sem, s0, s1]) rfl ⟨⟨_, _, rfl⟩, ⟨k9, by omega, H.out.fin HR9.out hO9 (fun o => by simp [go_sem, hne, hne']) (fun o => by simp)⟩, hO9⟩
    · have hpos : (0 : Int) < x := by omega
      go_wp2_with fail
      refine (pick_any _ q p n cap (k + 1) _ HR1.out (by omega) (by omega) (by omega)).mono ?_
      rintro e w2 ⟨⟨y, hy0, hy1, rfl⟩, hR2, hO2⟩
      obtain ⟨j, rfl⟩ := Int.eq_ofNat_of_zero_le hy0
      have s0 : w2.cell? ⟨w.heap.size, 0, none⟩ = some (.int .i64 0) := by rw [hO2.cell _ _ (by omega) (by omega)]; exact r0
      have s1 : w2.cell? ⟨w.heap.size, 1, none⟩ = some (.int .i64 0) := by rw [hO2.cell _ _ (by omega) (by omega)]; exact r1
      have sf : ∀ j, w2.frozen? ⟨w.heap.size, j, none⟩ = false := fun j => by rw [hO2.frozen _ _ (by omega) (by omega)]; exact rf j
      obtain ⟨o, y0, y1, _⟩ := (HS1.out.only hO2 hq).cells (k := j) (by omega)
      have HR9 := hideIt hR2
      have HO9 := hideIt (HO1.out.trans hO2)
      clear hR2 hO2 r0 r1 rf
      generalize o.a = oa at *
      generalize o.b = ob at *
      go_wp2
      have hO9 := (HO9.out.set hqw (g := w.heap.size) (Nat.le_refl _) 0 (.int .i64 oa)).set hqw (g := w.heap.size) (Nat.le_refl _) 1 (.int .i64 ob)
      exact bodyPost_ret (v := .agg #[.int .i64 oa, .int .i64 ob]) (by simp [results, Tryd.results64, go_sem, s0, s1]) rfl ⟨⟨_, _, rfl⟩, ⟨k + 1 + 1, by omega, H.out.fin HR9.out hO9 (fun o => by simp [go_sem, hne, hne']) (fun o => by simp)⟩, hO9⟩
end Go.Proofs.YtjadkhejdbdpoaaDoor

namespace Go.Proofs.YtjadkhejdbdpoaaDoor
open Go.RowKit
set_option linter.unusedSimpArgs false
set_option linter.unusedVariables false
attribute [local go_sem ↓] Go.wp_at_zero Go.wp_at_succ

set_option maxRecDepth 100000 in
set_option maxHeartbeats 1000000 in
theorem l71Id_small (w : World) (q : Nat) (p : Option Addr) (n cap k : Nat) (h : RdAt w q p n cap k) (hk : k ≤ 1073741800) :
    Calls Tryd.prog 73 #[.pointer (some ⟨q, 0, none⟩)] w fun e w' => (∃ r m : Int, (-2 ≤ r ∧ r ≤ 20 ∧ -2 ≤ m ∧ m ≤ 20) ∧ e = .returned (.agg #[.int .i64 r, .int .i64 m])) ∧ (∃ k', k' ≤ k + 3 ∧ RdAt w' q p n cap k') ∧ OnlyQ q w w' := by
  have H := hideIt h
  clear h
  go_enter Tryd.func73, Tryd.ntmps73
  go_wp2_with fail
  refine (pick_any _ q p n cap k 12 (H.out.alloc _) (by omega) (by omega) (by omega)).mono ?_
  rintro e w1 ⟨⟨c, hc0, hc1, rfl⟩, hR, hO⟩
  have hqw := H.out.lt
  have r0 : w1.cell? ⟨w.heap.size, 0, none⟩ = some (.int .i64 0) := by rw [hO.cell _ _ (by simp) (by omega)]; simp [go_sem]
  have r1 : w1.cell? ⟨w.heap.size, 1, none⟩ = some (.int .i64 0) := by rw [hO.cell _ _ (by simp) (by omega)]; simp [go_sem]
  have rf : ∀ j, w1.frozen? ⟨w.heap.size, j, none⟩ = false := fun j => by rw [hO.frozen _ _ (by simp) (by omega)]; simp [go_sem]
  have hs1 : w.heap.size < w1.heap.size := by have := hO.size; simp at this; omega
  have HR := hideIt hR
  have HO := hideIt (((OnlyQ.refl q w).alloc H.out.lt _).trans hO)
  clear hR hO
  have hne : ¬ w.heap.size = q := by omega
  have hne' : ¬ q = w.heap.size := by omega
  by_cases hz : c = 0
  · subst hz
    go_wp2_with fail
    refine (pick_any _ q p n cap (k + 1) 5 (HR.out.alloc _) (by omega) (by omega) (by omega)).mono ?_
    rintro e w2 ⟨⟨d, hd0, hd1, rfl⟩, hR2, hO2⟩
    have s0 : w2.cell? ⟨w.heap.size, 0, none⟩ = some (.int .i64 0) := by rw [hO2.cell _ _ (by simp; omega) hne, World.cell?_alloc_lt _ _ _ hs1]; exact r0
    have s1 : w2.cell? ⟨w.heap.size, 1, none⟩ = some (.int .i64 0) := by rw [hO2.cell _ _ (by simp; omega) hne, World.cell?_alloc_lt _ _ _ hs1]; exact r1
    have sf : ∀ j, w2.frozen? ⟨w.heap.size, j, none⟩ = false := fun j => by rw [hO2.frozen _ _ (by simp; omega) hne, World.frozen?_alloc_past _ _ _ hs1]; exact rf j
    have sl : ∀ j, w2.cell? ⟨w1.heap.size, j, none⟩ = _ := fun j => hO2.cell w1.heap.size j (by simp) (by omega)
    have HO2 := hideIt ((HO.out.alloc hqw _).trans hO2)
    have HR2 := hideIt hR2
    clear hR2 hO2 r0 r1 rf
    obtain rfl | rfl | rfl | rfl | rfl : d = 0 ∨ d = 1 ∨ d = 2 ∨ d = 3 ∨ d = 4 := by omega
    all_goals
      go_wp2
      have hO3 : ∀ u v, OnlyQ q w ((w2.setCell ⟨w.heap.size, 0, none⟩ u).setCell ⟨w.heap.size, 1, none⟩ v) := fun u v => (HO2.out.set hqw (g := w.heap.size) (Nat.le_refl _) 0 u).set hqw (g := w.heap.size) (Nat.le_refl _) 1 v
      have hR3 : ∀ u v, RdAt ((w2.setCell ⟨w.heap.size, 0, none⟩ u).setCell ⟨w.heap.size, 1, none⟩ v) q p n cap (k + 2) := fun u v => H.out.fin HR2.out (hO3 u v) (fun o => by simp [go_sem, hne, hne']) (fun o => by simp)
    · exact bodyPost_ret (v := .agg #[.int .i64 0, .int .i64 0]) (by simp [results, Tryd.results73, go_sem, s0, s1]) rfl ⟨⟨_, _, by omega, rfl⟩, ⟨k + 2, by omega, hR3 _ _⟩, hO3 _ _⟩
    · exact bodyPost_ret (v := .agg #[.int .i64 4, .int .i64 1]) (by simp [results, Tryd.results73, go_sem, s0, s1]) rfl ⟨⟨_, _, by omega, rfl⟩, ⟨k + 2, by omega, hR3 _ _⟩, hO3 _ _⟩
    · exact bodyPost_ret (v := .agg #[.int .i64 1, .int .i64 0]) (by simp [results, Tryd.results73, go_sem, s0, s1]) rfl ⟨⟨_, _, by omega, rfl⟩, ⟨k + 2, by omega, hR3 _ _⟩, hO3 _ _⟩
    · exact bodyPost_ret (v := .agg #[.int .i64 1, .int .i64 13]) (by simp [results, Tryd.results73, go_sem, s0, s1]) rfl ⟨⟨_, _, by omega, rfl⟩, ⟨k + 2, by omega, hR3 _ _⟩, hO3 _ _⟩
    · exact bodyPost_ret (v := .agg #[.int .i64 (-1), .int .i64 2]) (by simp [results, Tryd.results73, go_sem, s0, s1]) rfl ⟨⟨_, _, by omega, rfl⟩, ⟨k + 2, by omega, hR3 _ _⟩, hO3 _ _⟩
  · go_wp2_with fail
    refine (pick_any _ q p n cap (k + 1) 3 HR.out (by omega) (by omega) (by omega)).mono ?_
    rintro e w2 ⟨⟨d, hd0, hd1, rfl⟩, hR2, hO2⟩
    have s0 : w2.cell? ⟨w.heap.size, 0, none⟩ = some (.int .i64 0) := by rw [hO2.cell _ _ hs1 hne]; exact r0
    have s1 : w2.cell? ⟨w.heap.size, 1, none⟩ = some (.int .i64 0) := by rw [hO2.cell _ _ hs1 hne]; exact r1
    have sf : ∀ j, w2.frozen? ⟨w.heap.size, j, none⟩ = false := fun j => by rw [hO2.frozen _ _ hs1 hne]; exact rf j
    have hs2 := Nat.lt_of_lt_of_le hs1 hO2.size
    have HO2 := hideIt (HO.out.trans hO2)
    have HR2 := hideIt hR2
    clear hR2 hO2 r0 r1 rf
    go_wp2_with fail
    refine (pick_any _ q p n cap (k + 2) 5 HR2.out (by omega) (by omega) (by omega)).mono ?_
    rintro e w3 ⟨⟨f, hf0, hf1, rfl⟩, hR3, hO3⟩
    have t0 : w3.cell? ⟨w.heap.size, 0, none⟩ = some (.int .i64 0) := by rw [hO3.cell _ _ hs2 hne]; exact s0
    have t1 : w3.cell? ⟨w.heap.size, 1, none⟩ = some (.int .i64 0) := by rw [hO3.cell _ _ hs2 hne]; exact s1
    have tf : ∀ j, w3.frozen? ⟨w.heap.size, j, none⟩ = false := fun j => by rw [hO3.frozen _ _ hs2 hne]; exact sf j
    have HO3 := hideIt (HO2.out.trans hO3)
    have HR3 := hideIt hR3
    clear hR3 hO3 s0 s1 sf
    go_wp2
    have hO4 := (HO3.out.set hqw (g := w.heap.size) (Nat.le_refl _) 0 (.int .i64 (1 + d))).set hqw (g := w.heap.size) (Nat.le_refl _) 1 (.int .i64 (1 + f))
    exact bodyPost_ret (v := .agg #[.int .i64 (1 + d), .int .i64 (1 + f)]) (by simp [results, Tryd.results73, go_sem, t0, t1]) rfl ⟨⟨_, _, by omega, rfl⟩, ⟨k + 3, by omega, H.out.fin HR3.out hO4 (fun o => by simp [go_sem, hne, hne']) (fun o => by simp)⟩, hO4⟩
end Go.Proofs.YtjadkhejdbdpoaaDoor

namespace Go.Proofs.YtjadkhejdbdpoaaDoor
open Go.RowKit
set_option linter.unusedSimpArgs false
set_option linter.unusedVariables false
attribute [local go_sem ↓] Go.wp_at_zero Go.wp_at_succ

set_option maxRecDepth 100000 in
set_option maxHeartbeats 1000000 in
theorem l71Rep_any (w : World) (q : Nat) (p : Option Addr) (n cap k : Nat) (h : RdAt w q p n cap k) (hk : k ≤ 1073741800) :
    Calls Tryd.prog 42 #[.pointer (some ⟨q, 0, none⟩)] w fun e w' => (∃ r : Int, (0 ≤ r ∧ r ≤ 4) ∧ e = .returned (.int .i64 r)) ∧ RdAt w' q p n cap (k + 2) ∧ OnlyQ q w w' := by
  have H := hideIt h
  clear h
  have hqw := H.out.lt
  go_enter Tryd.func42, Tryd.ntmps42
  go_wp2_with fail
  refine (pick_any _ q p n cap k 24 H.out (by omega) (by omega) (by omega)).mono ?_
  rintro e w1 ⟨⟨c, hc0, hc1, rfl⟩, hR, hO⟩
  have HR := hideIt hR
  have HO := hideIt hO
  clear hR hO
  by_cases hz : c = 0
  · subst hz
    go_wp2_with fail
    refine (pick_any _ q p n cap (k + 1) 2 (HR.out.alloc _) (by omega) (by omega) (by omega)).mono ?_
    rintro e w2 ⟨⟨d, hd0, hd1, rfl⟩, hR2, hO2⟩
    have sl : ∀ j, w2.cell? ⟨w1.heap.size, j, none⟩ = _ := fun j => hO2.cell w1.heap.size j (by simp) (by have := HR.out.lt; omega)
    have HO2 := hideIt ((HO.out.alloc hqw _).trans hO2)
    have HR2 := hideIt hR2
    clear hR2 hO2
    obtain rfl | rfl : d = 0 ∨ d = 1 := by omega
    all_goals
      go_wp2
      go_ret
    · exact ⟨⟨0, by omega, rfl⟩, HR2.out, HO2.out⟩
    · exact ⟨⟨4, by omega, rfl⟩, HR2.out, HO2.out⟩
  · go_wp2_with fail
    refine (pick_any _ q p n cap (k + 1) 3 HR.out (by omega) (by omega) (by omega)).mono ?_
    rintro e w2 ⟨⟨d, hd0, hd1, rfl⟩, hR2, hO2⟩
    have HO2 := hideIt (HO.out.trans hO2)
    have HR2 := hideIt hR2
    clear hR2 hO2
    go_wp2
    go_ret
    exact ⟨⟨1 + d, by omega, rfl⟩, HR2.out, HO2.out⟩
end Go.Proofs.YtjadkhejdbdpoaaDoor
