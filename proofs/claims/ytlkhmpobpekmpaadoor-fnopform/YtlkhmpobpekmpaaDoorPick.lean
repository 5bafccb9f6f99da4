/- The contract of pick: the drawn number is one of the numbers ahead of the bound, and only the reader's place turns. -/
import Derived.Test.YtlkhmpobpekmpaaDoorProg
import Derived.WalkKit
import Derived.Below
import Derived.Handy
import Derived.Outline
import Derived.Laws.BitsAllLaws
import Derived.Deep.RegionHeld3
import Derived.Deep.DrawnRows
import Derived.BigQuiet
import Derived.WalkSmall
namespace Go.Proofs.YtlkhmpobpekmpaaDoor
open Go.RowKit
set_option linter.unusedSimpArgs false
set_option linter.unusedVariables false
attribute [local go_sem ↓] Go.wp_at_zero Go.wp_at_succ

theorem i64_xor_nat (a b : Nat) (ha : a < 9223372036854775808) (hb : b < 9223372036854775808) : bits .xor .i64 (a : Int) (b : Int) = ((a ^^^ b : Nat) : Int) := by
  have hx : a ^^^ b < 2 ^ 63 := Nat.xor_lt_two_pow (by omega) (by omega)
  show IntKind.i64.wrap ((BitVec.ofInt 64 (a : Int) ^^^ BitVec.ofInt 64 (b : Int)).toNat : Int) = _
  rw [BitVec.toNat_xor, ofInt_u64 a (by omega), ofInt_u64 b (by omega)]
  exact IntWalk.i64_in _ ⟨by omega, by omega⟩

theorem hideIt {p : Prop} (h : p) : RowKit.Hid p := h
/-- Bytes that came in. -/
def BytesAt (w : World) (q : Nat) (p : Option Addr) (n : Nat) : Prop := n = 0 ∨ ∃ b off, p = some ⟨b, off, none⟩ ∧ b ≠ q ∧ b < w.heap.size ∧ ∀ i, i < n → ∃ c : Int, 0 ≤ c ∧ c ≤ 255 ∧ w.cell? ⟨b, off + i, none⟩ = some (.int .u8 c)
/-- A reader that has drawn k numbers. -/
structure RdAt (w : World) (q : Nat) (p : Option Addr) (n cap k : Nat) : Prop where
  b : w.cell? ⟨q, 0, none⟩ = some (.slice p n cap)
  k : w.cell? ⟨q, 1, none⟩ = some (.int .i64 k)
  fz : ∀ j, w.frozen? ⟨q, j, none⟩ = false
  lt : q < w.heap.size
  few : n ≤ 2000
  bytes : BytesAt w q p n
/-- Only the reader's block turned, and what is behind all. -/
structure OnlyQ (q : Nat) (w w' : World) : Prop where
  size : w.heap.size ≤ w'.heap.size
  cell : ∀ b o, b < w.heap.size → b ≠ q → w'.cell? ⟨b, o, none⟩ = w.cell? ⟨b, o, none⟩
  frozen : ∀ b o, b < w.heap.size → b ≠ q → w'.frozen? ⟨b, o, none⟩ = w.frozen? ⟨b, o, none⟩
  below : Below q w w'
theorem BytesAt.only {w w' : World} {q n : Nat} {p : Option Addr} (h : BytesAt w q p n) (ho : OnlyQ q w w') : BytesAt w' q p n := by
  rcases h with h | ⟨b, off, hp, hq, hlt, hc⟩
  · exact .inl h
  · exact .inr ⟨b, off, hp, hq, Nat.lt_of_lt_of_le hlt ho.size, fun i hi => by
      obtain ⟨c, h0, h1, h2⟩ := hc i hi
      exact ⟨c, h0, h1, (ho.cell _ _ hlt hq).trans h2⟩⟩
theorem only_set (q : Nat) (w : World) (v : Value) (hq : q < w.heap.size) : OnlyQ q w (w.setCell ⟨q, 1, none⟩ v) :=
  ⟨by simp, fun b o hb hne => by simp [go_sem, hne, Ne.symm hne], fun b o hb hne => by simp, (Below.refl q w).setCell (p := ⟨q, 1, none⟩) (Nat.le_refl q) v⟩
theorem OnlyQ.drew {q : Nat} {w w' : World} (h : OnlyQ q w w') : OnlyQ q w w'.drew :=
  ⟨by simpa using h.size, fun b o hb hne => by simpa using h.cell b o hb hne, fun b o hb hne => by simpa using h.frozen b o hb hne, h.below.drew⟩
theorem RdAt.set {w : World} {q : Nat} {p : Option Addr} {n cap k : Nat} (h : RdAt w q p n cap k) : RdAt (w.setCell ⟨q, 1, none⟩ (.int .i64 ((k + 1 : Nat) : Int))) q p n cap (k + 1) :=
  ⟨by have := h.b; simp [go_sem, this], by have := h.k; simp [go_sem, this], fun j => by simp [h.fz], by simpa using h.lt, h.few, h.bytes.only (only_set q w _ h.lt)⟩

theorem OnlyQ.drewN {q : Nat} {w w' : World} (h : OnlyQ q w w') (j : Nat) : OnlyQ q w (w'.drewN j) :=
  ⟨by simpa using h.size, fun b o hb hne => by simpa using h.cell b o hb hne, fun b o hb hne => by simpa using h.frozen b o hb hne, below_drewN h.below _⟩
theorem OnlyQ.refl (q : Nat) (w : World) : OnlyQ q w w := ⟨Nat.le_refl _, fun _ _ _ _ => rfl, fun _ _ _ _ => rfl, Below.refl _ _⟩
theorem OnlyQ.trans {q : Nat} {w w1 w2 : World} (h : OnlyQ q w w1) (h' : OnlyQ q w1 w2) : OnlyQ q w w2 :=
  ⟨Nat.le_trans h.size h'.size, fun b o hb hne => (h'.cell b o (Nat.lt_of_lt_of_le hb h.size) hne).trans (h.cell b o hb hne), fun b o hb hne => (h'.frozen b o (Nat.lt_of_lt_of_le hb h.size) hne).trans (h.frozen b o hb hne), h.below.trans h'.below⟩
theorem RdAt.drewN {w : World} {q : Nat} {p : Option Addr} {n cap k : Nat} (h : RdAt w q p n cap k) (j : Nat) : RdAt (w.drewN j) q p n cap k :=
  ⟨by simpa using h.b, by simpa using h.k, fun i => by simpa using h.fz i, by simpa using h.lt, h.few, h.bytes.only ((OnlyQ.refl q w).drewN j)⟩
theorem rem_xor (z m : Int) (h0 : 0 ≤ z) (h1 : z < 9223372036854775808) (hm : 1 ≤ m) : 0 ≤ (bits .xor .i64 z (z / 64)).tmod m ∧ (bits .xor .i64 z (z / 64)).tmod m < m := by
  obtain ⟨Z, rfl⟩ := Int.eq_ofNat_of_zero_le h0
  have e : ((Z : Int) / 64) = ((Z / 64 : Nat) : Int) := by simp
  rw [e, i64_xor_nat Z (Z / 64) (by omega) (by omega)]
  exact ⟨Int.tmod_nonneg _ (by omega), Int.tmod_lt_of_pos _ (by omega)⟩

set_option maxRecDepth 100000 in
set_option maxHeartbeats 1000000 in
theorem pick_any (w : World) (q : Nat) (p : Option Addr) (n cap k : Nat) (m : Int) (h : RdAt w q p n cap k) (hm : 1 ≤ m) (hm' : m ≤ 1048576) (hk : k ≤ 1073741824) :
    Calls Tryd.prog 9 #[.pointer (some ⟨q, 0, none⟩), .int .i64 m] w fun e w' => (∃ c : Int, 0 ≤ c ∧ c < m ∧ e = .returned (.int .i64 c)) ∧ RdAt w' q p n cap (k + 1) ∧ OnlyQ q w w' := by
  have H := hideIt h
  have c0 := h.b
  have c1 := h.k
  have f1 := h.fz
  have hlt := h.lt
  have few := h.few
  have hby := hideIt h.bytes
  clear h
  by_cases hn : n = 0
  · subst hn
    go_enter Tryd.func9, Tryd.ntmps9
    go_wp2
    go_ret
    exact ⟨⟨0, by omega, by omega, rfl⟩, H.out.set, only_set _ _ _ hlt⟩
  · obtain h | ⟨b, off, rfl, hbq, hbw, hcell⟩ := hby.out
    · exact absurd h hn
    have hbq' : ¬ q = b := fun h => hbq h.symm
    have hm1 : decide (m < 1) = false := by simpa using hm
    have hn1 : ((n : Int) == 0) = false := by simpa using hn
    by_cases hkn : k < n
    · obtain ⟨c, hc0, hc1, hc⟩ := hcell k hkn
      have hkn' : (k : Int) < (n : Int) := by omega
      have hk0 : (0 : Int) ≤ (k : Int) := by omega
      have ht1 := Int.emod_nonneg c (show m ≠ 0 by omega)
      have ht2 := Int.emod_lt_of_pos c (show 0 < m by omega)
      clear hcell
      go_enter Tryd.func9, Tryd.ntmps9
      go_wp2
      go_ret
      exact ⟨⟨_, ht1, ht2, rfl⟩, H.out.set, only_set _ _ _ hlt⟩
    · have hkn' : ¬ (k : Int) < (n : Int) := by omega
      have hk0 : (0 : Int) ≤ (k : Int) := by omega
      have hn0 : 0 < n := by omega
      obtain ⟨c, hc0, hc1, hc⟩ := hcell (k % n) (Nat.mod_lt _ hn0)
      obtain ⟨d, hd0, hd1, hd⟩ := hcell ((k * 7 + 3) % n) (Nat.mod_lt _ hn0)
      clear hcell
      have e1 : (k : Int) % (n : Int) = ((k % n : Nat) : Int) := by simp
      have e2 : ((k : Int) * 7 + 3) % (n : Int) = (((k * 7 + 3) % n : Nat) : Int) := by simp
      have e3 : (k : Int) / (n : Int) = ((k / n : Nat) : Int) := by simp
      have e4 : Int.tmod (k : Int) (n : Int) = ((k % n : Nat) : Int) := (Int.ofNat_tmod k n).symm
      have e5 : Int.tmod ((k : Int) * 7 + 3) (n : Int) = (((k * 7 + 3) % n : Nat) : Int) := by have h := Int.ofNat_tmod (k * 7 + 3) n; simpa using h.symm
      have e6 : Int.tdiv (k : Int) (n : Int) = ((k / n : Nat) : Int) := (Int.ofNat_tdiv k n).symm
      have l1 := Nat.mod_lt k hn0
      have l2 := Nat.mod_lt (k * 7 + 3) hn0
      have l3 := Nat.div_le_self k n
      generalize hr1 : k % n = r1 at *
      generalize hr2 : (k * 7 + 3) % n = r2 at *
      generalize hr3 : k / n = r3 at *
      clear hr1 hr2 hr3
      go_enter Tryd.func9, Tryd.ntmps9
      go_wp2
      go_quiet (fail)
      go_wp2
      go_ret
      obtain ⟨x1, x2⟩ := rem_xor (c * 131 + d * 1117 + ↑k * 29 + ↑r3 * 53) m (by omega) (by omega) (by omega)
      exact ⟨⟨_, x1, x2, rfl⟩, H.out.set.drewN nq, (only_set _ _ _ hlt).drewN nq⟩
end Go.Proofs.YtlkhmpobpekmpaaDoor
