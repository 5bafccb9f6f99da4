/- Contracts of both texts of an id. -/
import Derived.Test.YtfjhecoihkbjhaaDoorDec
import Derived.Test.YtfjhecoihkbjhaaDoorFindOps
import Derived.Deep.RegionHeld3
namespace Go.Proofs.YtfjhecoihkbjhaaDoor
open Go.RowKit
set_option linter.unusedSimpArgs false
set_option linter.unusedVariables false
attribute [local go_sem ↓] Go.wp_at_zero Go.wp_at_succ

theorem decS_size (n : Int) : (decS n).size ≤ 2 := by
  unfold decS decL
  split <;> simp [ByteArray.size]
/-- The text of an id. -/
def idS (r m : Int) : ByteArray := decS r ++ ⟨#[46]⟩ ++ decS m
theorem idS_size (r m : Int) : (idS r m).size ≤ 5 := by
  have h1 := decS_size r
  have h2 := decS_size m
  unfold idS
  rw [ByteArray.size_append, ByteArray.size_append]
  have : (⟨#[46]⟩ : ByteArray).size = 1 := rfl
  omega
theorem add_str (a b : ByteArray) (n m : Nat) (ha : a.size ≤ n) (hb : b.size ≤ m) (h : n + m ≤ 1000000) (W : World) : (Op.stringOp .add a b).run Tryd.prog W = .ok (.string (a ++ b)) W :=
  run_string_add_sum W a b (by omega)
theorem itoa_b (n : Int) (h0 : 0 ≤ n) (h12 : n ≤ 12) (w : World) :
    Calls Tryd.prog 58 #[.int .i64 n] w fun e w' => e = .returned (.string (decS n)) ∧ Below w.heap.size w w' := by
  refine (itoa_any n h0 h12 w).mono ?_
  rintro e w' ⟨rfl, rfl⟩
  exact ⟨rfl, Below.refl _ _⟩

set_option maxRecDepth 100000 in
set_option maxHeartbeats 1000000 in
theorem specIdText (r m : Int) (h1 : 0 ≤ r ∧ r ≤ 12) (h2 : 0 ≤ m ∧ m ≤ 12) (w : World) :
    Calls Tryd.prog 51 #[.agg #[.int .i64 r, .int .i64 m]] w fun e w' => e = .returned (.string (idS r m)) ∧ Below w.heap.size w w' := by
  have ks := add_str (decS r) ⟨#[46]⟩ 2 1 (decS_size r) (Nat.le_refl _) (by omega)
  have kt := add_str (decS r ++ ⟨#[46]⟩) (decS m) 3 2 (by rw [ByteArray.size_append]; have := decS_size r; have : (⟨#[46]⟩ : ByteArray).size = 1 := rfl; omega) (decS_size m) (by omega)
  go_enter Tryd.func51, Tryd.ntmps51
  go_wp2
  go_region_held3 (fun w' => w'.cell? ⟨w.heap.size, 0, none⟩ = some (.int .i64 r) ∧ w'.cell? ⟨w.heap.size, 1, none⟩ = some (.int .i64 m) ∧ w.heap.size < w'.heap.size ∧ Below w.heap.size w w')
    (first | exact keepF hb2 (by with_reducible assumption) | exact ⟨by simp [go_sem], by simp [go_sem], by simp, ((Below.refl _ _).alloc (Nat.le_refl _) _).drew⟩)
    (first
      | (go_at_call_of 57 (Value.int IntKind.i64 r); refine (dec_any _ h1.1 h1.2 _).mono ?_; rintro e w1 ⟨rfl, hb2⟩)
      | (go_at_call_of 57 (Value.int IntKind.i64 m); refine (dec_any _ h2.1 h2.2 _).mono ?_; rintro e w1 ⟨rfl, hb2⟩))
  rename_i hS
  have HB3 := hideIt hS.2.2.2
  clear hS hb2
  go_wp2
  go_ret
  exact ⟨rfl, HB3.out⟩

set_option maxRecDepth 100000 in
set_option maxHeartbeats 1000000 in
theorem implIdText (r m : Int) (h1 : 0 ≤ r ∧ r ≤ 12) (h2 : 0 ≤ m ∧ m ≤ 12) (w : World) :
    Calls Tryd.prog 53 #[.agg #[.int .i64 r, .int .i64 m]] w fun e w' => e = .returned (.string (idS r m)) ∧ Below w.heap.size w w' := by
  have ks := add_str (decS r) ⟨#[46]⟩ 2 1 (decS_size r) (Nat.le_refl _) (by omega)
  have kt := add_str (decS r ++ ⟨#[46]⟩) (decS m) 3 2 (by rw [ByteArray.size_append]; have := decS_size r; have : (⟨#[46]⟩ : ByteArray).size = 1 := rfl; omega) (decS_size m) (by omega)
  go_enter Tryd.func53, Tryd.ntmps53
  go_wp2
  go_region_held3 (fun w' => w'.cell? ⟨w.heap.size, 0, none⟩ = some (.int .i64 r) ∧ w'.cell? ⟨w.heap.size, 1, none⟩ = some (.int .i64 m) ∧ w.heap.size < w'.heap.size ∧ Below w.heap.size w w')
    (first | exact keepF hb2 (by with_reducible assumption) | exact ⟨by simp [go_sem], by simp [go_sem], by simp, ((Below.refl _ _).alloc (Nat.le_refl _) _).drew⟩)
    (first
      | (go_at_call_of 58 (Value.int IntKind.i64 r); refine (itoa_b _ h1.1 h1.2 _).mono ?_; rintro e w1 ⟨rfl, hb2⟩)
      | (go_at_call_of 58 (Value.int IntKind.i64 m); refine (itoa_b _ h2.1 h2.2 _).mono ?_; rintro e w1 ⟨rfl, hb2⟩))
  rename_i hS
  have HB3 := hideIt hS.2.2.2
  clear hS hb2
  go_wp2
  go_ret
  exact ⟨rfl, HB3.out⟩
end Go.Proofs.YtfjhecoihkbjhaaDoor
