/- Contracts of strconv.Itoa and of l6Dec at the numbers from 0 to 12. -/
import Derived.Test.YtfjhecoihkbjhaaDoorMath
import Derived.BigQuiet
import Derived.Laws.BytesArg
import Derived.WalkSmall
import Derived.Deep.RegionWith
import Derived.Deep.DrawnRows
namespace Go.Proofs.YtfjhecoihkbjhaaDoor
open Go.RowKit
set_option linter.unusedSimpArgs false
set_option linter.unusedVariables false
attribute [local go_sem ↓] Go.wp_at_zero Go.wp_at_succ

/-- A number from 0 to 12, in decimals. -/
def decL (n : Int) : List UInt8 := if n < 10 then [UInt8.ofNat (48 + n.toNat)] else [49, UInt8.ofNat (38 + n.toNat)]
def decS (n : Int) : ByteArray := ⟨(decL n).toArray⟩
theorem ret_str {a b : ByteArray} (h : a = b) : Ending.returned (.string a) = .returned (.string b) := by rw [h]

set_option maxRecDepth 100000 in
set_option maxHeartbeats 2000000 in
theorem itoa_any (n : Int) (h0 : 0 ≤ n) (h12 : n ≤ 12) (w : World) :
    Calls Tryd.prog 58 #[.int .i64 n] w fun e w' => e = .returned (.string (decS n)) ∧ w' = w := by
  obtain rfl | rfl | rfl | rfl | rfl | rfl | rfl | rfl | rfl | rfl | rfl | rfl | rfl : n = 0 ∨ n = 1 ∨ n = 2 ∨ n = 3 ∨ n = 4 ∨ n = 5 ∨ n = 6 ∨ n = 7 ∨ n = 8 ∨ n = 9 ∨ n = 10 ∨ n = 11 ∨ n = 12 := by omega
  all_goals
    go_enter Tryd.func58, Tryd.ntmps58
    go_wp2
    go_ret
    exact ⟨ret_str (by decide), rfl⟩

/-- string([]byte{c}) of a new block. -/
theorem conv1 (W : World) (c : Int) (t : TypeId) (k : Nat) (hk : k = W.heap.size) :
    (convert 84 9 (.slice (some ⟨k, 0, none⟩) 1 1)).run Tryd.prog (W.alloc (.cells #[.int .u8 c] t)) = .ok (.string ⟨#[UInt8.ofNat c.toNat]⟩) (W.alloc (.cells #[.int .u8 c] t)) := by
  subst hk
  have h := run_convert_bytes_arg (P := Tryd.prog) (W.alloc (.cells #[.int .u8 c] t)) 84 5 Tryd.underlying84 Tryd.underlying5 W.heap.size 0 1 1 [c] rfl (fun i hi => by
    obtain rfl : i = 0 := by omega
    simp [go_sem]) 9 Tryd.underlying9
  rw [h]
  rfl

set_option maxRecDepth 100000 in
set_option maxHeartbeats 2000000 in
theorem dec_small (n : Int) (h0 : 0 ≤ n) (h9 : n ≤ 9) (w : World) :
    Calls Tryd.prog 57 #[.int .i64 n] w fun e w' => e = .returned (.string (decS n)) ∧ Below w.heap.size w w' := by
  have kc := fun (W : World) (c : Int) (t : TypeId) => conv1 W c t W.heap.size rfl
  obtain rfl | rfl | rfl | rfl | rfl | rfl | rfl | rfl | rfl | rfl : n = 0 ∨ n = 1 ∨ n = 2 ∨ n = 3 ∨ n = 4 ∨ n = 5 ∨ n = 6 ∨ n = 7 ∨ n = 8 ∨ n = 9 := by omega
  all_goals
    go_enter Tryd.func57, Tryd.ntmps57
    go_wp2
    go_ret
    exact ⟨ret_str (by decide), by go_grown⟩

theorem conv_at (W : World) (b : Nat) (c : Int) (h : W.cell? ⟨b, 0, none⟩ = some (.int .u8 c)) :
    (convert 84 9 (.slice (some ⟨b, 0, none⟩) 1 1)).run Tryd.prog W = .ok (.string ⟨#[UInt8.ofNat c.toNat]⟩) W := by
  have h := run_convert_bytes_arg (P := Tryd.prog) W 84 5 Tryd.underlying84 Tryd.underlying5 b 0 1 1 [c] rfl (fun i hi => by
    obtain rfl : i = 0 := by omega
    exact h) 9 Tryd.underlying9
  rw [h]
  rfl

set_option maxRecDepth 100000 in
set_option maxHeartbeats 2000000 in
theorem dec_big (n : Int) (h0 : 10 ≤ n) (h9 : n ≤ 12) (w : World) :
    Calls Tryd.prog 57 #[.int .i64 n] w fun e w' => e = .returned (.string (decS n)) ∧ Below w.heap.size w w' := by
  have kc := fun (W : World) (c : Int) (t : TypeId) => conv1 W c t W.heap.size rfl
  have ka := fun (W : World) (c : Int) (t : TypeId) => conv_at (W.alloc (.cells #[.int .u8 c] t)).drew W.heap.size c (by simp [go_sem])
  have kd := fun (W : World) (c : Int) (t : TypeId) (o : Obj) => conv_at ((W.alloc (.cells #[.int .u8 c] t)).alloc o).drew W.heap.size c (by show ((W.alloc (.cells #[.int .u8 c] t)).alloc o).cell? _ = _; rw [World.cell?_alloc_lt _ _ _ (by simp)]; simp [go_sem])
  have ke := fun (W : World) (c : Int) (t : TypeId) (o : Obj) => conv_at ((W.alloc o).alloc (.cells #[.int .u8 c] t)).drew (W.heap.size + 1) c (by simp [go_sem])
  have hw1 : IntKind.i64.wrap 1 = 1 := by decide
  have hw48 : IntKind.i64.wrap 48 = 48 := by decide
  have hw49 : IntKind.i64.wrap 49 = 49 := by decide
  have hw50 : IntKind.i64.wrap 50 = 50 := by decide
  have hu48 : IntKind.u8.wrap 48 = 48 := by decide
  have hu49 : IntKind.u8.wrap 49 = 49 := by decide
  have hu50 : IntKind.u8.wrap 50 = 50 := by decide
  obtain rfl | rfl | rfl : n = 10 ∨ n = 11 ∨ n = 12 := by omega
  all_goals
    go_enter Tryd.func57, Tryd.ntmps57
    go_wp2
    go_region_calls
  all_goals
    go_wp2
    go_ret
  all_goals exact ⟨ret_str (by decide), by go_grown⟩
theorem dec_any (n : Int) (h0 : 0 ≤ n) (h12 : n ≤ 12) (w : World) :
    Calls Tryd.prog 57 #[.int .i64 n] w fun e w' => e = .returned (.string (decS n)) ∧ Below w.heap.size w w' := by
  by_cases h : n ≤ 9
  · exact dec_small n h0 h w
  · exact dec_big n (by omega) h12 w
end Go.Proofs.YtfjhecoihkbjhaaDoor
