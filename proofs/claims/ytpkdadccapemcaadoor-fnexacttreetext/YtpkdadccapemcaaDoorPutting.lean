/- The contract of isPutting. -/
import Derived.Test.YtpkdadccapemcaaDoorMath
namespace Go.Proofs.YtpkdadccapemcaaDoor
open Go.RowKit
set_option linter.unusedSimpArgs false
set_option linter.unusedVariables false
theorem Tryd.asPut (a b c d s g : Int) (w : World) : (Instr.typeAssert (.iface 77 (.agg #[.int .i64 a, .int .i64 b, .int .i64 c, .int .i64 d, .int .i64 s, .int .i64 g])) 87 77 true).run Tryd.prog w = .ok (.tuple #[.agg #[.int .i64 a, .int .i64 b, .int .i64 c, .int .i64 d, .int .i64 s, .int .i64 g], .bool true]) w := by kernel_rfl
theorem Tryd.asNoPut (a b c d : Int) (w : World) : (Instr.typeAssert (.iface 89 (.agg #[.int .i64 a, .int .i64 b, .int .i64 c, .int .i64 d])) 87 77 true).run Tryd.prog w = .ok (.tuple #[.agg #[.int .i64 0, .int .i64 0, .int .i64 0, .int .i64 0, .int .i64 0, .int .i64 0], .bool false]) w := by kernel_rfl
set_option maxRecDepth 100000 in
theorem isPut_put (a b c d s g : Int) (w : World) :
    Calls Tryd.prog 65 #[.iface 77 (.agg #[.int .i64 a, .int .i64 b, .int .i64 c, .int .i64 d, .int .i64 s, .int .i64 g])] w fun e w' => e = .returned (.bool true) ∧ w' = w := by
  have as1 := Tryd.asPut
  have as2 := Tryd.asNoPut
  go_enter Tryd.func65, Tryd.ntmps65
  go_wp2
  go_ret
  exact ⟨rfl, rfl⟩
set_option maxRecDepth 100000 in
theorem isPut_take (a b c d : Int) (w : World) :
    Calls Tryd.prog 65 #[.iface 89 (.agg #[.int .i64 a, .int .i64 b, .int .i64 c, .int .i64 d])] w fun e w' => e = .returned (.bool false) ∧ w' = w := by
  have as1 := Tryd.asPut
  have as2 := Tryd.asNoPut
  go_enter Tryd.func65, Tryd.ntmps65
  go_wp2
  go_ret
  exact ⟨rfl, rfl⟩
theorem isPut_any (o : Op7) (h : okO o = true) (w : World) :
    Calls Tryd.prog 65 #[thV o] w fun e w' => e = .returned (.bool (o.k == 1)) ∧ w' = w := by
  rcases thV_cases h with ⟨h1, h2⟩ | ⟨h1, h2⟩
  · rw [h1, h2]; exact isPut_put _ _ _ _ _ _ _
  · rw [h1, h2]; exact isPut_take _ _ _ _ _
end Go.Proofs.YtpkdadccapemcaaDoor
