/- What own and about of a putting and of a taking are: closed facts, and the two methods' contracts. -/
import Derived.Test.YtpkdadccapemcaaDoorMath
namespace Go.Proofs.YtpkdadccapemcaaDoor
open Go.RowKit
theorem Tryd.ownPut (a b c d s g : Int) (w : World) : (Go.method 265 77 (.agg #[.int .i64 a, .int .i64 b, .int .i64 c, .int .i64 d, .int .i64 s, .int .i64 g]) "loop.example/tatting/impl.own").run Tryd.prog w = .ok (84, .agg #[.int .i64 a, .int .i64 b, .int .i64 c, .int .i64 d]) w := by kernel_rfl
theorem Tryd.ownTake (a b c d : Int) (w : World) : (Go.method 265 89 (.agg #[.int .i64 a, .int .i64 b, .int .i64 c, .int .i64 d]) "loop.example/tatting/impl.own").run Tryd.prog w = .ok (84, .agg #[.int .i64 a, .int .i64 b, .int .i64 c, .int .i64 d]) w := by kernel_rfl
theorem Tryd.aboutPut (a b c d s g : Int) (w : World) : (Go.method 265 77 (.agg #[.int .i64 a, .int .i64 b, .int .i64 c, .int .i64 d, .int .i64 s, .int .i64 g]) "loop.example/tatting/impl.about").run Tryd.prog w = .ok (83, .agg #[.int .i64 a, .int .i64 b, .int .i64 c, .int .i64 d]) w := by kernel_rfl
theorem Tryd.aboutTake (a b c d : Int) (w : World) : (Go.method 265 89 (.agg #[.int .i64 a, .int .i64 b, .int .i64 c, .int .i64 d]) "loop.example/tatting/impl.about").run Tryd.prog w = .ok (83, .agg #[.int .i64 a, .int .i64 b, .int .i64 c, .int .i64 d]) w := by kernel_rfl
theorem Tryd.fld0 (a b : Int) (w : World) : (Instr.field 38 (.agg #[.int .i64 a, .int .i64 b]) 0).run Tryd.prog w = .ok (.int .i64 a) w := by kernel_rfl
theorem own_any (a b c d : Int) (w : World) :
    Calls Tryd.prog 84 #[.agg #[.int .i64 a, .int .i64 b, .int .i64 c, .int .i64 d]] w fun e w' => e = .returned (.agg #[.int .i64 a, .int .i64 b]) ∧ Below w.heap.size w w' := by
  go_enter Tryd.func84, Tryd.ntmps84
  go_wp2
  exact bodyPost_ret (v := .agg #[.int .i64 a, .int .i64 b]) (by simp [results, Tryd.results84, go_sem]) rfl ⟨rfl, by go_grown⟩
theorem about_any (a b c d : Int) (w : World) :
    Calls Tryd.prog 83 #[.agg #[.int .i64 a, .int .i64 b, .int .i64 c, .int .i64 d]] w fun e w' => e = .returned (.agg #[.int .i64 c, .int .i64 d]) ∧ Below w.heap.size w w' := by
  go_enter Tryd.func83, Tryd.ntmps83
  go_wp2
  exact bodyPost_ret (v := .agg #[.int .i64 c, .int .i64 d]) (by simp [results, Tryd.results83, go_sem]) rfl ⟨rfl, by go_grown⟩
end Go.Proofs.YtpkdadccapemcaaDoor
