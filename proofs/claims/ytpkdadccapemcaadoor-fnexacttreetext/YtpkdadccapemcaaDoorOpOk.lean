/- Contracts of the program's OpOk and of the law FnExactOpOk. -/
import Derived.Test.YtpkdadccapemcaaDoorOp
import Derived.Test.YtpkdadccapemcaaDoorOpNo
namespace Go.Proofs.YtpkdadccapemcaaDoor
open Go.RowKit
set_option linter.unusedSimpArgs false
set_option linter.unusedVariables false

theorem errB {w W : World} {v : Value} (h : Below w.heap.size w W) (h0 : 0 < w.heap.size) (he : w.cell? ⟨0, 0, none⟩ = some v) : W.cell? ⟨0, 0, none⟩ = some v := by
  rw [(bcell h).1 _ _ h0]; exact he
theorem posB {w W : World} (h : Below w.heap.size w W) (h0 : 0 < w.heap.size) : 0 < W.heap.size := Nat.lt_of_lt_of_le h0 h.size

end Go.Proofs.YtpkdadccapemcaaDoor
