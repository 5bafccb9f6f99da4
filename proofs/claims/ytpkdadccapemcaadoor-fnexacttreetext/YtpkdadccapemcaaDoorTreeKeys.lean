/- The keys of the tree's maps: ids, and places beside them. -/
import Derived.Test.YtpkdadccapemcaaDoorTreeMath
import Derived.DeepKeys4
import Derived.WalkArith
namespace Go.Proofs.YtpkdadccapemcaaDoor
open Go.RowKit
open Go.Maps (Keyed)
set_option linter.unusedSimpArgs false

theorem laidOutT : laidOutB Tryd.prog = true := by kernel_rfl
theorem rowId : (38 : TypeId) < Tryd.prog.types.size := of_decide_eq_true (by kernel_rfl)
theorem wideId : (match Tryd.prog.underlying 38 with | some (.array _ _) | some (.struct _) => true | _ => false) = true := by kernel_rfl
set_option maxRecDepth 100000 in
theorem keyedId : Keyed Tryd.prog 38 := Keyed.of_law (deep_law_laid laidOutT (m := 3) (by omega) rowId (by kernel_rfl) wideId)
theorem rowSpot : (73 : TypeId) < Tryd.prog.types.size := of_decide_eq_true (by kernel_rfl)
theorem wideSpot : (match Tryd.prog.underlying 73 with | some (.array _ _) | some (.struct _) => true | _ => false) = true := by kernel_rfl
set_option maxRecDepth 100000 in
theorem keyedSpot : Keyed Tryd.prog 73 := Keyed.of_law (deep_law_laid laidOutT (m := 4) (by omega) rowSpot (by kernel_rfl) wideSpot)

theorem typeSize : Tryd.prog.types.size = 165 := by kernel_rfl
theorem cellsId' : Tryd.prog.cellsOf 38 = 2 := by kernel_rfl
theorem cellsSpot' : Tryd.prog.cellsOf 73 = 3 := by kernel_rfl
theorem cellsInt' : Tryd.prog.cellsOf 3 = 1 := by kernel_rfl
theorem keyTId : Tryd.prog.keyType 38 = true := by kernel_rfl
theorem keyTSpot : Tryd.prog.keyType 73 = true := by kernel_rfl
/-- A number that an int holds. -/
def wf64 (n : Int) : Prop := (Lit.int .i64 n).wf = true
theorem wf_small {n : Int} (h : -9223372036854775808 ≤ n ∧ n ≤ 9223372036854775807) : wf64 n := WalkArith.wf_i64 h
theorem litsInt (d : Nat) {n : Int} (h : wf64 n) : Tryd.prog.keyLits (d + 1) 3 [.int .i64 n] = some [.int .i64 n] := by
  unfold wf64 at h
  simp [Program.keyLits, Tryd.underlying3, h]
theorem litsId (d : Nat) {r m : Int} (h1 : wf64 r) (h2 : wf64 m) : Tryd.prog.keyLits (d + 2) 38 [.int .i64 r, .int .i64 m] = some [.int .i64 r, .int .i64 m] := by
  unfold wf64 at h1 h2
  simp [Program.keyLits, Tryd.underlying38, Tryd.underlying3, cellsId', cellsInt', h1, h2]
theorem key_id {r m : Int} (h1 : wf64 r) (h2 : wf64 m) : ∃ kl, keyOf Tryd.prog 38 (encId (r, m)) = some kl := by
  unfold keyOf
  rw [Tryd.underlying38]
  simp [keyTId, encId, Value.formed, Tryd.underlying38, cellsId', Value.cells, typeSize, litsId _ h1 h2]
theorem litsSpot (d : Nat) {r m s : Int} (h1 : wf64 r) (h2 : wf64 m) (h3 : wf64 s) : Tryd.prog.keyLits (d + 3) 73 [.int .i64 r, .int .i64 m, .int .i64 s] = some [.int .i64 r, .int .i64 m, .int .i64 s] := by
  rw [Program.keyLits.eq_def]
  simp only [Tryd.underlying73]
  simp [cellsSpot', cellsId', cellsInt', litsId d h1 h2, litsInt (d + 1) h3]
theorem key_spot {r m s : Int} (h1 : wf64 r) (h2 : wf64 m) (h3 : wf64 s) : ∃ kl, keyOf Tryd.prog 73 (encSpot (r, m, s)) = some kl := by
  unfold keyOf
  rw [Tryd.underlying73]
  simp [keyTSpot, encSpot, Value.formed, Tryd.underlying73, cellsSpot', Value.cells, typeSize, litsSpot _ h1 h2 h3]
theorem zeroSlice (w : World) : (zeroValue 71).run Tryd.prog w = .ok (.slice none 0 0) w := by kernel_rfl
theorem zeroPut (w : World) : (zeroValue 77).run Tryd.prog w = .ok (.agg #[.int .i64 0, .int .i64 0, .int .i64 0, .int .i64 0, .int .i64 0, .int .i64 0]) w := by kernel_rfl
theorem zeroInt (w : World) : (zeroValue 3).run Tryd.prog w = .ok (.int .i64 0) w := by kernel_rfl
theorem infoPut : (Tryd.prog.info? 77).map (fun i => (i.zero, i.size, i.bytes)) = some (some (.agg #[.int .i64 0, .int .i64 0, .int .i64 0, .int .i64 0, .int .i64 0, .int .i64 0]), 6, 48) := by kernel_rfl

end Go.Proofs.YtpkdadccapemcaaDoor
