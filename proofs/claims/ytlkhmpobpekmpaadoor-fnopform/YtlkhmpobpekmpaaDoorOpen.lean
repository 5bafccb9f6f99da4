/- How a thing that came in reads: seven integers; and the one error, as it is laid. -/
import Derived.Test.YtlkhmpobpekmpaaDoorRows
import Derived.WalkKit
import Derived.ProofKit
import Derived.OpenShut
import Derived.ChangeOld
import Derived.Below
import Derived.Lib.SmallJoins
import Derived.Stop.LaidErr
import Derived.LaidMore
import Derived.Stop.Joined
namespace Go.Proofs.YtlkhmpobpekmpaaDoor
open Go.ChangeShapes Go.WideShapes Go.ChangeAt Go.RowKit Go.Joins

theorem own : ownKnob Tryd.prog.godebug = none := by kernel_rfl
theorem laidOut : laidOutB Tryd.prog = true := by kernel_rfl
theorem cells_int : Tryd.prog.cellsOf 3 = 1 := by kernel_rfl

/-- The name of the one listed variable. -/
abbrev errName : String := Rows.fnOpFormSpec.vars.headD ""
/-- What the rows list. -/
abbrev laid1 : List (String × DataW Unit) := Rows.fnOpFormRow.laid
theorem gErr : Tryd.prog.globalNamed errName = some 0 := by kernel_rfl
theorem tErr : (Tryd.prog.globals[0]?).map (·.type) = some 38 := by kernel_rfl
def nmOf : DataW Unit → String
  | .iface n _ => n
  | _ => ""
theorem star : "*" ++ "errors.errorString" = nmOf Rows.laid_loop_example_tatting_impl_errNoThing := by decide
theorem nameErr (u : TypeId) (h : Tryd.prog.typeName? 3 u = some (nmOf Rows.laid_loop_example_tatting_impl_errNoThing)) : u = 69 :=
  typeName_ptr_named (nm := "errors.errorString") (by rw [star]; kernel_rfl) (by kernel_rfl) (by decide) u (by rw [star]; exact h)

theorem door_met (os : Os) (args : Array Value) : laidMetH Tryd.prog laid1 ((World.doorLaid Tryd.prog 28 os).forCall (fun _ _ => 0) ⟨#[], args, []⟩).memory :=
  laidMetH_of_parts3 (fuel := 8) (laidMet_of_run' 8 (by kernel_rfl) (by kernel_rfl)) (by kernel_rfl) (by kernel_rfl)

/-- WHAT THE CONDITION GIVES THE WALKS: the one error's cell. -/
theorem of_laid {W : World} (h : laidMetH Tryd.prog laid1 W) : ∃ x : Addr, W.var? Tryd.prog errName = some #[.iface 69 (.pointer (some x))] ∧ W.cell? ⟨0, 0, none⟩ = some (.iface 69 (.pointer (some x))) ∧ 0 < W.heap.size := by
  rw [MakeChecks.laidMetH_plain _ _ _ (by kernel_rfl)] at h
  obtain ⟨x, s, hv, hc, _, _⟩ := laid_sentinel h gErr tErr Tryd.underlying38 nameErr Tryd.underlying69 Tryd.underlying96 rfl rfl Tryd.underlying9 (by kernel_rfl) (by kernel_rfl)
  have hcell : W.cell? ⟨0, 0, none⟩ = some (.iface 69 (.pointer (some x))) := by simpa using World.var?_cell gErr hv 0
  refine ⟨x, hv, hcell, ?_⟩
  rcases Nat.eq_zero_or_pos W.heap.size with h0 | h0
  · exfalso
    simp [World.cell?, Array.eq_empty_of_size_eq_zero h0] at hcell
  · exact h0

/-- The variable holds what it held, where nothing that was there has turned. -/
theorem var_kept {W W' : World} {x : Value} (hb : Below W.heap.size W W') (h0 : 0 < W.heap.size) (hv : W.var? Tryd.prog errName = some #[x]) : W'.var? Tryd.prog errName = some #[x] := by
  unfold World.var? at hv ⊢
  rw [gErr] at hv ⊢
  simp only [Option.bind_some] at hv ⊢
  rw [hb.block 0 h0]
  exact hv
end Go.Proofs.YtlkhmpobpekmpaaDoor
