/-
  NARROWER THAN 'FOR EVERY INPUT', by the rows' own cells (each row's printed sentence says how): FnLeavesAll: ifaces, laid · FnLeavesSide: ifaces, laid · FnLeavesWhole: ifaces, laid · FnUnderOrder: ifaces, laid · FnKidsAll: ifaces, laid · FnTreeFirst: ifaces, laid.
  DERIVED. THE GIVEN ROWS OF THIS SEAT. 6 by the template 'for every input the law returns true; each argument reads behind the call as it read before'; 0 by the template 'total and deterministic' (their statements: YthhlhogknpgccaaDoorTotals.lean).
  GIVEN WITH THE SEED: the statements are not yours to turn. If you find one false, say at which input.
  Laid BY PROGRAM, IN A SANDBOX (cutbox-rows.mjs): the forced cells as the released guide's own fill.sh prints them over the translation 834eb1d1103ef759… (all of the seat's roots in one cut). By AI agents, Wed Nov 11 2026. No macro, syntax, notation, axiom, sorry.
-/
import Derived.Test.YthhlhogknpgccaaDoorChecked
import GoSem.Claim
import GoSem.ClaimJoined
import GoSem.ClaimMapViews
import Derived.JoinedTies
import Derived.KernelRfl
namespace Go.Proofs.YthhlhogknpgccaaDoor
/- THE CELL 'sum', in the pinned program and in every row, IS THE sha256 OF THE DUMP (.gsa) THAT YthhlhogknpgccaaDoorProg.lean LOADS. Nothing in Lean hashes anything: it is a label: what it is worth is what the hold of that sum in a sandbox is worth. -/
noncomputable def Tryd.pinned : Pinned := { name := "ythhlhogknpgccaadoor", sum := "834eb1d1103ef759f282c5cf3069ba47c676a6ddae366d441cd1359464d3ecb2", checked := Tryd.checked }
namespace Rows
def none {H : Type} : Left H := { results := [], args := [] }

/- WHAT THE LISTED PACKAGE-LEVEL VARIABLES READ AS WHEN THE CALL BEGINS. Each datum BY PROGRAM (the guide's laid-datum.mjs) off the statement by which the dump's own 'gosem.cut.vars' lays the variable. In a bare row this is a premise. The card (YthhlhogknpgccaaDoorCards.lean) ties it to the program's text. -/
def laid_loop_example_tatting_impl_errNoThing {H : Type} : DataW H := .iface "*errors.errorString" (.ptr (.agg [.lit (.string [110, 111, 32, 116, 104, 105, 110, 103, 32, 116, 104, 97, 116, 32, 99, 97, 110, 32, 104, 97, 118, 101, 32, 98, 101, 101, 110, 32, 100, 111, 110, 101])]))

/-- 'laws.FnLeavesAll': WHATEVER THE INPUT: true; the input reads as it did. -/
def fnLeavesAllSpec : ChangeSpec := { name := "fnLeavesAll", vars := ["loop.example/tatting/impl.errNoThing"], fn := fun _ => fun
  | [d, g1] => { results := [.lit (.bool true)], args := [d], vars := [g1] }
  | _ => none }
def fnLeavesAllRow : OpenClaim := { program := "ythhlhogknpgccaadoor", sum := "834eb1d1103ef759f282c5cf3069ba47c676a6ddae366d441cd1359464d3ecb2", func := "loop.example/tatting/laws.FnLeavesAll", spec := "fnLeavesAll", inPlace := ["internal/reflectlite.TypeOf"], unfollowed := true, recurses := true, named := ["loop.example/tatting/impl.errNoThing"], ifaces := true, plainKeys := false, apart := false, laid := [("loop.example/tatting/impl.errNoThing", laid_loop_example_tatting_impl_errNoThing)] }
def FnLeavesAllSaid : Prop := fnLeavesAllRow.holds Tryd.pinned (OpenSpec.ofChange fnLeavesAllSpec)

/-- ITS FALSE NEIGHBOUR: 'it returns false'. Refute it at one input. -/
def fnLeavesAllWrong : ChangeSpec := { name := "fnLeavesAll", vars := ["loop.example/tatting/impl.errNoThing"], fn := fun _ => fun
  | [d, g1] => { results := [.lit (.bool false)], args := [d], vars := [g1] }
  | _ => none }
def FnLeavesAllWrongFalsely : Prop := fnLeavesAllRow.holds Tryd.pinned (OpenSpec.ofChange fnLeavesAllWrong)

/-- 'laws.FnLeavesSide': WHATEVER THE INPUT: true; the input reads as it did. -/
def fnLeavesSideSpec : ChangeSpec := { name := "fnLeavesSide", vars := ["loop.example/tatting/impl.errNoThing"], fn := fun _ => fun
  | [d, g1] => { results := [.lit (.bool true)], args := [d], vars := [g1] }
  | _ => none }
def fnLeavesSideRow : OpenClaim := { program := "ythhlhogknpgccaadoor", sum := "834eb1d1103ef759f282c5cf3069ba47c676a6ddae366d441cd1359464d3ecb2", func := "loop.example/tatting/laws.FnLeavesSide", spec := "fnLeavesSide", inPlace := ["internal/reflectlite.TypeOf"], unfollowed := true, recurses := true, named := ["loop.example/tatting/impl.errNoThing"], ifaces := true, plainKeys := false, apart := false, laid := [("loop.example/tatting/impl.errNoThing", laid_loop_example_tatting_impl_errNoThing)] }
def FnLeavesSideSaid : Prop := fnLeavesSideRow.holds Tryd.pinned (OpenSpec.ofChange fnLeavesSideSpec)

/-- ITS FALSE NEIGHBOUR: 'it returns false'. Refute it at one input. -/
def fnLeavesSideWrong : ChangeSpec := { name := "fnLeavesSide", vars := ["loop.example/tatting/impl.errNoThing"], fn := fun _ => fun
  | [d, g1] => { results := [.lit (.bool false)], args := [d], vars := [g1] }
  | _ => none }
def FnLeavesSideWrongFalsely : Prop := fnLeavesSideRow.holds Tryd.pinned (OpenSpec.ofChange fnLeavesSideWrong)

/-- 'laws.FnLeavesWhole': WHATEVER THE INPUT: true; the input reads as it did. -/
def fnLeavesWholeSpec : ChangeSpec := { name := "fnLeavesWhole", vars := ["loop.example/tatting/impl.errNoThing"], fn := fun _ => fun
  | [d1, d2, g1] => { results := [.lit (.bool true)], args := [d1, d2], vars := [g1] }
  | _ => none }
def fnLeavesWholeRow : OpenClaim := { program := "ythhlhogknpgccaadoor", sum := "834eb1d1103ef759f282c5cf3069ba47c676a6ddae366d441cd1359464d3ecb2", func := "loop.example/tatting/laws.FnLeavesWhole", spec := "fnLeavesWhole", inPlace := ["internal/reflectlite.TypeOf"], unfollowed := true, recurses := true, named := ["loop.example/tatting/impl.errNoThing"], ifaces := true, plainKeys := false, apart := false, laid := [("loop.example/tatting/impl.errNoThing", laid_loop_example_tatting_impl_errNoThing)] }
def FnLeavesWholeSaid : Prop := fnLeavesWholeRow.holds Tryd.pinned (OpenSpec.ofChange fnLeavesWholeSpec)

/-- ITS FALSE NEIGHBOUR: 'it returns false'. Refute it at one input. -/
def fnLeavesWholeWrong : ChangeSpec := { name := "fnLeavesWhole", vars := ["loop.example/tatting/impl.errNoThing"], fn := fun _ => fun
  | [d1, d2, g1] => { results := [.lit (.bool false)], args := [d1, d2], vars := [g1] }
  | _ => none }
def FnLeavesWholeWrongFalsely : Prop := fnLeavesWholeRow.holds Tryd.pinned (OpenSpec.ofChange fnLeavesWholeWrong)

/-- 'laws.FnUnderOrder': WHATEVER THE INPUT: true; the input reads as it did. -/
def fnUnderOrderSpec : ChangeSpec := { name := "fnUnderOrder", vars := ["loop.example/tatting/impl.errNoThing"], fn := fun _ => fun
  | [d1, d2, g1] => { results := [.lit (.bool true)], args := [d1, d2], vars := [g1] }
  | _ => none }
def fnUnderOrderRow : OpenClaim := { program := "ythhlhogknpgccaadoor", sum := "834eb1d1103ef759f282c5cf3069ba47c676a6ddae366d441cd1359464d3ecb2", func := "loop.example/tatting/laws.FnUnderOrder", spec := "fnUnderOrder", inPlace := ["internal/reflectlite.TypeOf"], unfollowed := true, recurses := true, named := ["loop.example/tatting/impl.errNoThing"], ifaces := true, plainKeys := false, apart := false, laid := [("loop.example/tatting/impl.errNoThing", laid_loop_example_tatting_impl_errNoThing)] }
def FnUnderOrderSaid : Prop := fnUnderOrderRow.holds Tryd.pinned (OpenSpec.ofChange fnUnderOrderSpec)

/-- ITS FALSE NEIGHBOUR: 'it returns false'. Refute it at one input. -/
def fnUnderOrderWrong : ChangeSpec := { name := "fnUnderOrder", vars := ["loop.example/tatting/impl.errNoThing"], fn := fun _ => fun
  | [d1, d2, g1] => { results := [.lit (.bool false)], args := [d1, d2], vars := [g1] }
  | _ => none }
def FnUnderOrderWrongFalsely : Prop := fnUnderOrderRow.holds Tryd.pinned (OpenSpec.ofChange fnUnderOrderWrong)

/-- 'laws.FnKidsAll': WHATEVER THE INPUT: true; the input reads as it did. -/
def fnKidsAllSpec : ChangeSpec := { name := "fnKidsAll", vars := ["loop.example/tatting/impl.errNoThing"], fn := fun _ => fun
  | [d, g1] => { results := [.lit (.bool true)], args := [d], vars := [g1] }
  | _ => none }
def fnKidsAllRow : OpenClaim := { program := "ythhlhogknpgccaadoor", sum := "834eb1d1103ef759f282c5cf3069ba47c676a6ddae366d441cd1359464d3ecb2", func := "loop.example/tatting/laws.FnKidsAll", spec := "fnKidsAll", inPlace := ["internal/reflectlite.TypeOf"], unfollowed := true, recurses := true, named := ["loop.example/tatting/impl.errNoThing"], ifaces := true, plainKeys := false, apart := false, laid := [("loop.example/tatting/impl.errNoThing", laid_loop_example_tatting_impl_errNoThing)] }
def FnKidsAllSaid : Prop := fnKidsAllRow.holds Tryd.pinned (OpenSpec.ofChange fnKidsAllSpec)

/-- ITS FALSE NEIGHBOUR: 'it returns false'. Refute it at one input. -/
def fnKidsAllWrong : ChangeSpec := { name := "fnKidsAll", vars := ["loop.example/tatting/impl.errNoThing"], fn := fun _ => fun
  | [d, g1] => { results := [.lit (.bool false)], args := [d], vars := [g1] }
  | _ => none }
def FnKidsAllWrongFalsely : Prop := fnKidsAllRow.holds Tryd.pinned (OpenSpec.ofChange fnKidsAllWrong)

/-- 'laws.FnTreeFirst': WHATEVER THE INPUT: true; the input reads as it did. -/
def fnTreeFirstSpec : ChangeSpec := { name := "fnTreeFirst", vars := ["loop.example/tatting/impl.errNoThing"], fn := fun _ => fun
  | [d, g1] => { results := [.lit (.bool true)], args := [d], vars := [g1] }
  | _ => none }
def fnTreeFirstRow : OpenClaim := { program := "ythhlhogknpgccaadoor", sum := "834eb1d1103ef759f282c5cf3069ba47c676a6ddae366d441cd1359464d3ecb2", func := "loop.example/tatting/laws.FnTreeFirst", spec := "fnTreeFirst", inPlace := ["internal/reflectlite.TypeOf"], unfollowed := true, recurses := true, named := ["loop.example/tatting/impl.errNoThing"], ifaces := true, plainKeys := false, apart := false, laid := [("loop.example/tatting/impl.errNoThing", laid_loop_example_tatting_impl_errNoThing)] }
def FnTreeFirstSaid : Prop := fnTreeFirstRow.holds Tryd.pinned (OpenSpec.ofChange fnTreeFirstSpec)

/-- ITS FALSE NEIGHBOUR: 'it returns false'. Refute it at one input. -/
def fnTreeFirstWrong : ChangeSpec := { name := "fnTreeFirst", vars := ["loop.example/tatting/impl.errNoThing"], fn := fun _ => fun
  | [d, g1] => { results := [.lit (.bool false)], args := [d], vars := [g1] }
  | _ => none }
def FnTreeFirstWrongFalsely : Prop := fnTreeFirstRow.holds Tryd.pinned (OpenSpec.ofChange fnTreeFirstWrong)

/- THE SECOND FORM. 'bulk': how many values and letters a reading holds, each counted each time it is reached (what is shared counts as often as it is met; a slice's spare places count too). A statement '..UptoSaid' is the law's where the arguments, and the package variables that the reading takes, are together of bulk at most 1048576: NARROWER than '..Said'. Prove '..Said' where nothing that the law and all that it calls make is longer than what came in: it says more and counts as full. Else prove '..UptoSaid'. A law counts once. -/
mutual
def uptoBulk {H : Type} : DataW H → Nat
  | .lit (.string bytes) => bytes.length + 1
  | .lit _ => 1
  | .nil => 1
  | .ptr d => uptoBulk d + 1
  | .slice elems spare => uptoBulkAll elems + uptoBulkAll spare + 1
  | .agg parts => uptoBulkAll parts + 1
  | .iface _ d => uptoBulk d + 1
  | .map entries => uptoBulkEntries entries + 1
  | .held _ => 1
def uptoBulkAll {H : Type} : List (DataW H) → Nat
  | [] => 0
  | d :: r => uptoBulk d + uptoBulkAll r
def uptoBulkEntries {H : Type} : List (Lit × DataW H) → Nat
  | [] => 0
  | x :: r => uptoBulkEntry x + uptoBulkEntries r
def uptoBulkEntry {H : Type} : Lit × DataW H → Nat
  | (.string bytes, d) => bytes.length + uptoBulk d + 1
  | (_, d) => uptoBulk d + 1
 end
def uptoSmall : (H : Type) → List (DataW H) → Bool := fun _ ds => decide (uptoBulkAll ds ≤ 1048576)
def OpenSpec.upto (s : _root_.Go.ChangeSpec) : _root_.Go.OpenSpec := { _root_.Go.OpenSpec.ofChange s with cond := some uptoSmall }

/-- 'laws.FnLeavesAll', WHERE WHAT IT READS IS OF BULK AT MOST 1048576: true; the input reads as it did. -/
def fnLeavesAllUptoRow : OpenClaim := { program := "ythhlhogknpgccaadoor", sum := "834eb1d1103ef759f282c5cf3069ba47c676a6ddae366d441cd1359464d3ecb2", func := "loop.example/tatting/laws.FnLeavesAll", spec := "fnLeavesAll", inPlace := ["internal/reflectlite.TypeOf"], unfollowed := true, recurses := true, named := ["loop.example/tatting/impl.errNoThing"], ifaces := true, plainKeys := false, apart := false, laid := [("loop.example/tatting/impl.errNoThing", laid_loop_example_tatting_impl_errNoThing)], narrowed := true }
def FnLeavesAllUptoSaid : Prop := fnLeavesAllUptoRow.holds Tryd.pinned (OpenSpec.upto fnLeavesAllSpec)

/-- 'laws.FnLeavesSide', WHERE WHAT IT READS IS OF BULK AT MOST 1048576: true; the input reads as it did. -/
def fnLeavesSideUptoRow : OpenClaim := { program := "ythhlhogknpgccaadoor", sum := "834eb1d1103ef759f282c5cf3069ba47c676a6ddae366d441cd1359464d3ecb2", func := "loop.example/tatting/laws.FnLeavesSide", spec := "fnLeavesSide", inPlace := ["internal/reflectlite.TypeOf"], unfollowed := true, recurses := true, named := ["loop.example/tatting/impl.errNoThing"], ifaces := true, plainKeys := false, apart := false, laid := [("loop.example/tatting/impl.errNoThing", laid_loop_example_tatting_impl_errNoThing)], narrowed := true }
def FnLeavesSideUptoSaid : Prop := fnLeavesSideUptoRow.holds Tryd.pinned (OpenSpec.upto fnLeavesSideSpec)

/-- 'laws.FnLeavesWhole', WHERE WHAT IT READS IS OF BULK AT MOST 1048576: true; the input reads as it did. -/
def fnLeavesWholeUptoRow : OpenClaim := { program := "ythhlhogknpgccaadoor", sum := "834eb1d1103ef759f282c5cf3069ba47c676a6ddae366d441cd1359464d3ecb2", func := "loop.example/tatting/laws.FnLeavesWhole", spec := "fnLeavesWhole", inPlace := ["internal/reflectlite.TypeOf"], unfollowed := true, recurses := true, named := ["loop.example/tatting/impl.errNoThing"], ifaces := true, plainKeys := false, apart := false, laid := [("loop.example/tatting/impl.errNoThing", laid_loop_example_tatting_impl_errNoThing)], narrowed := true }
def FnLeavesWholeUptoSaid : Prop := fnLeavesWholeUptoRow.holds Tryd.pinned (OpenSpec.upto fnLeavesWholeSpec)

/-- 'laws.FnUnderOrder', WHERE WHAT IT READS IS OF BULK AT MOST 1048576: true; the input reads as it did. -/
def fnUnderOrderUptoRow : OpenClaim := { program := "ythhlhogknpgccaadoor", sum := "834eb1d1103ef759f282c5cf3069ba47c676a6ddae366d441cd1359464d3ecb2", func := "loop.example/tatting/laws.FnUnderOrder", spec := "fnUnderOrder", inPlace := ["internal/reflectlite.TypeOf"], unfollowed := true, recurses := true, named := ["loop.example/tatting/impl.errNoThing"], ifaces := true, plainKeys := false, apart := false, laid := [("loop.example/tatting/impl.errNoThing", laid_loop_example_tatting_impl_errNoThing)], narrowed := true }
def FnUnderOrderUptoSaid : Prop := fnUnderOrderUptoRow.holds Tryd.pinned (OpenSpec.upto fnUnderOrderSpec)

/-- 'laws.FnKidsAll', WHERE WHAT IT READS IS OF BULK AT MOST 1048576: true; the input reads as it did. -/
def fnKidsAllUptoRow : OpenClaim := { program := "ythhlhogknpgccaadoor", sum := "834eb1d1103ef759f282c5cf3069ba47c676a6ddae366d441cd1359464d3ecb2", func := "loop.example/tatting/laws.FnKidsAll", spec := "fnKidsAll", inPlace := ["internal/reflectlite.TypeOf"], unfollowed := true, recurses := true, named := ["loop.example/tatting/impl.errNoThing"], ifaces := true, plainKeys := false, apart := false, laid := [("loop.example/tatting/impl.errNoThing", laid_loop_example_tatting_impl_errNoThing)], narrowed := true }
def FnKidsAllUptoSaid : Prop := fnKidsAllUptoRow.holds Tryd.pinned (OpenSpec.upto fnKidsAllSpec)

/-- 'laws.FnTreeFirst', WHERE WHAT IT READS IS OF BULK AT MOST 1048576: true; the input reads as it did. -/
def fnTreeFirstUptoRow : OpenClaim := { program := "ythhlhogknpgccaadoor", sum := "834eb1d1103ef759f282c5cf3069ba47c676a6ddae366d441cd1359464d3ecb2", func := "loop.example/tatting/laws.FnTreeFirst", spec := "fnTreeFirst", inPlace := ["internal/reflectlite.TypeOf"], unfollowed := true, recurses := true, named := ["loop.example/tatting/impl.errNoThing"], ifaces := true, plainKeys := false, apart := false, laid := [("loop.example/tatting/impl.errNoThing", laid_loop_example_tatting_impl_errNoThing)], narrowed := true }
def FnTreeFirstUptoSaid : Prop := fnTreeFirstUptoRow.holds Tryd.pinned (OpenSpec.upto fnTreeFirstSpec)

end Rows
end Go.Proofs.YthhlhogknpgccaaDoor
