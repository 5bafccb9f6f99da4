/-
  NARROWER THAN 'FOR EVERY INPUT', by the rows' own cells (each row's printed sentence says how): FnUnderOrder: ifaces, laid · FnTreeFirst: ifaces, laid · FnLeavesSide: ifaces, laid · FnLeavesWhole: ifaces, laid · FnKidsOrder: ifaces, laid · FnOpsBefore: ifaces, laid · FnOpsLess: ifaces, laid · FnTreeMore: ifaces, laid · FnTakeCan: ifaces, laid · FnPutCan: ifaces, laid · FnTypeAnyone: ifaces, laid · FnWithOne: ifaces, laid.
  DERIVED. THE GIVEN ROWS OF THIS SEAT. 12 by the template 'for every input the law returns true; each argument reads behind the call as it read before'; 0 by the template 'total and deterministic' (their statements: YtcnpfhnlniiacaaDoorTotals.lean).
  GIVEN WITH THE SEED: the statements are not yours to turn. If you find one false, say at which input.
  Laid BY PROGRAM, IN A SANDBOX (cutbox-rows.mjs): the forced cells as the released guide's own fill.sh prints them over the translation 7d3441ad2819f4b4… (all of the seat's roots in one cut). By AI agents, Wed Nov 11 2026. No macro, syntax, notation, axiom, sorry.
-/
import Derived.Test.YtcnpfhnlniiacaaDoorChecked
import GoSem.Claim
import GoSem.ClaimJoined
import GoSem.ClaimMapViews
import Derived.JoinedTies
import Derived.KernelRfl
namespace Go.Proofs.YtcnpfhnlniiacaaDoor
/- THE CELL 'sum', in the pinned program and in every row, IS THE sha256 OF THE DUMP (.gsa) THAT YtcnpfhnlniiacaaDoorProg.lean LOADS. Nothing in Lean hashes anything: it is a label: what it is worth is what the hold of that sum in a sandbox is worth. -/
noncomputable def Tryd.pinned : Pinned := { name := "ytcnpfhnlniiacaadoor", sum := "7d3441ad2819f4b443d7b70ee194cb23cc004077b110315a6086213aeecb3455", checked := Tryd.checked }
namespace Rows
def none {H : Type} : Left H := { results := [], args := [] }

/- WHAT THE LISTED PACKAGE-LEVEL VARIABLES READ AS WHEN THE CALL BEGINS. Each datum BY PROGRAM (the guide's laid-datum.mjs) off the statement by which the dump's own 'gosem.cut.vars' lays the variable. In a bare row this is a premise. The card (YtcnpfhnlniiacaaDoorCards.lean) ties it to the program's text. -/
def laid_loop_example_tatting_impl_errNoThing {H : Type} : DataW H := .iface "*errors.errorString" (.ptr (.agg [.lit (.string [110, 111, 32, 116, 104, 105, 110, 103, 32, 116, 104, 97, 116, 32, 99, 97, 110, 32, 104, 97, 118, 101, 32, 98, 101, 101, 110, 32, 100, 111, 110, 101])]))

/-- 'laws.FnUnderOrder': WHATEVER THE INPUT: true; the input reads as it did. -/
def fnUnderOrderSpec : ChangeSpec := { name := "fnUnderOrder", vars := ["loop.example/tatting/impl.errNoThing"], fn := fun _ => fun
  | [d1, d2, g1] => { results := [.lit (.bool true)], args := [d1, d2], vars := [g1] }
  | _ => none }
def fnUnderOrderRow : OpenClaim := { program := "ytcnpfhnlniiacaadoor", sum := "7d3441ad2819f4b443d7b70ee194cb23cc004077b110315a6086213aeecb3455", func := "loop.example/tatting/laws.FnUnderOrder", spec := "fnUnderOrder", inPlace := ["internal/reflectlite.TypeOf"], unfollowed := true, recurses := true, named := ["loop.example/tatting/impl.errNoThing"], ifaces := true, plainKeys := false, apart := false, laid := [("loop.example/tatting/impl.errNoThing", laid_loop_example_tatting_impl_errNoThing)] }
def FnUnderOrderSaid : Prop := fnUnderOrderRow.holds Tryd.pinned (OpenSpec.ofChange fnUnderOrderSpec)

/-- ITS FALSE NEIGHBOUR: 'it returns false'. Refute it at one input. -/
def fnUnderOrderWrong : ChangeSpec := { name := "fnUnderOrder", vars := ["loop.example/tatting/impl.errNoThing"], fn := fun _ => fun
  | [d1, d2, g1] => { results := [.lit (.bool false)], args := [d1, d2], vars := [g1] }
  | _ => none }
def FnUnderOrderWrongFalsely : Prop := fnUnderOrderRow.holds Tryd.pinned (OpenSpec.ofChange fnUnderOrderWrong)

/-- 'laws.FnTreeFirst': WHATEVER THE INPUT: true; the input reads as it did. -/
def fnTreeFirstSpec : ChangeSpec := { name := "fnTreeFirst", vars := ["loop.example/tatting/impl.errNoThing"], fn := fun _ => fun
  | [d, g1] => { results := [.lit (.bool true)], args := [d], vars := [g1] }
  | _ => none }
def fnTreeFirstRow : OpenClaim := { program := "ytcnpfhnlniiacaadoor", sum := "7d3441ad2819f4b443d7b70ee194cb23cc004077b110315a6086213aeecb3455", func := "loop.example/tatting/laws.FnTreeFirst", spec := "fnTreeFirst", inPlace := ["internal/reflectlite.TypeOf"], unfollowed := true, recurses := true, named := ["loop.example/tatting/impl.errNoThing"], ifaces := true, plainKeys := false, apart := false, laid := [("loop.example/tatting/impl.errNoThing", laid_loop_example_tatting_impl_errNoThing)] }
def FnTreeFirstSaid : Prop := fnTreeFirstRow.holds Tryd.pinned (OpenSpec.ofChange fnTreeFirstSpec)

/-- ITS FALSE NEIGHBOUR: 'it returns false'. Refute it at one input. -/
def fnTreeFirstWrong : ChangeSpec := { name := "fnTreeFirst", vars := ["loop.example/tatting/impl.errNoThing"], fn := fun _ => fun
  | [d, g1] => { results := [.lit (.bool false)], args := [d], vars := [g1] }
  | _ => none }
def FnTreeFirstWrongFalsely : Prop := fnTreeFirstRow.holds Tryd.pinned (OpenSpec.ofChange fnTreeFirstWrong)

/-- 'laws.FnLeavesSide': WHATEVER THE INPUT: true; the input reads as it did. -/
def fnLeavesSideSpec : ChangeSpec := { name := "fnLeavesSide", vars := ["loop.example/tatting/impl.errNoThing"], fn := fun _ => fun
  | [d, g1] => { results := [.lit (.bool true)], args := [d], vars := [g1] }
  | _ => none }
def fnLeavesSideRow : OpenClaim := { program := "ytcnpfhnlniiacaadoor", sum := "7d3441ad2819f4b443d7b70ee194cb23cc004077b110315a6086213aeecb3455", func := "loop.example/tatting/laws.FnLeavesSide", spec := "fnLeavesSide", inPlace := ["internal/reflectlite.TypeOf"], unfollowed := true, recurses := true, named := ["loop.example/tatting/impl.errNoThing"], ifaces := true, plainKeys := false, apart := false, laid := [("loop.example/tatting/impl.errNoThing", laid_loop_example_tatting_impl_errNoThing)] }
def FnLeavesSideSaid : Prop := fnLeavesSideRow.holds Tryd.pinned (OpenSpec.ofChange fnLeavesSideSpec)

/-- ITS FALSE NEIGHBOUR: 'it returns false'. Refute it at one input. -/
def fnLeavesSideWrong : ChangeSpec := { name := "fnLeavesSide", vars := ["loop.example/tatting/impl.errNoThing"], fn := fun _ => fun
  | [d, g1] => { results := [.lit (.bool false)], args := [d], vars := [g1] }
  | _ => none }
def FnLeavesSideWrongFalsely : Prop := fnLeavesSideRow.holds Tryd.pinned (OpenSpec.ofChange fnLeavesSideWrong)

/-- 'laws.FnLeavesWhole': WHATEVER THE INPUT: true; the input reads as it did. -/
def fnLeavesWholeSpec : ChangeSpec := { name := "fnLeavesWhole", vars := ["loop.example/tatting/impl.errNoThing"], fn := fun _ => fun
  | [d1, d2, g1] => { results := [.lit (.bool true)], args := [d1, d2], vars := [g1] }
  | _ => none }
def fnLeavesWholeRow : OpenClaim := { program := "ytcnpfhnlniiacaadoor", sum := "7d3441ad2819f4b443d7b70ee194cb23cc004077b110315a6086213aeecb3455", func := "loop.example/tatting/laws.FnLeavesWhole", spec := "fnLeavesWhole", inPlace := ["internal/reflectlite.TypeOf"], unfollowed := true, recurses := true, named := ["loop.example/tatting/impl.errNoThing"], ifaces := true, plainKeys := false, apart := false, laid := [("loop.example/tatting/impl.errNoThing", laid_loop_example_tatting_impl_errNoThing)] }
def FnLeavesWholeSaid : Prop := fnLeavesWholeRow.holds Tryd.pinned (OpenSpec.ofChange fnLeavesWholeSpec)

/-- ITS FALSE NEIGHBOUR: 'it returns false'. Refute it at one input. -/
def fnLeavesWholeWrong : ChangeSpec := { name := "fnLeavesWhole", vars := ["loop.example/tatting/impl.errNoThing"], fn := fun _ => fun
  | [d1, d2, g1] => { results := [.lit (.bool false)], args := [d1, d2], vars := [g1] }
  | _ => none }
def FnLeavesWholeWrongFalsely : Prop := fnLeavesWholeRow.holds Tryd.pinned (OpenSpec.ofChange fnLeavesWholeWrong)

/-- 'laws.FnKidsOrder': WHATEVER THE INPUT: true; the input reads as it did. -/
def fnKidsOrderSpec : ChangeSpec := { name := "fnKidsOrder", vars := ["loop.example/tatting/impl.errNoThing"], fn := fun _ => fun
  | [d, g1] => { results := [.lit (.bool true)], args := [d], vars := [g1] }
  | _ => none }
def fnKidsOrderRow : OpenClaim := { program := "ytcnpfhnlniiacaadoor", sum := "7d3441ad2819f4b443d7b70ee194cb23cc004077b110315a6086213aeecb3455", func := "loop.example/tatting/laws.FnKidsOrder", spec := "fnKidsOrder", inPlace := ["internal/reflectlite.TypeOf"], unfollowed := true, recurses := true, named := ["loop.example/tatting/impl.errNoThing"], ifaces := true, plainKeys := false, apart := false, laid := [("loop.example/tatting/impl.errNoThing", laid_loop_example_tatting_impl_errNoThing)] }
def FnKidsOrderSaid : Prop := fnKidsOrderRow.holds Tryd.pinned (OpenSpec.ofChange fnKidsOrderSpec)

/-- ITS FALSE NEIGHBOUR: 'it returns false'. Refute it at one input. -/
def fnKidsOrderWrong : ChangeSpec := { name := "fnKidsOrder", vars := ["loop.example/tatting/impl.errNoThing"], fn := fun _ => fun
  | [d, g1] => { results := [.lit (.bool false)], args := [d], vars := [g1] }
  | _ => none }
def FnKidsOrderWrongFalsely : Prop := fnKidsOrderRow.holds Tryd.pinned (OpenSpec.ofChange fnKidsOrderWrong)

/-- 'laws.FnOpsBefore': WHATEVER THE INPUT: true; the input reads as it did. -/
def fnOpsBeforeSpec : ChangeSpec := { name := "fnOpsBefore", vars := ["loop.example/tatting/impl.errNoThing"], fn := fun _ => fun
  | [d, g1] => { results := [.lit (.bool true)], args := [d], vars := [g1] }
  | _ => none }
def fnOpsBeforeRow : OpenClaim := { program := "ytcnpfhnlniiacaadoor", sum := "7d3441ad2819f4b443d7b70ee194cb23cc004077b110315a6086213aeecb3455", func := "loop.example/tatting/laws.FnOpsBefore", spec := "fnOpsBefore", inPlace := ["internal/reflectlite.TypeOf"], unfollowed := true, recurses := true, named := ["loop.example/tatting/impl.errNoThing"], ifaces := true, plainKeys := false, apart := false, laid := [("loop.example/tatting/impl.errNoThing", laid_loop_example_tatting_impl_errNoThing)] }
def FnOpsBeforeSaid : Prop := fnOpsBeforeRow.holds Tryd.pinned (OpenSpec.ofChange fnOpsBeforeSpec)

/-- ITS FALSE NEIGHBOUR: 'it returns false'. Refute it at one input. -/
def fnOpsBeforeWrong : ChangeSpec := { name := "fnOpsBefore", vars := ["loop.example/tatting/impl.errNoThing"], fn := fun _ => fun
  | [d, g1] => { results := [.lit (.bool false)], args := [d], vars := [g1] }
  | _ => none }
def FnOpsBeforeWrongFalsely : Prop := fnOpsBeforeRow.holds Tryd.pinned (OpenSpec.ofChange fnOpsBeforeWrong)

/-- 'laws.FnOpsLess': WHATEVER THE INPUT: true; the input reads as it did. -/
def fnOpsLessSpec : ChangeSpec := { name := "fnOpsLess", vars := ["loop.example/tatting/impl.errNoThing"], fn := fun _ => fun
  | [d1, d2, g1] => { results := [.lit (.bool true)], args := [d1, d2], vars := [g1] }
  | _ => none }
def fnOpsLessRow : OpenClaim := { program := "ytcnpfhnlniiacaadoor", sum := "7d3441ad2819f4b443d7b70ee194cb23cc004077b110315a6086213aeecb3455", func := "loop.example/tatting/laws.FnOpsLess", spec := "fnOpsLess", inPlace := ["internal/reflectlite.TypeOf"], unfollowed := true, recurses := true, named := ["loop.example/tatting/impl.errNoThing"], ifaces := true, plainKeys := false, apart := false, laid := [("loop.example/tatting/impl.errNoThing", laid_loop_example_tatting_impl_errNoThing)] }
def FnOpsLessSaid : Prop := fnOpsLessRow.holds Tryd.pinned (OpenSpec.ofChange fnOpsLessSpec)

/-- ITS FALSE NEIGHBOUR: 'it returns false'. Refute it at one input. -/
def fnOpsLessWrong : ChangeSpec := { name := "fnOpsLess", vars := ["loop.example/tatting/impl.errNoThing"], fn := fun _ => fun
  | [d1, d2, g1] => { results := [.lit (.bool false)], args := [d1, d2], vars := [g1] }
  | _ => none }
def FnOpsLessWrongFalsely : Prop := fnOpsLessRow.holds Tryd.pinned (OpenSpec.ofChange fnOpsLessWrong)

/-- 'laws.FnTreeMore': WHATEVER THE INPUT: true; the input reads as it did. -/
def fnTreeMoreSpec : ChangeSpec := { name := "fnTreeMore", vars := ["loop.example/tatting/impl.errNoThing"], fn := fun _ => fun
  | [d, g1] => { results := [.lit (.bool true)], args := [d], vars := [g1] }
  | _ => none }
def fnTreeMoreRow : OpenClaim := { program := "ytcnpfhnlniiacaadoor", sum := "7d3441ad2819f4b443d7b70ee194cb23cc004077b110315a6086213aeecb3455", func := "loop.example/tatting/laws.FnTreeMore", spec := "fnTreeMore", inPlace := ["internal/reflectlite.TypeOf"], unfollowed := true, recurses := true, named := ["loop.example/tatting/impl.errNoThing"], ifaces := true, plainKeys := false, apart := false, laid := [("loop.example/tatting/impl.errNoThing", laid_loop_example_tatting_impl_errNoThing)] }
def FnTreeMoreSaid : Prop := fnTreeMoreRow.holds Tryd.pinned (OpenSpec.ofChange fnTreeMoreSpec)

/-- ITS FALSE NEIGHBOUR: 'it returns false'. Refute it at one input. -/
def fnTreeMoreWrong : ChangeSpec := { name := "fnTreeMore", vars := ["loop.example/tatting/impl.errNoThing"], fn := fun _ => fun
  | [d, g1] => { results := [.lit (.bool false)], args := [d], vars := [g1] }
  | _ => none }
def FnTreeMoreWrongFalsely : Prop := fnTreeMoreRow.holds Tryd.pinned (OpenSpec.ofChange fnTreeMoreWrong)

/-- 'laws.FnTakeCan': WHATEVER THE INPUT: true; the input reads as it did. -/
def fnTakeCanSpec : ChangeSpec := { name := "fnTakeCan", vars := ["loop.example/tatting/impl.errNoThing"], fn := fun _ => fun
  | [d, g1] => { results := [.lit (.bool true)], args := [d], vars := [g1] }
  | _ => none }
def fnTakeCanRow : OpenClaim := { program := "ytcnpfhnlniiacaadoor", sum := "7d3441ad2819f4b443d7b70ee194cb23cc004077b110315a6086213aeecb3455", func := "loop.example/tatting/laws.FnTakeCan", spec := "fnTakeCan", inPlace := ["internal/reflectlite.TypeOf"], unfollowed := true, recurses := true, named := ["loop.example/tatting/impl.errNoThing"], ifaces := true, plainKeys := false, apart := false, laid := [("loop.example/tatting/impl.errNoThing", laid_loop_example_tatting_impl_errNoThing)] }
def FnTakeCanSaid : Prop := fnTakeCanRow.holds Tryd.pinned (OpenSpec.ofChange fnTakeCanSpec)

/-- ITS FALSE NEIGHBOUR: 'it returns false'. Refute it at one input. -/
def fnTakeCanWrong : ChangeSpec := { name := "fnTakeCan", vars := ["loop.example/tatting/impl.errNoThing"], fn := fun _ => fun
  | [d, g1] => { results := [.lit (.bool false)], args := [d], vars := [g1] }
  | _ => none }
def FnTakeCanWrongFalsely : Prop := fnTakeCanRow.holds Tryd.pinned (OpenSpec.ofChange fnTakeCanWrong)

/-- 'laws.FnPutCan': WHATEVER THE INPUT: true; the input reads as it did. -/
def fnPutCanSpec : ChangeSpec := { name := "fnPutCan", vars := ["loop.example/tatting/impl.errNoThing"], fn := fun _ => fun
  | [d, g1] => { results := [.lit (.bool true)], args := [d], vars := [g1] }
  | _ => none }
def fnPutCanRow : OpenClaim := { program := "ytcnpfhnlniiacaadoor", sum := "7d3441ad2819f4b443d7b70ee194cb23cc004077b110315a6086213aeecb3455", func := "loop.example/tatting/laws.FnPutCan", spec := "fnPutCan", inPlace := ["internal/reflectlite.TypeOf"], unfollowed := true, recurses := true, named := ["loop.example/tatting/impl.errNoThing"], ifaces := true, plainKeys := false, apart := false, laid := [("loop.example/tatting/impl.errNoThing", laid_loop_example_tatting_impl_errNoThing)] }
def FnPutCanSaid : Prop := fnPutCanRow.holds Tryd.pinned (OpenSpec.ofChange fnPutCanSpec)

/-- ITS FALSE NEIGHBOUR: 'it returns false'. Refute it at one input. -/
def fnPutCanWrong : ChangeSpec := { name := "fnPutCan", vars := ["loop.example/tatting/impl.errNoThing"], fn := fun _ => fun
  | [d, g1] => { results := [.lit (.bool false)], args := [d], vars := [g1] }
  | _ => none }
def FnPutCanWrongFalsely : Prop := fnPutCanRow.holds Tryd.pinned (OpenSpec.ofChange fnPutCanWrong)

/-- 'laws.FnTypeAnyone': WHATEVER THE INPUT: true; the input reads as it did. -/
def fnTypeAnyoneSpec : ChangeSpec := { name := "fnTypeAnyone", vars := ["loop.example/tatting/impl.errNoThing"], fn := fun _ => fun
  | [d, g1] => { results := [.lit (.bool true)], args := [d], vars := [g1] }
  | _ => none }
def fnTypeAnyoneRow : OpenClaim := { program := "ytcnpfhnlniiacaadoor", sum := "7d3441ad2819f4b443d7b70ee194cb23cc004077b110315a6086213aeecb3455", func := "loop.example/tatting/laws.FnTypeAnyone", spec := "fnTypeAnyone", inPlace := ["internal/reflectlite.TypeOf"], unfollowed := true, recurses := true, named := ["loop.example/tatting/impl.errNoThing"], ifaces := true, plainKeys := false, apart := false, laid := [("loop.example/tatting/impl.errNoThing", laid_loop_example_tatting_impl_errNoThing)] }
def FnTypeAnyoneSaid : Prop := fnTypeAnyoneRow.holds Tryd.pinned (OpenSpec.ofChange fnTypeAnyoneSpec)

/-- ITS FALSE NEIGHBOUR: 'it returns false'. Refute it at one input. -/
def fnTypeAnyoneWrong : ChangeSpec := { name := "fnTypeAnyone", vars := ["loop.example/tatting/impl.errNoThing"], fn := fun _ => fun
  | [d, g1] => { results := [.lit (.bool false)], args := [d], vars := [g1] }
  | _ => none }
def FnTypeAnyoneWrongFalsely : Prop := fnTypeAnyoneRow.holds Tryd.pinned (OpenSpec.ofChange fnTypeAnyoneWrong)

/-- 'laws.FnWithOne': WHATEVER THE INPUT: true; the input reads as it did. -/
def fnWithOneSpec : ChangeSpec := { name := "fnWithOne", vars := ["loop.example/tatting/impl.errNoThing"], fn := fun _ => fun
  | [d, g1] => { results := [.lit (.bool true)], args := [d], vars := [g1] }
  | _ => none }
def fnWithOneRow : OpenClaim := { program := "ytcnpfhnlniiacaadoor", sum := "7d3441ad2819f4b443d7b70ee194cb23cc004077b110315a6086213aeecb3455", func := "loop.example/tatting/laws.FnWithOne", spec := "fnWithOne", inPlace := ["internal/reflectlite.TypeOf"], unfollowed := true, recurses := true, named := ["loop.example/tatting/impl.errNoThing"], ifaces := true, plainKeys := false, apart := false, laid := [("loop.example/tatting/impl.errNoThing", laid_loop_example_tatting_impl_errNoThing)] }
def FnWithOneSaid : Prop := fnWithOneRow.holds Tryd.pinned (OpenSpec.ofChange fnWithOneSpec)

/-- ITS FALSE NEIGHBOUR: 'it returns false'. Refute it at one input. -/
def fnWithOneWrong : ChangeSpec := { name := "fnWithOne", vars := ["loop.example/tatting/impl.errNoThing"], fn := fun _ => fun
  | [d, g1] => { results := [.lit (.bool false)], args := [d], vars := [g1] }
  | _ => none }
def FnWithOneWrongFalsely : Prop := fnWithOneRow.holds Tryd.pinned (OpenSpec.ofChange fnWithOneWrong)

/- THE SECOND FORM. 'bulk': how many values and letters a reading holds, each counted each time it is reached (what is shared counts as often as it is met; a slice's spare places count too). A statement '..UptoSaid' is the law's where the arguments, and the package variables that the reading takes, are together of bulk at most 1048576: NARROWER than '..Said'. Prove '..Said' where nothing that the law and all that it calls make is longer than what came in: it says more and counts as full. Else prove '..UptoSaid'. A law counts once. -/
mutual
def uptoBulk {H : Type} : DataW H → Nat
  | .lit (.string bytes) => bytes.length + 1
  | .lit _ => 1
  | .nil => 1
  | .ptr d => uptoBulk d + 1
  | .slice elems spare => uptoBulkAll elems + uptoBulkAll spare + 1
  | .agg parts => uptoBulkAll parts + 1
  | .iface _ d => uptoBulk d + 1
  | .map entries => uptoBulkEntries entries + 1
  | .held _ => 1
def uptoBulkAll {H : Type} : List (DataW H) → Nat
  | [] => 0
  | d :: r => uptoBulk d + uptoBulkAll r
def uptoBulkEntries {H : Type} : List (Lit × DataW H) → Nat
  | [] => 0
  | x :: r => uptoBulkEntry x + uptoBulkEntries r
def uptoBulkEntry {H : Type} : Lit × DataW H → Nat
  | (.string bytes, d) => bytes.length + uptoBulk d + 1
  | (_, d) => uptoBulk d + 1
 end
def uptoSmall : (H : Type) → List (DataW H) → Bool := fun _ ds => decide (uptoBulkAll ds ≤ 1048576)
def OpenSpec.upto (s : _root_.Go.ChangeSpec) : _root_.Go.OpenSpec := { _root_.Go.OpenSpec.ofChange s with cond := some uptoSmall }

/-- 'laws.FnUnderOrder', WHERE WHAT IT READS IS OF BULK AT MOST 1048576: true; the input reads as it did. -/
def fnUnderOrderUptoRow : OpenClaim := { program := "ytcnpfhnlniiacaadoor", sum := "7d3441ad2819f4b443d7b70ee194cb23cc004077b110315a6086213aeecb3455", func := "loop.example/tatting/laws.FnUnderOrder", spec := "fnUnderOrder", inPlace := ["internal/reflectlite.TypeOf"], unfollowed := true, recurses := true, named := ["loop.example/tatting/impl.errNoThing"], ifaces := true, plainKeys := false, apart := false, laid := [("loop.example/tatting/impl.errNoThing", laid_loop_example_tatting_impl_errNoThing)], narrowed := true }
def FnUnderOrderUptoSaid : Prop := fnUnderOrderUptoRow.holds Tryd.pinned (OpenSpec.upto fnUnderOrderSpec)

/-- 'laws.FnTreeFirst', WHERE WHAT IT READS IS OF BULK AT MOST 1048576: true; the input reads as it did. -/
def fnTreeFirstUptoRow : OpenClaim := { program := "ytcnpfhnlniiacaadoor", sum := "7d3441ad2819f4b443d7b70ee194cb23cc004077b110315a6086213aeecb3455", func := "loop.example/tatting/laws.FnTreeFirst", spec := "fnTreeFirst", inPlace := ["internal/reflectlite.TypeOf"], unfollowed := true, recurses := true, named := ["loop.example/tatting/impl.errNoThing"], ifaces := true, plainKeys := false, apart := false, laid := [("loop.example/tatting/impl.errNoThing", laid_loop_example_tatting_impl_errNoThing)], narrowed := true }
def FnTreeFirstUptoSaid : Prop := fnTreeFirstUptoRow.holds Tryd.pinned (OpenSpec.upto fnTreeFirstSpec)

/-- 'laws.FnLeavesSide', WHERE WHAT IT READS IS OF BULK AT MOST 1048576: true; the input reads as it did. -/
def fnLeavesSideUptoRow : OpenClaim := { program := "ytcnpfhnlniiacaadoor", sum := "7d3441ad2819f4b443d7b70ee194cb23cc004077b110315a6086213aeecb3455", func := "loop.example/tatting/laws.FnLeavesSide", spec := "fnLeavesSide", inPlace := ["internal/reflectlite.TypeOf"], unfollowed := true, recurses := true, named := ["loop.example/tatting/impl.errNoThing"], ifaces := true, plainKeys := false, apart := false, laid := [("loop.example/tatting/impl.errNoThing", laid_loop_example_tatting_impl_errNoThing)], narrowed := true }
def FnLeavesSideUptoSaid : Prop := fnLeavesSideUptoRow.holds Tryd.pinned (OpenSpec.upto fnLeavesSideSpec)

/-- 'laws.FnLeavesWhole', WHERE WHAT IT READS IS OF BULK AT MOST 1048576: true; the input reads as it did. -/
def fnLeavesWholeUptoRow : OpenClaim := { program := "ytcnpfhnlniiacaadoor", sum := "7d3441ad2819f4b443d7b70ee194cb23cc004077b110315a6086213aeecb3455", func := "loop.example/tatting/laws.FnLeavesWhole", spec := "fnLeavesWhole", inPlace := ["internal/reflectlite.TypeOf"], unfollowed := true, recurses := true, named := ["loop.example/tatting/impl.errNoThing"], ifaces := true, plainKeys := false, apart := false, laid := [("loop.example/tatting/impl.errNoThing", laid_loop_example_tatting_impl_errNoThing)], narrowed := true }
def FnLeavesWholeUptoSaid : Prop := fnLeavesWholeUptoRow.holds Tryd.pinned (OpenSpec.upto fnLeavesWholeSpec)

/-- 'laws.FnKidsOrder', WHERE WHAT IT READS IS OF BULK AT MOST 1048576: true; the input reads as it did. -/
def fnKidsOrderUptoRow : OpenClaim := { program := "ytcnpfhnlniiacaadoor", sum := "7d3441ad2819f4b443d7b70ee194cb23cc004077b110315a6086213aeecb3455", func := "loop.example/tatting/laws.FnKidsOrder", spec := "fnKidsOrder", inPlace := ["internal/reflectlite.TypeOf"], unfollowed := true, recurses := true, named := ["loop.example/tatting/impl.errNoThing"], ifaces := true, plainKeys := false, apart := false, laid := [("loop.example/tatting/impl.errNoThing", laid_loop_example_tatting_impl_errNoThing)], narrowed := true }
def FnKidsOrderUptoSaid : Prop := fnKidsOrderUptoRow.holds Tryd.pinned (OpenSpec.upto fnKidsOrderSpec)

/-- 'laws.FnOpsBefore', WHERE WHAT IT READS IS OF BULK AT MOST 1048576: true; the input reads as it did. -/
def fnOpsBeforeUptoRow : OpenClaim := { program := "ytcnpfhnlniiacaadoor", sum := "7d3441ad2819f4b443d7b70ee194cb23cc004077b110315a6086213aeecb3455", func := "loop.example/tatting/laws.FnOpsBefore", spec := "fnOpsBefore", inPlace := ["internal/reflectlite.TypeOf"], unfollowed := true, recurses := true, named := ["loop.example/tatting/impl.errNoThing"], ifaces := true, plainKeys := false, apart := false, laid := [("loop.example/tatting/impl.errNoThing", laid_loop_example_tatting_impl_errNoThing)], narrowed := true }
def FnOpsBeforeUptoSaid : Prop := fnOpsBeforeUptoRow.holds Tryd.pinned (OpenSpec.upto fnOpsBeforeSpec)

/-- 'laws.FnOpsLess', WHERE WHAT IT READS IS OF BULK AT MOST 1048576: true; the input reads as it did. -/
def fnOpsLessUptoRow : OpenClaim := { program := "ytcnpfhnlniiacaadoor", sum := "7d3441ad2819f4b443d7b70ee194cb23cc004077b110315a6086213aeecb3455", func := "loop.example/tatting/laws.FnOpsLess", spec := "fnOpsLess", inPlace := ["internal/reflectlite.TypeOf"], unfollowed := true, recurses := true, named := ["loop.example/tatting/impl.errNoThing"], ifaces := true, plainKeys := false, apart := false, laid := [("loop.example/tatting/impl.errNoThing", laid_loop_example_tatting_impl_errNoThing)], narrowed := true }
def FnOpsLessUptoSaid : Prop := fnOpsLessUptoRow.holds Tryd.pinned (OpenSpec.upto fnOpsLessSpec)

/-- 'laws.FnTreeMore', WHERE WHAT IT READS IS OF BULK AT MOST 1048576: true; the input reads as it did. -/
def fnTreeMoreUptoRow : OpenClaim := { program := "ytcnpfhnlniiacaadoor", sum := "7d3441ad2819f4b443d7b70ee194cb23cc004077b110315a6086213aeecb3455", func := "loop.example/tatting/laws.FnTreeMore", spec := "fnTreeMore", inPlace := ["internal/reflectlite.TypeOf"], unfollowed := true, recurses := true, named := ["loop.example/tatting/impl.errNoThing"], ifaces := true, plainKeys := false, apart := false, laid := [("loop.example/tatting/impl.errNoThing", laid_loop_example_tatting_impl_errNoThing)], narrowed := true }
def FnTreeMoreUptoSaid : Prop := fnTreeMoreUptoRow.holds Tryd.pinned (OpenSpec.upto fnTreeMoreSpec)

/-- 'laws.FnTakeCan', WHERE WHAT IT READS IS OF BULK AT MOST 1048576: true; the input reads as it did. -/
def fnTakeCanUptoRow : OpenClaim := { program := "ytcnpfhnlniiacaadoor", sum := "7d3441ad2819f4b443d7b70ee194cb23cc004077b110315a6086213aeecb3455", func := "loop.example/tatting/laws.FnTakeCan", spec := "fnTakeCan", inPlace := ["internal/reflectlite.TypeOf"], unfollowed := true, recurses := true, named := ["loop.example/tatting/impl.errNoThing"], ifaces := true, plainKeys := false, apart := false, laid := [("loop.example/tatting/impl.errNoThing", laid_loop_example_tatting_impl_errNoThing)], narrowed := true }
def FnTakeCanUptoSaid : Prop := fnTakeCanUptoRow.holds Tryd.pinned (OpenSpec.upto fnTakeCanSpec)

/-- 'laws.FnPutCan', WHERE WHAT IT READS IS OF BULK AT MOST 1048576: true; the input reads as it did. -/
def fnPutCanUptoRow : OpenClaim := { program := "ytcnpfhnlniiacaadoor", sum := "7d3441ad2819f4b443d7b70ee194cb23cc004077b110315a6086213aeecb3455", func := "loop.example/tatting/laws.FnPutCan", spec := "fnPutCan", inPlace := ["internal/reflectlite.TypeOf"], unfollowed := true, recurses := true, named := ["loop.example/tatting/impl.errNoThing"], ifaces := true, plainKeys := false, apart := false, laid := [("loop.example/tatting/impl.errNoThing", laid_loop_example_tatting_impl_errNoThing)], narrowed := true }
def FnPutCanUptoSaid : Prop := fnPutCanUptoRow.holds Tryd.pinned (OpenSpec.upto fnPutCanSpec)

/-- 'laws.FnTypeAnyone', WHERE WHAT IT READS IS OF BULK AT MOST 1048576: true; the input reads as it did. -/
def fnTypeAnyoneUptoRow : OpenClaim := { program := "ytcnpfhnlniiacaadoor", sum := "7d3441ad2819f4b443d7b70ee194cb23cc004077b110315a6086213aeecb3455", func := "loop.example/tatting/laws.FnTypeAnyone", spec := "fnTypeAnyone", inPlace := ["internal/reflectlite.TypeOf"], unfollowed := true, recurses := true, named := ["loop.example/tatting/impl.errNoThing"], ifaces := true, plainKeys := false, apart := false, laid := [("loop.example/tatting/impl.errNoThing", laid_loop_example_tatting_impl_errNoThing)], narrowed := true }
def FnTypeAnyoneUptoSaid : Prop := fnTypeAnyoneUptoRow.holds Tryd.pinned (OpenSpec.upto fnTypeAnyoneSpec)

/-- 'laws.FnWithOne', WHERE WHAT IT READS IS OF BULK AT MOST 1048576: true; the input reads as it did. -/
def fnWithOneUptoRow : OpenClaim := { program := "ytcnpfhnlniiacaadoor", sum := "7d3441ad2819f4b443d7b70ee194cb23cc004077b110315a6086213aeecb3455", func := "loop.example/tatting/laws.FnWithOne", spec := "fnWithOne", inPlace := ["internal/reflectlite.TypeOf"], unfollowed := true, recurses := true, named := ["loop.example/tatting/impl.errNoThing"], ifaces := true, plainKeys := false, apart := false, laid := [("loop.example/tatting/impl.errNoThing", laid_loop_example_tatting_impl_errNoThing)], narrowed := true }
def FnWithOneUptoSaid : Prop := fnWithOneUptoRow.holds Tryd.pinned (OpenSpec.upto fnWithOneSpec)

end Rows
end Go.Proofs.YtcnpfhnlniiacaaDoor
