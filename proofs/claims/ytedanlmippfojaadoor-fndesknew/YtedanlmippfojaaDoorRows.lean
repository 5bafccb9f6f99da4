/-
  NARROWER THAN 'FOR EVERY INPUT', by the rows' own cells (each row's printed sentence says how): FnTypeAnyone: ifaces, laid · FnTakeCan: ifaces, laid · FnPutCan: ifaces, laid · FnTakeTwice: ifaces, laid · FnRunThere: ifaces, laid · FnRunSplit: ifaces, laid · FnMarkStays: ifaces, laid · FnOpsBefore: ifaces, laid · FnOpsLess: ifaces, laid · FnKidsOrder: ifaces, laid · FnDeskNew: ifaces, laid · FnInOrder: ifaces, laid.
  DERIVED. THE GIVEN ROWS OF THIS SEAT. 12 by the template 'for every input the law returns true; each argument reads behind the call as it read before'; 0 by the template 'total and deterministic' (their statements: YtedanlmippfojaaDoorTotals.lean).
  GIVEN WITH THE SEED: the statements are not yours to turn. If you find one false, say at which input.
  Laid BY PROGRAM, IN A SANDBOX (cutbox-rows.mjs): the forced cells as the released guide's own fill.sh prints them over the translation 3511738f319da11a… (all of the seat's roots in one cut). By AI agents, Wed Nov 11 2026. No macro, syntax, notation, axiom, sorry.
-/
import Derived.Test.YtedanlmippfojaaDoorChecked
import GoSem.Claim
import GoSem.ClaimJoined
import GoSem.ClaimMapViews
import Derived.JoinedTies
import Derived.KernelRfl
namespace Go.Proofs.YtedanlmippfojaaDoor
/- THE CELL 'sum', in the pinned program and in every row, IS THE sha256 OF THE DUMP (.gsa) THAT YtedanlmippfojaaDoorProg.lean LOADS. Nothing in Lean hashes anything: it is a label: what it is worth is what the hold of that sum in a sandbox is worth. -/
noncomputable def Tryd.pinned : Pinned := { name := "ytedanlmippfojaadoor", sum := "3511738f319da11ab40f09769cb35024fb7100f00d2b86338f7c680634da2572", checked := Tryd.checked }
namespace Rows
def none {H : Type} : Left H := { results := [], args := [] }

/- WHAT THE LISTED PACKAGE-LEVEL VARIABLES READ AS WHEN THE CALL BEGINS. Each datum BY PROGRAM (the guide's laid-datum.mjs) off the statement by which the dump's own 'gosem.cut.vars' lays the variable. In a bare row this is a premise. The card (YtedanlmippfojaaDoorCards.lean) ties it to the program's text. -/
def laid_loop_example_tatting_impl_errNoThing {H : Type} : DataW H := .iface "*errors.errorString" (.ptr (.agg [.lit (.string [110, 111, 32, 116, 104, 105, 110, 103, 32, 116, 104, 97, 116, 32, 99, 97, 110, 32, 104, 97, 118, 101, 32, 98, 101, 101, 110, 32, 100, 111, 110, 101])]))

/-- 'laws.FnTypeAnyone': WHATEVER THE INPUT: true; the input reads as it did. -/
def fnTypeAnyoneSpec : ChangeSpec := { name := "fnTypeAnyone", vars := ["loop.example/tatting/impl.errNoThing"], fn := fun _ => fun
  | [d, g1] => { results := [.lit (.bool true)], args := [d], vars := [g1] }
  | _ => none }
def fnTypeAnyoneRow : OpenClaim := { program := "ytedanlmippfojaadoor", sum := "3511738f319da11ab40f09769cb35024fb7100f00d2b86338f7c680634da2572", func := "loop.example/tatting/laws.FnTypeAnyone", spec := "fnTypeAnyone", inPlace := ["internal/reflectlite.TypeOf"], unfollowed := true, recurses := true, named := ["loop.example/tatting/impl.errNoThing"], ifaces := true, plainKeys := false, apart := false, laid := [("loop.example/tatting/impl.errNoThing", laid_loop_example_tatting_impl_errNoThing)] }
def FnTypeAnyoneSaid : Prop := fnTypeAnyoneRow.holds Tryd.pinned (OpenSpec.ofChange fnTypeAnyoneSpec)

/-- ITS FALSE NEIGHBOUR: 'it returns false'. Refute it at one input. -/
def fnTypeAnyoneWrong : ChangeSpec := { name := "fnTypeAnyone", vars := ["loop.example/tatting/impl.errNoThing"], fn := fun _ => fun
  | [d, g1] => { results := [.lit (.bool false)], args := [d], vars := [g1] }
  | _ => none }
def FnTypeAnyoneWrongFalsely : Prop := fnTypeAnyoneRow.holds Tryd.pinned (OpenSpec.ofChange fnTypeAnyoneWrong)

/-- 'laws.FnTakeCan': WHATEVER THE INPUT: true; the input reads as it did. -/
def fnTakeCanSpec : ChangeSpec := { name := "fnTakeCan", vars := ["loop.example/tatting/impl.errNoThing"], fn := fun _ => fun
  | [d, g1] => { results := [.lit (.bool true)], args := [d], vars := [g1] }
  | _ => none }
def fnTakeCanRow : OpenClaim := { program := "ytedanlmippfojaadoor", sum := "3511738f319da11ab40f09769cb35024fb7100f00d2b86338f7c680634da2572", func := "loop.example/tatting/laws.FnTakeCan", spec := "fnTakeCan", inPlace := ["internal/reflectlite.TypeOf"], unfollowed := true, recurses := true, named := ["loop.example/tatting/impl.errNoThing"], ifaces := true, plainKeys := false, apart := false, laid := [("loop.example/tatting/impl.errNoThing", laid_loop_example_tatting_impl_errNoThing)] }
def FnTakeCanSaid : Prop := fnTakeCanRow.holds Tryd.pinned (OpenSpec.ofChange fnTakeCanSpec)

/-- ITS FALSE NEIGHBOUR: 'it returns false'. Refute it at one input. -/
def fnTakeCanWrong : ChangeSpec := { name := "fnTakeCan", vars := ["loop.example/tatting/impl.errNoThing"], fn := fun _ => fun
  | [d, g1] => { results := [.lit (.bool false)], args := [d], vars := [g1] }
  | _ => none }
def FnTakeCanWrongFalsely : Prop := fnTakeCanRow.holds Tryd.pinned (OpenSpec.ofChange fnTakeCanWrong)

/-- 'laws.FnPutCan': WHATEVER THE INPUT: true; the input reads as it did. -/
def fnPutCanSpec : ChangeSpec := { name := "fnPutCan", vars := ["loop.example/tatting/impl.errNoThing"], fn := fun _ => fun
  | [d, g1] => { results := [.lit (.bool true)], args := [d], vars := [g1] }
  | _ => none }
def fnPutCanRow : OpenClaim := { program := "ytedanlmippfojaadoor", sum := "3511738f319da11ab40f09769cb35024fb7100f00d2b86338f7c680634da2572", func := "loop.example/tatting/laws.FnPutCan", spec := "fnPutCan", inPlace := ["internal/reflectlite.TypeOf"], unfollowed := true, recurses := true, named := ["loop.example/tatting/impl.errNoThing"], ifaces := true, plainKeys := false, apart := false, laid := [("loop.example/tatting/impl.errNoThing", laid_loop_example_tatting_impl_errNoThing)] }
def FnPutCanSaid : Prop := fnPutCanRow.holds Tryd.pinned (OpenSpec.ofChange fnPutCanSpec)

/-- ITS FALSE NEIGHBOUR: 'it returns false'. Refute it at one input. -/
def fnPutCanWrong : ChangeSpec := { name := "fnPutCan", vars := ["loop.example/tatting/impl.errNoThing"], fn := fun _ => fun
  | [d, g1] => { results := [.lit (.bool false)], args := [d], vars := [g1] }
  | _ => none }
def FnPutCanWrongFalsely : Prop := fnPutCanRow.holds Tryd.pinned (OpenSpec.ofChange fnPutCanWrong)

/-- 'laws.FnTakeTwice': WHATEVER THE INPUT: true; the input reads as it did. -/
def fnTakeTwiceSpec : ChangeSpec := { name := "fnTakeTwice", vars := ["loop.example/tatting/impl.errNoThing"], fn := fun _ => fun
  | [d1, d2, g1] => { results := [.lit (.bool true)], args := [d1, d2], vars := [g1] }
  | _ => none }
def fnTakeTwiceRow : OpenClaim := { program := "ytedanlmippfojaadoor", sum := "3511738f319da11ab40f09769cb35024fb7100f00d2b86338f7c680634da2572", func := "loop.example/tatting/laws.FnTakeTwice", spec := "fnTakeTwice", inPlace := ["internal/reflectlite.TypeOf"], unfollowed := true, recurses := true, named := ["loop.example/tatting/impl.errNoThing"], ifaces := true, plainKeys := false, apart := false, laid := [("loop.example/tatting/impl.errNoThing", laid_loop_example_tatting_impl_errNoThing)] }
def FnTakeTwiceSaid : Prop := fnTakeTwiceRow.holds Tryd.pinned (OpenSpec.ofChange fnTakeTwiceSpec)

/-- ITS FALSE NEIGHBOUR: 'it returns false'. Refute it at one input. -/
def fnTakeTwiceWrong : ChangeSpec := { name := "fnTakeTwice", vars := ["loop.example/tatting/impl.errNoThing"], fn := fun _ => fun
  | [d1, d2, g1] => { results := [.lit (.bool false)], args := [d1, d2], vars := [g1] }
  | _ => none }
def FnTakeTwiceWrongFalsely : Prop := fnTakeTwiceRow.holds Tryd.pinned (OpenSpec.ofChange fnTakeTwiceWrong)

/-- 'laws.FnRunThere': WHATEVER THE INPUT: true; the input reads as it did. -/
def fnRunThereSpec : ChangeSpec := { name := "fnRunThere", vars := ["loop.example/tatting/impl.errNoThing"], fn := fun _ => fun
  | [d, g1] => { results := [.lit (.bool true)], args := [d], vars := [g1] }
  | _ => none }
def fnRunThereRow : OpenClaim := { program := "ytedanlmippfojaadoor", sum := "3511738f319da11ab40f09769cb35024fb7100f00d2b86338f7c680634da2572", func := "loop.example/tatting/laws.FnRunThere", spec := "fnRunThere", inPlace := ["internal/reflectlite.TypeOf"], unfollowed := true, recurses := true, named := ["loop.example/tatting/impl.errNoThing"], ifaces := true, plainKeys := false, apart := false, laid := [("loop.example/tatting/impl.errNoThing", laid_loop_example_tatting_impl_errNoThing)] }
def FnRunThereSaid : Prop := fnRunThereRow.holds Tryd.pinned (OpenSpec.ofChange fnRunThereSpec)

/-- ITS FALSE NEIGHBOUR: 'it returns false'. Refute it at one input. -/
def fnRunThereWrong : ChangeSpec := { name := "fnRunThere", vars := ["loop.example/tatting/impl.errNoThing"], fn := fun _ => fun
  | [d, g1] => { results := [.lit (.bool false)], args := [d], vars := [g1] }
  | _ => none }
def FnRunThereWrongFalsely : Prop := fnRunThereRow.holds Tryd.pinned (OpenSpec.ofChange fnRunThereWrong)

/-- 'laws.FnRunSplit': WHATEVER THE INPUT: true; the input reads as it did. -/
def fnRunSplitSpec : ChangeSpec := { name := "fnRunSplit", vars := ["loop.example/tatting/impl.errNoThing"], fn := fun _ => fun
  | [d1, d2, g1] => { results := [.lit (.bool true)], args := [d1, d2], vars := [g1] }
  | _ => none }
def fnRunSplitRow : OpenClaim := { program := "ytedanlmippfojaadoor", sum := "3511738f319da11ab40f09769cb35024fb7100f00d2b86338f7c680634da2572", func := "loop.example/tatting/laws.FnRunSplit", spec := "fnRunSplit", inPlace := ["internal/reflectlite.TypeOf"], unfollowed := true, recurses := true, named := ["loop.example/tatting/impl.errNoThing"], ifaces := true, plainKeys := false, apart := false, laid := [("loop.example/tatting/impl.errNoThing", laid_loop_example_tatting_impl_errNoThing)] }
def FnRunSplitSaid : Prop := fnRunSplitRow.holds Tryd.pinned (OpenSpec.ofChange fnRunSplitSpec)

/-- ITS FALSE NEIGHBOUR: 'it returns false'. Refute it at one input. -/
def fnRunSplitWrong : ChangeSpec := { name := "fnRunSplit", vars := ["loop.example/tatting/impl.errNoThing"], fn := fun _ => fun
  | [d1, d2, g1] => { results := [.lit (.bool false)], args := [d1, d2], vars := [g1] }
  | _ => none }
def FnRunSplitWrongFalsely : Prop := fnRunSplitRow.holds Tryd.pinned (OpenSpec.ofChange fnRunSplitWrong)

/-- 'laws.FnMarkStays': WHATEVER THE INPUT: true; the input reads as it did. -/
def fnMarkStaysSpec : ChangeSpec := { name := "fnMarkStays", vars := ["loop.example/tatting/impl.errNoThing"], fn := fun _ => fun
  | [d1, d2, g1] => { results := [.lit (.bool true)], args := [d1, d2], vars := [g1] }
  | _ => none }
def fnMarkStaysRow : OpenClaim := { program := "ytedanlmippfojaadoor", sum := "3511738f319da11ab40f09769cb35024fb7100f00d2b86338f7c680634da2572", func := "loop.example/tatting/laws.FnMarkStays", spec := "fnMarkStays", inPlace := ["internal/reflectlite.TypeOf"], unfollowed := true, recurses := true, named := ["loop.example/tatting/impl.errNoThing"], ifaces := true, plainKeys := false, apart := false, laid := [("loop.example/tatting/impl.errNoThing", laid_loop_example_tatting_impl_errNoThing)] }
def FnMarkStaysSaid : Prop := fnMarkStaysRow.holds Tryd.pinned (OpenSpec.ofChange fnMarkStaysSpec)

/-- ITS FALSE NEIGHBOUR: 'it returns false'. Refute it at one input. -/
def fnMarkStaysWrong : ChangeSpec := { name := "fnMarkStays", vars := ["loop.example/tatting/impl.errNoThing"], fn := fun _ => fun
  | [d1, d2, g1] => { results := [.lit (.bool false)], args := [d1, d2], vars := [g1] }
  | _ => none }
def FnMarkStaysWrongFalsely : Prop := fnMarkStaysRow.holds Tryd.pinned (OpenSpec.ofChange fnMarkStaysWrong)

/-- 'laws.FnOpsBefore': WHATEVER THE INPUT: true; the input reads as it did. -/
def fnOpsBeforeSpec : ChangeSpec := { name := "fnOpsBefore", vars := ["loop.example/tatting/impl.errNoThing"], fn := fun _ => fun
  | [d, g1] => { results := [.lit (.bool true)], args := [d], vars := [g1] }
  | _ => none }
def fnOpsBeforeRow : OpenClaim := { program := "ytedanlmippfojaadoor", sum := "3511738f319da11ab40f09769cb35024fb7100f00d2b86338f7c680634da2572", func := "loop.example/tatting/laws.FnOpsBefore", spec := "fnOpsBefore", inPlace := ["internal/reflectlite.TypeOf"], unfollowed := true, recurses := true, named := ["loop.example/tatting/impl.errNoThing"], ifaces := true, plainKeys := false, apart := false, laid := [("loop.example/tatting/impl.errNoThing", laid_loop_example_tatting_impl_errNoThing)] }
def FnOpsBeforeSaid : Prop := fnOpsBeforeRow.holds Tryd.pinned (OpenSpec.ofChange fnOpsBeforeSpec)

/-- ITS FALSE NEIGHBOUR: 'it returns false'. Refute it at one input. -/
def fnOpsBeforeWrong : ChangeSpec := { name := "fnOpsBefore", vars := ["loop.example/tatting/impl.errNoThing"], fn := fun _ => fun
  | [d, g1] => { results := [.lit (.bool false)], args := [d], vars := [g1] }
  | _ => none }
def FnOpsBeforeWrongFalsely : Prop := fnOpsBeforeRow.holds Tryd.pinned (OpenSpec.ofChange fnOpsBeforeWrong)

/-- 'laws.FnOpsLess': WHATEVER THE INPUT: true; the input reads as it did. -/
def fnOpsLessSpec : ChangeSpec := { name := "fnOpsLess", vars := ["loop.example/tatting/impl.errNoThing"], fn := fun _ => fun
  | [d1, d2, g1] => { results := [.lit (.bool true)], args := [d1, d2], vars := [g1] }
  | _ => none }
def fnOpsLessRow : OpenClaim := { program := "ytedanlmippfojaadoor", sum := "3511738f319da11ab40f09769cb35024fb7100f00d2b86338f7c680634da2572", func := "loop.example/tatting/laws.FnOpsLess", spec := "fnOpsLess", inPlace := ["internal/reflectlite.TypeOf"], unfollowed := true, recurses := true, named := ["loop.example/tatting/impl.errNoThing"], ifaces := true, plainKeys := false, apart := false, laid := [("loop.example/tatting/impl.errNoThing", laid_loop_example_tatting_impl_errNoThing)] }
def FnOpsLessSaid : Prop := fnOpsLessRow.holds Tryd.pinned (OpenSpec.ofChange fnOpsLessSpec)

/-- ITS FALSE NEIGHBOUR: 'it returns false'. Refute it at one input. -/
def fnOpsLessWrong : ChangeSpec := { name := "fnOpsLess", vars := ["loop.example/tatting/impl.errNoThing"], fn := fun _ => fun
  | [d1, d2, g1] => { results := [.lit (.bool false)], args := [d1, d2], vars := [g1] }
  | _ => none }
def FnOpsLessWrongFalsely : Prop := fnOpsLessRow.holds Tryd.pinned (OpenSpec.ofChange fnOpsLessWrong)

/-- 'laws.FnKidsOrder': WHATEVER THE INPUT: true; the input reads as it did. -/
def fnKidsOrderSpec : ChangeSpec := { name := "fnKidsOrder", vars := ["loop.example/tatting/impl.errNoThing"], fn := fun _ => fun
  | [d, g1] => { results := [.lit (.bool true)], args := [d], vars := [g1] }
  | _ => none }
def fnKidsOrderRow : OpenClaim := { program := "ytedanlmippfojaadoor", sum := "3511738f319da11ab40f09769cb35024fb7100f00d2b86338f7c680634da2572", func := "loop.example/tatting/laws.FnKidsOrder", spec := "fnKidsOrder", inPlace := ["internal/reflectlite.TypeOf"], unfollowed := true, recurses := true, named := ["loop.example/tatting/impl.errNoThing"], ifaces := true, plainKeys := false, apart := false, laid := [("loop.example/tatting/impl.errNoThing", laid_loop_example_tatting_impl_errNoThing)] }
def FnKidsOrderSaid : Prop := fnKidsOrderRow.holds Tryd.pinned (OpenSpec.ofChange fnKidsOrderSpec)

/-- ITS FALSE NEIGHBOUR: 'it returns false'. Refute it at one input. -/
def fnKidsOrderWrong : ChangeSpec := { name := "fnKidsOrder", vars := ["loop.example/tatting/impl.errNoThing"], fn := fun _ => fun
  | [d, g1] => { results := [.lit (.bool false)], args := [d], vars := [g1] }
  | _ => none }
def FnKidsOrderWrongFalsely : Prop := fnKidsOrderRow.holds Tryd.pinned (OpenSpec.ofChange fnKidsOrderWrong)

/-- 'laws.FnDeskNew': WHATEVER THE INPUT: true; the input reads as it did. -/
def fnDeskNewSpec : ChangeSpec := { name := "fnDeskNew", vars := ["loop.example/tatting/impl.errNoThing"], fn := fun _ => fun
  | [d, g1] => { results := [.lit (.bool true)], args := [d], vars := [g1] }
  | _ => none }
def fnDeskNewRow : OpenClaim := { program := "ytedanlmippfojaadoor", sum := "3511738f319da11ab40f09769cb35024fb7100f00d2b86338f7c680634da2572", func := "loop.example/tatting/laws.FnDeskNew", spec := "fnDeskNew", inPlace := ["internal/reflectlite.TypeOf"], unfollowed := true, recurses := true, named := ["loop.example/tatting/impl.errNoThing"], ifaces := true, plainKeys := false, apart := false, laid := [("loop.example/tatting/impl.errNoThing", laid_loop_example_tatting_impl_errNoThing)] }
def FnDeskNewSaid : Prop := fnDeskNewRow.holds Tryd.pinned (OpenSpec.ofChange fnDeskNewSpec)

/-- ITS FALSE NEIGHBOUR: 'it returns false'. Refute it at one input. -/
def fnDeskNewWrong : ChangeSpec := { name := "fnDeskNew", vars := ["loop.example/tatting/impl.errNoThing"], fn := fun _ => fun
  | [d, g1] => { results := [.lit (.bool false)], args := [d], vars := [g1] }
  | _ => none }
def FnDeskNewWrongFalsely : Prop := fnDeskNewRow.holds Tryd.pinned (OpenSpec.ofChange fnDeskNewWrong)

/-- 'laws.FnInOrder': WHATEVER THE INPUT: true; the input reads as it did. -/
def fnInOrderSpec : ChangeSpec := { name := "fnInOrder", vars := ["loop.example/tatting/impl.errNoThing"], fn := fun _ => fun
  | [d1, d2, g1] => { results := [.lit (.bool true)], args := [d1, d2], vars := [g1] }
  | _ => none }
def fnInOrderRow : OpenClaim := { program := "ytedanlmippfojaadoor", sum := "3511738f319da11ab40f09769cb35024fb7100f00d2b86338f7c680634da2572", func := "loop.example/tatting/laws.FnInOrder", spec := "fnInOrder", inPlace := ["internal/reflectlite.TypeOf"], unfollowed := true, recurses := true, named := ["loop.example/tatting/impl.errNoThing"], ifaces := true, plainKeys := false, apart := false, laid := [("loop.example/tatting/impl.errNoThing", laid_loop_example_tatting_impl_errNoThing)] }
def FnInOrderSaid : Prop := fnInOrderRow.holds Tryd.pinned (OpenSpec.ofChange fnInOrderSpec)

/-- ITS FALSE NEIGHBOUR: 'it returns false'. Refute it at one input. -/
def fnInOrderWrong : ChangeSpec := { name := "fnInOrder", vars := ["loop.example/tatting/impl.errNoThing"], fn := fun _ => fun
  | [d1, d2, g1] => { results := [.lit (.bool false)], args := [d1, d2], vars := [g1] }
  | _ => none }
def FnInOrderWrongFalsely : Prop := fnInOrderRow.holds Tryd.pinned (OpenSpec.ofChange fnInOrderWrong)

/- THE SECOND FORM. 'bulk': how many values and letters a reading holds, each counted each time it is reached (what is shared counts as often as it is met; a slice's spare places count too). A statement '..UptoSaid' is the law's where the arguments, and the package variables that the reading takes, are together of bulk at most 1048576: NARROWER than '..Said'. Prove '..Said' where nothing that the law and all that it calls make is longer than what came in: it says more and counts as full. Else prove '..UptoSaid'. A law counts once. -/
mutual
def uptoBulk {H : Type} : DataW H → Nat
  | .lit (.string bytes) => bytes.length + 1
  | .lit _ => 1
  | .nil => 1
  | .ptr d => uptoBulk d + 1
  | .slice elems spare => uptoBulkAll elems + uptoBulkAll spare + 1
  | .agg parts => uptoBulkAll parts + 1
  | .iface _ d => uptoBulk d + 1
  | .map entries => uptoBulkEntries entries + 1
  | .held _ => 1
def uptoBulkAll {H : Type} : List (DataW H) → Nat
  | [] => 0
  | d :: r => uptoBulk d + uptoBulkAll r
def uptoBulkEntries {H : Type} : List (Lit × DataW H) → Nat
  | [] => 0
  | x :: r => uptoBulkEntry x + uptoBulkEntries r
def uptoBulkEntry {H : Type} : Lit × DataW H → Nat
  | (.string bytes, d) => bytes.length + uptoBulk d + 1
  | (_, d) => uptoBulk d + 1
 end
def uptoSmall : (H : Type) → List (DataW H) → Bool := fun _ ds => decide (uptoBulkAll ds ≤ 1048576)
def OpenSpec.upto (s : _root_.Go.ChangeSpec) : _root_.Go.OpenSpec := { _root_.Go.OpenSpec.ofChange s with cond := some uptoSmall }

/-- 'laws.FnTypeAnyone', WHERE WHAT IT READS IS OF BULK AT MOST 1048576: true; the input reads as it did. -/
def fnTypeAnyoneUptoRow : OpenClaim := { program := "ytedanlmippfojaadoor", sum := "3511738f319da11ab40f09769cb35024fb7100f00d2b86338f7c680634da2572", func := "loop.example/tatting/laws.FnTypeAnyone", spec := "fnTypeAnyone", inPlace := ["internal/reflectlite.TypeOf"], unfollowed := true, recurses := true, named := ["loop.example/tatting/impl.errNoThing"], ifaces := true, plainKeys := false, apart := false, laid := [("loop.example/tatting/impl.errNoThing", laid_loop_example_tatting_impl_errNoThing)], narrowed := true }
def FnTypeAnyoneUptoSaid : Prop := fnTypeAnyoneUptoRow.holds Tryd.pinned (OpenSpec.upto fnTypeAnyoneSpec)

/-- 'laws.FnTakeCan', WHERE WHAT IT READS IS OF BULK AT MOST 1048576: true; the input reads as it did. -/
def fnTakeCanUptoRow : OpenClaim := { program := "ytedanlmippfojaadoor", sum := "3511738f319da11ab40f09769cb35024fb7100f00d2b86338f7c680634da2572", func := "loop.example/tatting/laws.FnTakeCan", spec := "fnTakeCan", inPlace := ["internal/reflectlite.TypeOf"], unfollowed := true, recurses := true, named := ["loop.example/tatting/impl.errNoThing"], ifaces := true, plainKeys := false, apart := false, laid := [("loop.example/tatting/impl.errNoThing", laid_loop_example_tatting_impl_errNoThing)], narrowed := true }
def FnTakeCanUptoSaid : Prop := fnTakeCanUptoRow.holds Tryd.pinned (OpenSpec.upto fnTakeCanSpec)

/-- 'laws.FnPutCan', WHERE WHAT IT READS IS OF BULK AT MOST 1048576: true; the input reads as it did. -/
def fnPutCanUptoRow : OpenClaim := { program := "ytedanlmippfojaadoor", sum := "3511738f319da11ab40f09769cb35024fb7100f00d2b86338f7c680634da2572", func := "loop.example/tatting/laws.FnPutCan", spec := "fnPutCan", inPlace := ["internal/reflectlite.TypeOf"], unfollowed := true, recurses := true, named := ["loop.example/tatting/impl.errNoThing"], ifaces := true, plainKeys := false, apart := false, laid := [("loop.example/tatting/impl.errNoThing", laid_loop_example_tatting_impl_errNoThing)], narrowed := true }
def FnPutCanUptoSaid : Prop := fnPutCanUptoRow.holds Tryd.pinned (OpenSpec.upto fnPutCanSpec)

/-- 'laws.FnTakeTwice', WHERE WHAT IT READS IS OF BULK AT MOST 1048576: true; the input reads as it did. -/
def fnTakeTwiceUptoRow : OpenClaim := { program := "ytedanlmippfojaadoor", sum := "3511738f319da11ab40f09769cb35024fb7100f00d2b86338f7c680634da2572", func := "loop.example/tatting/laws.FnTakeTwice", spec := "fnTakeTwice", inPlace := ["internal/reflectlite.TypeOf"], unfollowed := true, recurses := true, named := ["loop.example/tatting/impl.errNoThing"], ifaces := true, plainKeys := false, apart := false, laid := [("loop.example/tatting/impl.errNoThing", laid_loop_example_tatting_impl_errNoThing)], narrowed := true }
def FnTakeTwiceUptoSaid : Prop := fnTakeTwiceUptoRow.holds Tryd.pinned (OpenSpec.upto fnTakeTwiceSpec)

/-- 'laws.FnRunThere', WHERE WHAT IT READS IS OF BULK AT MOST 1048576: true; the input reads as it did. -/
def fnRunThereUptoRow : OpenClaim := { program := "ytedanlmippfojaadoor", sum := "3511738f319da11ab40f09769cb35024fb7100f00d2b86338f7c680634da2572", func := "loop.example/tatting/laws.FnRunThere", spec := "fnRunThere", inPlace := ["internal/reflectlite.TypeOf"], unfollowed := true, recurses := true, named := ["loop.example/tatting/impl.errNoThing"], ifaces := true, plainKeys := false, apart := false, laid := [("loop.example/tatting/impl.errNoThing", laid_loop_example_tatting_impl_errNoThing)], narrowed := true }
def FnRunThereUptoSaid : Prop := fnRunThereUptoRow.holds Tryd.pinned (OpenSpec.upto fnRunThereSpec)

/-- 'laws.FnRunSplit', WHERE WHAT IT READS IS OF BULK AT MOST 1048576: true; the input reads as it did. -/
def fnRunSplitUptoRow : OpenClaim := { program := "ytedanlmippfojaadoor", sum := "3511738f319da11ab40f09769cb35024fb7100f00d2b86338f7c680634da2572", func := "loop.example/tatting/laws.FnRunSplit", spec := "fnRunSplit", inPlace := ["internal/reflectlite.TypeOf"], unfollowed := true, recurses := true, named := ["loop.example/tatting/impl.errNoThing"], ifaces := true, plainKeys := false, apart := false, laid := [("loop.example/tatting/impl.errNoThing", laid_loop_example_tatting_impl_errNoThing)], narrowed := true }
def FnRunSplitUptoSaid : Prop := fnRunSplitUptoRow.holds Tryd.pinned (OpenSpec.upto fnRunSplitSpec)

/-- 'laws.FnMarkStays', WHERE WHAT IT READS IS OF BULK AT MOST 1048576: true; the input reads as it did. -/
def fnMarkStaysUptoRow : OpenClaim := { program := "ytedanlmippfojaadoor", sum := "3511738f319da11ab40f09769cb35024fb7100f00d2b86338f7c680634da2572", func := "loop.example/tatting/laws.FnMarkStays", spec := "fnMarkStays", inPlace := ["internal/reflectlite.TypeOf"], unfollowed := true, recurses := true, named := ["loop.example/tatting/impl.errNoThing"], ifaces := true, plainKeys := false, apart := false, laid := [("loop.example/tatting/impl.errNoThing", laid_loop_example_tatting_impl_errNoThing)], narrowed := true }
def FnMarkStaysUptoSaid : Prop := fnMarkStaysUptoRow.holds Tryd.pinned (OpenSpec.upto fnMarkStaysSpec)

/-- 'laws.FnOpsBefore', WHERE WHAT IT READS IS OF BULK AT MOST 1048576: true; the input reads as it did. -/
def fnOpsBeforeUptoRow : OpenClaim := { program := "ytedanlmippfojaadoor", sum := "3511738f319da11ab40f09769cb35024fb7100f00d2b86338f7c680634da2572", func := "loop.example/tatting/laws.FnOpsBefore", spec := "fnOpsBefore", inPlace := ["internal/reflectlite.TypeOf"], unfollowed := true, recurses := true, named := ["loop.example/tatting/impl.errNoThing"], ifaces := true, plainKeys := false, apart := false, laid := [("loop.example/tatting/impl.errNoThing", laid_loop_example_tatting_impl_errNoThing)], narrowed := true }
def FnOpsBeforeUptoSaid : Prop := fnOpsBeforeUptoRow.holds Tryd.pinned (OpenSpec.upto fnOpsBeforeSpec)

/-- 'laws.FnOpsLess', WHERE WHAT IT READS IS OF BULK AT MOST 1048576: true; the input reads as it did. -/
def fnOpsLessUptoRow : OpenClaim := { program := "ytedanlmippfojaadoor", sum := "3511738f319da11ab40f09769cb35024fb7100f00d2b86338f7c680634da2572", func := "loop.example/tatting/laws.FnOpsLess", spec := "fnOpsLess", inPlace := ["internal/reflectlite.TypeOf"], unfollowed := true, recurses := true, named := ["loop.example/tatting/impl.errNoThing"], ifaces := true, plainKeys := false, apart := false, laid := [("loop.example/tatting/impl.errNoThing", laid_loop_example_tatting_impl_errNoThing)], narrowed := true }
def FnOpsLessUptoSaid : Prop := fnOpsLessUptoRow.holds Tryd.pinned (OpenSpec.upto fnOpsLessSpec)

/-- 'laws.FnKidsOrder', WHERE WHAT IT READS IS OF BULK AT MOST 1048576: true; the input reads as it did. -/
def fnKidsOrderUptoRow : OpenClaim := { program := "ytedanlmippfojaadoor", sum := "3511738f319da11ab40f09769cb35024fb7100f00d2b86338f7c680634da2572", func := "loop.example/tatting/laws.FnKidsOrder", spec := "fnKidsOrder", inPlace := ["internal/reflectlite.TypeOf"], unfollowed := true, recurses := true, named := ["loop.example/tatting/impl.errNoThing"], ifaces := true, plainKeys := false, apart := false, laid := [("loop.example/tatting/impl.errNoThing", laid_loop_example_tatting_impl_errNoThing)], narrowed := true }
def FnKidsOrderUptoSaid : Prop := fnKidsOrderUptoRow.holds Tryd.pinned (OpenSpec.upto fnKidsOrderSpec)

/-- 'laws.FnDeskNew', WHERE WHAT IT READS IS OF BULK AT MOST 1048576: true; the input reads as it did. -/
def fnDeskNewUptoRow : OpenClaim := { program := "ytedanlmippfojaadoor", sum := "3511738f319da11ab40f09769cb35024fb7100f00d2b86338f7c680634da2572", func := "loop.example/tatting/laws.FnDeskNew", spec := "fnDeskNew", inPlace := ["internal/reflectlite.TypeOf"], unfollowed := true, recurses := true, named := ["loop.example/tatting/impl.errNoThing"], ifaces := true, plainKeys := false, apart := false, laid := [("loop.example/tatting/impl.errNoThing", laid_loop_example_tatting_impl_errNoThing)], narrowed := true }
def FnDeskNewUptoSaid : Prop := fnDeskNewUptoRow.holds Tryd.pinned (OpenSpec.upto fnDeskNewSpec)

/-- 'laws.FnInOrder', WHERE WHAT IT READS IS OF BULK AT MOST 1048576: true; the input reads as it did. -/
def fnInOrderUptoRow : OpenClaim := { program := "ytedanlmippfojaadoor", sum := "3511738f319da11ab40f09769cb35024fb7100f00d2b86338f7c680634da2572", func := "loop.example/tatting/laws.FnInOrder", spec := "fnInOrder", inPlace := ["internal/reflectlite.TypeOf"], unfollowed := true, recurses := true, named := ["loop.example/tatting/impl.errNoThing"], ifaces := true, plainKeys := false, apart := false, laid := [("loop.example/tatting/impl.errNoThing", laid_loop_example_tatting_impl_errNoThing)], narrowed := true }
def FnInOrderUptoSaid : Prop := fnInOrderUptoRow.holds Tryd.pinned (OpenSpec.upto fnInOrderSpec)

end Rows
end Go.Proofs.YtedanlmippfojaaDoor
