/-
  NARROWER THAN 'FOR EVERY INPUT', by the rows' own cells (each row's printed sentence says how): FnUptoIn: ifaces, laid · FnMergeSeen: ifaces, laid · FnInOrder: ifaces, laid · FnOpsBefore: ifaces, laid · FnOpsLess: ifaces, laid · FnKidsOrder: ifaces, laid · FnPutThere: ifaces, laid · FnTakeThere: ifaces, laid · FnMarkBack: ifaces, laid · FnMarkEnd: ifaces, laid · FnSpanAll: ifaces, laid · FnMarkOrder: ifaces, laid.
  DERIVED. THE GIVEN ROWS OF THIS SEAT. 12 by the template 'for every input the law returns true; each argument reads behind the call as it read before'; 0 by the template 'total and deterministic' (their statements: YtjgbickelgkljaaDoorTotals.lean).
  GIVEN WITH THE SEED: the statements are not yours to turn. If you find one false, say at which input.
  Laid BY PROGRAM, IN A SANDBOX (cutbox-rows.mjs): the forced cells as the released guide's own fill.sh prints them over the translation f5f3976043fd1f52… (all of the seat's roots in one cut). By AI agents, Wed Nov 11 2026. No macro, syntax, notation, axiom, sorry.
-/
import Derived.Test.YtjgbickelgkljaaDoorChecked
import GoSem.Claim
import GoSem.ClaimJoined
import GoSem.ClaimMapViews
import Derived.JoinedTies
import Derived.KernelRfl
namespace Go.Proofs.YtjgbickelgkljaaDoor
/- THE CELL 'sum', in the pinned program and in every row, IS THE sha256 OF THE DUMP (.gsa) THAT YtjgbickelgkljaaDoorProg.lean LOADS. Nothing in Lean hashes anything: it is a label: what it is worth is what the hold of that sum in a sandbox is worth. -/
noncomputable def Tryd.pinned : Pinned := { name := "ytjgbickelgkljaadoor", sum := "f5f3976043fd1f52130112f79cb683940b4fc9e5aeac52c22d3c04e52394c234", checked := Tryd.checked }
namespace Rows
def none {H : Type} : Left H := { results := [], args := [] }

/- WHAT THE LISTED PACKAGE-LEVEL VARIABLES READ AS WHEN THE CALL BEGINS. Each datum BY PROGRAM (the guide's laid-datum.mjs) off the statement by which the dump's own 'gosem.cut.vars' lays the variable. In a bare row this is a premise. The card (YtjgbickelgkljaaDoorCards.lean) ties it to the program's text. -/
def laid_loop_example_tatting_impl_errNoThing {H : Type} : DataW H := .iface "*errors.errorString" (.ptr (.agg [.lit (.string [110, 111, 32, 116, 104, 105, 110, 103, 32, 116, 104, 97, 116, 32, 99, 97, 110, 32, 104, 97, 118, 101, 32, 98, 101, 101, 110, 32, 100, 111, 110, 101])]))

/-- 'laws.FnUptoIn': WHATEVER THE INPUT: true; the input reads as it did. -/
def fnUptoInSpec : ChangeSpec := { name := "fnUptoIn", vars := ["loop.example/tatting/impl.errNoThing"], fn := fun _ => fun
  | [d, g1] => { results := [.lit (.bool true)], args := [d], vars := [g1] }
  | _ => none }
def fnUptoInRow : OpenClaim := { program := "ytjgbickelgkljaadoor", sum := "f5f3976043fd1f52130112f79cb683940b4fc9e5aeac52c22d3c04e52394c234", func := "loop.example/tatting/laws.FnUptoIn", spec := "fnUptoIn", inPlace := ["internal/reflectlite.TypeOf"], unfollowed := true, recurses := true, named := ["loop.example/tatting/impl.errNoThing"], ifaces := true, plainKeys := false, apart := false, laid := [("loop.example/tatting/impl.errNoThing", laid_loop_example_tatting_impl_errNoThing)] }
def FnUptoInSaid : Prop := fnUptoInRow.holds Tryd.pinned (OpenSpec.ofChange fnUptoInSpec)

/-- ITS FALSE NEIGHBOUR: 'it returns false'. Refute it at one input. -/
def fnUptoInWrong : ChangeSpec := { name := "fnUptoIn", vars := ["loop.example/tatting/impl.errNoThing"], fn := fun _ => fun
  | [d, g1] => { results := [.lit (.bool false)], args := [d], vars := [g1] }
  | _ => none }
def FnUptoInWrongFalsely : Prop := fnUptoInRow.holds Tryd.pinned (OpenSpec.ofChange fnUptoInWrong)

/-- 'laws.FnMergeSeen': WHATEVER THE INPUT: true; the input reads as it did. -/
def fnMergeSeenSpec : ChangeSpec := { name := "fnMergeSeen", vars := ["loop.example/tatting/impl.errNoThing"], fn := fun _ => fun
  | [d, g1] => { results := [.lit (.bool true)], args := [d], vars := [g1] }
  | _ => none }
def fnMergeSeenRow : OpenClaim := { program := "ytjgbickelgkljaadoor", sum := "f5f3976043fd1f52130112f79cb683940b4fc9e5aeac52c22d3c04e52394c234", func := "loop.example/tatting/laws.FnMergeSeen", spec := "fnMergeSeen", inPlace := ["internal/reflectlite.TypeOf"], unfollowed := true, recurses := true, named := ["loop.example/tatting/impl.errNoThing"], ifaces := true, plainKeys := false, apart := false, laid := [("loop.example/tatting/impl.errNoThing", laid_loop_example_tatting_impl_errNoThing)] }
def FnMergeSeenSaid : Prop := fnMergeSeenRow.holds Tryd.pinned (OpenSpec.ofChange fnMergeSeenSpec)

/-- ITS FALSE NEIGHBOUR: 'it returns false'. Refute it at one input. -/
def fnMergeSeenWrong : ChangeSpec := { name := "fnMergeSeen", vars := ["loop.example/tatting/impl.errNoThing"], fn := fun _ => fun
  | [d, g1] => { results := [.lit (.bool false)], args := [d], vars := [g1] }
  | _ => none }
def FnMergeSeenWrongFalsely : Prop := fnMergeSeenRow.holds Tryd.pinned (OpenSpec.ofChange fnMergeSeenWrong)

/-- 'laws.FnInOrder': WHATEVER THE INPUT: true; the input reads as it did. -/
def fnInOrderSpec : ChangeSpec := { name := "fnInOrder", vars := ["loop.example/tatting/impl.errNoThing"], fn := fun _ => fun
  | [d1, d2, g1] => { results := [.lit (.bool true)], args := [d1, d2], vars := [g1] }
  | _ => none }
def fnInOrderRow : OpenClaim := { program := "ytjgbickelgkljaadoor", sum := "f5f3976043fd1f52130112f79cb683940b4fc9e5aeac52c22d3c04e52394c234", func := "loop.example/tatting/laws.FnInOrder", spec := "fnInOrder", inPlace := ["internal/reflectlite.TypeOf"], unfollowed := true, recurses := true, named := ["loop.example/tatting/impl.errNoThing"], ifaces := true, plainKeys := false, apart := false, laid := [("loop.example/tatting/impl.errNoThing", laid_loop_example_tatting_impl_errNoThing)] }
def FnInOrderSaid : Prop := fnInOrderRow.holds Tryd.pinned (OpenSpec.ofChange fnInOrderSpec)

/-- ITS FALSE NEIGHBOUR: 'it returns false'. Refute it at one input. -/
def fnInOrderWrong : ChangeSpec := { name := "fnInOrder", vars := ["loop.example/tatting/impl.errNoThing"], fn := fun _ => fun
  | [d1, d2, g1] => { results := [.lit (.bool false)], args := [d1, d2], vars := [g1] }
  | _ => none }
def FnInOrderWrongFalsely : Prop := fnInOrderRow.holds Tryd.pinned (OpenSpec.ofChange fnInOrderWrong)

/-- 'laws.FnOpsBefore': WHATEVER THE INPUT: true; the input reads as it did. -/
def fnOpsBeforeSpec : ChangeSpec := { name := "fnOpsBefore", vars := ["loop.example/tatting/impl.errNoThing"], fn := fun _ => fun
  | [d, g1] => { results := [.lit (.bool true)], args := [d], vars := [g1] }
  | _ => none }
def fnOpsBeforeRow : OpenClaim := { program := "ytjgbickelgkljaadoor", sum := "f5f3976043fd1f52130112f79cb683940b4fc9e5aeac52c22d3c04e52394c234", func := "loop.example/tatting/laws.FnOpsBefore", spec := "fnOpsBefore", inPlace := ["internal/reflectlite.TypeOf"], unfollowed := true, recurses := true, named := ["loop.example/tatting/impl.errNoThing"], ifaces := true, plainKeys := false, apart := false, laid := [("loop.example/tatting/impl.errNoThing", laid_loop_example_tatting_impl_errNoThing)] }
def FnOpsBeforeSaid : Prop := fnOpsBeforeRow.holds Tryd.pinned (OpenSpec.ofChange fnOpsBeforeSpec)

/-- ITS FALSE NEIGHBOUR: 'it returns false'. Refute it at one input. -/
def fnOpsBeforeWrong : ChangeSpec := { name := "fnOpsBefore", vars := ["loop.example/tatting/impl.errNoThing"], fn := fun _ => fun
  | [d, g1] => { results := [.lit (.bool false)], args := [d], vars := [g1] }
  | _ => none }
def FnOpsBeforeWrongFalsely : Prop := fnOpsBeforeRow.holds Tryd.pinned (OpenSpec.ofChange fnOpsBeforeWrong)

/-- 'laws.FnOpsLess': WHATEVER THE INPUT: true; the input reads as it did. -/
def fnOpsLessSpec : ChangeSpec := { name := "fnOpsLess", vars := ["loop.example/tatting/impl.errNoThing"], fn := fun _ => fun
  | [d1, d2, g1] => { results := [.lit (.bool true)], args := [d1, d2], vars := [g1] }
  | _ => none }
def fnOpsLessRow : OpenClaim := { program := "ytjgbickelgkljaadoor", sum := "f5f3976043fd1f52130112f79cb683940b4fc9e5aeac52c22d3c04e52394c234", func := "loop.example/tatting/laws.FnOpsLess", spec := "fnOpsLess", inPlace := ["internal/reflectlite.TypeOf"], unfollowed := true, recurses := true, named := ["loop.example/tatting/impl.errNoThing"], ifaces := true, plainKeys := false, apart := false, laid := [("loop.example/tatting/impl.errNoThing", laid_loop_example_tatting_impl_errNoThing)] }
def FnOpsLessSaid : Prop := fnOpsLessRow.holds Tryd.pinned (OpenSpec.ofChange fnOpsLessSpec)

/-- ITS FALSE NEIGHBOUR: 'it returns false'. Refute it at one input. -/
def fnOpsLessWrong : ChangeSpec := { name := "fnOpsLess", vars := ["loop.example/tatting/impl.errNoThing"], fn := fun _ => fun
  | [d1, d2, g1] => { results := [.lit (.bool false)], args := [d1, d2], vars := [g1] }
  | _ => none }
def FnOpsLessWrongFalsely : Prop := fnOpsLessRow.holds Tryd.pinned (OpenSpec.ofChange fnOpsLessWrong)

/-- 'laws.FnKidsOrder': WHATEVER THE INPUT: true; the input reads as it did. -/
def fnKidsOrderSpec : ChangeSpec := { name := "fnKidsOrder", vars := ["loop.example/tatting/impl.errNoThing"], fn := fun _ => fun
  | [d, g1] => { results := [.lit (.bool true)], args := [d], vars := [g1] }
  | _ => none }
def fnKidsOrderRow : OpenClaim := { program := "ytjgbickelgkljaadoor", sum := "f5f3976043fd1f52130112f79cb683940b4fc9e5aeac52c22d3c04e52394c234", func := "loop.example/tatting/laws.FnKidsOrder", spec := "fnKidsOrder", inPlace := ["internal/reflectlite.TypeOf"], unfollowed := true, recurses := true, named := ["loop.example/tatting/impl.errNoThing"], ifaces := true, plainKeys := false, apart := false, laid := [("loop.example/tatting/impl.errNoThing", laid_loop_example_tatting_impl_errNoThing)] }
def FnKidsOrderSaid : Prop := fnKidsOrderRow.holds Tryd.pinned (OpenSpec.ofChange fnKidsOrderSpec)

/-- ITS FALSE NEIGHBOUR: 'it returns false'. Refute it at one input. -/
def fnKidsOrderWrong : ChangeSpec := { name := "fnKidsOrder", vars := ["loop.example/tatting/impl.errNoThing"], fn := fun _ => fun
  | [d, g1] => { results := [.lit (.bool false)], args := [d], vars := [g1] }
  | _ => none }
def FnKidsOrderWrongFalsely : Prop := fnKidsOrderRow.holds Tryd.pinned (OpenSpec.ofChange fnKidsOrderWrong)

/-- 'laws.FnPutThere': WHATEVER THE INPUT: true; the input reads as it did. -/
def fnPutThereSpec : ChangeSpec := { name := "fnPutThere", vars := ["loop.example/tatting/impl.errNoThing"], fn := fun _ => fun
  | [d, g1] => { results := [.lit (.bool true)], args := [d], vars := [g1] }
  | _ => none }
def fnPutThereRow : OpenClaim := { program := "ytjgbickelgkljaadoor", sum := "f5f3976043fd1f52130112f79cb683940b4fc9e5aeac52c22d3c04e52394c234", func := "loop.example/tatting/laws.FnPutThere", spec := "fnPutThere", inPlace := ["internal/reflectlite.TypeOf"], unfollowed := true, recurses := true, named := ["loop.example/tatting/impl.errNoThing"], ifaces := true, plainKeys := false, apart := false, laid := [("loop.example/tatting/impl.errNoThing", laid_loop_example_tatting_impl_errNoThing)] }
def FnPutThereSaid : Prop := fnPutThereRow.holds Tryd.pinned (OpenSpec.ofChange fnPutThereSpec)

/-- ITS FALSE NEIGHBOUR: 'it returns false'. Refute it at one input. -/
def fnPutThereWrong : ChangeSpec := { name := "fnPutThere", vars := ["loop.example/tatting/impl.errNoThing"], fn := fun _ => fun
  | [d, g1] => { results := [.lit (.bool false)], args := [d], vars := [g1] }
  | _ => none }
def FnPutThereWrongFalsely : Prop := fnPutThereRow.holds Tryd.pinned (OpenSpec.ofChange fnPutThereWrong)

/-- 'laws.FnTakeThere': WHATEVER THE INPUT: true; the input reads as it did. -/
def fnTakeThereSpec : ChangeSpec := { name := "fnTakeThere", vars := ["loop.example/tatting/impl.errNoThing"], fn := fun _ => fun
  | [d, g1] => { results := [.lit (.bool true)], args := [d], vars := [g1] }
  | _ => none }
def fnTakeThereRow : OpenClaim := { program := "ytjgbickelgkljaadoor", sum := "f5f3976043fd1f52130112f79cb683940b4fc9e5aeac52c22d3c04e52394c234", func := "loop.example/tatting/laws.FnTakeThere", spec := "fnTakeThere", inPlace := ["internal/reflectlite.TypeOf"], unfollowed := true, recurses := true, named := ["loop.example/tatting/impl.errNoThing"], ifaces := true, plainKeys := false, apart := false, laid := [("loop.example/tatting/impl.errNoThing", laid_loop_example_tatting_impl_errNoThing)] }
def FnTakeThereSaid : Prop := fnTakeThereRow.holds Tryd.pinned (OpenSpec.ofChange fnTakeThereSpec)

/-- ITS FALSE NEIGHBOUR: 'it returns false'. Refute it at one input. -/
def fnTakeThereWrong : ChangeSpec := { name := "fnTakeThere", vars := ["loop.example/tatting/impl.errNoThing"], fn := fun _ => fun
  | [d, g1] => { results := [.lit (.bool false)], args := [d], vars := [g1] }
  | _ => none }
def FnTakeThereWrongFalsely : Prop := fnTakeThereRow.holds Tryd.pinned (OpenSpec.ofChange fnTakeThereWrong)

/-- 'laws.FnMarkBack': WHATEVER THE INPUT: true; the input reads as it did. -/
def fnMarkBackSpec : ChangeSpec := { name := "fnMarkBack", vars := ["loop.example/tatting/impl.errNoThing"], fn := fun _ => fun
  | [d, g1] => { results := [.lit (.bool true)], args := [d], vars := [g1] }
  | _ => none }
def fnMarkBackRow : OpenClaim := { program := "ytjgbickelgkljaadoor", sum := "f5f3976043fd1f52130112f79cb683940b4fc9e5aeac52c22d3c04e52394c234", func := "loop.example/tatting/laws.FnMarkBack", spec := "fnMarkBack", inPlace := ["internal/reflectlite.TypeOf"], unfollowed := true, recurses := true, named := ["loop.example/tatting/impl.errNoThing"], ifaces := true, plainKeys := false, apart := false, laid := [("loop.example/tatting/impl.errNoThing", laid_loop_example_tatting_impl_errNoThing)] }
def FnMarkBackSaid : Prop := fnMarkBackRow.holds Tryd.pinned (OpenSpec.ofChange fnMarkBackSpec)

/-- ITS FALSE NEIGHBOUR: 'it returns false'. Refute it at one input. -/
def fnMarkBackWrong : ChangeSpec := { name := "fnMarkBack", vars := ["loop.example/tatting/impl.errNoThing"], fn := fun _ => fun
  | [d, g1] => { results := [.lit (.bool false)], args := [d], vars := [g1] }
  | _ => none }
def FnMarkBackWrongFalsely : Prop := fnMarkBackRow.holds Tryd.pinned (OpenSpec.ofChange fnMarkBackWrong)

/-- 'laws.FnMarkEnd': WHATEVER THE INPUT: true; the input reads as it did. -/
def fnMarkEndSpec : ChangeSpec := { name := "fnMarkEnd", vars := ["loop.example/tatting/impl.errNoThing"], fn := fun _ => fun
  | [d, g1] => { results := [.lit (.bool true)], args := [d], vars := [g1] }
  | _ => none }
def fnMarkEndRow : OpenClaim := { program := "ytjgbickelgkljaadoor", sum := "f5f3976043fd1f52130112f79cb683940b4fc9e5aeac52c22d3c04e52394c234", func := "loop.example/tatting/laws.FnMarkEnd", spec := "fnMarkEnd", inPlace := ["internal/reflectlite.TypeOf"], unfollowed := true, recurses := true, named := ["loop.example/tatting/impl.errNoThing"], ifaces := true, plainKeys := false, apart := false, laid := [("loop.example/tatting/impl.errNoThing", laid_loop_example_tatting_impl_errNoThing)] }
def FnMarkEndSaid : Prop := fnMarkEndRow.holds Tryd.pinned (OpenSpec.ofChange fnMarkEndSpec)

/-- ITS FALSE NEIGHBOUR: 'it returns false'. Refute it at one input. -/
def fnMarkEndWrong : ChangeSpec := { name := "fnMarkEnd", vars := ["loop.example/tatting/impl.errNoThing"], fn := fun _ => fun
  | [d, g1] => { results := [.lit (.bool false)], args := [d], vars := [g1] }
  | _ => none }
def FnMarkEndWrongFalsely : Prop := fnMarkEndRow.holds Tryd.pinned (OpenSpec.ofChange fnMarkEndWrong)

/-- 'laws.FnSpanAll': WHATEVER THE INPUT: true; the input reads as it did. -/
def fnSpanAllSpec : ChangeSpec := { name := "fnSpanAll", vars := ["loop.example/tatting/impl.errNoThing"], fn := fun _ => fun
  | [d1, d2, g1] => { results := [.lit (.bool true)], args := [d1, d2], vars := [g1] }
  | _ => none }
def fnSpanAllRow : OpenClaim := { program := "ytjgbickelgkljaadoor", sum := "f5f3976043fd1f52130112f79cb683940b4fc9e5aeac52c22d3c04e52394c234", func := "loop.example/tatting/laws.FnSpanAll", spec := "fnSpanAll", inPlace := ["internal/reflectlite.TypeOf"], unfollowed := true, recurses := true, named := ["loop.example/tatting/impl.errNoThing"], ifaces := true, plainKeys := false, apart := false, laid := [("loop.example/tatting/impl.errNoThing", laid_loop_example_tatting_impl_errNoThing)] }
def FnSpanAllSaid : Prop := fnSpanAllRow.holds Tryd.pinned (OpenSpec.ofChange fnSpanAllSpec)

/-- ITS FALSE NEIGHBOUR: 'it returns false'. Refute it at one input. -/
def fnSpanAllWrong : ChangeSpec := { name := "fnSpanAll", vars := ["loop.example/tatting/impl.errNoThing"], fn := fun _ => fun
  | [d1, d2, g1] => { results := [.lit (.bool false)], args := [d1, d2], vars := [g1] }
  | _ => none }
def FnSpanAllWrongFalsely : Prop := fnSpanAllRow.holds Tryd.pinned (OpenSpec.ofChange fnSpanAllWrong)

/-- 'laws.FnMarkOrder': WHATEVER THE INPUT: true; the input reads as it did. -/
def fnMarkOrderSpec : ChangeSpec := { name := "fnMarkOrder", vars := ["loop.example/tatting/impl.errNoThing"], fn := fun _ => fun
  | [d, g1] => { results := [.lit (.bool true)], args := [d], vars := [g1] }
  | _ => none }
def fnMarkOrderRow : OpenClaim := { program := "ytjgbickelgkljaadoor", sum := "f5f3976043fd1f52130112f79cb683940b4fc9e5aeac52c22d3c04e52394c234", func := "loop.example/tatting/laws.FnMarkOrder", spec := "fnMarkOrder", inPlace := ["internal/reflectlite.TypeOf"], unfollowed := true, recurses := true, named := ["loop.example/tatting/impl.errNoThing"], ifaces := true, plainKeys := false, apart := false, laid := [("loop.example/tatting/impl.errNoThing", laid_loop_example_tatting_impl_errNoThing)] }
def FnMarkOrderSaid : Prop := fnMarkOrderRow.holds Tryd.pinned (OpenSpec.ofChange fnMarkOrderSpec)

/-- ITS FALSE NEIGHBOUR: 'it returns false'. Refute it at one input. -/
def fnMarkOrderWrong : ChangeSpec := { name := "fnMarkOrder", vars := ["loop.example/tatting/impl.errNoThing"], fn := fun _ => fun
  | [d, g1] => { results := [.lit (.bool false)], args := [d], vars := [g1] }
  | _ => none }
def FnMarkOrderWrongFalsely : Prop := fnMarkOrderRow.holds Tryd.pinned (OpenSpec.ofChange fnMarkOrderWrong)

/- THE SECOND FORM. 'bulk': how many values and letters a reading holds, each counted each time it is reached (what is shared counts as often as it is met; a slice's spare places count too). A statement '..UptoSaid' is the law's where the arguments, and the package variables that the reading takes, are together of bulk at most 1048576: NARROWER than '..Said'. Prove '..Said' where nothing that the law and all that it calls make is longer than what came in: it says more and counts as full. Else prove '..UptoSaid'. A law counts once. -/
mutual
def uptoBulk {H : Type} : DataW H → Nat
  | .lit (.string bytes) => bytes.length + 1
  | .lit _ => 1
  | .nil => 1
  | .ptr d => uptoBulk d + 1
  | .slice elems spare => uptoBulkAll elems + uptoBulkAll spare + 1
  | .agg parts => uptoBulkAll parts + 1
  | .iface _ d => uptoBulk d + 1
  | .map entries => uptoBulkEntries entries + 1
  | .held _ => 1
def uptoBulkAll {H : Type} : List (DataW H) → Nat
  | [] => 0
  | d :: r => uptoBulk d + uptoBulkAll r
def uptoBulkEntries {H : Type} : List (Lit × DataW H) → Nat
  | [] => 0
  | x :: r => uptoBulkEntry x + uptoBulkEntries r
def uptoBulkEntry {H : Type} : Lit × DataW H → Nat
  | (.string bytes, d) => bytes.length + uptoBulk d + 1
  | (_, d) => uptoBulk d + 1
 end
def uptoSmall : (H : Type) → List (DataW H) → Bool := fun _ ds => decide (uptoBulkAll ds ≤ 1048576)
def OpenSpec.upto (s : _root_.Go.ChangeSpec) : _root_.Go.OpenSpec := { _root_.Go.OpenSpec.ofChange s with cond := some uptoSmall }

/-- 'laws.FnUptoIn', WHERE WHAT IT READS IS OF BULK AT MOST 1048576: true; the input reads as it did. -/
def fnUptoInUptoRow : OpenClaim := { program := "ytjgbickelgkljaadoor", sum := "f5f3976043fd1f52130112f79cb683940b4fc9e5aeac52c22d3c04e52394c234", func := "loop.example/tatting/laws.FnUptoIn", spec := "fnUptoIn", inPlace := ["internal/reflectlite.TypeOf"], unfollowed := true, recurses := true, named := ["loop.example/tatting/impl.errNoThing"], ifaces := true, plainKeys := false, apart := false, laid := [("loop.example/tatting/impl.errNoThing", laid_loop_example_tatting_impl_errNoThing)], narrowed := true }
def FnUptoInUptoSaid : Prop := fnUptoInUptoRow.holds Tryd.pinned (OpenSpec.upto fnUptoInSpec)

/-- 'laws.FnMergeSeen', WHERE WHAT IT READS IS OF BULK AT MOST 1048576: true; the input reads as it did. -/
def fnMergeSeenUptoRow : OpenClaim := { program := "ytjgbickelgkljaadoor", sum := "f5f3976043fd1f52130112f79cb683940b4fc9e5aeac52c22d3c04e52394c234", func := "loop.example/tatting/laws.FnMergeSeen", spec := "fnMergeSeen", inPlace := ["internal/reflectlite.TypeOf"], unfollowed := true, recurses := true, named := ["loop.example/tatting/impl.errNoThing"], ifaces := true, plainKeys := false, apart := false, laid := [("loop.example/tatting/impl.errNoThing", laid_loop_example_tatting_impl_errNoThing)], narrowed := true }
def FnMergeSeenUptoSaid : Prop := fnMergeSeenUptoRow.holds Tryd.pinned (OpenSpec.upto fnMergeSeenSpec)

/-- 'laws.FnInOrder', WHERE WHAT IT READS IS OF BULK AT MOST 1048576: true; the input reads as it did. -/
def fnInOrderUptoRow : OpenClaim := { program := "ytjgbickelgkljaadoor", sum := "f5f3976043fd1f52130112f79cb683940b4fc9e5aeac52c22d3c04e52394c234", func := "loop.example/tatting/laws.FnInOrder", spec := "fnInOrder", inPlace := ["internal/reflectlite.TypeOf"], unfollowed := true, recurses := true, named := ["loop.example/tatting/impl.errNoThing"], ifaces := true, plainKeys := false, apart := false, laid := [("loop.example/tatting/impl.errNoThing", laid_loop_example_tatting_impl_errNoThing)], narrowed := true }
def FnInOrderUptoSaid : Prop := fnInOrderUptoRow.holds Tryd.pinned (OpenSpec.upto fnInOrderSpec)

/-- 'laws.FnOpsBefore', WHERE WHAT IT READS IS OF BULK AT MOST 1048576: true; the input reads as it did. -/
def fnOpsBeforeUptoRow : OpenClaim := { program := "ytjgbickelgkljaadoor", sum := "f5f3976043fd1f52130112f79cb683940b4fc9e5aeac52c22d3c04e52394c234", func := "loop.example/tatting/laws.FnOpsBefore", spec := "fnOpsBefore", inPlace := ["internal/reflectlite.TypeOf"], unfollowed := true, recurses := true, named := ["loop.example/tatting/impl.errNoThing"], ifaces := true, plainKeys := false, apart := false, laid := [("loop.example/tatting/impl.errNoThing", laid_loop_example_tatting_impl_errNoThing)], narrowed := true }
def FnOpsBeforeUptoSaid : Prop := fnOpsBeforeUptoRow.holds Tryd.pinned (OpenSpec.upto fnOpsBeforeSpec)

/-- 'laws.FnOpsLess', WHERE WHAT IT READS IS OF BULK AT MOST 1048576: true; the input reads as it did. -/
def fnOpsLessUptoRow : OpenClaim := { program := "ytjgbickelgkljaadoor", sum := "f5f3976043fd1f52130112f79cb683940b4fc9e5aeac52c22d3c04e52394c234", func := "loop.example/tatting/laws.FnOpsLess", spec := "fnOpsLess", inPlace := ["internal/reflectlite.TypeOf"], unfollowed := true, recurses := true, named := ["loop.example/tatting/impl.errNoThing"], ifaces := true, plainKeys := false, apart := false, laid := [("loop.example/tatting/impl.errNoThing", laid_loop_example_tatting_impl_errNoThing)], narrowed := true }
def FnOpsLessUptoSaid : Prop := fnOpsLessUptoRow.holds Tryd.pinned (OpenSpec.upto fnOpsLessSpec)

/-- 'laws.FnKidsOrder', WHERE WHAT IT READS IS OF BULK AT MOST 1048576: true; the input reads as it did. -/
def fnKidsOrderUptoRow : OpenClaim := { program := "ytjgbickelgkljaadoor", sum := "f5f3976043fd1f52130112f79cb683940b4fc9e5aeac52c22d3c04e52394c234", func := "loop.example/tatting/laws.FnKidsOrder", spec := "fnKidsOrder", inPlace := ["internal/reflectlite.TypeOf"], unfollowed := true, recurses := true, named := ["loop.example/tatting/impl.errNoThing"], ifaces := true, plainKeys := false, apart := false, laid := [("loop.example/tatting/impl.errNoThing", laid_loop_example_tatting_impl_errNoThing)], narrowed := true }
def FnKidsOrderUptoSaid : Prop := fnKidsOrderUptoRow.holds Tryd.pinned (OpenSpec.upto fnKidsOrderSpec)

/-- 'laws.FnPutThere', WHERE WHAT IT READS IS OF BULK AT MOST 1048576: true; the input reads as it did. -/
def fnPutThereUptoRow : OpenClaim := { program := "ytjgbickelgkljaadoor", sum := "f5f3976043fd1f52130112f79cb683940b4fc9e5aeac52c22d3c04e52394c234", func := "loop.example/tatting/laws.FnPutThere", spec := "fnPutThere", inPlace := ["internal/reflectlite.TypeOf"], unfollowed := true, recurses := true, named := ["loop.example/tatting/impl.errNoThing"], ifaces := true, plainKeys := false, apart := false, laid := [("loop.example/tatting/impl.errNoThing", laid_loop_example_tatting_impl_errNoThing)], narrowed := true }
def FnPutThereUptoSaid : Prop := fnPutThereUptoRow.holds Tryd.pinned (OpenSpec.upto fnPutThereSpec)

/-- 'laws.FnTakeThere', WHERE WHAT IT READS IS OF BULK AT MOST 1048576: true; the input reads as it did. -/
def fnTakeThereUptoRow : OpenClaim := { program := "ytjgbickelgkljaadoor", sum := "f5f3976043fd1f52130112f79cb683940b4fc9e5aeac52c22d3c04e52394c234", func := "loop.example/tatting/laws.FnTakeThere", spec := "fnTakeThere", inPlace := ["internal/reflectlite.TypeOf"], unfollowed := true, recurses := true, named := ["loop.example/tatting/impl.errNoThing"], ifaces := true, plainKeys := false, apart := false, laid := [("loop.example/tatting/impl.errNoThing", laid_loop_example_tatting_impl_errNoThing)], narrowed := true }
def FnTakeThereUptoSaid : Prop := fnTakeThereUptoRow.holds Tryd.pinned (OpenSpec.upto fnTakeThereSpec)

/-- 'laws.FnMarkBack', WHERE WHAT IT READS IS OF BULK AT MOST 1048576: true; the input reads as it did. -/
def fnMarkBackUptoRow : OpenClaim := { program := "ytjgbickelgkljaadoor", sum := "f5f3976043fd1f52130112f79cb683940b4fc9e5aeac52c22d3c04e52394c234", func := "loop.example/tatting/laws.FnMarkBack", spec := "fnMarkBack", inPlace := ["internal/reflectlite.TypeOf"], unfollowed := true, recurses := true, named := ["loop.example/tatting/impl.errNoThing"], ifaces := true, plainKeys := false, apart := false, laid := [("loop.example/tatting/impl.errNoThing", laid_loop_example_tatting_impl_errNoThing)], narrowed := true }
def FnMarkBackUptoSaid : Prop := fnMarkBackUptoRow.holds Tryd.pinned (OpenSpec.upto fnMarkBackSpec)

/-- 'laws.FnMarkEnd', WHERE WHAT IT READS IS OF BULK AT MOST 1048576: true; the input reads as it did. -/
def fnMarkEndUptoRow : OpenClaim := { program := "ytjgbickelgkljaadoor", sum := "f5f3976043fd1f52130112f79cb683940b4fc9e5aeac52c22d3c04e52394c234", func := "loop.example/tatting/laws.FnMarkEnd", spec := "fnMarkEnd", inPlace := ["internal/reflectlite.TypeOf"], unfollowed := true, recurses := true, named := ["loop.example/tatting/impl.errNoThing"], ifaces := true, plainKeys := false, apart := false, laid := [("loop.example/tatting/impl.errNoThing", laid_loop_example_tatting_impl_errNoThing)], narrowed := true }
def FnMarkEndUptoSaid : Prop := fnMarkEndUptoRow.holds Tryd.pinned (OpenSpec.upto fnMarkEndSpec)

/-- 'laws.FnSpanAll', WHERE WHAT IT READS IS OF BULK AT MOST 1048576: true; the input reads as it did. -/
def fnSpanAllUptoRow : OpenClaim := { program := "ytjgbickelgkljaadoor", sum := "f5f3976043fd1f52130112f79cb683940b4fc9e5aeac52c22d3c04e52394c234", func := "loop.example/tatting/laws.FnSpanAll", spec := "fnSpanAll", inPlace := ["internal/reflectlite.TypeOf"], unfollowed := true, recurses := true, named := ["loop.example/tatting/impl.errNoThing"], ifaces := true, plainKeys := false, apart := false, laid := [("loop.example/tatting/impl.errNoThing", laid_loop_example_tatting_impl_errNoThing)], narrowed := true }
def FnSpanAllUptoSaid : Prop := fnSpanAllUptoRow.holds Tryd.pinned (OpenSpec.upto fnSpanAllSpec)

/-- 'laws.FnMarkOrder', WHERE WHAT IT READS IS OF BULK AT MOST 1048576: true; the input reads as it did. -/
def fnMarkOrderUptoRow : OpenClaim := { program := "ytjgbickelgkljaadoor", sum := "f5f3976043fd1f52130112f79cb683940b4fc9e5aeac52c22d3c04e52394c234", func := "loop.example/tatting/laws.FnMarkOrder", spec := "fnMarkOrder", inPlace := ["internal/reflectlite.TypeOf"], unfollowed := true, recurses := true, named := ["loop.example/tatting/impl.errNoThing"], ifaces := true, plainKeys := false, apart := false, laid := [("loop.example/tatting/impl.errNoThing", laid_loop_example_tatting_impl_errNoThing)], narrowed := true }
def FnMarkOrderUptoSaid : Prop := fnMarkOrderUptoRow.holds Tryd.pinned (OpenSpec.upto fnMarkOrderSpec)

end Rows
end Go.Proofs.YtjgbickelgkljaaDoor
