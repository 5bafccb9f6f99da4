/-
  NARROWER THAN 'FOR EVERY INPUT', by the rows' own cells (each row's printed sentence says how): FnExactOpsWith: ifaces, laid · FnExactTypeTake: ifaces, laid · FnExactTypePut: ifaces, laid · FnExactTypeRun: ifaces, laid · FnExactDocOk: ifaces, laid · FnExactDocHear: ifaces, laid · FnExactDocAll: ifaces, laid.
  DERIVED. THE GIVEN ROWS OF THIS SEAT. 7 by the template 'for every input the law returns true; each argument reads behind the call as it read before'; 0 by the template 'total and deterministic' (their statements: YtfdhhebgefoalaaDoorTotals.lean).
  GIVEN WITH THE SEED: the statements are not yours to turn. If you find one false, say at which input.
  Laid BY PROGRAM, IN A SANDBOX (cutbox-rows.mjs): the forced cells as the released guide's own fill.sh prints them over the translation e08ab4feaf4fba30… (all of the seat's roots in one cut). By AI agents, Wed Nov 11 2026. No macro, syntax, notation, axiom, sorry.
-/
import Derived.Test.YtfdhhebgefoalaaDoorChecked
import GoSem.Claim
import GoSem.ClaimJoined
import GoSem.ClaimMapViews
import Derived.JoinedTies
import Derived.KernelRfl
namespace Go.Proofs.YtfdhhebgefoalaaDoor
/- THE CELL 'sum', in the pinned program and in every row, IS THE sha256 OF THE DUMP (.gsa) THAT YtfdhhebgefoalaaDoorProg.lean LOADS. Nothing in Lean hashes anything: it is a label: what it is worth is what the hold of that sum in a sandbox is worth. -/
noncomputable def Tryd.pinned : Pinned := { name := "ytfdhhebgefoalaadoor", sum := "e08ab4feaf4fba30344b3abeb4181546125bbe9c15a72b8a2b6ffce0f6f81211", checked := Tryd.checked }
namespace Rows
def none {H : Type} : Left H := { results := [], args := [] }

/- WHAT THE LISTED PACKAGE-LEVEL VARIABLES READ AS WHEN THE CALL BEGINS. Each datum BY PROGRAM (the guide's laid-datum.mjs) off the statement by which the dump's own 'gosem.cut.vars' lays the variable. In a bare row this is a premise. The card (YtfdhhebgefoalaaDoorCards.lean) ties it to the program's text. -/
def laid_loop_example_tatting_impl_errNoThing {H : Type} : DataW H := .iface "*errors.errorString" (.ptr (.agg [.lit (.string [110, 111, 32, 116, 104, 105, 110, 103, 32, 116, 104, 97, 116, 32, 99, 97, 110, 32, 104, 97, 118, 101, 32, 98, 101, 101, 110, 32, 100, 111, 110, 101])]))

/-- 'laws.FnExactOpsWith': WHATEVER THE INPUT: true; the input reads as it did. -/
def fnExactOpsWithSpec : ChangeSpec := { name := "fnExactOpsWith", vars := ["loop.example/tatting/impl.errNoThing"], fn := fun _ => fun
  | [d1, d2, g1] => { results := [.lit (.bool true)], args := [d1, d2], vars := [g1] }
  | _ => none }
def fnExactOpsWithRow : OpenClaim := { program := "ytfdhhebgefoalaadoor", sum := "e08ab4feaf4fba30344b3abeb4181546125bbe9c15a72b8a2b6ffce0f6f81211", func := "loop.example/tatting/laws.FnExactOpsWith", spec := "fnExactOpsWith", inPlace := ["internal/reflectlite.TypeOf"], unfollowed := true, recurses := true, named := ["loop.example/tatting/impl.errNoThing"], ifaces := true, plainKeys := false, apart := false, laid := [("loop.example/tatting/impl.errNoThing", laid_loop_example_tatting_impl_errNoThing)] }
def FnExactOpsWithSaid : Prop := fnExactOpsWithRow.holds Tryd.pinned (OpenSpec.ofChange fnExactOpsWithSpec)

/-- ITS FALSE NEIGHBOUR: 'it returns false'. Refute it at one input. -/
def fnExactOpsWithWrong : ChangeSpec := { name := "fnExactOpsWith", vars := ["loop.example/tatting/impl.errNoThing"], fn := fun _ => fun
  | [d1, d2, g1] => { results := [.lit (.bool false)], args := [d1, d2], vars := [g1] }
  | _ => none }
def FnExactOpsWithWrongFalsely : Prop := fnExactOpsWithRow.holds Tryd.pinned (OpenSpec.ofChange fnExactOpsWithWrong)

/-- 'laws.FnExactTypeTake': WHATEVER THE INPUT: true; the input reads as it did. -/
def fnExactTypeTakeSpec : ChangeSpec := { name := "fnExactTypeTake", vars := ["loop.example/tatting/impl.errNoThing"], fn := fun _ => fun
  | [d1, d2, d3, g1] => { results := [.lit (.bool true)], args := [d1, d2, d3], vars := [g1] }
  | _ => none }
def fnExactTypeTakeRow : OpenClaim := { program := "ytfdhhebgefoalaadoor", sum := "e08ab4feaf4fba30344b3abeb4181546125bbe9c15a72b8a2b6ffce0f6f81211", func := "loop.example/tatting/laws.FnExactTypeTake", spec := "fnExactTypeTake", inPlace := ["internal/reflectlite.TypeOf"], unfollowed := true, recurses := true, named := ["loop.example/tatting/impl.errNoThing"], ifaces := true, plainKeys := false, apart := false, laid := [("loop.example/tatting/impl.errNoThing", laid_loop_example_tatting_impl_errNoThing)] }
def FnExactTypeTakeSaid : Prop := fnExactTypeTakeRow.holds Tryd.pinned (OpenSpec.ofChange fnExactTypeTakeSpec)

/-- ITS FALSE NEIGHBOUR: 'it returns false'. Refute it at one input. -/
def fnExactTypeTakeWrong : ChangeSpec := { name := "fnExactTypeTake", vars := ["loop.example/tatting/impl.errNoThing"], fn := fun _ => fun
  | [d1, d2, d3, g1] => { results := [.lit (.bool false)], args := [d1, d2, d3], vars := [g1] }
  | _ => none }
def FnExactTypeTakeWrongFalsely : Prop := fnExactTypeTakeRow.holds Tryd.pinned (OpenSpec.ofChange fnExactTypeTakeWrong)

/-- 'laws.FnExactTypePut': WHATEVER THE INPUT: true; the input reads as it did. -/
def fnExactTypePutSpec : ChangeSpec := { name := "fnExactTypePut", vars := ["loop.example/tatting/impl.errNoThing"], fn := fun _ => fun
  | [d1, d2, d3, d4, g1] => { results := [.lit (.bool true)], args := [d1, d2, d3, d4], vars := [g1] }
  | _ => none }
def fnExactTypePutRow : OpenClaim := { program := "ytfdhhebgefoalaadoor", sum := "e08ab4feaf4fba30344b3abeb4181546125bbe9c15a72b8a2b6ffce0f6f81211", func := "loop.example/tatting/laws.FnExactTypePut", spec := "fnExactTypePut", inPlace := ["internal/reflectlite.TypeOf"], unfollowed := true, recurses := true, named := ["loop.example/tatting/impl.errNoThing"], ifaces := true, plainKeys := false, apart := false, laid := [("loop.example/tatting/impl.errNoThing", laid_loop_example_tatting_impl_errNoThing)] }
def FnExactTypePutSaid : Prop := fnExactTypePutRow.holds Tryd.pinned (OpenSpec.ofChange fnExactTypePutSpec)

/-- ITS FALSE NEIGHBOUR: 'it returns false'. Refute it at one input. -/
def fnExactTypePutWrong : ChangeSpec := { name := "fnExactTypePut", vars := ["loop.example/tatting/impl.errNoThing"], fn := fun _ => fun
  | [d1, d2, d3, d4, g1] => { results := [.lit (.bool false)], args := [d1, d2, d3, d4], vars := [g1] }
  | _ => none }
def FnExactTypePutWrongFalsely : Prop := fnExactTypePutRow.holds Tryd.pinned (OpenSpec.ofChange fnExactTypePutWrong)

/-- 'laws.FnExactTypeRun': WHATEVER THE INPUT: true; the input reads as it did. -/
def fnExactTypeRunSpec : ChangeSpec := { name := "fnExactTypeRun", vars := ["loop.example/tatting/impl.errNoThing"], fn := fun _ => fun
  | [d1, d2, d3, d4, g1] => { results := [.lit (.bool true)], args := [d1, d2, d3, d4], vars := [g1] }
  | _ => none }
def fnExactTypeRunRow : OpenClaim := { program := "ytfdhhebgefoalaadoor", sum := "e08ab4feaf4fba30344b3abeb4181546125bbe9c15a72b8a2b6ffce0f6f81211", func := "loop.example/tatting/laws.FnExactTypeRun", spec := "fnExactTypeRun", inPlace := ["internal/reflectlite.TypeOf"], unfollowed := true, recurses := true, named := ["loop.example/tatting/impl.errNoThing"], ifaces := true, plainKeys := false, apart := false, laid := [("loop.example/tatting/impl.errNoThing", laid_loop_example_tatting_impl_errNoThing)] }
def FnExactTypeRunSaid : Prop := fnExactTypeRunRow.holds Tryd.pinned (OpenSpec.ofChange fnExactTypeRunSpec)

/-- ITS FALSE NEIGHBOUR: 'it returns false'. Refute it at one input. -/
def fnExactTypeRunWrong : ChangeSpec := { name := "fnExactTypeRun", vars := ["loop.example/tatting/impl.errNoThing"], fn := fun _ => fun
  | [d1, d2, d3, d4, g1] => { results := [.lit (.bool false)], args := [d1, d2, d3, d4], vars := [g1] }
  | _ => none }
def FnExactTypeRunWrongFalsely : Prop := fnExactTypeRunRow.holds Tryd.pinned (OpenSpec.ofChange fnExactTypeRunWrong)

/-- 'laws.FnExactDocOk': WHATEVER THE INPUT: true; the input reads as it did. -/
def fnExactDocOkSpec : ChangeSpec := { name := "fnExactDocOk", vars := ["loop.example/tatting/impl.errNoThing"], fn := fun _ => fun
  | [d, g1] => { results := [.lit (.bool true)], args := [d], vars := [g1] }
  | _ => none }
def fnExactDocOkRow : OpenClaim := { program := "ytfdhhebgefoalaadoor", sum := "e08ab4feaf4fba30344b3abeb4181546125bbe9c15a72b8a2b6ffce0f6f81211", func := "loop.example/tatting/laws.FnExactDocOk", spec := "fnExactDocOk", inPlace := ["internal/reflectlite.TypeOf"], unfollowed := true, recurses := true, named := ["loop.example/tatting/impl.errNoThing"], ifaces := true, plainKeys := false, apart := false, laid := [("loop.example/tatting/impl.errNoThing", laid_loop_example_tatting_impl_errNoThing)] }
def FnExactDocOkSaid : Prop := fnExactDocOkRow.holds Tryd.pinned (OpenSpec.ofChange fnExactDocOkSpec)

/-- ITS FALSE NEIGHBOUR: 'it returns false'. Refute it at one input. -/
def fnExactDocOkWrong : ChangeSpec := { name := "fnExactDocOk", vars := ["loop.example/tatting/impl.errNoThing"], fn := fun _ => fun
  | [d, g1] => { results := [.lit (.bool false)], args := [d], vars := [g1] }
  | _ => none }
def FnExactDocOkWrongFalsely : Prop := fnExactDocOkRow.holds Tryd.pinned (OpenSpec.ofChange fnExactDocOkWrong)

/-- 'laws.FnExactDocHear': WHATEVER THE INPUT: true; the input reads as it did. -/
def fnExactDocHearSpec : ChangeSpec := { name := "fnExactDocHear", vars := ["loop.example/tatting/impl.errNoThing"], fn := fun _ => fun
  | [d1, d2, g1] => { results := [.lit (.bool true)], args := [d1, d2], vars := [g1] }
  | _ => none }
def fnExactDocHearRow : OpenClaim := { program := "ytfdhhebgefoalaadoor", sum := "e08ab4feaf4fba30344b3abeb4181546125bbe9c15a72b8a2b6ffce0f6f81211", func := "loop.example/tatting/laws.FnExactDocHear", spec := "fnExactDocHear", inPlace := ["internal/reflectlite.TypeOf"], unfollowed := true, recurses := true, named := ["loop.example/tatting/impl.errNoThing"], ifaces := true, plainKeys := false, apart := false, laid := [("loop.example/tatting/impl.errNoThing", laid_loop_example_tatting_impl_errNoThing)] }
def FnExactDocHearSaid : Prop := fnExactDocHearRow.holds Tryd.pinned (OpenSpec.ofChange fnExactDocHearSpec)

/-- ITS FALSE NEIGHBOUR: 'it returns false'. Refute it at one input. -/
def fnExactDocHearWrong : ChangeSpec := { name := "fnExactDocHear", vars := ["loop.example/tatting/impl.errNoThing"], fn := fun _ => fun
  | [d1, d2, g1] => { results := [.lit (.bool false)], args := [d1, d2], vars := [g1] }
  | _ => none }
def FnExactDocHearWrongFalsely : Prop := fnExactDocHearRow.holds Tryd.pinned (OpenSpec.ofChange fnExactDocHearWrong)

/-- 'laws.FnExactDocAll': WHATEVER THE INPUT: true; the input reads as it did. -/
def fnExactDocAllSpec : ChangeSpec := { name := "fnExactDocAll", vars := ["loop.example/tatting/impl.errNoThing"], fn := fun _ => fun
  | [d1, d2, g1] => { results := [.lit (.bool true)], args := [d1, d2], vars := [g1] }
  | _ => none }
def fnExactDocAllRow : OpenClaim := { program := "ytfdhhebgefoalaadoor", sum := "e08ab4feaf4fba30344b3abeb4181546125bbe9c15a72b8a2b6ffce0f6f81211", func := "loop.example/tatting/laws.FnExactDocAll", spec := "fnExactDocAll", inPlace := ["internal/reflectlite.TypeOf"], unfollowed := true, recurses := true, named := ["loop.example/tatting/impl.errNoThing"], ifaces := true, plainKeys := false, apart := false, laid := [("loop.example/tatting/impl.errNoThing", laid_loop_example_tatting_impl_errNoThing)] }
def FnExactDocAllSaid : Prop := fnExactDocAllRow.holds Tryd.pinned (OpenSpec.ofChange fnExactDocAllSpec)

/-- ITS FALSE NEIGHBOUR: 'it returns false'. Refute it at one input. -/
def fnExactDocAllWrong : ChangeSpec := { name := "fnExactDocAll", vars := ["loop.example/tatting/impl.errNoThing"], fn := fun _ => fun
  | [d1, d2, g1] => { results := [.lit (.bool false)], args := [d1, d2], vars := [g1] }
  | _ => none }
def FnExactDocAllWrongFalsely : Prop := fnExactDocAllRow.holds Tryd.pinned (OpenSpec.ofChange fnExactDocAllWrong)

/- THE SECOND FORM. 'bulk': how many values and letters a reading holds, each counted each time it is reached (what is shared counts as often as it is met; a slice's spare places count too). A statement '..UptoSaid' is the law's where the arguments, and the package variables that the reading takes, are together of bulk at most 1048576: NARROWER than '..Said'. Prove '..Said' where nothing that the law and all that it calls make is longer than what came in: it says more and counts as full. Else prove '..UptoSaid'. A law counts once. -/
mutual
def uptoBulk {H : Type} : DataW H → Nat
  | .lit (.string bytes) => bytes.length + 1
  | .lit _ => 1
  | .nil => 1
  | .ptr d => uptoBulk d + 1
  | .slice elems spare => uptoBulkAll elems + uptoBulkAll spare + 1
  | .agg parts => uptoBulkAll parts + 1
  | .iface _ d => uptoBulk d + 1
  | .map entries => uptoBulkEntries entries + 1
  | .held _ => 1
def uptoBulkAll {H : Type} : List (DataW H) → Nat
  | [] => 0
  | d :: r => uptoBulk d + uptoBulkAll r
def uptoBulkEntries {H : Type} : List (Lit × DataW H) → Nat
  | [] => 0
  | x :: r => uptoBulkEntry x + uptoBulkEntries r
def uptoBulkEntry {H : Type} : Lit × DataW H → Nat
  | (.string bytes, d) => bytes.length + uptoBulk d + 1
  | (_, d) => uptoBulk d + 1
 end
def uptoSmall : (H : Type) → List (DataW H) → Bool := fun _ ds => decide (uptoBulkAll ds ≤ 1048576)
def OpenSpec.upto (s : _root_.Go.ChangeSpec) : _root_.Go.OpenSpec := { _root_.Go.OpenSpec.ofChange s with cond := some uptoSmall }

/-- 'laws.FnExactOpsWith', WHERE WHAT IT READS IS OF BULK AT MOST 1048576: true; the input reads as it did. -/
def fnExactOpsWithUptoRow : OpenClaim := { program := "ytfdhhebgefoalaadoor", sum := "e08ab4feaf4fba30344b3abeb4181546125bbe9c15a72b8a2b6ffce0f6f81211", func := "loop.example/tatting/laws.FnExactOpsWith", spec := "fnExactOpsWith", inPlace := ["internal/reflectlite.TypeOf"], unfollowed := true, recurses := true, named := ["loop.example/tatting/impl.errNoThing"], ifaces := true, plainKeys := false, apart := false, laid := [("loop.example/tatting/impl.errNoThing", laid_loop_example_tatting_impl_errNoThing)], narrowed := true }
def FnExactOpsWithUptoSaid : Prop := fnExactOpsWithUptoRow.holds Tryd.pinned (OpenSpec.upto fnExactOpsWithSpec)

/-- 'laws.FnExactTypeTake', WHERE WHAT IT READS IS OF BULK AT MOST 1048576: true; the input reads as it did. -/
def fnExactTypeTakeUptoRow : OpenClaim := { program := "ytfdhhebgefoalaadoor", sum := "e08ab4feaf4fba30344b3abeb4181546125bbe9c15a72b8a2b6ffce0f6f81211", func := "loop.example/tatting/laws.FnExactTypeTake", spec := "fnExactTypeTake", inPlace := ["internal/reflectlite.TypeOf"], unfollowed := true, recurses := true, named := ["loop.example/tatting/impl.errNoThing"], ifaces := true, plainKeys := false, apart := false, laid := [("loop.example/tatting/impl.errNoThing", laid_loop_example_tatting_impl_errNoThing)], narrowed := true }
def FnExactTypeTakeUptoSaid : Prop := fnExactTypeTakeUptoRow.holds Tryd.pinned (OpenSpec.upto fnExactTypeTakeSpec)

/-- 'laws.FnExactTypePut', WHERE WHAT IT READS IS OF BULK AT MOST 1048576: true; the input reads as it did. -/
def fnExactTypePutUptoRow : OpenClaim := { program := "ytfdhhebgefoalaadoor", sum := "e08ab4feaf4fba30344b3abeb4181546125bbe9c15a72b8a2b6ffce0f6f81211", func := "loop.example/tatting/laws.FnExactTypePut", spec := "fnExactTypePut", inPlace := ["internal/reflectlite.TypeOf"], unfollowed := true, recurses := true, named := ["loop.example/tatting/impl.errNoThing"], ifaces := true, plainKeys := false, apart := false, laid := [("loop.example/tatting/impl.errNoThing", laid_loop_example_tatting_impl_errNoThing)], narrowed := true }
def FnExactTypePutUptoSaid : Prop := fnExactTypePutUptoRow.holds Tryd.pinned (OpenSpec.upto fnExactTypePutSpec)

/-- 'laws.FnExactTypeRun', WHERE WHAT IT READS IS OF BULK AT MOST 1048576: true; the input reads as it did. -/
def fnExactTypeRunUptoRow : OpenClaim := { program := "ytfdhhebgefoalaadoor", sum := "e08ab4feaf4fba30344b3abeb4181546125bbe9c15a72b8a2b6ffce0f6f81211", func := "loop.example/tatting/laws.FnExactTypeRun", spec := "fnExactTypeRun", inPlace := ["internal/reflectlite.TypeOf"], unfollowed := true, recurses := true, named := ["loop.example/tatting/impl.errNoThing"], ifaces := true, plainKeys := false, apart := false, laid := [("loop.example/tatting/impl.errNoThing", laid_loop_example_tatting_impl_errNoThing)], narrowed := true }
def FnExactTypeRunUptoSaid : Prop := fnExactTypeRunUptoRow.holds Tryd.pinned (OpenSpec.upto fnExactTypeRunSpec)

/-- 'laws.FnExactDocOk', WHERE WHAT IT READS IS OF BULK AT MOST 1048576: true; the input reads as it did. -/
def fnExactDocOkUptoRow : OpenClaim := { program := "ytfdhhebgefoalaadoor", sum := "e08ab4feaf4fba30344b3abeb4181546125bbe9c15a72b8a2b6ffce0f6f81211", func := "loop.example/tatting/laws.FnExactDocOk", spec := "fnExactDocOk", inPlace := ["internal/reflectlite.TypeOf"], unfollowed := true, recurses := true, named := ["loop.example/tatting/impl.errNoThing"], ifaces := true, plainKeys := false, apart := false, laid := [("loop.example/tatting/impl.errNoThing", laid_loop_example_tatting_impl_errNoThing)], narrowed := true }
def FnExactDocOkUptoSaid : Prop := fnExactDocOkUptoRow.holds Tryd.pinned (OpenSpec.upto fnExactDocOkSpec)

/-- 'laws.FnExactDocHear', WHERE WHAT IT READS IS OF BULK AT MOST 1048576: true; the input reads as it did. -/
def fnExactDocHearUptoRow : OpenClaim := { program := "ytfdhhebgefoalaadoor", sum := "e08ab4feaf4fba30344b3abeb4181546125bbe9c15a72b8a2b6ffce0f6f81211", func := "loop.example/tatting/laws.FnExactDocHear", spec := "fnExactDocHear", inPlace := ["internal/reflectlite.TypeOf"], unfollowed := true, recurses := true, named := ["loop.example/tatting/impl.errNoThing"], ifaces := true, plainKeys := false, apart := false, laid := [("loop.example/tatting/impl.errNoThing", laid_loop_example_tatting_impl_errNoThing)], narrowed := true }
def FnExactDocHearUptoSaid : Prop := fnExactDocHearUptoRow.holds Tryd.pinned (OpenSpec.upto fnExactDocHearSpec)

/-- 'laws.FnExactDocAll', WHERE WHAT IT READS IS OF BULK AT MOST 1048576: true; the input reads as it did. -/
def fnExactDocAllUptoRow : OpenClaim := { program := "ytfdhhebgefoalaadoor", sum := "e08ab4feaf4fba30344b3abeb4181546125bbe9c15a72b8a2b6ffce0f6f81211", func := "loop.example/tatting/laws.FnExactDocAll", spec := "fnExactDocAll", inPlace := ["internal/reflectlite.TypeOf"], unfollowed := true, recurses := true, named := ["loop.example/tatting/impl.errNoThing"], ifaces := true, plainKeys := false, apart := false, laid := [("loop.example/tatting/impl.errNoThing", laid_loop_example_tatting_impl_errNoThing)], narrowed := true }
def FnExactDocAllUptoSaid : Prop := fnExactDocAllUptoRow.holds Tryd.pinned (OpenSpec.upto fnExactDocAllSpec)

end Rows
end Go.Proofs.YtfdhhebgefoalaaDoor
