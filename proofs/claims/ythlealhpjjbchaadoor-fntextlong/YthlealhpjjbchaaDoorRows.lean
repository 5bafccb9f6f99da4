/-
  NARROWER THAN 'FOR EVERY INPUT', by the rows' own cells (each row's printed sentence says how): FnOpsSeen: ifaces, laid · FnOpsFind: ifaces, laid · FnTextLeaves: ifaces, laid · FnTextLong: ifaces, laid.
  DERIVED. THE GIVEN ROWS OF THIS SEAT. 4 by the template 'for every input the law returns true; each argument reads behind the call as it read before'; 0 by the template 'total and deterministic' (their statements: YthlealhpjjbchaaDoorTotals.lean).
  GIVEN WITH THE SEED: the statements are not yours to turn. If you find one false, say at which input.
  Laid BY PROGRAM, IN A SANDBOX (cutbox-rows.mjs): the forced cells as the released guide's own fill.sh prints them over the translation 1bdfdb737c4427d5… (all of the seat's roots in one cut). By AI agents, Wed Nov 11 2026. No macro, syntax, notation, axiom, sorry.
-/
import Derived.Test.YthlealhpjjbchaaDoorChecked
import GoSem.Claim
import GoSem.ClaimJoined
import GoSem.ClaimMapViews
import Derived.JoinedTies
import Derived.KernelRfl
namespace Go.Proofs.YthlealhpjjbchaaDoor
/- THE CELL 'sum', in the pinned program and in every row, IS THE sha256 OF THE DUMP (.gsa) THAT YthlealhpjjbchaaDoorProg.lean LOADS. Nothing in Lean hashes anything: it is a label: what it is worth is what the hold of that sum in a sandbox is worth. -/
noncomputable def Tryd.pinned : Pinned := { name := "ythlealhpjjbchaadoor", sum := "1bdfdb737c4427d58697864ac71cef64a13005321e15ce7d711f4e1a25b4228b", checked := Tryd.checked }
namespace Rows
def none {H : Type} : Left H := { results := [], args := [] }

/- WHAT THE LISTED PACKAGE-LEVEL VARIABLES READ AS WHEN THE CALL BEGINS. Each datum BY PROGRAM (the guide's laid-datum.mjs) off the statement by which the dump's own 'gosem.cut.vars' lays the variable. In a bare row this is a premise. The card (YthlealhpjjbchaaDoorCards.lean) ties it to the program's text. -/
def laid_loop_example_tatting_impl_errNoThing {H : Type} : DataW H := .iface "*errors.errorString" (.ptr (.agg [.lit (.string [110, 111, 32, 116, 104, 105, 110, 103, 32, 116, 104, 97, 116, 32, 99, 97, 110, 32, 104, 97, 118, 101, 32, 98, 101, 101, 110, 32, 100, 111, 110, 101])]))

/-- 'laws.FnOpsSeen': WHATEVER THE INPUT: true; the input reads as it did. -/
def fnOpsSeenSpec : ChangeSpec := { name := "fnOpsSeen", vars := ["loop.example/tatting/impl.errNoThing"], fn := fun _ => fun
  | [d, g1] => { results := [.lit (.bool true)], args := [d], vars := [g1] }
  | _ => none }
def fnOpsSeenRow : OpenClaim := { program := "ythlealhpjjbchaadoor", sum := "1bdfdb737c4427d58697864ac71cef64a13005321e15ce7d711f4e1a25b4228b", func := "loop.example/tatting/laws.FnOpsSeen", spec := "fnOpsSeen", inPlace := ["internal/reflectlite.TypeOf"], unfollowed := true, recurses := true, named := ["loop.example/tatting/impl.errNoThing"], ifaces := true, plainKeys := false, apart := false, laid := [("loop.example/tatting/impl.errNoThing", laid_loop_example_tatting_impl_errNoThing)] }
def FnOpsSeenSaid : Prop := fnOpsSeenRow.holds Tryd.pinned (OpenSpec.ofChange fnOpsSeenSpec)

/-- ITS FALSE NEIGHBOUR: 'it returns false'. Refute it at one input. -/
def fnOpsSeenWrong : ChangeSpec := { name := "fnOpsSeen", vars := ["loop.example/tatting/impl.errNoThing"], fn := fun _ => fun
  | [d, g1] => { results := [.lit (.bool false)], args := [d], vars := [g1] }
  | _ => none }
def FnOpsSeenWrongFalsely : Prop := fnOpsSeenRow.holds Tryd.pinned (OpenSpec.ofChange fnOpsSeenWrong)

/-- 'laws.FnOpsFind': WHATEVER THE INPUT: true; the input reads as it did. -/
def fnOpsFindSpec : ChangeSpec := { name := "fnOpsFind", vars := ["loop.example/tatting/impl.errNoThing"], fn := fun _ => fun
  | [d, g1] => { results := [.lit (.bool true)], args := [d], vars := [g1] }
  | _ => none }
def fnOpsFindRow : OpenClaim := { program := "ythlealhpjjbchaadoor", sum := "1bdfdb737c4427d58697864ac71cef64a13005321e15ce7d711f4e1a25b4228b", func := "loop.example/tatting/laws.FnOpsFind", spec := "fnOpsFind", inPlace := ["internal/reflectlite.TypeOf"], unfollowed := true, recurses := true, named := ["loop.example/tatting/impl.errNoThing"], ifaces := true, plainKeys := false, apart := false, laid := [("loop.example/tatting/impl.errNoThing", laid_loop_example_tatting_impl_errNoThing)] }
def FnOpsFindSaid : Prop := fnOpsFindRow.holds Tryd.pinned (OpenSpec.ofChange fnOpsFindSpec)

/-- ITS FALSE NEIGHBOUR: 'it returns false'. Refute it at one input. -/
def fnOpsFindWrong : ChangeSpec := { name := "fnOpsFind", vars := ["loop.example/tatting/impl.errNoThing"], fn := fun _ => fun
  | [d, g1] => { results := [.lit (.bool false)], args := [d], vars := [g1] }
  | _ => none }
def FnOpsFindWrongFalsely : Prop := fnOpsFindRow.holds Tryd.pinned (OpenSpec.ofChange fnOpsFindWrong)

/-- 'laws.FnTextLeaves': WHATEVER THE INPUT: true; the input reads as it did. -/
def fnTextLeavesSpec : ChangeSpec := { name := "fnTextLeaves", vars := ["loop.example/tatting/impl.errNoThing"], fn := fun _ => fun
  | [d, g1] => { results := [.lit (.bool true)], args := [d], vars := [g1] }
  | _ => none }
def fnTextLeavesRow : OpenClaim := { program := "ythlealhpjjbchaadoor", sum := "1bdfdb737c4427d58697864ac71cef64a13005321e15ce7d711f4e1a25b4228b", func := "loop.example/tatting/laws.FnTextLeaves", spec := "fnTextLeaves", inPlace := ["internal/reflectlite.TypeOf"], unfollowed := true, recurses := true, named := ["loop.example/tatting/impl.errNoThing"], ifaces := true, plainKeys := false, apart := false, laid := [("loop.example/tatting/impl.errNoThing", laid_loop_example_tatting_impl_errNoThing)] }
def FnTextLeavesSaid : Prop := fnTextLeavesRow.holds Tryd.pinned (OpenSpec.ofChange fnTextLeavesSpec)

/-- ITS FALSE NEIGHBOUR: 'it returns false'. Refute it at one input. -/
def fnTextLeavesWrong : ChangeSpec := { name := "fnTextLeaves", vars := ["loop.example/tatting/impl.errNoThing"], fn := fun _ => fun
  | [d, g1] => { results := [.lit (.bool false)], args := [d], vars := [g1] }
  | _ => none }
def FnTextLeavesWrongFalsely : Prop := fnTextLeavesRow.holds Tryd.pinned (OpenSpec.ofChange fnTextLeavesWrong)

/-- 'laws.FnTextLong': WHATEVER THE INPUT: true; the input reads as it did. -/
def fnTextLongSpec : ChangeSpec := { name := "fnTextLong", vars := ["loop.example/tatting/impl.errNoThing"], fn := fun _ => fun
  | [d, g1] => { results := [.lit (.bool true)], args := [d], vars := [g1] }
  | _ => none }
def fnTextLongRow : OpenClaim := { program := "ythlealhpjjbchaadoor", sum := "1bdfdb737c4427d58697864ac71cef64a13005321e15ce7d711f4e1a25b4228b", func := "loop.example/tatting/laws.FnTextLong", spec := "fnTextLong", inPlace := ["internal/reflectlite.TypeOf"], unfollowed := true, recurses := true, named := ["loop.example/tatting/impl.errNoThing"], ifaces := true, plainKeys := false, apart := false, laid := [("loop.example/tatting/impl.errNoThing", laid_loop_example_tatting_impl_errNoThing)] }
def FnTextLongSaid : Prop := fnTextLongRow.holds Tryd.pinned (OpenSpec.ofChange fnTextLongSpec)

/-- ITS FALSE NEIGHBOUR: 'it returns false'. Refute it at one input. -/
def fnTextLongWrong : ChangeSpec := { name := "fnTextLong", vars := ["loop.example/tatting/impl.errNoThing"], fn := fun _ => fun
  | [d, g1] => { results := [.lit (.bool false)], args := [d], vars := [g1] }
  | _ => none }
def FnTextLongWrongFalsely : Prop := fnTextLongRow.holds Tryd.pinned (OpenSpec.ofChange fnTextLongWrong)

/- THE SECOND FORM. 'bulk': how many values and letters a reading holds, each counted each time it is reached (what is shared counts as often as it is met; a slice's spare places count too). A statement '..UptoSaid' is the law's where the arguments, and the package variables that the reading takes, are together of bulk at most 1048576: NARROWER than '..Said'. Prove '..Said' where nothing that the law and all that it calls make is longer than what came in: it says more and counts as full. Else prove '..UptoSaid'. A law counts once. -/
mutual
def uptoBulk {H : Type} : DataW H → Nat
  | .lit (.string bytes) => bytes.length + 1
  | .lit _ => 1
  | .nil => 1
  | .ptr d => uptoBulk d + 1
  | .slice elems spare => uptoBulkAll elems + uptoBulkAll spare + 1
  | .agg parts => uptoBulkAll parts + 1
  | .iface _ d => uptoBulk d + 1
  | .map entries => uptoBulkEntries entries + 1
  | .held _ => 1
def uptoBulkAll {H : Type} : List (DataW H) → Nat
  | [] => 0
  | d :: r => uptoBulk d + uptoBulkAll r
def uptoBulkEntries {H : Type} : List (Lit × DataW H) → Nat
  | [] => 0
  | x :: r => uptoBulkEntry x + uptoBulkEntries r
def uptoBulkEntry {H : Type} : Lit × DataW H → Nat
  | (.string bytes, d) => bytes.length + uptoBulk d + 1
  | (_, d) => uptoBulk d + 1
 end
def uptoSmall : (H : Type) → List (DataW H) → Bool := fun _ ds => decide (uptoBulkAll ds ≤ 1048576)
def OpenSpec.upto (s : _root_.Go.ChangeSpec) : _root_.Go.OpenSpec := { _root_.Go.OpenSpec.ofChange s with cond := some uptoSmall }

/-- 'laws.FnOpsSeen', WHERE WHAT IT READS IS OF BULK AT MOST 1048576: true; the input reads as it did. -/
def fnOpsSeenUptoRow : OpenClaim := { program := "ythlealhpjjbchaadoor", sum := "1bdfdb737c4427d58697864ac71cef64a13005321e15ce7d711f4e1a25b4228b", func := "loop.example/tatting/laws.FnOpsSeen", spec := "fnOpsSeen", inPlace := ["internal/reflectlite.TypeOf"], unfollowed := true, recurses := true, named := ["loop.example/tatting/impl.errNoThing"], ifaces := true, plainKeys := false, apart := false, laid := [("loop.example/tatting/impl.errNoThing", laid_loop_example_tatting_impl_errNoThing)], narrowed := true }
def FnOpsSeenUptoSaid : Prop := fnOpsSeenUptoRow.holds Tryd.pinned (OpenSpec.upto fnOpsSeenSpec)

/-- 'laws.FnOpsFind', WHERE WHAT IT READS IS OF BULK AT MOST 1048576: true; the input reads as it did. -/
def fnOpsFindUptoRow : OpenClaim := { program := "ythlealhpjjbchaadoor", sum := "1bdfdb737c4427d58697864ac71cef64a13005321e15ce7d711f4e1a25b4228b", func := "loop.example/tatting/laws.FnOpsFind", spec := "fnOpsFind", inPlace := ["internal/reflectlite.TypeOf"], unfollowed := true, recurses := true, named := ["loop.example/tatting/impl.errNoThing"], ifaces := true, plainKeys := false, apart := false, laid := [("loop.example/tatting/impl.errNoThing", laid_loop_example_tatting_impl_errNoThing)], narrowed := true }
def FnOpsFindUptoSaid : Prop := fnOpsFindUptoRow.holds Tryd.pinned (OpenSpec.upto fnOpsFindSpec)

/-- 'laws.FnTextLeaves', WHERE WHAT IT READS IS OF BULK AT MOST 1048576: true; the input reads as it did. -/
def fnTextLeavesUptoRow : OpenClaim := { program := "ythlealhpjjbchaadoor", sum := "1bdfdb737c4427d58697864ac71cef64a13005321e15ce7d711f4e1a25b4228b", func := "loop.example/tatting/laws.FnTextLeaves", spec := "fnTextLeaves", inPlace := ["internal/reflectlite.TypeOf"], unfollowed := true, recurses := true, named := ["loop.example/tatting/impl.errNoThing"], ifaces := true, plainKeys := false, apart := false, laid := [("loop.example/tatting/impl.errNoThing", laid_loop_example_tatting_impl_errNoThing)], narrowed := true }
def FnTextLeavesUptoSaid : Prop := fnTextLeavesUptoRow.holds Tryd.pinned (OpenSpec.upto fnTextLeavesSpec)

/-- 'laws.FnTextLong', WHERE WHAT IT READS IS OF BULK AT MOST 1048576: true; the input reads as it did. -/
def fnTextLongUptoRow : OpenClaim := { program := "ythlealhpjjbchaadoor", sum := "1bdfdb737c4427d58697864ac71cef64a13005321e15ce7d711f4e1a25b4228b", func := "loop.example/tatting/laws.FnTextLong", spec := "fnTextLong", inPlace := ["internal/reflectlite.TypeOf"], unfollowed := true, recurses := true, named := ["loop.example/tatting/impl.errNoThing"], ifaces := true, plainKeys := false, apart := false, laid := [("loop.example/tatting/impl.errNoThing", laid_loop_example_tatting_impl_errNoThing)], narrowed := true }
def FnTextLongUptoSaid : Prop := fnTextLongUptoRow.holds Tryd.pinned (OpenSpec.upto fnTextLongSpec)

end Rows
end Go.Proofs.YthlealhpjjbchaaDoor
