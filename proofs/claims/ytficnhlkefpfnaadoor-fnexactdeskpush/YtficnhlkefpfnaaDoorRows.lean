/-
  NARROWER THAN 'FOR EVERY INPUT', by the rows' own cells (each row's printed sentence says how): FnExactTypeRun: ifaces, laid · FnExactDeskOk: ifaces, laid · FnExactDeskPull: ifaces, laid · FnExactOpsIn: ifaces, laid · FnExactOpsMerge: ifaces, laid · FnExactOpsPast: ifaces, laid · FnExactDocOk: ifaces, laid · FnExactDocHear: ifaces, laid · FnExactDocAll: ifaces, laid · FnExactDeskPush: ifaces, laid.
  DERIVED. THE GIVEN ROWS OF THIS SEAT. 10 by the template 'for every input the law returns true; each argument reads behind the call as it read before'; 0 by the template 'total and deterministic' (their statements: YtficnhlkefpfnaaDoorTotals.lean).
  GIVEN WITH THE SEED: the statements are not yours to turn. If you find one false, say at which input.
  Laid BY PROGRAM, IN A SANDBOX (cutbox-rows.mjs): the forced cells as the released guide's own fill.sh prints them over the translation 58f87058cb77fbb3… (all of the seat's roots in one cut). By AI agents, Wed Nov 11 2026. No macro, syntax, notation, axiom, sorry.
-/
import Derived.Test.YtficnhlkefpfnaaDoorChecked
import GoSem.Claim
import GoSem.ClaimJoined
import GoSem.ClaimMapViews
import Derived.JoinedTies
import Derived.KernelRfl
namespace Go.Proofs.YtficnhlkefpfnaaDoor
/- THE CELL 'sum', in the pinned program and in every row, IS THE sha256 OF THE DUMP (.gsa) THAT YtficnhlkefpfnaaDoorProg.lean LOADS. Nothing in Lean hashes anything: it is a label: what it is worth is what the hold of that sum in a sandbox is worth. -/
noncomputable def Tryd.pinned : Pinned := { name := "ytficnhlkefpfnaadoor", sum := "58f87058cb77fbb343af1746ae493d4d9e7a205ecab4f7d657871cf24afaeedd", checked := Tryd.checked }
namespace Rows
def none {H : Type} : Left H := { results := [], args := [] }

/- WHAT THE LISTED PACKAGE-LEVEL VARIABLES READ AS WHEN THE CALL BEGINS. Each datum BY PROGRAM (the guide's laid-datum.mjs) off the statement by which the dump's own 'gosem.cut.vars' lays the variable. In a bare row this is a premise. The card (YtficnhlkefpfnaaDoorCards.lean) ties it to the program's text. -/
def laid_loop_example_tatting_impl_errNoThing {H : Type} : DataW H := .iface "*errors.errorString" (.ptr (.agg [.lit (.string [110, 111, 32, 116, 104, 105, 110, 103, 32, 116, 104, 97, 116, 32, 99, 97, 110, 32, 104, 97, 118, 101, 32, 98, 101, 101, 110, 32, 100, 111, 110, 101])]))

/-- 'laws.FnExactTypeRun': WHATEVER THE INPUT: true; the input reads as it did. -/
def fnExactTypeRunSpec : ChangeSpec := { name := "fnExactTypeRun", vars := ["loop.example/tatting/impl.errNoThing"], fn := fun _ => fun
  | [d1, d2, d3, d4, g1] => { results := [.lit (.bool true)], args := [d1, d2, d3, d4], vars := [g1] }
  | _ => none }
def fnExactTypeRunRow : OpenClaim := { program := "ytficnhlkefpfnaadoor", sum := "58f87058cb77fbb343af1746ae493d4d9e7a205ecab4f7d657871cf24afaeedd", func := "loop.example/tatting/laws.FnExactTypeRun", spec := "fnExactTypeRun", inPlace := ["internal/reflectlite.TypeOf"], unfollowed := true, recurses := true, named := ["loop.example/tatting/impl.errNoThing"], ifaces := true, plainKeys := false, apart := false, laid := [("loop.example/tatting/impl.errNoThing", laid_loop_example_tatting_impl_errNoThing)] }
def FnExactTypeRunSaid : Prop := fnExactTypeRunRow.holds Tryd.pinned (OpenSpec.ofChange fnExactTypeRunSpec)

/-- ITS FALSE NEIGHBOUR: 'it returns false'. Refute it at one input. -/
def fnExactTypeRunWrong : ChangeSpec := { name := "fnExactTypeRun", vars := ["loop.example/tatting/impl.errNoThing"], fn := fun _ => fun
  | [d1, d2, d3, d4, g1] => { results := [.lit (.bool false)], args := [d1, d2, d3, d4], vars := [g1] }
  | _ => none }
def FnExactTypeRunWrongFalsely : Prop := fnExactTypeRunRow.holds Tryd.pinned (OpenSpec.ofChange fnExactTypeRunWrong)

/-- 'laws.FnExactDeskOk': WHATEVER THE INPUT: true; the input reads as it did. -/
def fnExactDeskOkSpec : ChangeSpec := { name := "fnExactDeskOk", vars := ["loop.example/tatting/impl.errNoThing"], fn := fun _ => fun
  | [d, g1] => { results := [.lit (.bool true)], args := [d], vars := [g1] }
  | _ => none }
def fnExactDeskOkRow : OpenClaim := { program := "ytficnhlkefpfnaadoor", sum := "58f87058cb77fbb343af1746ae493d4d9e7a205ecab4f7d657871cf24afaeedd", func := "loop.example/tatting/laws.FnExactDeskOk", spec := "fnExactDeskOk", inPlace := ["internal/reflectlite.TypeOf"], unfollowed := true, recurses := true, named := ["loop.example/tatting/impl.errNoThing"], ifaces := true, plainKeys := false, apart := false, laid := [("loop.example/tatting/impl.errNoThing", laid_loop_example_tatting_impl_errNoThing)] }
def FnExactDeskOkSaid : Prop := fnExactDeskOkRow.holds Tryd.pinned (OpenSpec.ofChange fnExactDeskOkSpec)

/-- ITS FALSE NEIGHBOUR: 'it returns false'. Refute it at one input. -/
def fnExactDeskOkWrong : ChangeSpec := { name := "fnExactDeskOk", vars := ["loop.example/tatting/impl.errNoThing"], fn := fun _ => fun
  | [d, g1] => { results := [.lit (.bool false)], args := [d], vars := [g1] }
  | _ => none }
def FnExactDeskOkWrongFalsely : Prop := fnExactDeskOkRow.holds Tryd.pinned (OpenSpec.ofChange fnExactDeskOkWrong)

/-- 'laws.FnExactDeskPull': WHATEVER THE INPUT: true; the input reads as it did. -/
def fnExactDeskPullSpec : ChangeSpec := { name := "fnExactDeskPull", vars := ["loop.example/tatting/impl.errNoThing"], fn := fun _ => fun
  | [d, g1] => { results := [.lit (.bool true)], args := [d], vars := [g1] }
  | _ => none }
def fnExactDeskPullRow : OpenClaim := { program := "ytficnhlkefpfnaadoor", sum := "58f87058cb77fbb343af1746ae493d4d9e7a205ecab4f7d657871cf24afaeedd", func := "loop.example/tatting/laws.FnExactDeskPull", spec := "fnExactDeskPull", inPlace := ["internal/reflectlite.TypeOf"], unfollowed := true, recurses := true, named := ["loop.example/tatting/impl.errNoThing"], ifaces := true, plainKeys := false, apart := false, laid := [("loop.example/tatting/impl.errNoThing", laid_loop_example_tatting_impl_errNoThing)] }
def FnExactDeskPullSaid : Prop := fnExactDeskPullRow.holds Tryd.pinned (OpenSpec.ofChange fnExactDeskPullSpec)

/-- ITS FALSE NEIGHBOUR: 'it returns false'. Refute it at one input. -/
def fnExactDeskPullWrong : ChangeSpec := { name := "fnExactDeskPull", vars := ["loop.example/tatting/impl.errNoThing"], fn := fun _ => fun
  | [d, g1] => { results := [.lit (.bool false)], args := [d], vars := [g1] }
  | _ => none }
def FnExactDeskPullWrongFalsely : Prop := fnExactDeskPullRow.holds Tryd.pinned (OpenSpec.ofChange fnExactDeskPullWrong)

/-- 'laws.FnExactOpsIn': WHATEVER THE INPUT: true; the input reads as it did. -/
def fnExactOpsInSpec : ChangeSpec := { name := "fnExactOpsIn", vars := ["loop.example/tatting/impl.errNoThing"], fn := fun _ => fun
  | [d1, d2, g1] => { results := [.lit (.bool true)], args := [d1, d2], vars := [g1] }
  | _ => none }
def fnExactOpsInRow : OpenClaim := { program := "ytficnhlkefpfnaadoor", sum := "58f87058cb77fbb343af1746ae493d4d9e7a205ecab4f7d657871cf24afaeedd", func := "loop.example/tatting/laws.FnExactOpsIn", spec := "fnExactOpsIn", inPlace := ["internal/reflectlite.TypeOf"], unfollowed := true, recurses := true, named := ["loop.example/tatting/impl.errNoThing"], ifaces := true, plainKeys := false, apart := false, laid := [("loop.example/tatting/impl.errNoThing", laid_loop_example_tatting_impl_errNoThing)] }
def FnExactOpsInSaid : Prop := fnExactOpsInRow.holds Tryd.pinned (OpenSpec.ofChange fnExactOpsInSpec)

/-- ITS FALSE NEIGHBOUR: 'it returns false'. Refute it at one input. -/
def fnExactOpsInWrong : ChangeSpec := { name := "fnExactOpsIn", vars := ["loop.example/tatting/impl.errNoThing"], fn := fun _ => fun
  | [d1, d2, g1] => { results := [.lit (.bool false)], args := [d1, d2], vars := [g1] }
  | _ => none }
def FnExactOpsInWrongFalsely : Prop := fnExactOpsInRow.holds Tryd.pinned (OpenSpec.ofChange fnExactOpsInWrong)

/-- 'laws.FnExactOpsMerge': WHATEVER THE INPUT: true; the input reads as it did. -/
def fnExactOpsMergeSpec : ChangeSpec := { name := "fnExactOpsMerge", vars := ["loop.example/tatting/impl.errNoThing"], fn := fun _ => fun
  | [d1, d2, g1] => { results := [.lit (.bool true)], args := [d1, d2], vars := [g1] }
  | _ => none }
def fnExactOpsMergeRow : OpenClaim := { program := "ytficnhlkefpfnaadoor", sum := "58f87058cb77fbb343af1746ae493d4d9e7a205ecab4f7d657871cf24afaeedd", func := "loop.example/tatting/laws.FnExactOpsMerge", spec := "fnExactOpsMerge", inPlace := ["internal/reflectlite.TypeOf"], unfollowed := true, recurses := true, named := ["loop.example/tatting/impl.errNoThing"], ifaces := true, plainKeys := false, apart := false, laid := [("loop.example/tatting/impl.errNoThing", laid_loop_example_tatting_impl_errNoThing)] }
def FnExactOpsMergeSaid : Prop := fnExactOpsMergeRow.holds Tryd.pinned (OpenSpec.ofChange fnExactOpsMergeSpec)

/-- ITS FALSE NEIGHBOUR: 'it returns false'. Refute it at one input. -/
def fnExactOpsMergeWrong : ChangeSpec := { name := "fnExactOpsMerge", vars := ["loop.example/tatting/impl.errNoThing"], fn := fun _ => fun
  | [d1, d2, g1] => { results := [.lit (.bool false)], args := [d1, d2], vars := [g1] }
  | _ => none }
def FnExactOpsMergeWrongFalsely : Prop := fnExactOpsMergeRow.holds Tryd.pinned (OpenSpec.ofChange fnExactOpsMergeWrong)

/-- 'laws.FnExactOpsPast': WHATEVER THE INPUT: true; the input reads as it did. -/
def fnExactOpsPastSpec : ChangeSpec := { name := "fnExactOpsPast", vars := ["loop.example/tatting/impl.errNoThing"], fn := fun _ => fun
  | [d1, d2, d3, g1] => { results := [.lit (.bool true)], args := [d1, d2, d3], vars := [g1] }
  | _ => none }
def fnExactOpsPastRow : OpenClaim := { program := "ytficnhlkefpfnaadoor", sum := "58f87058cb77fbb343af1746ae493d4d9e7a205ecab4f7d657871cf24afaeedd", func := "loop.example/tatting/laws.FnExactOpsPast", spec := "fnExactOpsPast", inPlace := ["internal/reflectlite.TypeOf"], unfollowed := true, recurses := true, named := ["loop.example/tatting/impl.errNoThing"], ifaces := true, plainKeys := false, apart := false, laid := [("loop.example/tatting/impl.errNoThing", laid_loop_example_tatting_impl_errNoThing)] }
def FnExactOpsPastSaid : Prop := fnExactOpsPastRow.holds Tryd.pinned (OpenSpec.ofChange fnExactOpsPastSpec)

/-- ITS FALSE NEIGHBOUR: 'it returns false'. Refute it at one input. -/
def fnExactOpsPastWrong : ChangeSpec := { name := "fnExactOpsPast", vars := ["loop.example/tatting/impl.errNoThing"], fn := fun _ => fun
  | [d1, d2, d3, g1] => { results := [.lit (.bool false)], args := [d1, d2, d3], vars := [g1] }
  | _ => none }
def FnExactOpsPastWrongFalsely : Prop := fnExactOpsPastRow.holds Tryd.pinned (OpenSpec.ofChange fnExactOpsPastWrong)

/-- 'laws.FnExactDocOk': WHATEVER THE INPUT: true; the input reads as it did. -/
def fnExactDocOkSpec : ChangeSpec := { name := "fnExactDocOk", vars := ["loop.example/tatting/impl.errNoThing"], fn := fun _ => fun
  | [d, g1] => { results := [.lit (.bool true)], args := [d], vars := [g1] }
  | _ => none }
def fnExactDocOkRow : OpenClaim := { program := "ytficnhlkefpfnaadoor", sum := "58f87058cb77fbb343af1746ae493d4d9e7a205ecab4f7d657871cf24afaeedd", func := "loop.example/tatting/laws.FnExactDocOk", spec := "fnExactDocOk", inPlace := ["internal/reflectlite.TypeOf"], unfollowed := true, recurses := true, named := ["loop.example/tatting/impl.errNoThing"], ifaces := true, plainKeys := false, apart := false, laid := [("loop.example/tatting/impl.errNoThing", laid_loop_example_tatting_impl_errNoThing)] }
def FnExactDocOkSaid : Prop := fnExactDocOkRow.holds Tryd.pinned (OpenSpec.ofChange fnExactDocOkSpec)

/-- ITS FALSE NEIGHBOUR: 'it returns false'. Refute it at one input. -/
def fnExactDocOkWrong : ChangeSpec := { name := "fnExactDocOk", vars := ["loop.example/tatting/impl.errNoThing"], fn := fun _ => fun
  | [d, g1] => { results := [.lit (.bool false)], args := [d], vars := [g1] }
  | _ => none }
def FnExactDocOkWrongFalsely : Prop := fnExactDocOkRow.holds Tryd.pinned (OpenSpec.ofChange fnExactDocOkWrong)

/-- 'laws.FnExactDocHear': WHATEVER THE INPUT: true; the input reads as it did. -/
def fnExactDocHearSpec : ChangeSpec := { name := "fnExactDocHear", vars := ["loop.example/tatting/impl.errNoThing"], fn := fun _ => fun
  | [d1, d2, g1] => { results := [.lit (.bool true)], args := [d1, d2], vars := [g1] }
  | _ => none }
def fnExactDocHearRow : OpenClaim := { program := "ytficnhlkefpfnaadoor", sum := "58f87058cb77fbb343af1746ae493d4d9e7a205ecab4f7d657871cf24afaeedd", func := "loop.example/tatting/laws.FnExactDocHear", spec := "fnExactDocHear", inPlace := ["internal/reflectlite.TypeOf"], unfollowed := true, recurses := true, named := ["loop.example/tatting/impl.errNoThing"], ifaces := true, plainKeys := false, apart := false, laid := [("loop.example/tatting/impl.errNoThing", laid_loop_example_tatting_impl_errNoThing)] }
def FnExactDocHearSaid : Prop := fnExactDocHearRow.holds Tryd.pinned (OpenSpec.ofChange fnExactDocHearSpec)

/-- ITS FALSE NEIGHBOUR: 'it returns false'. Refute it at one input. -/
def fnExactDocHearWrong : ChangeSpec := { name := "fnExactDocHear", vars := ["loop.example/tatting/impl.errNoThing"], fn := fun _ => fun
  | [d1, d2, g1] => { results := [.lit (.bool false)], args := [d1, d2], vars := [g1] }
  | _ => none }
def FnExactDocHearWrongFalsely : Prop := fnExactDocHearRow.holds Tryd.pinned (OpenSpec.ofChange fnExactDocHearWrong)

/-- 'laws.FnExactDocAll': WHATEVER THE INPUT: true; the input reads as it did. -/
def fnExactDocAllSpec : ChangeSpec := { name := "fnExactDocAll", vars := ["loop.example/tatting/impl.errNoThing"], fn := fun _ => fun
  | [d1, d2, g1] => { results := [.lit (.bool true)], args := [d1, d2], vars := [g1] }
  | _ => none }
def fnExactDocAllRow : OpenClaim := { program := "ytficnhlkefpfnaadoor", sum := "58f87058cb77fbb343af1746ae493d4d9e7a205ecab4f7d657871cf24afaeedd", func := "loop.example/tatting/laws.FnExactDocAll", spec := "fnExactDocAll", inPlace := ["internal/reflectlite.TypeOf"], unfollowed := true, recurses := true, named := ["loop.example/tatting/impl.errNoThing"], ifaces := true, plainKeys := false, apart := false, laid := [("loop.example/tatting/impl.errNoThing", laid_loop_example_tatting_impl_errNoThing)] }
def FnExactDocAllSaid : Prop := fnExactDocAllRow.holds Tryd.pinned (OpenSpec.ofChange fnExactDocAllSpec)

/-- ITS FALSE NEIGHBOUR: 'it returns false'. Refute it at one input. -/
def fnExactDocAllWrong : ChangeSpec := { name := "fnExactDocAll", vars := ["loop.example/tatting/impl.errNoThing"], fn := fun _ => fun
  | [d1, d2, g1] => { results := [.lit (.bool false)], args := [d1, d2], vars := [g1] }
  | _ => none }
def FnExactDocAllWrongFalsely : Prop := fnExactDocAllRow.holds Tryd.pinned (OpenSpec.ofChange fnExactDocAllWrong)

/-- 'laws.FnExactDeskPush': WHATEVER THE INPUT: true; the input reads as it did. -/
def fnExactDeskPushSpec : ChangeSpec := { name := "fnExactDeskPush", vars := ["loop.example/tatting/impl.errNoThing"], fn := fun _ => fun
  | [d, g1] => { results := [.lit (.bool true)], args := [d], vars := [g1] }
  | _ => none }
def fnExactDeskPushRow : OpenClaim := { program := "ytficnhlkefpfnaadoor", sum := "58f87058cb77fbb343af1746ae493d4d9e7a205ecab4f7d657871cf24afaeedd", func := "loop.example/tatting/laws.FnExactDeskPush", spec := "fnExactDeskPush", inPlace := ["internal/reflectlite.TypeOf"], unfollowed := true, recurses := true, named := ["loop.example/tatting/impl.errNoThing"], ifaces := true, plainKeys := false, apart := false, laid := [("loop.example/tatting/impl.errNoThing", laid_loop_example_tatting_impl_errNoThing)] }
def FnExactDeskPushSaid : Prop := fnExactDeskPushRow.holds Tryd.pinned (OpenSpec.ofChange fnExactDeskPushSpec)

/-- ITS FALSE NEIGHBOUR: 'it returns false'. Refute it at one input. -/
def fnExactDeskPushWrong : ChangeSpec := { name := "fnExactDeskPush", vars := ["loop.example/tatting/impl.errNoThing"], fn := fun _ => fun
  | [d, g1] => { results := [.lit (.bool false)], args := [d], vars := [g1] }
  | _ => none }
def FnExactDeskPushWrongFalsely : Prop := fnExactDeskPushRow.holds Tryd.pinned (OpenSpec.ofChange fnExactDeskPushWrong)

/- THE SECOND FORM. 'bulk': how many values and letters a reading holds, each counted each time it is reached (what is shared counts as often as it is met; a slice's spare places count too). A statement '..UptoSaid' is the law's where the arguments, and the package variables that the reading takes, are together of bulk at most 1048576: NARROWER than '..Said'. Prove '..Said' where nothing that the law and all that it calls make is longer than what came in: it says more and counts as full. Else prove '..UptoSaid'. A law counts once. -/
mutual
def uptoBulk {H : Type} : DataW H → Nat
  | .lit (.string bytes) => bytes.length + 1
  | .lit _ => 1
  | .nil => 1
  | .ptr d => uptoBulk d + 1
  | .slice elems spare => uptoBulkAll elems + uptoBulkAll spare + 1
  | .agg parts => uptoBulkAll parts + 1
  | .iface _ d => uptoBulk d + 1
  | .map entries => uptoBulkEntries entries + 1
  | .held _ => 1
def uptoBulkAll {H : Type} : List (DataW H) → Nat
  | [] => 0
  | d :: r => uptoBulk d + uptoBulkAll r
def uptoBulkEntries {H : Type} : List (Lit × DataW H) → Nat
  | [] => 0
  | x :: r => uptoBulkEntry x + uptoBulkEntries r
def uptoBulkEntry {H : Type} : Lit × DataW H → Nat
  | (.string bytes, d) => bytes.length + uptoBulk d + 1
  | (_, d) => uptoBulk d + 1
 end
def uptoSmall : (H : Type) → List (DataW H) → Bool := fun _ ds => decide (uptoBulkAll ds ≤ 1048576)
def OpenSpec.upto (s : _root_.Go.ChangeSpec) : _root_.Go.OpenSpec := { _root_.Go.OpenSpec.ofChange s with cond := some uptoSmall }

/-- 'laws.FnExactTypeRun', WHERE WHAT IT READS IS OF BULK AT MOST 1048576: true; the input reads as it did. -/
def fnExactTypeRunUptoRow : OpenClaim := { program := "ytficnhlkefpfnaadoor", sum := "58f87058cb77fbb343af1746ae493d4d9e7a205ecab4f7d657871cf24afaeedd", func := "loop.example/tatting/laws.FnExactTypeRun", spec := "fnExactTypeRun", inPlace := ["internal/reflectlite.TypeOf"], unfollowed := true, recurses := true, named := ["loop.example/tatting/impl.errNoThing"], ifaces := true, plainKeys := false, apart := false, laid := [("loop.example/tatting/impl.errNoThing", laid_loop_example_tatting_impl_errNoThing)], narrowed := true }
def FnExactTypeRunUptoSaid : Prop := fnExactTypeRunUptoRow.holds Tryd.pinned (OpenSpec.upto fnExactTypeRunSpec)

/-- 'laws.FnExactDeskOk', WHERE WHAT IT READS IS OF BULK AT MOST 1048576: true; the input reads as it did. -/
def fnExactDeskOkUptoRow : OpenClaim := { program := "ytficnhlkefpfnaadoor", sum := "58f87058cb77fbb343af1746ae493d4d9e7a205ecab4f7d657871cf24afaeedd", func := "loop.example/tatting/laws.FnExactDeskOk", spec := "fnExactDeskOk", inPlace := ["internal/reflectlite.TypeOf"], unfollowed := true, recurses := true, named := ["loop.example/tatting/impl.errNoThing"], ifaces := true, plainKeys := false, apart := false, laid := [("loop.example/tatting/impl.errNoThing", laid_loop_example_tatting_impl_errNoThing)], narrowed := true }
def FnExactDeskOkUptoSaid : Prop := fnExactDeskOkUptoRow.holds Tryd.pinned (OpenSpec.upto fnExactDeskOkSpec)

/-- 'laws.FnExactDeskPull', WHERE WHAT IT READS IS OF BULK AT MOST 1048576: true; the input reads as it did. -/
def fnExactDeskPullUptoRow : OpenClaim := { program := "ytficnhlkefpfnaadoor", sum := "58f87058cb77fbb343af1746ae493d4d9e7a205ecab4f7d657871cf24afaeedd", func := "loop.example/tatting/laws.FnExactDeskPull", spec := "fnExactDeskPull", inPlace := ["internal/reflectlite.TypeOf"], unfollowed := true, recurses := true, named := ["loop.example/tatting/impl.errNoThing"], ifaces := true, plainKeys := false, apart := false, laid := [("loop.example/tatting/impl.errNoThing", laid_loop_example_tatting_impl_errNoThing)], narrowed := true }
def FnExactDeskPullUptoSaid : Prop := fnExactDeskPullUptoRow.holds Tryd.pinned (OpenSpec.upto fnExactDeskPullSpec)

/-- 'laws.FnExactOpsIn', WHERE WHAT IT READS IS OF BULK AT MOST 1048576: true; the input reads as it did. -/
def fnExactOpsInUptoRow : OpenClaim := { program := "ytficnhlkefpfnaadoor", sum := "58f87058cb77fbb343af1746ae493d4d9e7a205ecab4f7d657871cf24afaeedd", func := "loop.example/tatting/laws.FnExactOpsIn", spec := "fnExactOpsIn", inPlace := ["internal/reflectlite.TypeOf"], unfollowed := true, recurses := true, named := ["loop.example/tatting/impl.errNoThing"], ifaces := true, plainKeys := false, apart := false, laid := [("loop.example/tatting/impl.errNoThing", laid_loop_example_tatting_impl_errNoThing)], narrowed := true }
def FnExactOpsInUptoSaid : Prop := fnExactOpsInUptoRow.holds Tryd.pinned (OpenSpec.upto fnExactOpsInSpec)

/-- 'laws.FnExactOpsMerge', WHERE WHAT IT READS IS OF BULK AT MOST 1048576: true; the input reads as it did. -/
def fnExactOpsMergeUptoRow : OpenClaim := { program := "ytficnhlkefpfnaadoor", sum := "58f87058cb77fbb343af1746ae493d4d9e7a205ecab4f7d657871cf24afaeedd", func := "loop.example/tatting/laws.FnExactOpsMerge", spec := "fnExactOpsMerge", inPlace := ["internal/reflectlite.TypeOf"], unfollowed := true, recurses := true, named := ["loop.example/tatting/impl.errNoThing"], ifaces := true, plainKeys := false, apart := false, laid := [("loop.example/tatting/impl.errNoThing", laid_loop_example_tatting_impl_errNoThing)], narrowed := true }
def FnExactOpsMergeUptoSaid : Prop := fnExactOpsMergeUptoRow.holds Tryd.pinned (OpenSpec.upto fnExactOpsMergeSpec)

/-- 'laws.FnExactOpsPast', WHERE WHAT IT READS IS OF BULK AT MOST 1048576: true; the input reads as it did. -/
def fnExactOpsPastUptoRow : OpenClaim := { program := "ytficnhlkefpfnaadoor", sum := "58f87058cb77fbb343af1746ae493d4d9e7a205ecab4f7d657871cf24afaeedd", func := "loop.example/tatting/laws.FnExactOpsPast", spec := "fnExactOpsPast", inPlace := ["internal/reflectlite.TypeOf"], unfollowed := true, recurses := true, named := ["loop.example/tatting/impl.errNoThing"], ifaces := true, plainKeys := false, apart := false, laid := [("loop.example/tatting/impl.errNoThing", laid_loop_example_tatting_impl_errNoThing)], narrowed := true }
def FnExactOpsPastUptoSaid : Prop := fnExactOpsPastUptoRow.holds Tryd.pinned (OpenSpec.upto fnExactOpsPastSpec)

/-- 'laws.FnExactDocOk', WHERE WHAT IT READS IS OF BULK AT MOST 1048576: true; the input reads as it did. -/
def fnExactDocOkUptoRow : OpenClaim := { program := "ytficnhlkefpfnaadoor", sum := "58f87058cb77fbb343af1746ae493d4d9e7a205ecab4f7d657871cf24afaeedd", func := "loop.example/tatting/laws.FnExactDocOk", spec := "fnExactDocOk", inPlace := ["internal/reflectlite.TypeOf"], unfollowed := true, recurses := true, named := ["loop.example/tatting/impl.errNoThing"], ifaces := true, plainKeys := false, apart := false, laid := [("loop.example/tatting/impl.errNoThing", laid_loop_example_tatting_impl_errNoThing)], narrowed := true }
def FnExactDocOkUptoSaid : Prop := fnExactDocOkUptoRow.holds Tryd.pinned (OpenSpec.upto fnExactDocOkSpec)

/-- 'laws.FnExactDocHear', WHERE WHAT IT READS IS OF BULK AT MOST 1048576: true; the input reads as it did. -/
def fnExactDocHearUptoRow : OpenClaim := { program := "ytficnhlkefpfnaadoor", sum := "58f87058cb77fbb343af1746ae493d4d9e7a205ecab4f7d657871cf24afaeedd", func := "loop.example/tatting/laws.FnExactDocHear", spec := "fnExactDocHear", inPlace := ["internal/reflectlite.TypeOf"], unfollowed := true, recurses := true, named := ["loop.example/tatting/impl.errNoThing"], ifaces := true, plainKeys := false, apart := false, laid := [("loop.example/tatting/impl.errNoThing", laid_loop_example_tatting_impl_errNoThing)], narrowed := true }
def FnExactDocHearUptoSaid : Prop := fnExactDocHearUptoRow.holds Tryd.pinned (OpenSpec.upto fnExactDocHearSpec)

/-- 'laws.FnExactDocAll', WHERE WHAT IT READS IS OF BULK AT MOST 1048576: true; the input reads as it did. -/
def fnExactDocAllUptoRow : OpenClaim := { program := "ytficnhlkefpfnaadoor", sum := "58f87058cb77fbb343af1746ae493d4d9e7a205ecab4f7d657871cf24afaeedd", func := "loop.example/tatting/laws.FnExactDocAll", spec := "fnExactDocAll", inPlace := ["internal/reflectlite.TypeOf"], unfollowed := true, recurses := true, named := ["loop.example/tatting/impl.errNoThing"], ifaces := true, plainKeys := false, apart := false, laid := [("loop.example/tatting/impl.errNoThing", laid_loop_example_tatting_impl_errNoThing)], narrowed := true }
def FnExactDocAllUptoSaid : Prop := fnExactDocAllUptoRow.holds Tryd.pinned (OpenSpec.upto fnExactDocAllSpec)

/-- 'laws.FnExactDeskPush', WHERE WHAT IT READS IS OF BULK AT MOST 1048576: true; the input reads as it did. -/
def fnExactDeskPushUptoRow : OpenClaim := { program := "ytficnhlkefpfnaadoor", sum := "58f87058cb77fbb343af1746ae493d4d9e7a205ecab4f7d657871cf24afaeedd", func := "loop.example/tatting/laws.FnExactDeskPush", spec := "fnExactDeskPush", inPlace := ["internal/reflectlite.TypeOf"], unfollowed := true, recurses := true, named := ["loop.example/tatting/impl.errNoThing"], ifaces := true, plainKeys := false, apart := false, laid := [("loop.example/tatting/impl.errNoThing", laid_loop_example_tatting_impl_errNoThing)], narrowed := true }
def FnExactDeskPushUptoSaid : Prop := fnExactDeskPushUptoRow.holds Tryd.pinned (OpenSpec.upto fnExactDeskPushSpec)

end Rows
end Go.Proofs.YtficnhlkefpfnaaDoor
