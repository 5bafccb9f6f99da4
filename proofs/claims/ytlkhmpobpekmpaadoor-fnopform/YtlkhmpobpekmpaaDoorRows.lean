/-
  NARROWER THAN 'FOR EVERY INPUT', by the rows' own cells (each row's printed sentence says how): FnOpForm: ifaces, laid.
  DERIVED. THE GIVEN ROWS OF THIS SEAT. 1 by the template 'for every input the law returns true; each argument reads behind the call as it read before'; 0 by the template 'total and deterministic' (their statements: YtlkhmpobpekmpaaDoorTotals.lean).
  GIVEN WITH THE SEED: the statements are not yours to turn. If you find one false, say at which input.
  Laid BY PROGRAM, IN A SANDBOX (cutbox-rows.mjs): the forced cells as the released guide's own fill.sh prints them over the translation 1b8b37b8670f7635… (all of the seat's roots in one cut). By AI agents, Wed Nov 11 2026. No macro, syntax, notation, axiom, sorry.
-/
import Derived.Test.YtlkhmpobpekmpaaDoorChecked
import GoSem.Claim
import GoSem.ClaimJoined
import GoSem.ClaimMapViews
import Derived.JoinedTies
import Derived.KernelRfl
namespace Go.Proofs.YtlkhmpobpekmpaaDoor
/- THE CELL 'sum', in the pinned program and in every row, IS THE sha256 OF THE DUMP (.gsa) THAT YtlkhmpobpekmpaaDoorProg.lean LOADS. Nothing in Lean hashes anything: it is a label: what it is worth is what the hold of that sum in a sandbox is worth. -/
noncomputable def Tryd.pinned : Pinned := { name := "ytlkhmpobpekmpaadoor", sum := "1b8b37b8670f7635e6876d58ab5fa34f028008fe44e55ec055a808a6b0e03a1b", checked := Tryd.checked }
namespace Rows
def none {H : Type} : Left H := { results := [], args := [] }

/- WHAT THE LISTED PACKAGE-LEVEL VARIABLES READ AS WHEN THE CALL BEGINS. Each datum BY PROGRAM (the guide's laid-datum.mjs) off the statement by which the dump's own 'gosem.cut.vars' lays the variable. In a bare row this is a premise. The card (YtlkhmpobpekmpaaDoorCards.lean) ties it to the program's text. -/
def laid_loop_example_tatting_impl_errNoThing {H : Type} : DataW H := .iface "*errors.errorString" (.ptr (.agg [.lit (.string [110, 111, 32, 116, 104, 105, 110, 103, 32, 116, 104, 97, 116, 32, 99, 97, 110, 32, 104, 97, 118, 101, 32, 98, 101, 101, 110, 32, 100, 111, 110, 101])]))

/-- 'laws.FnOpForm': WHATEVER THE INPUT: true; the input reads as it did. -/
def fnOpFormSpec : ChangeSpec := { name := "fnOpForm", vars := ["loop.example/tatting/impl.errNoThing"], fn := fun _ => fun
  | [d, g1] => { results := [.lit (.bool true)], args := [d], vars := [g1] }
  | _ => none }
def fnOpFormRow : OpenClaim := { program := "ytlkhmpobpekmpaadoor", sum := "1b8b37b8670f7635e6876d58ab5fa34f028008fe44e55ec055a808a6b0e03a1b", func := "loop.example/tatting/laws.FnOpForm", spec := "fnOpForm", inPlace := ["internal/reflectlite.TypeOf"], unfollowed := true, recurses := true, named := ["loop.example/tatting/impl.errNoThing"], ifaces := true, apart := false, laid := [("loop.example/tatting/impl.errNoThing", laid_loop_example_tatting_impl_errNoThing)] }
def FnOpFormSaid : Prop := fnOpFormRow.holds Tryd.pinned (OpenSpec.ofChange fnOpFormSpec)

/-- ITS FALSE NEIGHBOUR: 'it returns false'. Refute it at one input. -/
def fnOpFormWrong : ChangeSpec := { name := "fnOpForm", vars := ["loop.example/tatting/impl.errNoThing"], fn := fun _ => fun
  | [d, g1] => { results := [.lit (.bool false)], args := [d], vars := [g1] }
  | _ => none }
def FnOpFormWrongFalsely : Prop := fnOpFormRow.holds Tryd.pinned (OpenSpec.ofChange fnOpFormWrong)

/- THE SECOND FORM. 'bulk': how many values and letters a reading holds, each counted each time it is reached (what is shared counts as often as it is met; a slice's spare places count too). A statement '..UptoSaid' is the law's where the arguments, and the package variables that the reading takes, are together of bulk at most 1048576: NARROWER than '..Said'. Prove '..Said' where nothing that the law and all that it calls make is longer than what came in: it says more and counts as full. Else prove '..UptoSaid'. A law counts once. -/
mutual
def uptoBulk {H : Type} : DataW H → Nat
  | .lit (.string bytes) => bytes.length + 1
  | .lit _ => 1
  | .nil => 1
  | .ptr d => uptoBulk d + 1
  | .slice elems spare => uptoBulkAll elems + uptoBulkAll spare + 1
  | .agg parts => uptoBulkAll parts + 1
  | .iface _ d => uptoBulk d + 1
  | .map entries => uptoBulkEntries entries + 1
  | .held _ => 1
def uptoBulkAll {H : Type} : List (DataW H) → Nat
  | [] => 0
  | d :: r => uptoBulk d + uptoBulkAll r
def uptoBulkEntries {H : Type} : List (Lit × DataW H) → Nat
  | [] => 0
  | x :: r => uptoBulkEntry x + uptoBulkEntries r
def uptoBulkEntry {H : Type} : Lit × DataW H → Nat
  | (.string bytes, d) => bytes.length + uptoBulk d + 1
  | (_, d) => uptoBulk d + 1
 end
def uptoSmall : (H : Type) → List (DataW H) → Bool := fun _ ds => decide (uptoBulkAll ds ≤ 1048576)
def OpenSpec.upto (s : _root_.Go.ChangeSpec) : _root_.Go.OpenSpec := { _root_.Go.OpenSpec.ofChange s with cond := some uptoSmall }

/-- 'laws.FnOpForm', WHERE WHAT IT READS IS OF BULK AT MOST 1048576: true; the input reads as it did. -/
def fnOpFormUptoRow : OpenClaim := { program := "ytlkhmpobpekmpaadoor", sum := "1b8b37b8670f7635e6876d58ab5fa34f028008fe44e55ec055a808a6b0e03a1b", func := "loop.example/tatting/laws.FnOpForm", spec := "fnOpForm", inPlace := ["internal/reflectlite.TypeOf"], unfollowed := true, recurses := true, named := ["loop.example/tatting/impl.errNoThing"], ifaces := true, apart := false, laid := [("loop.example/tatting/impl.errNoThing", laid_loop_example_tatting_impl_errNoThing)], narrowed := true }
def FnOpFormUptoSaid : Prop := fnOpFormUptoRow.holds Tryd.pinned (OpenSpec.upto fnOpFormSpec)

end Rows
end Go.Proofs.YtlkhmpobpekmpaaDoor
