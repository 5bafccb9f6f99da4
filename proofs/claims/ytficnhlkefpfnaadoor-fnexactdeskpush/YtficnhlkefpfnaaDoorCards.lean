/-
  DERIVED. GIVEN WITH THE SEED: THE CARDS: each row of YtficnhlkefpfnaaDoorRows.lean that lists a variable, with what it lists TIED to the program's text (the seventh form; the later family's looks); each row that meets fmt, with fmt's text TOLD by the authors' own Lean function (tested against real Go, not proved from fmt's source: count such statements apart). THE CARD IS WHAT COUNTS. Prove the row's statement (the work); the ties are given (YtficnhlkefpfnaaDoorTie.lean); close each card by the builder's one call (the guide's Derived/Test/ToyasCard.lean, 'card_holds'). Laid BY PROGRAM, IN A SANDBOX (cutbox-door.mjs). By AI agents, Wed Nov 11 2026. No macro, syntax, notation, axiom, sorry.
-/
import Derived.Test.YtficnhlkefpfnaaDoorRows
import GoSem.ClaimSeven
namespace Go.Proofs.YtficnhlkefpfnaaDoor
namespace Rows

/-- THE TIED CARD OF 'laws.FnExactTypeRun'. -/
def fnExactTypeRunCard : Claim7 := { stood := { row := fnExactTypeRunRow, standIns := [], harness := (true, "8270825d7d08d1e14f6b81ef70ddab11938cbb9a9a67b90c369b31921c75ff9c"), looks := true }, kinds := [], alts := [], laidByText := true, laidKinds := [.sentinel], laidTests := true, laidLooks := .later }
def FnExactTypeRunCardSaid : Prop := Claim7.holds Tryd.pinned (.plain (OpenSpec.ofChange fnExactTypeRunSpec)) fnExactTypeRunCard

/-- THE TIED CARD OF 'laws.FnExactDeskOk'. -/
def fnExactDeskOkCard : Claim7 := { stood := { row := fnExactDeskOkRow, standIns := [], harness := (true, "8270825d7d08d1e14f6b81ef70ddab11938cbb9a9a67b90c369b31921c75ff9c"), looks := true }, kinds := [], alts := [], laidByText := true, laidKinds := [.sentinel], laidTests := true, laidLooks := .later }
def FnExactDeskOkCardSaid : Prop := Claim7.holds Tryd.pinned (.plain (OpenSpec.ofChange fnExactDeskOkSpec)) fnExactDeskOkCard

/-- THE TIED CARD OF 'laws.FnExactDeskPull'. -/
def fnExactDeskPullCard : Claim7 := { stood := { row := fnExactDeskPullRow, standIns := [], harness := (true, "8270825d7d08d1e14f6b81ef70ddab11938cbb9a9a67b90c369b31921c75ff9c"), looks := true }, kinds := [], alts := [], laidByText := true, laidKinds := [.sentinel], laidTests := true, laidLooks := .later }
def FnExactDeskPullCardSaid : Prop := Claim7.holds Tryd.pinned (.plain (OpenSpec.ofChange fnExactDeskPullSpec)) fnExactDeskPullCard

/-- THE TIED CARD OF 'laws.FnExactOpsIn'. -/
def fnExactOpsInCard : Claim7 := { stood := { row := fnExactOpsInRow, standIns := [], harness := (true, "8270825d7d08d1e14f6b81ef70ddab11938cbb9a9a67b90c369b31921c75ff9c"), looks := true }, kinds := [], alts := [], laidByText := true, laidKinds := [.sentinel], laidTests := true, laidLooks := .later }
def FnExactOpsInCardSaid : Prop := Claim7.holds Tryd.pinned (.plain (OpenSpec.ofChange fnExactOpsInSpec)) fnExactOpsInCard

/-- THE TIED CARD OF 'laws.FnExactOpsMerge'. -/
def fnExactOpsMergeCard : Claim7 := { stood := { row := fnExactOpsMergeRow, standIns := [], harness := (true, "8270825d7d08d1e14f6b81ef70ddab11938cbb9a9a67b90c369b31921c75ff9c"), looks := true }, kinds := [], alts := [], laidByText := true, laidKinds := [.sentinel], laidTests := true, laidLooks := .later }
def FnExactOpsMergeCardSaid : Prop := Claim7.holds Tryd.pinned (.plain (OpenSpec.ofChange fnExactOpsMergeSpec)) fnExactOpsMergeCard

/-- THE TIED CARD OF 'laws.FnExactOpsPast'. -/
def fnExactOpsPastCard : Claim7 := { stood := { row := fnExactOpsPastRow, standIns := [], harness := (true, "8270825d7d08d1e14f6b81ef70ddab11938cbb9a9a67b90c369b31921c75ff9c"), looks := true }, kinds := [], alts := [], laidByText := true, laidKinds := [.sentinel], laidTests := true, laidLooks := .later }
def FnExactOpsPastCardSaid : Prop := Claim7.holds Tryd.pinned (.plain (OpenSpec.ofChange fnExactOpsPastSpec)) fnExactOpsPastCard

/-- THE TIED CARD OF 'laws.FnExactDocOk'. -/
def fnExactDocOkCard : Claim7 := { stood := { row := fnExactDocOkRow, standIns := [], harness := (true, "8270825d7d08d1e14f6b81ef70ddab11938cbb9a9a67b90c369b31921c75ff9c"), looks := true }, kinds := [], alts := [], laidByText := true, laidKinds := [.sentinel], laidTests := true, laidLooks := .later }
def FnExactDocOkCardSaid : Prop := Claim7.holds Tryd.pinned (.plain (OpenSpec.ofChange fnExactDocOkSpec)) fnExactDocOkCard

/-- THE TIED CARD OF 'laws.FnExactDocHear'. -/
def fnExactDocHearCard : Claim7 := { stood := { row := fnExactDocHearRow, standIns := [], harness := (true, "8270825d7d08d1e14f6b81ef70ddab11938cbb9a9a67b90c369b31921c75ff9c"), looks := true }, kinds := [], alts := [], laidByText := true, laidKinds := [.sentinel], laidTests := true, laidLooks := .later }
def FnExactDocHearCardSaid : Prop := Claim7.holds Tryd.pinned (.plain (OpenSpec.ofChange fnExactDocHearSpec)) fnExactDocHearCard

/-- THE TIED CARD OF 'laws.FnExactDocAll'. -/
def fnExactDocAllCard : Claim7 := { stood := { row := fnExactDocAllRow, standIns := [], harness := (true, "8270825d7d08d1e14f6b81ef70ddab11938cbb9a9a67b90c369b31921c75ff9c"), looks := true }, kinds := [], alts := [], laidByText := true, laidKinds := [.sentinel], laidTests := true, laidLooks := .later }
def FnExactDocAllCardSaid : Prop := Claim7.holds Tryd.pinned (.plain (OpenSpec.ofChange fnExactDocAllSpec)) fnExactDocAllCard

/-- THE TIED CARD OF 'laws.FnExactDeskPush'. -/
def fnExactDeskPushCard : Claim7 := { stood := { row := fnExactDeskPushRow, standIns := [], harness := (true, "8270825d7d08d1e14f6b81ef70ddab11938cbb9a9a67b90c369b31921c75ff9c"), looks := true }, kinds := [], alts := [], laidByText := true, laidKinds := [.sentinel], laidTests := true, laidLooks := .later }
def FnExactDeskPushCardSaid : Prop := Claim7.holds Tryd.pinned (.plain (OpenSpec.ofChange fnExactDeskPushSpec)) fnExactDeskPushCard

/-- THE SECOND FORM's CARD OF 'laws.FnExactTypeRun'. -/
def fnExactTypeRunUptoCard : Claim7 := { stood := { row := fnExactTypeRunUptoRow, standIns := [], harness := (true, "8270825d7d08d1e14f6b81ef70ddab11938cbb9a9a67b90c369b31921c75ff9c"), looks := true }, kinds := [], alts := [], laidByText := true, laidKinds := [.sentinel], laidTests := true, laidLooks := .later }
def FnExactTypeRunUptoCardSaid : Prop := Claim7.holds Tryd.pinned (.plain (OpenSpec.upto fnExactTypeRunSpec)) fnExactTypeRunUptoCard

/-- THE SECOND FORM's CARD OF 'laws.FnExactDeskOk'. -/
def fnExactDeskOkUptoCard : Claim7 := { stood := { row := fnExactDeskOkUptoRow, standIns := [], harness := (true, "8270825d7d08d1e14f6b81ef70ddab11938cbb9a9a67b90c369b31921c75ff9c"), looks := true }, kinds := [], alts := [], laidByText := true, laidKinds := [.sentinel], laidTests := true, laidLooks := .later }
def FnExactDeskOkUptoCardSaid : Prop := Claim7.holds Tryd.pinned (.plain (OpenSpec.upto fnExactDeskOkSpec)) fnExactDeskOkUptoCard

/-- THE SECOND FORM's CARD OF 'laws.FnExactDeskPull'. -/
def fnExactDeskPullUptoCard : Claim7 := { stood := { row := fnExactDeskPullUptoRow, standIns := [], harness := (true, "8270825d7d08d1e14f6b81ef70ddab11938cbb9a9a67b90c369b31921c75ff9c"), looks := true }, kinds := [], alts := [], laidByText := true, laidKinds := [.sentinel], laidTests := true, laidLooks := .later }
def FnExactDeskPullUptoCardSaid : Prop := Claim7.holds Tryd.pinned (.plain (OpenSpec.upto fnExactDeskPullSpec)) fnExactDeskPullUptoCard

/-- THE SECOND FORM's CARD OF 'laws.FnExactOpsIn'. -/
def fnExactOpsInUptoCard : Claim7 := { stood := { row := fnExactOpsInUptoRow, standIns := [], harness := (true, "8270825d7d08d1e14f6b81ef70ddab11938cbb9a9a67b90c369b31921c75ff9c"), looks := true }, kinds := [], alts := [], laidByText := true, laidKinds := [.sentinel], laidTests := true, laidLooks := .later }
def FnExactOpsInUptoCardSaid : Prop := Claim7.holds Tryd.pinned (.plain (OpenSpec.upto fnExactOpsInSpec)) fnExactOpsInUptoCard

/-- THE SECOND FORM's CARD OF 'laws.FnExactOpsMerge'. -/
def fnExactOpsMergeUptoCard : Claim7 := { stood := { row := fnExactOpsMergeUptoRow, standIns := [], harness := (true, "8270825d7d08d1e14f6b81ef70ddab11938cbb9a9a67b90c369b31921c75ff9c"), looks := true }, kinds := [], alts := [], laidByText := true, laidKinds := [.sentinel], laidTests := true, laidLooks := .later }
def FnExactOpsMergeUptoCardSaid : Prop := Claim7.holds Tryd.pinned (.plain (OpenSpec.upto fnExactOpsMergeSpec)) fnExactOpsMergeUptoCard

/-- THE SECOND FORM's CARD OF 'laws.FnExactOpsPast'. -/
def fnExactOpsPastUptoCard : Claim7 := { stood := { row := fnExactOpsPastUptoRow, standIns := [], harness := (true, "8270825d7d08d1e14f6b81ef70ddab11938cbb9a9a67b90c369b31921c75ff9c"), looks := true }, kinds := [], alts := [], laidByText := true, laidKinds := [.sentinel], laidTests := true, laidLooks := .later }
def FnExactOpsPastUptoCardSaid : Prop := Claim7.holds Tryd.pinned (.plain (OpenSpec.upto fnExactOpsPastSpec)) fnExactOpsPastUptoCard

/-- THE SECOND FORM's CARD OF 'laws.FnExactDocOk'. -/
def fnExactDocOkUptoCard : Claim7 := { stood := { row := fnExactDocOkUptoRow, standIns := [], harness := (true, "8270825d7d08d1e14f6b81ef70ddab11938cbb9a9a67b90c369b31921c75ff9c"), looks := true }, kinds := [], alts := [], laidByText := true, laidKinds := [.sentinel], laidTests := true, laidLooks := .later }
def FnExactDocOkUptoCardSaid : Prop := Claim7.holds Tryd.pinned (.plain (OpenSpec.upto fnExactDocOkSpec)) fnExactDocOkUptoCard

/-- THE SECOND FORM's CARD OF 'laws.FnExactDocHear'. -/
def fnExactDocHearUptoCard : Claim7 := { stood := { row := fnExactDocHearUptoRow, standIns := [], harness := (true, "8270825d7d08d1e14f6b81ef70ddab11938cbb9a9a67b90c369b31921c75ff9c"), looks := true }, kinds := [], alts := [], laidByText := true, laidKinds := [.sentinel], laidTests := true, laidLooks := .later }
def FnExactDocHearUptoCardSaid : Prop := Claim7.holds Tryd.pinned (.plain (OpenSpec.upto fnExactDocHearSpec)) fnExactDocHearUptoCard

/-- THE SECOND FORM's CARD OF 'laws.FnExactDocAll'. -/
def fnExactDocAllUptoCard : Claim7 := { stood := { row := fnExactDocAllUptoRow, standIns := [], harness := (true, "8270825d7d08d1e14f6b81ef70ddab11938cbb9a9a67b90c369b31921c75ff9c"), looks := true }, kinds := [], alts := [], laidByText := true, laidKinds := [.sentinel], laidTests := true, laidLooks := .later }
def FnExactDocAllUptoCardSaid : Prop := Claim7.holds Tryd.pinned (.plain (OpenSpec.upto fnExactDocAllSpec)) fnExactDocAllUptoCard

/-- THE SECOND FORM's CARD OF 'laws.FnExactDeskPush'. -/
def fnExactDeskPushUptoCard : Claim7 := { stood := { row := fnExactDeskPushUptoRow, standIns := [], harness := (true, "8270825d7d08d1e14f6b81ef70ddab11938cbb9a9a67b90c369b31921c75ff9c"), looks := true }, kinds := [], alts := [], laidByText := true, laidKinds := [.sentinel], laidTests := true, laidLooks := .later }
def FnExactDeskPushUptoCardSaid : Prop := Claim7.holds Tryd.pinned (.plain (OpenSpec.upto fnExactDeskPushSpec)) fnExactDeskPushUptoCard
end Rows
end Go.Proofs.YtficnhlkefpfnaaDoor
