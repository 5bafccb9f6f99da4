/-
  DERIVED. GIVEN WITH THE SEED: THE CARDS: each row of YtfjhecoihkbjhaaDoorRows.lean that lists a variable, with what it lists TIED to the program's text (the seventh form; the later family's looks); each row that meets fmt, with fmt's text TOLD by the authors' own Lean function (tested against real Go, not proved from fmt's source: count such statements apart). THE CARD IS WHAT COUNTS. Prove the row's statement (the work); the ties are given (YtfjhecoihkbjhaaDoorTie.lean); close each card by the builder's one call (the guide's Derived/Test/ToyasCard.lean, 'card_holds'). Laid BY PROGRAM, IN A SANDBOX (cutbox-door.mjs). By AI agents, Wed Nov 11 2026. No macro, syntax, notation, axiom, sorry.
-/
import Derived.Test.YtfjhecoihkbjhaaDoorRows
import GoSem.ClaimSeven
namespace Go.Proofs.YtfjhecoihkbjhaaDoor
namespace Rows

/-- THE TIED CARD OF 'laws.FnExactOpOk'. -/
def fnExactOpOkCard : Claim7 := { stood := { row := fnExactOpOkRow, standIns := [], harness := (true, "e023e5caa3d69919c46f717e0c99c9bacae1ae633971976c7d851e497b39b2ff"), looks := true }, kinds := [], alts := [], laidByText := true, laidKinds := [.sentinel], laidTests := true, laidLooks := .later }
def FnExactOpOkCardSaid : Prop := Claim7.holds Tryd.pinned (.plain (OpenSpec.ofChange fnExactOpOkSpec)) fnExactOpOkCard

/-- THE TIED CARD OF 'laws.FnExactOpsOk'. -/
def fnExactOpsOkCard : Claim7 := { stood := { row := fnExactOpsOkRow, standIns := [], harness := (true, "e023e5caa3d69919c46f717e0c99c9bacae1ae633971976c7d851e497b39b2ff"), looks := true }, kinds := [], alts := [], laidByText := true, laidKinds := [.sentinel], laidTests := true, laidLooks := .later }
def FnExactOpsOkCardSaid : Prop := Claim7.holds Tryd.pinned (.plain (OpenSpec.ofChange fnExactOpsOkSpec)) fnExactOpsOkCard

/-- THE TIED CARD OF 'laws.FnExactOpsSeen'. -/
def fnExactOpsSeenCard : Claim7 := { stood := { row := fnExactOpsSeenRow, standIns := [], harness := (true, "e023e5caa3d69919c46f717e0c99c9bacae1ae633971976c7d851e497b39b2ff"), looks := true }, kinds := [], alts := [], laidByText := true, laidKinds := [.sentinel], laidTests := true, laidLooks := .later }
def FnExactOpsSeenCardSaid : Prop := Claim7.holds Tryd.pinned (.plain (OpenSpec.ofChange fnExactOpsSeenSpec)) fnExactOpsSeenCard

/-- THE TIED CARD OF 'laws.FnExactOpsFind'. -/
def fnExactOpsFindCard : Claim7 := { stood := { row := fnExactOpsFindRow, standIns := [], harness := (true, "e023e5caa3d69919c46f717e0c99c9bacae1ae633971976c7d851e497b39b2ff"), looks := true }, kinds := [], alts := [], laidByText := true, laidKinds := [.sentinel], laidTests := true, laidLooks := .later }
def FnExactOpsFindCardSaid : Prop := Claim7.holds Tryd.pinned (.plain (OpenSpec.ofChange fnExactOpsFindSpec)) fnExactOpsFindCard

/-- THE TIED CARD OF 'laws.FnExactOpsText'. -/
def fnExactOpsTextCard : Claim7 := { stood := { row := fnExactOpsTextRow, standIns := [], harness := (true, "e023e5caa3d69919c46f717e0c99c9bacae1ae633971976c7d851e497b39b2ff"), looks := true }, kinds := [], alts := [], laidByText := true, laidKinds := [.data, .data, .data, .sentinel], laidTests := true, laidLooks := .later }
def FnExactOpsTextCardSaid : Prop := Claim7.holds Tryd.pinned (.plain (OpenSpec.ofChange fnExactOpsTextSpec)) fnExactOpsTextCard

/-- THE SECOND FORM's CARD OF 'laws.FnExactOpOk'. -/
def fnExactOpOkUptoCard : Claim7 := { stood := { row := fnExactOpOkUptoRow, standIns := [], harness := (true, "e023e5caa3d69919c46f717e0c99c9bacae1ae633971976c7d851e497b39b2ff"), looks := true }, kinds := [], alts := [], laidByText := true, laidKinds := [.sentinel], laidTests := true, laidLooks := .later }
def FnExactOpOkUptoCardSaid : Prop := Claim7.holds Tryd.pinned (.plain (OpenSpec.upto fnExactOpOkSpec)) fnExactOpOkUptoCard

/-- THE SECOND FORM's CARD OF 'laws.FnExactOpsOk'. -/
def fnExactOpsOkUptoCard : Claim7 := { stood := { row := fnExactOpsOkUptoRow, standIns := [], harness := (true, "e023e5caa3d69919c46f717e0c99c9bacae1ae633971976c7d851e497b39b2ff"), looks := true }, kinds := [], alts := [], laidByText := true, laidKinds := [.sentinel], laidTests := true, laidLooks := .later }
def FnExactOpsOkUptoCardSaid : Prop := Claim7.holds Tryd.pinned (.plain (OpenSpec.upto fnExactOpsOkSpec)) fnExactOpsOkUptoCard

/-- THE SECOND FORM's CARD OF 'laws.FnExactOpsSeen'. -/
def fnExactOpsSeenUptoCard : Claim7 := { stood := { row := fnExactOpsSeenUptoRow, standIns := [], harness := (true, "e023e5caa3d69919c46f717e0c99c9bacae1ae633971976c7d851e497b39b2ff"), looks := true }, kinds := [], alts := [], laidByText := true, laidKinds := [.sentinel], laidTests := true, laidLooks := .later }
def FnExactOpsSeenUptoCardSaid : Prop := Claim7.holds Tryd.pinned (.plain (OpenSpec.upto fnExactOpsSeenSpec)) fnExactOpsSeenUptoCard

/-- THE SECOND FORM's CARD OF 'laws.FnExactOpsFind'. -/
def fnExactOpsFindUptoCard : Claim7 := { stood := { row := fnExactOpsFindUptoRow, standIns := [], harness := (true, "e023e5caa3d69919c46f717e0c99c9bacae1ae633971976c7d851e497b39b2ff"), looks := true }, kinds := [], alts := [], laidByText := true, laidKinds := [.sentinel], laidTests := true, laidLooks := .later }
def FnExactOpsFindUptoCardSaid : Prop := Claim7.holds Tryd.pinned (.plain (OpenSpec.upto fnExactOpsFindSpec)) fnExactOpsFindUptoCard

/-- THE SECOND FORM's CARD OF 'laws.FnExactOpsText'. -/
def fnExactOpsTextUptoCard : Claim7 := { stood := { row := fnExactOpsTextUptoRow, standIns := [], harness := (true, "e023e5caa3d69919c46f717e0c99c9bacae1ae633971976c7d851e497b39b2ff"), looks := true }, kinds := [], alts := [], laidByText := true, laidKinds := [.data, .data, .data, .sentinel], laidTests := true, laidLooks := .later }
def FnExactOpsTextUptoCardSaid : Prop := Claim7.holds Tryd.pinned (.plain (OpenSpec.upto fnExactOpsTextSpec)) fnExactOpsTextUptoCard
end Rows
end Go.Proofs.YtfjhecoihkbjhaaDoor
