/-
  DERIVED. GIVEN WITH THE SEED: THE CARDS: each row of YthlealhpjjbchaaDoorRows.lean that lists a variable, with what it lists TIED to the program's text (the seventh form; the later family's looks); each row that meets fmt, with fmt's text TOLD by the authors' own Lean function (tested against real Go, not proved from fmt's source: count such statements apart). THE CARD IS WHAT COUNTS. Prove the row's statement (the work); the ties are given (YthlealhpjjbchaaDoorTie.lean); close each card by the builder's one call (the guide's Derived/Test/ToyasCard.lean, 'card_holds'). Laid BY PROGRAM, IN A SANDBOX (cutbox-door.mjs). By AI agents, Wed Nov 11 2026. No macro, syntax, notation, axiom, sorry.
-/
import Derived.Test.YthlealhpjjbchaaDoorRows
import GoSem.ClaimSeven
namespace Go.Proofs.YthlealhpjjbchaaDoor
namespace Rows

/-- THE TIED CARD OF 'laws.FnOpsSeen'. -/
def fnOpsSeenCard : Claim7 := { stood := { row := fnOpsSeenRow, standIns := [], harness := (true, "7d252d1f9960e5bce970214a07d392e5b4ba204e23465ff2d80a945a5239d073"), looks := true }, kinds := [], alts := [], laidByText := true, laidKinds := [.sentinel], laidTests := true, laidLooks := .later }
def FnOpsSeenCardSaid : Prop := Claim7.holds Tryd.pinned (.plain (OpenSpec.ofChange fnOpsSeenSpec)) fnOpsSeenCard

/-- THE TIED CARD OF 'laws.FnOpsFind'. -/
def fnOpsFindCard : Claim7 := { stood := { row := fnOpsFindRow, standIns := [], harness := (true, "7d252d1f9960e5bce970214a07d392e5b4ba204e23465ff2d80a945a5239d073"), looks := true }, kinds := [], alts := [], laidByText := true, laidKinds := [.sentinel], laidTests := true, laidLooks := .later }
def FnOpsFindCardSaid : Prop := Claim7.holds Tryd.pinned (.plain (OpenSpec.ofChange fnOpsFindSpec)) fnOpsFindCard

/-- THE TIED CARD OF 'laws.FnTextLeaves'. -/
def fnTextLeavesCard : Claim7 := { stood := { row := fnTextLeavesRow, standIns := [], harness := (true, "7d252d1f9960e5bce970214a07d392e5b4ba204e23465ff2d80a945a5239d073"), looks := true }, kinds := [], alts := [], laidByText := true, laidKinds := [.sentinel], laidTests := true, laidLooks := .later }
def FnTextLeavesCardSaid : Prop := Claim7.holds Tryd.pinned (.plain (OpenSpec.ofChange fnTextLeavesSpec)) fnTextLeavesCard

/-- THE TIED CARD OF 'laws.FnTextLong'. -/
def fnTextLongCard : Claim7 := { stood := { row := fnTextLongRow, standIns := [], harness := (true, "7d252d1f9960e5bce970214a07d392e5b4ba204e23465ff2d80a945a5239d073"), looks := true }, kinds := [], alts := [], laidByText := true, laidKinds := [.sentinel], laidTests := true, laidLooks := .later }
def FnTextLongCardSaid : Prop := Claim7.holds Tryd.pinned (.plain (OpenSpec.ofChange fnTextLongSpec)) fnTextLongCard

/-- THE SECOND FORM's CARD OF 'laws.FnOpsSeen'. -/
def fnOpsSeenUptoCard : Claim7 := { stood := { row := fnOpsSeenUptoRow, standIns := [], harness := (true, "7d252d1f9960e5bce970214a07d392e5b4ba204e23465ff2d80a945a5239d073"), looks := true }, kinds := [], alts := [], laidByText := true, laidKinds := [.sentinel], laidTests := true, laidLooks := .later }
def FnOpsSeenUptoCardSaid : Prop := Claim7.holds Tryd.pinned (.plain (OpenSpec.upto fnOpsSeenSpec)) fnOpsSeenUptoCard

/-- THE SECOND FORM's CARD OF 'laws.FnOpsFind'. -/
def fnOpsFindUptoCard : Claim7 := { stood := { row := fnOpsFindUptoRow, standIns := [], harness := (true, "7d252d1f9960e5bce970214a07d392e5b4ba204e23465ff2d80a945a5239d073"), looks := true }, kinds := [], alts := [], laidByText := true, laidKinds := [.sentinel], laidTests := true, laidLooks := .later }
def FnOpsFindUptoCardSaid : Prop := Claim7.holds Tryd.pinned (.plain (OpenSpec.upto fnOpsFindSpec)) fnOpsFindUptoCard

/-- THE SECOND FORM's CARD OF 'laws.FnTextLeaves'. -/
def fnTextLeavesUptoCard : Claim7 := { stood := { row := fnTextLeavesUptoRow, standIns := [], harness := (true, "7d252d1f9960e5bce970214a07d392e5b4ba204e23465ff2d80a945a5239d073"), looks := true }, kinds := [], alts := [], laidByText := true, laidKinds := [.sentinel], laidTests := true, laidLooks := .later }
def FnTextLeavesUptoCardSaid : Prop := Claim7.holds Tryd.pinned (.plain (OpenSpec.upto fnTextLeavesSpec)) fnTextLeavesUptoCard

/-- THE SECOND FORM's CARD OF 'laws.FnTextLong'. -/
def fnTextLongUptoCard : Claim7 := { stood := { row := fnTextLongUptoRow, standIns := [], harness := (true, "7d252d1f9960e5bce970214a07d392e5b4ba204e23465ff2d80a945a5239d073"), looks := true }, kinds := [], alts := [], laidByText := true, laidKinds := [.sentinel], laidTests := true, laidLooks := .later }
def FnTextLongUptoCardSaid : Prop := Claim7.holds Tryd.pinned (.plain (OpenSpec.upto fnTextLongSpec)) fnTextLongUptoCard
end Rows
end Go.Proofs.YthlealhpjjbchaaDoor
