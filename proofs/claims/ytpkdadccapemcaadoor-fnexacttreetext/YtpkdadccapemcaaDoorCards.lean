/-
  DERIVED. GIVEN WITH THE SEED: THE CARDS: each row of YtpkdadccapemcaaDoorRows.lean that lists a variable, with what it lists TIED to the program's text (the seventh form; the later family's looks); each row that meets fmt, with fmt's text TOLD by the authors' own Lean function (tested against real Go, not proved from fmt's source: count such statements apart). THE CARD IS WHAT COUNTS. Prove the row's statement (the work); the ties are given (YtpkdadccapemcaaDoorTie.lean); close each card by the builder's one call (the guide's Derived/Test/ToyasCard.lean, 'card_holds'). Laid BY PROGRAM, IN A SANDBOX (cutbox-door.mjs). By AI agents, Wed Nov 11 2026. No macro, syntax, notation, axiom, sorry.
-/
import Derived.Test.YtpkdadccapemcaaDoorRows
import GoSem.ClaimSeven
namespace Go.Proofs.YtpkdadccapemcaaDoor
namespace Rows

/-- THE TIED CARD OF 'laws.FnExactTreeLeaves'. -/
def fnExactTreeLeavesCard : Claim7 := { stood := { row := fnExactTreeLeavesRow, standIns := [], harness := (true, "50e0fd1e3e09322d81f4b2b3a1f185060dc7ec14ea25aa9931cdd2bd2a396601"), looks := true }, kinds := [], alts := [], laidByText := true, laidKinds := [.sentinel], laidTests := true, laidLooks := .later }
def FnExactTreeLeavesCardSaid : Prop := Claim7.holds Tryd.pinned (.plain (OpenSpec.ofChange fnExactTreeLeavesSpec)) fnExactTreeLeavesCard

/-- THE TIED CARD OF 'laws.FnExactTreeText'. -/
def fnExactTreeTextCard : Claim7 := { stood := { row := fnExactTreeTextRow, standIns := [], harness := (true, "50e0fd1e3e09322d81f4b2b3a1f185060dc7ec14ea25aa9931cdd2bd2a396601"), looks := true }, kinds := [], alts := [], laidByText := true, laidKinds := [.sentinel], laidTests := true, laidLooks := .later }
def FnExactTreeTextCardSaid : Prop := Claim7.holds Tryd.pinned (.plain (OpenSpec.ofChange fnExactTreeTextSpec)) fnExactTreeTextCard

/-- THE TIED CARD OF 'laws.FnExactTreeKids'. -/
def fnExactTreeKidsCard : Claim7 := { stood := { row := fnExactTreeKidsRow, standIns := [], harness := (true, "50e0fd1e3e09322d81f4b2b3a1f185060dc7ec14ea25aa9931cdd2bd2a396601"), looks := true }, kinds := [], alts := [], laidByText := true, laidKinds := [.sentinel], laidTests := true, laidLooks := .later }
def FnExactTreeKidsCardSaid : Prop := Claim7.holds Tryd.pinned (.plain (OpenSpec.ofChange fnExactTreeKidsSpec)) fnExactTreeKidsCard

/-- THE TIED CARD OF 'laws.FnExactTreeUnder'. -/
def fnExactTreeUnderCard : Claim7 := { stood := { row := fnExactTreeUnderRow, standIns := [], harness := (true, "50e0fd1e3e09322d81f4b2b3a1f185060dc7ec14ea25aa9931cdd2bd2a396601"), looks := true }, kinds := [], alts := [], laidByText := true, laidKinds := [.sentinel], laidTests := true, laidLooks := .later }
def FnExactTreeUnderCardSaid : Prop := Claim7.holds Tryd.pinned (.plain (OpenSpec.ofChange fnExactTreeUnderSpec)) fnExactTreeUnderCard

/-- THE SECOND FORM's CARD OF 'laws.FnExactTreeLeaves'. -/
def fnExactTreeLeavesUptoCard : Claim7 := { stood := { row := fnExactTreeLeavesUptoRow, standIns := [], harness := (true, "50e0fd1e3e09322d81f4b2b3a1f185060dc7ec14ea25aa9931cdd2bd2a396601"), looks := true }, kinds := [], alts := [], laidByText := true, laidKinds := [.sentinel], laidTests := true, laidLooks := .later }
def FnExactTreeLeavesUptoCardSaid : Prop := Claim7.holds Tryd.pinned (.plain (OpenSpec.upto fnExactTreeLeavesSpec)) fnExactTreeLeavesUptoCard

/-- THE SECOND FORM's CARD OF 'laws.FnExactTreeText'. -/
def fnExactTreeTextUptoCard : Claim7 := { stood := { row := fnExactTreeTextUptoRow, standIns := [], harness := (true, "50e0fd1e3e09322d81f4b2b3a1f185060dc7ec14ea25aa9931cdd2bd2a396601"), looks := true }, kinds := [], alts := [], laidByText := true, laidKinds := [.sentinel], laidTests := true, laidLooks := .later }
def FnExactTreeTextUptoCardSaid : Prop := Claim7.holds Tryd.pinned (.plain (OpenSpec.upto fnExactTreeTextSpec)) fnExactTreeTextUptoCard

/-- THE SECOND FORM's CARD OF 'laws.FnExactTreeKids'. -/
def fnExactTreeKidsUptoCard : Claim7 := { stood := { row := fnExactTreeKidsUptoRow, standIns := [], harness := (true, "50e0fd1e3e09322d81f4b2b3a1f185060dc7ec14ea25aa9931cdd2bd2a396601"), looks := true }, kinds := [], alts := [], laidByText := true, laidKinds := [.sentinel], laidTests := true, laidLooks := .later }
def FnExactTreeKidsUptoCardSaid : Prop := Claim7.holds Tryd.pinned (.plain (OpenSpec.upto fnExactTreeKidsSpec)) fnExactTreeKidsUptoCard

/-- THE SECOND FORM's CARD OF 'laws.FnExactTreeUnder'. -/
def fnExactTreeUnderUptoCard : Claim7 := { stood := { row := fnExactTreeUnderUptoRow, standIns := [], harness := (true, "50e0fd1e3e09322d81f4b2b3a1f185060dc7ec14ea25aa9931cdd2bd2a396601"), looks := true }, kinds := [], alts := [], laidByText := true, laidKinds := [.sentinel], laidTests := true, laidLooks := .later }
def FnExactTreeUnderUptoCardSaid : Prop := Claim7.holds Tryd.pinned (.plain (OpenSpec.upto fnExactTreeUnderSpec)) fnExactTreeUnderUptoCard
end Rows
end Go.Proofs.YtpkdadccapemcaaDoor
