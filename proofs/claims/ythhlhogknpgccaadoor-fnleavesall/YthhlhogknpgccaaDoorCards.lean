/-
  DERIVED. GIVEN WITH THE SEED: THE CARDS: each row of YthhlhogknpgccaaDoorRows.lean that lists a variable, with what it lists TIED to the program's text (the seventh form; the later family's looks); each row that meets fmt, with fmt's text TOLD by the authors' own Lean function (tested against real Go, not proved from fmt's source: count such statements apart). THE CARD IS WHAT COUNTS. Prove the row's statement (the work); the ties are given (YthhlhogknpgccaaDoorTie.lean); close each card by the builder's one call (the guide's Derived/Test/ToyasCard.lean, 'card_holds'). Laid BY PROGRAM, IN A SANDBOX (cutbox-door.mjs). By AI agents, Wed Nov 11 2026. No macro, syntax, notation, axiom, sorry.
-/
import Derived.Test.YthhlhogknpgccaaDoorRows
import GoSem.ClaimSeven
namespace Go.Proofs.YthhlhogknpgccaaDoor
namespace Rows

/-- THE TIED CARD OF 'laws.FnLeavesAll'. -/
def fnLeavesAllCard : Claim7 := { stood := { row := fnLeavesAllRow, standIns := [], harness := (true, "2a4555edd7b24019c9e0fae38b442729101d60b483c59f12de626f077d5fede3"), looks := true }, kinds := [], alts := [], laidByText := true, laidKinds := [.sentinel], laidTests := true, laidLooks := .later }
def FnLeavesAllCardSaid : Prop := Claim7.holds Tryd.pinned (.plain (OpenSpec.ofChange fnLeavesAllSpec)) fnLeavesAllCard

/-- THE TIED CARD OF 'laws.FnLeavesSide'. -/
def fnLeavesSideCard : Claim7 := { stood := { row := fnLeavesSideRow, standIns := [], harness := (true, "2a4555edd7b24019c9e0fae38b442729101d60b483c59f12de626f077d5fede3"), looks := true }, kinds := [], alts := [], laidByText := true, laidKinds := [.sentinel], laidTests := true, laidLooks := .later }
def FnLeavesSideCardSaid : Prop := Claim7.holds Tryd.pinned (.plain (OpenSpec.ofChange fnLeavesSideSpec)) fnLeavesSideCard

/-- THE TIED CARD OF 'laws.FnLeavesWhole'. -/
def fnLeavesWholeCard : Claim7 := { stood := { row := fnLeavesWholeRow, standIns := [], harness := (true, "2a4555edd7b24019c9e0fae38b442729101d60b483c59f12de626f077d5fede3"), looks := true }, kinds := [], alts := [], laidByText := true, laidKinds := [.sentinel], laidTests := true, laidLooks := .later }
def FnLeavesWholeCardSaid : Prop := Claim7.holds Tryd.pinned (.plain (OpenSpec.ofChange fnLeavesWholeSpec)) fnLeavesWholeCard

/-- THE TIED CARD OF 'laws.FnUnderOrder'. -/
def fnUnderOrderCard : Claim7 := { stood := { row := fnUnderOrderRow, standIns := [], harness := (true, "2a4555edd7b24019c9e0fae38b442729101d60b483c59f12de626f077d5fede3"), looks := true }, kinds := [], alts := [], laidByText := true, laidKinds := [.sentinel], laidTests := true, laidLooks := .later }
def FnUnderOrderCardSaid : Prop := Claim7.holds Tryd.pinned (.plain (OpenSpec.ofChange fnUnderOrderSpec)) fnUnderOrderCard

/-- THE TIED CARD OF 'laws.FnKidsAll'. -/
def fnKidsAllCard : Claim7 := { stood := { row := fnKidsAllRow, standIns := [], harness := (true, "2a4555edd7b24019c9e0fae38b442729101d60b483c59f12de626f077d5fede3"), looks := true }, kinds := [], alts := [], laidByText := true, laidKinds := [.sentinel], laidTests := true, laidLooks := .later }
def FnKidsAllCardSaid : Prop := Claim7.holds Tryd.pinned (.plain (OpenSpec.ofChange fnKidsAllSpec)) fnKidsAllCard

/-- THE TIED CARD OF 'laws.FnTreeFirst'. -/
def fnTreeFirstCard : Claim7 := { stood := { row := fnTreeFirstRow, standIns := [], harness := (true, "2a4555edd7b24019c9e0fae38b442729101d60b483c59f12de626f077d5fede3"), looks := true }, kinds := [], alts := [], laidByText := true, laidKinds := [.sentinel], laidTests := true, laidLooks := .later }
def FnTreeFirstCardSaid : Prop := Claim7.holds Tryd.pinned (.plain (OpenSpec.ofChange fnTreeFirstSpec)) fnTreeFirstCard

/-- THE SECOND FORM's CARD OF 'laws.FnLeavesAll'. -/
def fnLeavesAllUptoCard : Claim7 := { stood := { row := fnLeavesAllUptoRow, standIns := [], harness := (true, "2a4555edd7b24019c9e0fae38b442729101d60b483c59f12de626f077d5fede3"), looks := true }, kinds := [], alts := [], laidByText := true, laidKinds := [.sentinel], laidTests := true, laidLooks := .later }
def FnLeavesAllUptoCardSaid : Prop := Claim7.holds Tryd.pinned (.plain (OpenSpec.upto fnLeavesAllSpec)) fnLeavesAllUptoCard

/-- THE SECOND FORM's CARD OF 'laws.FnLeavesSide'. -/
def fnLeavesSideUptoCard : Claim7 := { stood := { row := fnLeavesSideUptoRow, standIns := [], harness := (true, "2a4555edd7b24019c9e0fae38b442729101d60b483c59f12de626f077d5fede3"), looks := true }, kinds := [], alts := [], laidByText := true, laidKinds := [.sentinel], laidTests := true, laidLooks := .later }
def FnLeavesSideUptoCardSaid : Prop := Claim7.holds Tryd.pinned (.plain (OpenSpec.upto fnLeavesSideSpec)) fnLeavesSideUptoCard

/-- THE SECOND FORM's CARD OF 'laws.FnLeavesWhole'. -/
def fnLeavesWholeUptoCard : Claim7 := { stood := { row := fnLeavesWholeUptoRow, standIns := [], harness := (true, "2a4555edd7b24019c9e0fae38b442729101d60b483c59f12de626f077d5fede3"), looks := true }, kinds := [], alts := [], laidByText := true, laidKinds := [.sentinel], laidTests := true, laidLooks := .later }
def FnLeavesWholeUptoCardSaid : Prop := Claim7.holds Tryd.pinned (.plain (OpenSpec.upto fnLeavesWholeSpec)) fnLeavesWholeUptoCard

/-- THE SECOND FORM's CARD OF 'laws.FnUnderOrder'. -/
def fnUnderOrderUptoCard : Claim7 := { stood := { row := fnUnderOrderUptoRow, standIns := [], harness := (true, "2a4555edd7b24019c9e0fae38b442729101d60b483c59f12de626f077d5fede3"), looks := true }, kinds := [], alts := [], laidByText := true, laidKinds := [.sentinel], laidTests := true, laidLooks := .later }
def FnUnderOrderUptoCardSaid : Prop := Claim7.holds Tryd.pinned (.plain (OpenSpec.upto fnUnderOrderSpec)) fnUnderOrderUptoCard

/-- THE SECOND FORM's CARD OF 'laws.FnKidsAll'. -/
def fnKidsAllUptoCard : Claim7 := { stood := { row := fnKidsAllUptoRow, standIns := [], harness := (true, "2a4555edd7b24019c9e0fae38b442729101d60b483c59f12de626f077d5fede3"), looks := true }, kinds := [], alts := [], laidByText := true, laidKinds := [.sentinel], laidTests := true, laidLooks := .later }
def FnKidsAllUptoCardSaid : Prop := Claim7.holds Tryd.pinned (.plain (OpenSpec.upto fnKidsAllSpec)) fnKidsAllUptoCard

/-- THE SECOND FORM's CARD OF 'laws.FnTreeFirst'. -/
def fnTreeFirstUptoCard : Claim7 := { stood := { row := fnTreeFirstUptoRow, standIns := [], harness := (true, "2a4555edd7b24019c9e0fae38b442729101d60b483c59f12de626f077d5fede3"), looks := true }, kinds := [], alts := [], laidByText := true, laidKinds := [.sentinel], laidTests := true, laidLooks := .later }
def FnTreeFirstUptoCardSaid : Prop := Claim7.holds Tryd.pinned (.plain (OpenSpec.upto fnTreeFirstSpec)) fnTreeFirstUptoCard
end Rows
end Go.Proofs.YthhlhogknpgccaaDoor
