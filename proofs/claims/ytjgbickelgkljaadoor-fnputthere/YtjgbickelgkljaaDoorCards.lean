/-
  DERIVED. GIVEN WITH THE SEED: THE CARDS: each row of YtjgbickelgkljaaDoorRows.lean that lists a variable, with what it lists TIED to the program's text (the seventh form; the later family's looks); each row that meets fmt, with fmt's text TOLD by the authors' own Lean function (tested against real Go, not proved from fmt's source: count such statements apart). THE CARD IS WHAT COUNTS. Prove the row's statement (the work); the ties are given (YtjgbickelgkljaaDoorTie.lean); close each card by the builder's one call (the guide's Derived/Test/ToyasCard.lean, 'card_holds'). Laid BY PROGRAM, IN A SANDBOX (cutbox-door.mjs). By AI agents, Wed Nov 11 2026. No macro, syntax, notation, axiom, sorry.
-/
import Derived.Test.YtjgbickelgkljaaDoorRows
import GoSem.ClaimSeven
namespace Go.Proofs.YtjgbickelgkljaaDoor
namespace Rows

/-- THE TIED CARD OF 'laws.FnUptoIn'. -/
def fnUptoInCard : Claim7 := { stood := { row := fnUptoInRow, standIns := [], harness := (true, "069872ff9c36950b043217d79edf5827222a0b2d411a570cd572aa153319a1bc"), looks := true }, kinds := [], alts := [], laidByText := true, laidKinds := [.sentinel], laidTests := true, laidLooks := .later }
def FnUptoInCardSaid : Prop := Claim7.holds Tryd.pinned (.plain (OpenSpec.ofChange fnUptoInSpec)) fnUptoInCard

/-- THE TIED CARD OF 'laws.FnMergeSeen'. -/
def fnMergeSeenCard : Claim7 := { stood := { row := fnMergeSeenRow, standIns := [], harness := (true, "069872ff9c36950b043217d79edf5827222a0b2d411a570cd572aa153319a1bc"), looks := true }, kinds := [], alts := [], laidByText := true, laidKinds := [.sentinel], laidTests := true, laidLooks := .later }
def FnMergeSeenCardSaid : Prop := Claim7.holds Tryd.pinned (.plain (OpenSpec.ofChange fnMergeSeenSpec)) fnMergeSeenCard

/-- THE TIED CARD OF 'laws.FnInOrder'. -/
def fnInOrderCard : Claim7 := { stood := { row := fnInOrderRow, standIns := [], harness := (true, "069872ff9c36950b043217d79edf5827222a0b2d411a570cd572aa153319a1bc"), looks := true }, kinds := [], alts := [], laidByText := true, laidKinds := [.sentinel], laidTests := true, laidLooks := .later }
def FnInOrderCardSaid : Prop := Claim7.holds Tryd.pinned (.plain (OpenSpec.ofChange fnInOrderSpec)) fnInOrderCard

/-- THE TIED CARD OF 'laws.FnOpsBefore'. -/
def fnOpsBeforeCard : Claim7 := { stood := { row := fnOpsBeforeRow, standIns := [], harness := (true, "069872ff9c36950b043217d79edf5827222a0b2d411a570cd572aa153319a1bc"), looks := true }, kinds := [], alts := [], laidByText := true, laidKinds := [.sentinel], laidTests := true, laidLooks := .later }
def FnOpsBeforeCardSaid : Prop := Claim7.holds Tryd.pinned (.plain (OpenSpec.ofChange fnOpsBeforeSpec)) fnOpsBeforeCard

/-- THE TIED CARD OF 'laws.FnOpsLess'. -/
def fnOpsLessCard : Claim7 := { stood := { row := fnOpsLessRow, standIns := [], harness := (true, "069872ff9c36950b043217d79edf5827222a0b2d411a570cd572aa153319a1bc"), looks := true }, kinds := [], alts := [], laidByText := true, laidKinds := [.sentinel], laidTests := true, laidLooks := .later }
def FnOpsLessCardSaid : Prop := Claim7.holds Tryd.pinned (.plain (OpenSpec.ofChange fnOpsLessSpec)) fnOpsLessCard

/-- THE TIED CARD OF 'laws.FnKidsOrder'. -/
def fnKidsOrderCard : Claim7 := { stood := { row := fnKidsOrderRow, standIns := [], harness := (true, "069872ff9c36950b043217d79edf5827222a0b2d411a570cd572aa153319a1bc"), looks := true }, kinds := [], alts := [], laidByText := true, laidKinds := [.sentinel], laidTests := true, laidLooks := .later }
def FnKidsOrderCardSaid : Prop := Claim7.holds Tryd.pinned (.plain (OpenSpec.ofChange fnKidsOrderSpec)) fnKidsOrderCard

/-- THE TIED CARD OF 'laws.FnPutThere'. -/
def fnPutThereCard : Claim7 := { stood := { row := fnPutThereRow, standIns := [], harness := (true, "069872ff9c36950b043217d79edf5827222a0b2d411a570cd572aa153319a1bc"), looks := true }, kinds := [], alts := [], laidByText := true, laidKinds := [.sentinel], laidTests := true, laidLooks := .later }
def FnPutThereCardSaid : Prop := Claim7.holds Tryd.pinned (.plain (OpenSpec.ofChange fnPutThereSpec)) fnPutThereCard

/-- THE TIED CARD OF 'laws.FnTakeThere'. -/
def fnTakeThereCard : Claim7 := { stood := { row := fnTakeThereRow, standIns := [], harness := (true, "069872ff9c36950b043217d79edf5827222a0b2d411a570cd572aa153319a1bc"), looks := true }, kinds := [], alts := [], laidByText := true, laidKinds := [.sentinel], laidTests := true, laidLooks := .later }
def FnTakeThereCardSaid : Prop := Claim7.holds Tryd.pinned (.plain (OpenSpec.ofChange fnTakeThereSpec)) fnTakeThereCard

/-- THE TIED CARD OF 'laws.FnMarkBack'. -/
def fnMarkBackCard : Claim7 := { stood := { row := fnMarkBackRow, standIns := [], harness := (true, "069872ff9c36950b043217d79edf5827222a0b2d411a570cd572aa153319a1bc"), looks := true }, kinds := [], alts := [], laidByText := true, laidKinds := [.sentinel], laidTests := true, laidLooks := .later }
def FnMarkBackCardSaid : Prop := Claim7.holds Tryd.pinned (.plain (OpenSpec.ofChange fnMarkBackSpec)) fnMarkBackCard

/-- THE TIED CARD OF 'laws.FnMarkEnd'. -/
def fnMarkEndCard : Claim7 := { stood := { row := fnMarkEndRow, standIns := [], harness := (true, "069872ff9c36950b043217d79edf5827222a0b2d411a570cd572aa153319a1bc"), looks := true }, kinds := [], alts := [], laidByText := true, laidKinds := [.sentinel], laidTests := true, laidLooks := .later }
def FnMarkEndCardSaid : Prop := Claim7.holds Tryd.pinned (.plain (OpenSpec.ofChange fnMarkEndSpec)) fnMarkEndCard

/-- THE TIED CARD OF 'laws.FnSpanAll'. -/
def fnSpanAllCard : Claim7 := { stood := { row := fnSpanAllRow, standIns := [], harness := (true, "069872ff9c36950b043217d79edf5827222a0b2d411a570cd572aa153319a1bc"), looks := true }, kinds := [], alts := [], laidByText := true, laidKinds := [.sentinel], laidTests := true, laidLooks := .later }
def FnSpanAllCardSaid : Prop := Claim7.holds Tryd.pinned (.plain (OpenSpec.ofChange fnSpanAllSpec)) fnSpanAllCard

/-- THE TIED CARD OF 'laws.FnMarkOrder'. -/
def fnMarkOrderCard : Claim7 := { stood := { row := fnMarkOrderRow, standIns := [], harness := (true, "069872ff9c36950b043217d79edf5827222a0b2d411a570cd572aa153319a1bc"), looks := true }, kinds := [], alts := [], laidByText := true, laidKinds := [.sentinel], laidTests := true, laidLooks := .later }
def FnMarkOrderCardSaid : Prop := Claim7.holds Tryd.pinned (.plain (OpenSpec.ofChange fnMarkOrderSpec)) fnMarkOrderCard

/-- THE SECOND FORM's CARD OF 'laws.FnUptoIn'. -/
def fnUptoInUptoCard : Claim7 := { stood := { row := fnUptoInUptoRow, standIns := [], harness := (true, "069872ff9c36950b043217d79edf5827222a0b2d411a570cd572aa153319a1bc"), looks := true }, kinds := [], alts := [], laidByText := true, laidKinds := [.sentinel], laidTests := true, laidLooks := .later }
def FnUptoInUptoCardSaid : Prop := Claim7.holds Tryd.pinned (.plain (OpenSpec.upto fnUptoInSpec)) fnUptoInUptoCard

/-- THE SECOND FORM's CARD OF 'laws.FnMergeSeen'. -/
def fnMergeSeenUptoCard : Claim7 := { stood := { row := fnMergeSeenUptoRow, standIns := [], harness := (true, "069872ff9c36950b043217d79edf5827222a0b2d411a570cd572aa153319a1bc"), looks := true }, kinds := [], alts := [], laidByText := true, laidKinds := [.sentinel], laidTests := true, laidLooks := .later }
def FnMergeSeenUptoCardSaid : Prop := Claim7.holds Tryd.pinned (.plain (OpenSpec.upto fnMergeSeenSpec)) fnMergeSeenUptoCard

/-- THE SECOND FORM's CARD OF 'laws.FnInOrder'. -/
def fnInOrderUptoCard : Claim7 := { stood := { row := fnInOrderUptoRow, standIns := [], harness := (true, "069872ff9c36950b043217d79edf5827222a0b2d411a570cd572aa153319a1bc"), looks := true }, kinds := [], alts := [], laidByText := true, laidKinds := [.sentinel], laidTests := true, laidLooks := .later }
def FnInOrderUptoCardSaid : Prop := Claim7.holds Tryd.pinned (.plain (OpenSpec.upto fnInOrderSpec)) fnInOrderUptoCard

/-- THE SECOND FORM's CARD OF 'laws.FnOpsBefore'. -/
def fnOpsBeforeUptoCard : Claim7 := { stood := { row := fnOpsBeforeUptoRow, standIns := [], harness := (true, "069872ff9c36950b043217d79edf5827222a0b2d411a570cd572aa153319a1bc"), looks := true }, kinds := [], alts := [], laidByText := true, laidKinds := [.sentinel], laidTests := true, laidLooks := .later }
def FnOpsBeforeUptoCardSaid : Prop := Claim7.holds Tryd.pinned (.plain (OpenSpec.upto fnOpsBeforeSpec)) fnOpsBeforeUptoCard

/-- THE SECOND FORM's CARD OF 'laws.FnOpsLess'. -/
def fnOpsLessUptoCard : Claim7 := { stood := { row := fnOpsLessUptoRow, standIns := [], harness := (true, "069872ff9c36950b043217d79edf5827222a0b2d411a570cd572aa153319a1bc"), looks := true }, kinds := [], alts := [], laidByText := true, laidKinds := [.sentinel], laidTests := true, laidLooks := .later }
def FnOpsLessUptoCardSaid : Prop := Claim7.holds Tryd.pinned (.plain (OpenSpec.upto fnOpsLessSpec)) fnOpsLessUptoCard

/-- THE SECOND FORM's CARD OF 'laws.FnKidsOrder'. -/
def fnKidsOrderUptoCard : Claim7 := { stood := { row := fnKidsOrderUptoRow, standIns := [], harness := (true, "069872ff9c36950b043217d79edf5827222a0b2d411a570cd572aa153319a1bc"), looks := true }, kinds := [], alts := [], laidByText := true, laidKinds := [.sentinel], laidTests := true, laidLooks := .later }
def FnKidsOrderUptoCardSaid : Prop := Claim7.holds Tryd.pinned (.plain (OpenSpec.upto fnKidsOrderSpec)) fnKidsOrderUptoCard

/-- THE SECOND FORM's CARD OF 'laws.FnPutThere'. -/
def fnPutThereUptoCard : Claim7 := { stood := { row := fnPutThereUptoRow, standIns := [], harness := (true, "069872ff9c36950b043217d79edf5827222a0b2d411a570cd572aa153319a1bc"), looks := true }, kinds := [], alts := [], laidByText := true, laidKinds := [.sentinel], laidTests := true, laidLooks := .later }
def FnPutThereUptoCardSaid : Prop := Claim7.holds Tryd.pinned (.plain (OpenSpec.upto fnPutThereSpec)) fnPutThereUptoCard

/-- THE SECOND FORM's CARD OF 'laws.FnTakeThere'. -/
def fnTakeThereUptoCard : Claim7 := { stood := { row := fnTakeThereUptoRow, standIns := [], harness := (true, "069872ff9c36950b043217d79edf5827222a0b2d411a570cd572aa153319a1bc"), looks := true }, kinds := [], alts := [], laidByText := true, laidKinds := [.sentinel], laidTests := true, laidLooks := .later }
def FnTakeThereUptoCardSaid : Prop := Claim7.holds Tryd.pinned (.plain (OpenSpec.upto fnTakeThereSpec)) fnTakeThereUptoCard

/-- THE SECOND FORM's CARD OF 'laws.FnMarkBack'. -/
def fnMarkBackUptoCard : Claim7 := { stood := { row := fnMarkBackUptoRow, standIns := [], harness := (true, "069872ff9c36950b043217d79edf5827222a0b2d411a570cd572aa153319a1bc"), looks := true }, kinds := [], alts := [], laidByText := true, laidKinds := [.sentinel], laidTests := true, laidLooks := .later }
def FnMarkBackUptoCardSaid : Prop := Claim7.holds Tryd.pinned (.plain (OpenSpec.upto fnMarkBackSpec)) fnMarkBackUptoCard

/-- THE SECOND FORM's CARD OF 'laws.FnMarkEnd'. -/
def fnMarkEndUptoCard : Claim7 := { stood := { row := fnMarkEndUptoRow, standIns := [], harness := (true, "069872ff9c36950b043217d79edf5827222a0b2d411a570cd572aa153319a1bc"), looks := true }, kinds := [], alts := [], laidByText := true, laidKinds := [.sentinel], laidTests := true, laidLooks := .later }
def FnMarkEndUptoCardSaid : Prop := Claim7.holds Tryd.pinned (.plain (OpenSpec.upto fnMarkEndSpec)) fnMarkEndUptoCard

/-- THE SECOND FORM's CARD OF 'laws.FnSpanAll'. -/
def fnSpanAllUptoCard : Claim7 := { stood := { row := fnSpanAllUptoRow, standIns := [], harness := (true, "069872ff9c36950b043217d79edf5827222a0b2d411a570cd572aa153319a1bc"), looks := true }, kinds := [], alts := [], laidByText := true, laidKinds := [.sentinel], laidTests := true, laidLooks := .later }
def FnSpanAllUptoCardSaid : Prop := Claim7.holds Tryd.pinned (.plain (OpenSpec.upto fnSpanAllSpec)) fnSpanAllUptoCard

/-- THE SECOND FORM's CARD OF 'laws.FnMarkOrder'. -/
def fnMarkOrderUptoCard : Claim7 := { stood := { row := fnMarkOrderUptoRow, standIns := [], harness := (true, "069872ff9c36950b043217d79edf5827222a0b2d411a570cd572aa153319a1bc"), looks := true }, kinds := [], alts := [], laidByText := true, laidKinds := [.sentinel], laidTests := true, laidLooks := .later }
def FnMarkOrderUptoCardSaid : Prop := Claim7.holds Tryd.pinned (.plain (OpenSpec.upto fnMarkOrderSpec)) fnMarkOrderUptoCard
end Rows
end Go.Proofs.YtjgbickelgkljaaDoor
