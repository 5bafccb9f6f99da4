/-
  DERIVED. GIVEN WITH THE SEED: THE CARDS: each row of YtedanlmippfojaaDoorRows.lean that lists a variable, with what it lists TIED to the program's text (the seventh form; the later family's looks); each row that meets fmt, with fmt's text TOLD by the authors' own Lean function (tested against real Go, not proved from fmt's source: count such statements apart). THE CARD IS WHAT COUNTS. Prove the row's statement (the work); the ties are given (YtedanlmippfojaaDoorTie.lean); close each card by the builder's one call (the guide's Derived/Test/ToyasCard.lean, 'card_holds'). Laid BY PROGRAM, IN A SANDBOX (cutbox-door.mjs). By AI agents, Wed Nov 11 2026. No macro, syntax, notation, axiom, sorry.
-/
import Derived.Test.YtedanlmippfojaaDoorRows
import GoSem.ClaimSeven
namespace Go.Proofs.YtedanlmippfojaaDoor
namespace Rows

/-- THE TIED CARD OF 'laws.FnTypeAnyone'. -/
def fnTypeAnyoneCard : Claim7 := { stood := { row := fnTypeAnyoneRow, standIns := [], harness := (true, "4291756066b51c83c8b2bb27fa1a9e1e253f747694b7eb8ce9f7845f18f7c2a2"), looks := true }, kinds := [], alts := [], laidByText := true, laidKinds := [.sentinel], laidTests := true, laidLooks := .later }
def FnTypeAnyoneCardSaid : Prop := Claim7.holds Tryd.pinned (.plain (OpenSpec.ofChange fnTypeAnyoneSpec)) fnTypeAnyoneCard

/-- THE TIED CARD OF 'laws.FnTakeCan'. -/
def fnTakeCanCard : Claim7 := { stood := { row := fnTakeCanRow, standIns := [], harness := (true, "4291756066b51c83c8b2bb27fa1a9e1e253f747694b7eb8ce9f7845f18f7c2a2"), looks := true }, kinds := [], alts := [], laidByText := true, laidKinds := [.sentinel], laidTests := true, laidLooks := .later }
def FnTakeCanCardSaid : Prop := Claim7.holds Tryd.pinned (.plain (OpenSpec.ofChange fnTakeCanSpec)) fnTakeCanCard

/-- THE TIED CARD OF 'laws.FnPutCan'. -/
def fnPutCanCard : Claim7 := { stood := { row := fnPutCanRow, standIns := [], harness := (true, "4291756066b51c83c8b2bb27fa1a9e1e253f747694b7eb8ce9f7845f18f7c2a2"), looks := true }, kinds := [], alts := [], laidByText := true, laidKinds := [.sentinel], laidTests := true, laidLooks := .later }
def FnPutCanCardSaid : Prop := Claim7.holds Tryd.pinned (.plain (OpenSpec.ofChange fnPutCanSpec)) fnPutCanCard

/-- THE TIED CARD OF 'laws.FnTakeTwice'. -/
def fnTakeTwiceCard : Claim7 := { stood := { row := fnTakeTwiceRow, standIns := [], harness := (true, "4291756066b51c83c8b2bb27fa1a9e1e253f747694b7eb8ce9f7845f18f7c2a2"), looks := true }, kinds := [], alts := [], laidByText := true, laidKinds := [.sentinel], laidTests := true, laidLooks := .later }
def FnTakeTwiceCardSaid : Prop := Claim7.holds Tryd.pinned (.plain (OpenSpec.ofChange fnTakeTwiceSpec)) fnTakeTwiceCard

/-- THE TIED CARD OF 'laws.FnRunThere'. -/
def fnRunThereCard : Claim7 := { stood := { row := fnRunThereRow, standIns := [], harness := (true, "4291756066b51c83c8b2bb27fa1a9e1e253f747694b7eb8ce9f7845f18f7c2a2"), looks := true }, kinds := [], alts := [], laidByText := true, laidKinds := [.sentinel], laidTests := true, laidLooks := .later }
def FnRunThereCardSaid : Prop := Claim7.holds Tryd.pinned (.plain (OpenSpec.ofChange fnRunThereSpec)) fnRunThereCard

/-- THE TIED CARD OF 'laws.FnRunSplit'. -/
def fnRunSplitCard : Claim7 := { stood := { row := fnRunSplitRow, standIns := [], harness := (true, "4291756066b51c83c8b2bb27fa1a9e1e253f747694b7eb8ce9f7845f18f7c2a2"), looks := true }, kinds := [], alts := [], laidByText := true, laidKinds := [.sentinel], laidTests := true, laidLooks := .later }
def FnRunSplitCardSaid : Prop := Claim7.holds Tryd.pinned (.plain (OpenSpec.ofChange fnRunSplitSpec)) fnRunSplitCard

/-- THE TIED CARD OF 'laws.FnMarkStays'. -/
def fnMarkStaysCard : Claim7 := { stood := { row := fnMarkStaysRow, standIns := [], harness := (true, "4291756066b51c83c8b2bb27fa1a9e1e253f747694b7eb8ce9f7845f18f7c2a2"), looks := true }, kinds := [], alts := [], laidByText := true, laidKinds := [.sentinel], laidTests := true, laidLooks := .later }
def FnMarkStaysCardSaid : Prop := Claim7.holds Tryd.pinned (.plain (OpenSpec.ofChange fnMarkStaysSpec)) fnMarkStaysCard

/-- THE TIED CARD OF 'laws.FnOpsBefore'. -/
def fnOpsBeforeCard : Claim7 := { stood := { row := fnOpsBeforeRow, standIns := [], harness := (true, "4291756066b51c83c8b2bb27fa1a9e1e253f747694b7eb8ce9f7845f18f7c2a2"), looks := true }, kinds := [], alts := [], laidByText := true, laidKinds := [.sentinel], laidTests := true, laidLooks := .later }
def FnOpsBeforeCardSaid : Prop := Claim7.holds Tryd.pinned (.plain (OpenSpec.ofChange fnOpsBeforeSpec)) fnOpsBeforeCard

/-- THE TIED CARD OF 'laws.FnOpsLess'. -/
def fnOpsLessCard : Claim7 := { stood := { row := fnOpsLessRow, standIns := [], harness := (true, "4291756066b51c83c8b2bb27fa1a9e1e253f747694b7eb8ce9f7845f18f7c2a2"), looks := true }, kinds := [], alts := [], laidByText := true, laidKinds := [.sentinel], laidTests := true, laidLooks := .later }
def FnOpsLessCardSaid : Prop := Claim7.holds Tryd.pinned (.plain (OpenSpec.ofChange fnOpsLessSpec)) fnOpsLessCard

/-- THE TIED CARD OF 'laws.FnKidsOrder'. -/
def fnKidsOrderCard : Claim7 := { stood := { row := fnKidsOrderRow, standIns := [], harness := (true, "4291756066b51c83c8b2bb27fa1a9e1e253f747694b7eb8ce9f7845f18f7c2a2"), looks := true }, kinds := [], alts := [], laidByText := true, laidKinds := [.sentinel], laidTests := true, laidLooks := .later }
def FnKidsOrderCardSaid : Prop := Claim7.holds Tryd.pinned (.plain (OpenSpec.ofChange fnKidsOrderSpec)) fnKidsOrderCard

/-- THE TIED CARD OF 'laws.FnDeskNew'. -/
def fnDeskNewCard : Claim7 := { stood := { row := fnDeskNewRow, standIns := [], harness := (true, "4291756066b51c83c8b2bb27fa1a9e1e253f747694b7eb8ce9f7845f18f7c2a2"), looks := true }, kinds := [], alts := [], laidByText := true, laidKinds := [.sentinel], laidTests := true, laidLooks := .later }
def FnDeskNewCardSaid : Prop := Claim7.holds Tryd.pinned (.plain (OpenSpec.ofChange fnDeskNewSpec)) fnDeskNewCard

/-- THE TIED CARD OF 'laws.FnInOrder'. -/
def fnInOrderCard : Claim7 := { stood := { row := fnInOrderRow, standIns := [], harness := (true, "4291756066b51c83c8b2bb27fa1a9e1e253f747694b7eb8ce9f7845f18f7c2a2"), looks := true }, kinds := [], alts := [], laidByText := true, laidKinds := [.sentinel], laidTests := true, laidLooks := .later }
def FnInOrderCardSaid : Prop := Claim7.holds Tryd.pinned (.plain (OpenSpec.ofChange fnInOrderSpec)) fnInOrderCard

/-- THE SECOND FORM's CARD OF 'laws.FnTypeAnyone'. -/
def fnTypeAnyoneUptoCard : Claim7 := { stood := { row := fnTypeAnyoneUptoRow, standIns := [], harness := (true, "4291756066b51c83c8b2bb27fa1a9e1e253f747694b7eb8ce9f7845f18f7c2a2"), looks := true }, kinds := [], alts := [], laidByText := true, laidKinds := [.sentinel], laidTests := true, laidLooks := .later }
def FnTypeAnyoneUptoCardSaid : Prop := Claim7.holds Tryd.pinned (.plain (OpenSpec.upto fnTypeAnyoneSpec)) fnTypeAnyoneUptoCard

/-- THE SECOND FORM's CARD OF 'laws.FnTakeCan'. -/
def fnTakeCanUptoCard : Claim7 := { stood := { row := fnTakeCanUptoRow, standIns := [], harness := (true, "4291756066b51c83c8b2bb27fa1a9e1e253f747694b7eb8ce9f7845f18f7c2a2"), looks := true }, kinds := [], alts := [], laidByText := true, laidKinds := [.sentinel], laidTests := true, laidLooks := .later }
def FnTakeCanUptoCardSaid : Prop := Claim7.holds Tryd.pinned (.plain (OpenSpec.upto fnTakeCanSpec)) fnTakeCanUptoCard

/-- THE SECOND FORM's CARD OF 'laws.FnPutCan'. -/
def fnPutCanUptoCard : Claim7 := { stood := { row := fnPutCanUptoRow, standIns := [], harness := (true, "4291756066b51c83c8b2bb27fa1a9e1e253f747694b7eb8ce9f7845f18f7c2a2"), looks := true }, kinds := [], alts := [], laidByText := true, laidKinds := [.sentinel], laidTests := true, laidLooks := .later }
def FnPutCanUptoCardSaid : Prop := Claim7.holds Tryd.pinned (.plain (OpenSpec.upto fnPutCanSpec)) fnPutCanUptoCard

/-- THE SECOND FORM's CARD OF 'laws.FnTakeTwice'. -/
def fnTakeTwiceUptoCard : Claim7 := { stood := { row := fnTakeTwiceUptoRow, standIns := [], harness := (true, "4291756066b51c83c8b2bb27fa1a9e1e253f747694b7eb8ce9f7845f18f7c2a2"), looks := true }, kinds := [], alts := [], laidByText := true, laidKinds := [.sentinel], laidTests := true, laidLooks := .later }
def FnTakeTwiceUptoCardSaid : Prop := Claim7.holds Tryd.pinned (.plain (OpenSpec.upto fnTakeTwiceSpec)) fnTakeTwiceUptoCard

/-- THE SECOND FORM's CARD OF 'laws.FnRunThere'. -/
def fnRunThereUptoCard : Claim7 := { stood := { row := fnRunThereUptoRow, standIns := [], harness := (true, "4291756066b51c83c8b2bb27fa1a9e1e253f747694b7eb8ce9f7845f18f7c2a2"), looks := true }, kinds := [], alts := [], laidByText := true, laidKinds := [.sentinel], laidTests := true, laidLooks := .later }
def FnRunThereUptoCardSaid : Prop := Claim7.holds Tryd.pinned (.plain (OpenSpec.upto fnRunThereSpec)) fnRunThereUptoCard

/-- THE SECOND FORM's CARD OF 'laws.FnRunSplit'. -/
def fnRunSplitUptoCard : Claim7 := { stood := { row := fnRunSplitUptoRow, standIns := [], harness := (true, "4291756066b51c83c8b2bb27fa1a9e1e253f747694b7eb8ce9f7845f18f7c2a2"), looks := true }, kinds := [], alts := [], laidByText := true, laidKinds := [.sentinel], laidTests := true, laidLooks := .later }
def FnRunSplitUptoCardSaid : Prop := Claim7.holds Tryd.pinned (.plain (OpenSpec.upto fnRunSplitSpec)) fnRunSplitUptoCard

/-- THE SECOND FORM's CARD OF 'laws.FnMarkStays'. -/
def fnMarkStaysUptoCard : Claim7 := { stood := { row := fnMarkStaysUptoRow, standIns := [], harness := (true, "4291756066b51c83c8b2bb27fa1a9e1e253f747694b7eb8ce9f7845f18f7c2a2"), looks := true }, kinds := [], alts := [], laidByText := true, laidKinds := [.sentinel], laidTests := true, laidLooks := .later }
def FnMarkStaysUptoCardSaid : Prop := Claim7.holds Tryd.pinned (.plain (OpenSpec.upto fnMarkStaysSpec)) fnMarkStaysUptoCard

/-- THE SECOND FORM's CARD OF 'laws.FnOpsBefore'. -/
def fnOpsBeforeUptoCard : Claim7 := { stood := { row := fnOpsBeforeUptoRow, standIns := [], harness := (true, "4291756066b51c83c8b2bb27fa1a9e1e253f747694b7eb8ce9f7845f18f7c2a2"), looks := true }, kinds := [], alts := [], laidByText := true, laidKinds := [.sentinel], laidTests := true, laidLooks := .later }
def FnOpsBeforeUptoCardSaid : Prop := Claim7.holds Tryd.pinned (.plain (OpenSpec.upto fnOpsBeforeSpec)) fnOpsBeforeUptoCard

/-- THE SECOND FORM's CARD OF 'laws.FnOpsLess'. -/
def fnOpsLessUptoCard : Claim7 := { stood := { row := fnOpsLessUptoRow, standIns := [], harness := (true, "4291756066b51c83c8b2bb27fa1a9e1e253f747694b7eb8ce9f7845f18f7c2a2"), looks := true }, kinds := [], alts := [], laidByText := true, laidKinds := [.sentinel], laidTests := true, laidLooks := .later }
def FnOpsLessUptoCardSaid : Prop := Claim7.holds Tryd.pinned (.plain (OpenSpec.upto fnOpsLessSpec)) fnOpsLessUptoCard

/-- THE SECOND FORM's CARD OF 'laws.FnKidsOrder'. -/
def fnKidsOrderUptoCard : Claim7 := { stood := { row := fnKidsOrderUptoRow, standIns := [], harness := (true, "4291756066b51c83c8b2bb27fa1a9e1e253f747694b7eb8ce9f7845f18f7c2a2"), looks := true }, kinds := [], alts := [], laidByText := true, laidKinds := [.sentinel], laidTests := true, laidLooks := .later }
def FnKidsOrderUptoCardSaid : Prop := Claim7.holds Tryd.pinned (.plain (OpenSpec.upto fnKidsOrderSpec)) fnKidsOrderUptoCard

/-- THE SECOND FORM's CARD OF 'laws.FnDeskNew'. -/
def fnDeskNewUptoCard : Claim7 := { stood := { row := fnDeskNewUptoRow, standIns := [], harness := (true, "4291756066b51c83c8b2bb27fa1a9e1e253f747694b7eb8ce9f7845f18f7c2a2"), looks := true }, kinds := [], alts := [], laidByText := true, laidKinds := [.sentinel], laidTests := true, laidLooks := .later }
def FnDeskNewUptoCardSaid : Prop := Claim7.holds Tryd.pinned (.plain (OpenSpec.upto fnDeskNewSpec)) fnDeskNewUptoCard

/-- THE SECOND FORM's CARD OF 'laws.FnInOrder'. -/
def fnInOrderUptoCard : Claim7 := { stood := { row := fnInOrderUptoRow, standIns := [], harness := (true, "4291756066b51c83c8b2bb27fa1a9e1e253f747694b7eb8ce9f7845f18f7c2a2"), looks := true }, kinds := [], alts := [], laidByText := true, laidKinds := [.sentinel], laidTests := true, laidLooks := .later }
def FnInOrderUptoCardSaid : Prop := Claim7.holds Tryd.pinned (.plain (OpenSpec.upto fnInOrderSpec)) fnInOrderUptoCard
end Rows
end Go.Proofs.YtedanlmippfojaaDoor
