/-
  DERIVED. GIVEN WITH THE SEED: THE CARDS: each row of YtjadkhejdbdpoaaDoorRows.lean that lists a variable, with what it lists TIED to the program's text (the seventh form; the later family's looks); each row that meets fmt, with fmt's text TOLD by the authors' own Lean function (tested against real Go, not proved from fmt's source: count such statements apart). THE CARD IS WHAT COUNTS. Prove the row's statement (the work); the ties are given (YtjadkhejdbdpoaaDoorTie.lean); close each card by the builder's one call (the guide's Derived/Test/ToyasCard.lean, 'card_holds'). Laid BY PROGRAM, IN A SANDBOX (cutbox-door.mjs). By AI agents, Wed Nov 11 2026. No macro, syntax, notation, axiom, sorry.
-/
import Derived.Test.YtjadkhejdbdpoaaDoorRows
import GoSem.ClaimSeven
namespace Go.Proofs.YtjadkhejdbdpoaaDoor
namespace Rows

/-- THE TIED CARD OF 'laws.FnPutCan'. -/
def fnPutCanCard : Claim7 := { stood := { row := fnPutCanRow, standIns := [], harness := (true, "9f25db1ce3eb03e1e34f8fa738d8ebdd405959d8ab5438c748bc88b2a33add18"), looks := true }, kinds := [], alts := [], laidByText := true, laidKinds := [.sentinel], laidTests := true, laidLooks := .later }
def FnPutCanCardSaid : Prop := Claim7.holds Tryd.pinned (.plain (OpenSpec.ofChange fnPutCanSpec)) fnPutCanCard

/-- THE TIED CARD OF 'laws.FnTakeCan'. -/
def fnTakeCanCard : Claim7 := { stood := { row := fnTakeCanRow, standIns := [], harness := (true, "9f25db1ce3eb03e1e34f8fa738d8ebdd405959d8ab5438c748bc88b2a33add18"), looks := true }, kinds := [], alts := [], laidByText := true, laidKinds := [.sentinel], laidTests := true, laidLooks := .later }
def FnTakeCanCardSaid : Prop := Claim7.holds Tryd.pinned (.plain (OpenSpec.ofChange fnTakeCanSpec)) fnTakeCanCard

/-- THE TIED CARD OF 'laws.FnTypeAnyone'. -/
def fnTypeAnyoneCard : Claim7 := { stood := { row := fnTypeAnyoneRow, standIns := [], harness := (true, "9f25db1ce3eb03e1e34f8fa738d8ebdd405959d8ab5438c748bc88b2a33add18"), looks := true }, kinds := [], alts := [], laidByText := true, laidKinds := [.sentinel], laidTests := true, laidLooks := .later }
def FnTypeAnyoneCardSaid : Prop := Claim7.holds Tryd.pinned (.plain (OpenSpec.ofChange fnTypeAnyoneSpec)) fnTypeAnyoneCard

/-- THE TIED CARD OF 'laws.FnPutTwo'. -/
def fnPutTwoCard : Claim7 := { stood := { row := fnPutTwoRow, standIns := [], harness := (true, "9f25db1ce3eb03e1e34f8fa738d8ebdd405959d8ab5438c748bc88b2a33add18"), looks := true }, kinds := [], alts := [], laidByText := true, laidKinds := [.sentinel], laidTests := true, laidLooks := .later }
def FnPutTwoCardSaid : Prop := Claim7.holds Tryd.pinned (.plain (OpenSpec.ofChange fnPutTwoSpec)) fnPutTwoCard

/-- THE TIED CARD OF 'laws.FnTakeTwice'. -/
def fnTakeTwiceCard : Claim7 := { stood := { row := fnTakeTwiceRow, standIns := [], harness := (true, "9f25db1ce3eb03e1e34f8fa738d8ebdd405959d8ab5438c748bc88b2a33add18"), looks := true }, kinds := [], alts := [], laidByText := true, laidKinds := [.sentinel], laidTests := true, laidLooks := .later }
def FnTakeTwiceCardSaid : Prop := Claim7.holds Tryd.pinned (.plain (OpenSpec.ofChange fnTakeTwiceSpec)) fnTakeTwiceCard

/-- THE TIED CARD OF 'laws.FnPutBeside'. -/
def fnPutBesideCard : Claim7 := { stood := { row := fnPutBesideRow, standIns := [], harness := (true, "9f25db1ce3eb03e1e34f8fa738d8ebdd405959d8ab5438c748bc88b2a33add18"), looks := true }, kinds := [], alts := [], laidByText := true, laidKinds := [.sentinel], laidTests := true, laidLooks := .later }
def FnPutBesideCardSaid : Prop := Claim7.holds Tryd.pinned (.plain (OpenSpec.ofChange fnPutBesideSpec)) fnPutBesideCard

/-- THE TIED CARD OF 'laws.FnMarkSpan'. -/
def fnMarkSpanCard : Claim7 := { stood := { row := fnMarkSpanRow, standIns := [], harness := (true, "9f25db1ce3eb03e1e34f8fa738d8ebdd405959d8ab5438c748bc88b2a33add18"), looks := true }, kinds := [], alts := [], laidByText := true, laidKinds := [.sentinel], laidTests := true, laidLooks := .later }
def FnMarkSpanCardSaid : Prop := Claim7.holds Tryd.pinned (.plain (OpenSpec.ofChange fnMarkSpanSpec)) fnMarkSpanCard

/-- THE TIED CARD OF 'laws.FnRunThere'. -/
def fnRunThereCard : Claim7 := { stood := { row := fnRunThereRow, standIns := [], harness := (true, "9f25db1ce3eb03e1e34f8fa738d8ebdd405959d8ab5438c748bc88b2a33add18"), looks := true }, kinds := [], alts := [], laidByText := true, laidKinds := [.sentinel], laidTests := true, laidLooks := .later }
def FnRunThereCardSaid : Prop := Claim7.holds Tryd.pinned (.plain (OpenSpec.ofChange fnRunThereSpec)) fnRunThereCard

/-- THE TIED CARD OF 'laws.FnRunSplit'. -/
def fnRunSplitCard : Claim7 := { stood := { row := fnRunSplitRow, standIns := [], harness := (true, "9f25db1ce3eb03e1e34f8fa738d8ebdd405959d8ab5438c748bc88b2a33add18"), looks := true }, kinds := [], alts := [], laidByText := true, laidKinds := [.sentinel], laidTests := true, laidLooks := .later }
def FnRunSplitCardSaid : Prop := Claim7.holds Tryd.pinned (.plain (OpenSpec.ofChange fnRunSplitSpec)) fnRunSplitCard

/-- THE TIED CARD OF 'laws.FnRunTogether'. -/
def fnRunTogetherCard : Claim7 := { stood := { row := fnRunTogetherRow, standIns := [], harness := (true, "9f25db1ce3eb03e1e34f8fa738d8ebdd405959d8ab5438c748bc88b2a33add18"), looks := true }, kinds := [], alts := [], laidByText := true, laidKinds := [.sentinel], laidTests := true, laidLooks := .later }
def FnRunTogetherCardSaid : Prop := Claim7.holds Tryd.pinned (.plain (OpenSpec.ofChange fnRunTogetherSpec)) fnRunTogetherCard

/-- THE TIED CARD OF 'laws.FnRunBack'. -/
def fnRunBackCard : Claim7 := { stood := { row := fnRunBackRow, standIns := [], harness := (true, "9f25db1ce3eb03e1e34f8fa738d8ebdd405959d8ab5438c748bc88b2a33add18"), looks := true }, kinds := [], alts := [], laidByText := true, laidKinds := [.sentinel], laidTests := true, laidLooks := .later }
def FnRunBackCardSaid : Prop := Claim7.holds Tryd.pinned (.plain (OpenSpec.ofChange fnRunBackSpec)) fnRunBackCard

/-- THE TIED CARD OF 'laws.FnMarkStays'. -/
def fnMarkStaysCard : Claim7 := { stood := { row := fnMarkStaysRow, standIns := [], harness := (true, "9f25db1ce3eb03e1e34f8fa738d8ebdd405959d8ab5438c748bc88b2a33add18"), looks := true }, kinds := [], alts := [], laidByText := true, laidKinds := [.sentinel], laidTests := true, laidLooks := .later }
def FnMarkStaysCardSaid : Prop := Claim7.holds Tryd.pinned (.plain (OpenSpec.ofChange fnMarkStaysSpec)) fnMarkStaysCard

/-- THE SECOND FORM's CARD OF 'laws.FnPutCan'. -/
def fnPutCanUptoCard : Claim7 := { stood := { row := fnPutCanUptoRow, standIns := [], harness := (true, "9f25db1ce3eb03e1e34f8fa738d8ebdd405959d8ab5438c748bc88b2a33add18"), looks := true }, kinds := [], alts := [], laidByText := true, laidKinds := [.sentinel], laidTests := true, laidLooks := .later }
def FnPutCanUptoCardSaid : Prop := Claim7.holds Tryd.pinned (.plain (OpenSpec.upto fnPutCanSpec)) fnPutCanUptoCard

/-- THE SECOND FORM's CARD OF 'laws.FnTakeCan'. -/
def fnTakeCanUptoCard : Claim7 := { stood := { row := fnTakeCanUptoRow, standIns := [], harness := (true, "9f25db1ce3eb03e1e34f8fa738d8ebdd405959d8ab5438c748bc88b2a33add18"), looks := true }, kinds := [], alts := [], laidByText := true, laidKinds := [.sentinel], laidTests := true, laidLooks := .later }
def FnTakeCanUptoCardSaid : Prop := Claim7.holds Tryd.pinned (.plain (OpenSpec.upto fnTakeCanSpec)) fnTakeCanUptoCard

/-- THE SECOND FORM's CARD OF 'laws.FnTypeAnyone'. -/
def fnTypeAnyoneUptoCard : Claim7 := { stood := { row := fnTypeAnyoneUptoRow, standIns := [], harness := (true, "9f25db1ce3eb03e1e34f8fa738d8ebdd405959d8ab5438c748bc88b2a33add18"), looks := true }, kinds := [], alts := [], laidByText := true, laidKinds := [.sentinel], laidTests := true, laidLooks := .later }
def FnTypeAnyoneUptoCardSaid : Prop := Claim7.holds Tryd.pinned (.plain (OpenSpec.upto fnTypeAnyoneSpec)) fnTypeAnyoneUptoCard

/-- THE SECOND FORM's CARD OF 'laws.FnPutTwo'. -/
def fnPutTwoUptoCard : Claim7 := { stood := { row := fnPutTwoUptoRow, standIns := [], harness := (true, "9f25db1ce3eb03e1e34f8fa738d8ebdd405959d8ab5438c748bc88b2a33add18"), looks := true }, kinds := [], alts := [], laidByText := true, laidKinds := [.sentinel], laidTests := true, laidLooks := .later }
def FnPutTwoUptoCardSaid : Prop := Claim7.holds Tryd.pinned (.plain (OpenSpec.upto fnPutTwoSpec)) fnPutTwoUptoCard

/-- THE SECOND FORM's CARD OF 'laws.FnTakeTwice'. -/
def fnTakeTwiceUptoCard : Claim7 := { stood := { row := fnTakeTwiceUptoRow, standIns := [], harness := (true, "9f25db1ce3eb03e1e34f8fa738d8ebdd405959d8ab5438c748bc88b2a33add18"), looks := true }, kinds := [], alts := [], laidByText := true, laidKinds := [.sentinel], laidTests := true, laidLooks := .later }
def FnTakeTwiceUptoCardSaid : Prop := Claim7.holds Tryd.pinned (.plain (OpenSpec.upto fnTakeTwiceSpec)) fnTakeTwiceUptoCard

/-- THE SECOND FORM's CARD OF 'laws.FnPutBeside'. -/
def fnPutBesideUptoCard : Claim7 := { stood := { row := fnPutBesideUptoRow, standIns := [], harness := (true, "9f25db1ce3eb03e1e34f8fa738d8ebdd405959d8ab5438c748bc88b2a33add18"), looks := true }, kinds := [], alts := [], laidByText := true, laidKinds := [.sentinel], laidTests := true, laidLooks := .later }
def FnPutBesideUptoCardSaid : Prop := Claim7.holds Tryd.pinned (.plain (OpenSpec.upto fnPutBesideSpec)) fnPutBesideUptoCard

/-- THE SECOND FORM's CARD OF 'laws.FnMarkSpan'. -/
def fnMarkSpanUptoCard : Claim7 := { stood := { row := fnMarkSpanUptoRow, standIns := [], harness := (true, "9f25db1ce3eb03e1e34f8fa738d8ebdd405959d8ab5438c748bc88b2a33add18"), looks := true }, kinds := [], alts := [], laidByText := true, laidKinds := [.sentinel], laidTests := true, laidLooks := .later }
def FnMarkSpanUptoCardSaid : Prop := Claim7.holds Tryd.pinned (.plain (OpenSpec.upto fnMarkSpanSpec)) fnMarkSpanUptoCard

/-- THE SECOND FORM's CARD OF 'laws.FnRunThere'. -/
def fnRunThereUptoCard : Claim7 := { stood := { row := fnRunThereUptoRow, standIns := [], harness := (true, "9f25db1ce3eb03e1e34f8fa738d8ebdd405959d8ab5438c748bc88b2a33add18"), looks := true }, kinds := [], alts := [], laidByText := true, laidKinds := [.sentinel], laidTests := true, laidLooks := .later }
def FnRunThereUptoCardSaid : Prop := Claim7.holds Tryd.pinned (.plain (OpenSpec.upto fnRunThereSpec)) fnRunThereUptoCard

/-- THE SECOND FORM's CARD OF 'laws.FnRunSplit'. -/
def fnRunSplitUptoCard : Claim7 := { stood := { row := fnRunSplitUptoRow, standIns := [], harness := (true, "9f25db1ce3eb03e1e34f8fa738d8ebdd405959d8ab5438c748bc88b2a33add18"), looks := true }, kinds := [], alts := [], laidByText := true, laidKinds := [.sentinel], laidTests := true, laidLooks := .later }
def FnRunSplitUptoCardSaid : Prop := Claim7.holds Tryd.pinned (.plain (OpenSpec.upto fnRunSplitSpec)) fnRunSplitUptoCard

/-- THE SECOND FORM's CARD OF 'laws.FnRunTogether'. -/
def fnRunTogetherUptoCard : Claim7 := { stood := { row := fnRunTogetherUptoRow, standIns := [], harness := (true, "9f25db1ce3eb03e1e34f8fa738d8ebdd405959d8ab5438c748bc88b2a33add18"), looks := true }, kinds := [], alts := [], laidByText := true, laidKinds := [.sentinel], laidTests := true, laidLooks := .later }
def FnRunTogetherUptoCardSaid : Prop := Claim7.holds Tryd.pinned (.plain (OpenSpec.upto fnRunTogetherSpec)) fnRunTogetherUptoCard

/-- THE SECOND FORM's CARD OF 'laws.FnRunBack'. -/
def fnRunBackUptoCard : Claim7 := { stood := { row := fnRunBackUptoRow, standIns := [], harness := (true, "9f25db1ce3eb03e1e34f8fa738d8ebdd405959d8ab5438c748bc88b2a33add18"), looks := true }, kinds := [], alts := [], laidByText := true, laidKinds := [.sentinel], laidTests := true, laidLooks := .later }
def FnRunBackUptoCardSaid : Prop := Claim7.holds Tryd.pinned (.plain (OpenSpec.upto fnRunBackSpec)) fnRunBackUptoCard

/-- THE SECOND FORM's CARD OF 'laws.FnMarkStays'. -/
def fnMarkStaysUptoCard : Claim7 := { stood := { row := fnMarkStaysUptoRow, standIns := [], harness := (true, "9f25db1ce3eb03e1e34f8fa738d8ebdd405959d8ab5438c748bc88b2a33add18"), looks := true }, kinds := [], alts := [], laidByText := true, laidKinds := [.sentinel], laidTests := true, laidLooks := .later }
def FnMarkStaysUptoCardSaid : Prop := Claim7.holds Tryd.pinned (.plain (OpenSpec.upto fnMarkStaysSpec)) fnMarkStaysUptoCard
end Rows
end Go.Proofs.YtjadkhejdbdpoaaDoor
