/-
  DERIVED. GIVEN WITH THE SEED: THE CARDS: each row of YtcnpfhnlniiacaaDoorRows.lean that lists a variable, with what it lists TIED to the program's text (the seventh form; the later family's looks); each row that meets fmt, with fmt's text TOLD by the authors' own Lean function (tested against real Go, not proved from fmt's source: count such statements apart). THE CARD IS WHAT COUNTS. Prove the row's statement (the work); the ties are given (YtcnpfhnlniiacaaDoorTie.lean); close each card by the builder's one call (the guide's Derived/Test/ToyasCard.lean, 'card_holds'). Laid BY PROGRAM, IN A SANDBOX (cutbox-door.mjs). By AI agents, Wed Nov 11 2026. No macro, syntax, notation, axiom, sorry.
-/
import Derived.Test.YtcnpfhnlniiacaaDoorRows
import GoSem.ClaimSeven
namespace Go.Proofs.YtcnpfhnlniiacaaDoor
namespace Rows

/-- THE TIED CARD OF 'laws.FnUnderOrder'. -/
def fnUnderOrderCard : Claim7 := { stood := { row := fnUnderOrderRow, standIns := [], harness := (true, "9b23318d66c9aa575f0ab794fdafee951e39654e84311d7d582c966c89026f11"), looks := true }, kinds := [], alts := [], laidByText := true, laidKinds := [.sentinel], laidTests := true, laidLooks := .later }
def FnUnderOrderCardSaid : Prop := Claim7.holds Tryd.pinned (.plain (OpenSpec.ofChange fnUnderOrderSpec)) fnUnderOrderCard

/-- THE TIED CARD OF 'laws.FnTreeFirst'. -/
def fnTreeFirstCard : Claim7 := { stood := { row := fnTreeFirstRow, standIns := [], harness := (true, "9b23318d66c9aa575f0ab794fdafee951e39654e84311d7d582c966c89026f11"), looks := true }, kinds := [], alts := [], laidByText := true, laidKinds := [.sentinel], laidTests := true, laidLooks := .later }
def FnTreeFirstCardSaid : Prop := Claim7.holds Tryd.pinned (.plain (OpenSpec.ofChange fnTreeFirstSpec)) fnTreeFirstCard

/-- THE TIED CARD OF 'laws.FnLeavesSide'. -/
def fnLeavesSideCard : Claim7 := { stood := { row := fnLeavesSideRow, standIns := [], harness := (true, "9b23318d66c9aa575f0ab794fdafee951e39654e84311d7d582c966c89026f11"), looks := true }, kinds := [], alts := [], laidByText := true, laidKinds := [.sentinel], laidTests := true, laidLooks := .later }
def FnLeavesSideCardSaid : Prop := Claim7.holds Tryd.pinned (.plain (OpenSpec.ofChange fnLeavesSideSpec)) fnLeavesSideCard

/-- THE TIED CARD OF 'laws.FnLeavesWhole'. -/
def fnLeavesWholeCard : Claim7 := { stood := { row := fnLeavesWholeRow, standIns := [], harness := (true, "9b23318d66c9aa575f0ab794fdafee951e39654e84311d7d582c966c89026f11"), looks := true }, kinds := [], alts := [], laidByText := true, laidKinds := [.sentinel], laidTests := true, laidLooks := .later }
def FnLeavesWholeCardSaid : Prop := Claim7.holds Tryd.pinned (.plain (OpenSpec.ofChange fnLeavesWholeSpec)) fnLeavesWholeCard

/-- THE TIED CARD OF 'laws.FnKidsOrder'. -/
def fnKidsOrderCard : Claim7 := { stood := { row := fnKidsOrderRow, standIns := [], harness := (true, "9b23318d66c9aa575f0ab794fdafee951e39654e84311d7d582c966c89026f11"), looks := true }, kinds := [], alts := [], laidByText := true, laidKinds := [.sentinel], laidTests := true, laidLooks := .later }
def FnKidsOrderCardSaid : Prop := Claim7.holds Tryd.pinned (.plain (OpenSpec.ofChange fnKidsOrderSpec)) fnKidsOrderCard

/-- THE TIED CARD OF 'laws.FnOpsBefore'. -/
def fnOpsBeforeCard : Claim7 := { stood := { row := fnOpsBeforeRow, standIns := [], harness := (true, "9b23318d66c9aa575f0ab794fdafee951e39654e84311d7d582c966c89026f11"), looks := true }, kinds := [], alts := [], laidByText := true, laidKinds := [.sentinel], laidTests := true, laidLooks := .later }
def FnOpsBeforeCardSaid : Prop := Claim7.holds Tryd.pinned (.plain (OpenSpec.ofChange fnOpsBeforeSpec)) fnOpsBeforeCard

/-- THE TIED CARD OF 'laws.FnOpsLess'. -/
def fnOpsLessCard : Claim7 := { stood := { row := fnOpsLessRow, standIns := [], harness := (true, "9b23318d66c9aa575f0ab794fdafee951e39654e84311d7d582c966c89026f11"), looks := true }, kinds := [], alts := [], laidByText := true, laidKinds := [.sentinel], laidTests := true, laidLooks := .later }
def FnOpsLessCardSaid : Prop := Claim7.holds Tryd.pinned (.plain (OpenSpec.ofChange fnOpsLessSpec)) fnOpsLessCard

/-- THE TIED CARD OF 'laws.FnTreeMore'. -/
def fnTreeMoreCard : Claim7 := { stood := { row := fnTreeMoreRow, standIns := [], harness := (true, "9b23318d66c9aa575f0ab794fdafee951e39654e84311d7d582c966c89026f11"), looks := true }, kinds := [], alts := [], laidByText := true, laidKinds := [.sentinel], laidTests := true, laidLooks := .later }
def FnTreeMoreCardSaid : Prop := Claim7.holds Tryd.pinned (.plain (OpenSpec.ofChange fnTreeMoreSpec)) fnTreeMoreCard

/-- THE TIED CARD OF 'laws.FnTakeCan'. -/
def fnTakeCanCard : Claim7 := { stood := { row := fnTakeCanRow, standIns := [], harness := (true, "9b23318d66c9aa575f0ab794fdafee951e39654e84311d7d582c966c89026f11"), looks := true }, kinds := [], alts := [], laidByText := true, laidKinds := [.sentinel], laidTests := true, laidLooks := .later }
def FnTakeCanCardSaid : Prop := Claim7.holds Tryd.pinned (.plain (OpenSpec.ofChange fnTakeCanSpec)) fnTakeCanCard

/-- THE TIED CARD OF 'laws.FnPutCan'. -/
def fnPutCanCard : Claim7 := { stood := { row := fnPutCanRow, standIns := [], harness := (true, "9b23318d66c9aa575f0ab794fdafee951e39654e84311d7d582c966c89026f11"), looks := true }, kinds := [], alts := [], laidByText := true, laidKinds := [.sentinel], laidTests := true, laidLooks := .later }
def FnPutCanCardSaid : Prop := Claim7.holds Tryd.pinned (.plain (OpenSpec.ofChange fnPutCanSpec)) fnPutCanCard

/-- THE TIED CARD OF 'laws.FnTypeAnyone'. -/
def fnTypeAnyoneCard : Claim7 := { stood := { row := fnTypeAnyoneRow, standIns := [], harness := (true, "9b23318d66c9aa575f0ab794fdafee951e39654e84311d7d582c966c89026f11"), looks := true }, kinds := [], alts := [], laidByText := true, laidKinds := [.sentinel], laidTests := true, laidLooks := .later }
def FnTypeAnyoneCardSaid : Prop := Claim7.holds Tryd.pinned (.plain (OpenSpec.ofChange fnTypeAnyoneSpec)) fnTypeAnyoneCard

/-- THE TIED CARD OF 'laws.FnWithOne'. -/
def fnWithOneCard : Claim7 := { stood := { row := fnWithOneRow, standIns := [], harness := (true, "9b23318d66c9aa575f0ab794fdafee951e39654e84311d7d582c966c89026f11"), looks := true }, kinds := [], alts := [], laidByText := true, laidKinds := [.sentinel], laidTests := true, laidLooks := .later }
def FnWithOneCardSaid : Prop := Claim7.holds Tryd.pinned (.plain (OpenSpec.ofChange fnWithOneSpec)) fnWithOneCard

/-- THE SECOND FORM's CARD OF 'laws.FnUnderOrder'. -/
def fnUnderOrderUptoCard : Claim7 := { stood := { row := fnUnderOrderUptoRow, standIns := [], harness := (true, "9b23318d66c9aa575f0ab794fdafee951e39654e84311d7d582c966c89026f11"), looks := true }, kinds := [], alts := [], laidByText := true, laidKinds := [.sentinel], laidTests := true, laidLooks := .later }
def FnUnderOrderUptoCardSaid : Prop := Claim7.holds Tryd.pinned (.plain (OpenSpec.upto fnUnderOrderSpec)) fnUnderOrderUptoCard

/-- THE SECOND FORM's CARD OF 'laws.FnTreeFirst'. -/
def fnTreeFirstUptoCard : Claim7 := { stood := { row := fnTreeFirstUptoRow, standIns := [], harness := (true, "9b23318d66c9aa575f0ab794fdafee951e39654e84311d7d582c966c89026f11"), looks := true }, kinds := [], alts := [], laidByText := true, laidKinds := [.sentinel], laidTests := true, laidLooks := .later }
def FnTreeFirstUptoCardSaid : Prop := Claim7.holds Tryd.pinned (.plain (OpenSpec.upto fnTreeFirstSpec)) fnTreeFirstUptoCard

/-- THE SECOND FORM's CARD OF 'laws.FnLeavesSide'. -/
def fnLeavesSideUptoCard : Claim7 := { stood := { row := fnLeavesSideUptoRow, standIns := [], harness := (true, "9b23318d66c9aa575f0ab794fdafee951e39654e84311d7d582c966c89026f11"), looks := true }, kinds := [], alts := [], laidByText := true, laidKinds := [.sentinel], laidTests := true, laidLooks := .later }
def FnLeavesSideUptoCardSaid : Prop := Claim7.holds Tryd.pinned (.plain (OpenSpec.upto fnLeavesSideSpec)) fnLeavesSideUptoCard

/-- THE SECOND FORM's CARD OF 'laws.FnLeavesWhole'. -/
def fnLeavesWholeUptoCard : Claim7 := { stood := { row := fnLeavesWholeUptoRow, standIns := [], harness := (true, "9b23318d66c9aa575f0ab794fdafee951e39654e84311d7d582c966c89026f11"), looks := true }, kinds := [], alts := [], laidByText := true, laidKinds := [.sentinel], laidTests := true, laidLooks := .later }
def FnLeavesWholeUptoCardSaid : Prop := Claim7.holds Tryd.pinned (.plain (OpenSpec.upto fnLeavesWholeSpec)) fnLeavesWholeUptoCard

/-- THE SECOND FORM's CARD OF 'laws.FnKidsOrder'. -/
def fnKidsOrderUptoCard : Claim7 := { stood := { row := fnKidsOrderUptoRow, standIns := [], harness := (true, "9b23318d66c9aa575f0ab794fdafee951e39654e84311d7d582c966c89026f11"), looks := true }, kinds := [], alts := [], laidByText := true, laidKinds := [.sentinel], laidTests := true, laidLooks := .later }
def FnKidsOrderUptoCardSaid : Prop := Claim7.holds Tryd.pinned (.plain (OpenSpec.upto fnKidsOrderSpec)) fnKidsOrderUptoCard

/-- THE SECOND FORM's CARD OF 'laws.FnOpsBefore'. -/
def fnOpsBeforeUptoCard : Claim7 := { stood := { row := fnOpsBeforeUptoRow, standIns := [], harness := (true, "9b23318d66c9aa575f0ab794fdafee951e39654e84311d7d582c966c89026f11"), looks := true }, kinds := [], alts := [], laidByText := true, laidKinds := [.sentinel], laidTests := true, laidLooks := .later }
def FnOpsBeforeUptoCardSaid : Prop := Claim7.holds Tryd.pinned (.plain (OpenSpec.upto fnOpsBeforeSpec)) fnOpsBeforeUptoCard

/-- THE SECOND FORM's CARD OF 'laws.FnOpsLess'. -/
def fnOpsLessUptoCard : Claim7 := { stood := { row := fnOpsLessUptoRow, standIns := [], harness := (true, "9b23318d66c9aa575f0ab794fdafee951e39654e84311d7d582c966c89026f11"), looks := true }, kinds := [], alts := [], laidByText := true, laidKinds := [.sentinel], laidTests := true, laidLooks := .later }
def FnOpsLessUptoCardSaid : Prop := Claim7.holds Tryd.pinned (.plain (OpenSpec.upto fnOpsLessSpec)) fnOpsLessUptoCard

/-- THE SECOND FORM's CARD OF 'laws.FnTreeMore'. -/
def fnTreeMoreUptoCard : Claim7 := { stood := { row := fnTreeMoreUptoRow, standIns := [], harness := (true, "9b23318d66c9aa575f0ab794fdafee951e39654e84311d7d582c966c89026f11"), looks := true }, kinds := [], alts := [], laidByText := true, laidKinds := [.sentinel], laidTests := true, laidLooks := .later }
def FnTreeMoreUptoCardSaid : Prop := Claim7.holds Tryd.pinned (.plain (OpenSpec.upto fnTreeMoreSpec)) fnTreeMoreUptoCard

/-- THE SECOND FORM's CARD OF 'laws.FnTakeCan'. -/
def fnTakeCanUptoCard : Claim7 := { stood := { row := fnTakeCanUptoRow, standIns := [], harness := (true, "9b23318d66c9aa575f0ab794fdafee951e39654e84311d7d582c966c89026f11"), looks := true }, kinds := [], alts := [], laidByText := true, laidKinds := [.sentinel], laidTests := true, laidLooks := .later }
def FnTakeCanUptoCardSaid : Prop := Claim7.holds Tryd.pinned (.plain (OpenSpec.upto fnTakeCanSpec)) fnTakeCanUptoCard

/-- THE SECOND FORM's CARD OF 'laws.FnPutCan'. -/
def fnPutCanUptoCard : Claim7 := { stood := { row := fnPutCanUptoRow, standIns := [], harness := (true, "9b23318d66c9aa575f0ab794fdafee951e39654e84311d7d582c966c89026f11"), looks := true }, kinds := [], alts := [], laidByText := true, laidKinds := [.sentinel], laidTests := true, laidLooks := .later }
def FnPutCanUptoCardSaid : Prop := Claim7.holds Tryd.pinned (.plain (OpenSpec.upto fnPutCanSpec)) fnPutCanUptoCard

/-- THE SECOND FORM's CARD OF 'laws.FnTypeAnyone'. -/
def fnTypeAnyoneUptoCard : Claim7 := { stood := { row := fnTypeAnyoneUptoRow, standIns := [], harness := (true, "9b23318d66c9aa575f0ab794fdafee951e39654e84311d7d582c966c89026f11"), looks := true }, kinds := [], alts := [], laidByText := true, laidKinds := [.sentinel], laidTests := true, laidLooks := .later }
def FnTypeAnyoneUptoCardSaid : Prop := Claim7.holds Tryd.pinned (.plain (OpenSpec.upto fnTypeAnyoneSpec)) fnTypeAnyoneUptoCard

/-- THE SECOND FORM's CARD OF 'laws.FnWithOne'. -/
def fnWithOneUptoCard : Claim7 := { stood := { row := fnWithOneUptoRow, standIns := [], harness := (true, "9b23318d66c9aa575f0ab794fdafee951e39654e84311d7d582c966c89026f11"), looks := true }, kinds := [], alts := [], laidByText := true, laidKinds := [.sentinel], laidTests := true, laidLooks := .later }
def FnWithOneUptoCardSaid : Prop := Claim7.holds Tryd.pinned (.plain (OpenSpec.upto fnWithOneSpec)) fnWithOneUptoCard
end Rows
end Go.Proofs.YtcnpfhnlniiacaaDoor
