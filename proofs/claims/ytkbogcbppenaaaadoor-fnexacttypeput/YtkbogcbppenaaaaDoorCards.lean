/-
  DERIVED. GIVEN WITH THE SEED: THE CARDS: each row of YtkbogcbppenaaaaDoorRows.lean that lists a variable, with what it lists TIED to the program's text (the seventh form; the later family's looks); each row that meets fmt, with fmt's text TOLD by the authors' own Lean function (tested against real Go, not proved from fmt's source: count such statements apart). THE CARD IS WHAT COUNTS. Prove the row's statement (the work); the ties are given (YtkbogcbppenaaaaDoorTie.lean); close each card by the builder's one call (the guide's Derived/Test/ToyasCard.lean, 'card_holds'). Laid BY PROGRAM, IN A SANDBOX (cutbox-door.mjs). By AI agents, Wed Nov 11 2026. No macro, syntax, notation, axiom, sorry.
-/
import Derived.Test.YtkbogcbppenaaaaDoorRows
import GoSem.ClaimSeven
namespace Go.Proofs.YtkbogcbppenaaaaDoor
namespace Rows

/-- THE TIED CARD OF 'laws.FnExactMarkPlace'. -/
def fnExactMarkPlaceCard : Claim7 := { stood := { row := fnExactMarkPlaceRow, standIns := [], harness := (true, "cb254f5afafd8db5399f3d2e5ac8a7561a6f64971c06ca58a612c182efa6aa29"), looks := true }, kinds := [], alts := [], laidByText := true, laidKinds := [.sentinel], laidTests := true, laidLooks := .later }
def FnExactMarkPlaceCardSaid : Prop := Claim7.holds Tryd.pinned (.plain (OpenSpec.ofChange fnExactMarkPlaceSpec)) fnExactMarkPlaceCard

/-- THE TIED CARD OF 'laws.FnExactMarkAt'. -/
def fnExactMarkAtCard : Claim7 := { stood := { row := fnExactMarkAtRow, standIns := [], harness := (true, "cb254f5afafd8db5399f3d2e5ac8a7561a6f64971c06ca58a612c182efa6aa29"), looks := true }, kinds := [], alts := [], laidByText := true, laidKinds := [.sentinel], laidTests := true, laidLooks := .later }
def FnExactMarkAtCardSaid : Prop := Claim7.holds Tryd.pinned (.plain (OpenSpec.ofChange fnExactMarkAtSpec)) fnExactMarkAtCard

/-- THE TIED CARD OF 'laws.FnExactMarkSpan'. -/
def fnExactMarkSpanCard : Claim7 := { stood := { row := fnExactMarkSpanRow, standIns := [], harness := (true, "cb254f5afafd8db5399f3d2e5ac8a7561a6f64971c06ca58a612c182efa6aa29"), looks := true }, kinds := [], alts := [], laidByText := true, laidKinds := [.sentinel], laidTests := true, laidLooks := .later }
def FnExactMarkSpanCardSaid : Prop := Claim7.holds Tryd.pinned (.plain (OpenSpec.ofChange fnExactMarkSpanSpec)) fnExactMarkSpanCard

/-- THE TIED CARD OF 'laws.FnExactOpsIn'. -/
def fnExactOpsInCard : Claim7 := { stood := { row := fnExactOpsInRow, standIns := [], harness := (true, "cb254f5afafd8db5399f3d2e5ac8a7561a6f64971c06ca58a612c182efa6aa29"), looks := true }, kinds := [], alts := [], laidByText := true, laidKinds := [.sentinel], laidTests := true, laidLooks := .later }
def FnExactOpsInCardSaid : Prop := Claim7.holds Tryd.pinned (.plain (OpenSpec.ofChange fnExactOpsInSpec)) fnExactOpsInCard

/-- THE TIED CARD OF 'laws.FnExactOpsMerge'. -/
def fnExactOpsMergeCard : Claim7 := { stood := { row := fnExactOpsMergeRow, standIns := [], harness := (true, "cb254f5afafd8db5399f3d2e5ac8a7561a6f64971c06ca58a612c182efa6aa29"), looks := true }, kinds := [], alts := [], laidByText := true, laidKinds := [.sentinel], laidTests := true, laidLooks := .later }
def FnExactOpsMergeCardSaid : Prop := Claim7.holds Tryd.pinned (.plain (OpenSpec.ofChange fnExactOpsMergeSpec)) fnExactOpsMergeCard

/-- THE TIED CARD OF 'laws.FnExactOpsPast'. -/
def fnExactOpsPastCard : Claim7 := { stood := { row := fnExactOpsPastRow, standIns := [], harness := (true, "cb254f5afafd8db5399f3d2e5ac8a7561a6f64971c06ca58a612c182efa6aa29"), looks := true }, kinds := [], alts := [], laidByText := true, laidKinds := [.sentinel], laidTests := true, laidLooks := .later }
def FnExactOpsPastCardSaid : Prop := Claim7.holds Tryd.pinned (.plain (OpenSpec.ofChange fnExactOpsPastSpec)) fnExactOpsPastCard

/-- THE TIED CARD OF 'laws.FnExactTypeTake'. -/
def fnExactTypeTakeCard : Claim7 := { stood := { row := fnExactTypeTakeRow, standIns := [], harness := (true, "cb254f5afafd8db5399f3d2e5ac8a7561a6f64971c06ca58a612c182efa6aa29"), looks := true }, kinds := [], alts := [], laidByText := true, laidKinds := [.sentinel], laidTests := true, laidLooks := .later }
def FnExactTypeTakeCardSaid : Prop := Claim7.holds Tryd.pinned (.plain (OpenSpec.ofChange fnExactTypeTakeSpec)) fnExactTypeTakeCard

/-- THE TIED CARD OF 'laws.FnExactTypePut'. -/
def fnExactTypePutCard : Claim7 := { stood := { row := fnExactTypePutRow, standIns := [], harness := (true, "cb254f5afafd8db5399f3d2e5ac8a7561a6f64971c06ca58a612c182efa6aa29"), looks := true }, kinds := [], alts := [], laidByText := true, laidKinds := [.sentinel], laidTests := true, laidLooks := .later }
def FnExactTypePutCardSaid : Prop := Claim7.holds Tryd.pinned (.plain (OpenSpec.ofChange fnExactTypePutSpec)) fnExactTypePutCard

/-- THE TIED CARD OF 'laws.FnExactTypeRun'. -/
def fnExactTypeRunCard : Claim7 := { stood := { row := fnExactTypeRunRow, standIns := [], harness := (true, "cb254f5afafd8db5399f3d2e5ac8a7561a6f64971c06ca58a612c182efa6aa29"), looks := true }, kinds := [], alts := [], laidByText := true, laidKinds := [.sentinel], laidTests := true, laidLooks := .later }
def FnExactTypeRunCardSaid : Prop := Claim7.holds Tryd.pinned (.plain (OpenSpec.ofChange fnExactTypeRunSpec)) fnExactTypeRunCard

/-- THE TIED CARD OF 'laws.FnExactDocOk'. -/
def fnExactDocOkCard : Claim7 := { stood := { row := fnExactDocOkRow, standIns := [], harness := (true, "cb254f5afafd8db5399f3d2e5ac8a7561a6f64971c06ca58a612c182efa6aa29"), looks := true }, kinds := [], alts := [], laidByText := true, laidKinds := [.sentinel], laidTests := true, laidLooks := .later }
def FnExactDocOkCardSaid : Prop := Claim7.holds Tryd.pinned (.plain (OpenSpec.ofChange fnExactDocOkSpec)) fnExactDocOkCard

/-- THE TIED CARD OF 'laws.FnExactDocHear'. -/
def fnExactDocHearCard : Claim7 := { stood := { row := fnExactDocHearRow, standIns := [], harness := (true, "cb254f5afafd8db5399f3d2e5ac8a7561a6f64971c06ca58a612c182efa6aa29"), looks := true }, kinds := [], alts := [], laidByText := true, laidKinds := [.sentinel], laidTests := true, laidLooks := .later }
def FnExactDocHearCardSaid : Prop := Claim7.holds Tryd.pinned (.plain (OpenSpec.ofChange fnExactDocHearSpec)) fnExactDocHearCard

/-- THE TIED CARD OF 'laws.FnExactDocAll'. -/
def fnExactDocAllCard : Claim7 := { stood := { row := fnExactDocAllRow, standIns := [], harness := (true, "cb254f5afafd8db5399f3d2e5ac8a7561a6f64971c06ca58a612c182efa6aa29"), looks := true }, kinds := [], alts := [], laidByText := true, laidKinds := [.sentinel], laidTests := true, laidLooks := .later }
def FnExactDocAllCardSaid : Prop := Claim7.holds Tryd.pinned (.plain (OpenSpec.ofChange fnExactDocAllSpec)) fnExactDocAllCard

/-- THE SECOND FORM's CARD OF 'laws.FnExactMarkPlace'. -/
def fnExactMarkPlaceUptoCard : Claim7 := { stood := { row := fnExactMarkPlaceUptoRow, standIns := [], harness := (true, "cb254f5afafd8db5399f3d2e5ac8a7561a6f64971c06ca58a612c182efa6aa29"), looks := true }, kinds := [], alts := [], laidByText := true, laidKinds := [.sentinel], laidTests := true, laidLooks := .later }
def FnExactMarkPlaceUptoCardSaid : Prop := Claim7.holds Tryd.pinned (.plain (OpenSpec.upto fnExactMarkPlaceSpec)) fnExactMarkPlaceUptoCard

/-- THE SECOND FORM's CARD OF 'laws.FnExactMarkAt'. -/
def fnExactMarkAtUptoCard : Claim7 := { stood := { row := fnExactMarkAtUptoRow, standIns := [], harness := (true, "cb254f5afafd8db5399f3d2e5ac8a7561a6f64971c06ca58a612c182efa6aa29"), looks := true }, kinds := [], alts := [], laidByText := true, laidKinds := [.sentinel], laidTests := true, laidLooks := .later }
def FnExactMarkAtUptoCardSaid : Prop := Claim7.holds Tryd.pinned (.plain (OpenSpec.upto fnExactMarkAtSpec)) fnExactMarkAtUptoCard

/-- THE SECOND FORM's CARD OF 'laws.FnExactMarkSpan'. -/
def fnExactMarkSpanUptoCard : Claim7 := { stood := { row := fnExactMarkSpanUptoRow, standIns := [], harness := (true, "cb254f5afafd8db5399f3d2e5ac8a7561a6f64971c06ca58a612c182efa6aa29"), looks := true }, kinds := [], alts := [], laidByText := true, laidKinds := [.sentinel], laidTests := true, laidLooks := .later }
def FnExactMarkSpanUptoCardSaid : Prop := Claim7.holds Tryd.pinned (.plain (OpenSpec.upto fnExactMarkSpanSpec)) fnExactMarkSpanUptoCard

/-- THE SECOND FORM's CARD OF 'laws.FnExactOpsIn'. -/
def fnExactOpsInUptoCard : Claim7 := { stood := { row := fnExactOpsInUptoRow, standIns := [], harness := (true, "cb254f5afafd8db5399f3d2e5ac8a7561a6f64971c06ca58a612c182efa6aa29"), looks := true }, kinds := [], alts := [], laidByText := true, laidKinds := [.sentinel], laidTests := true, laidLooks := .later }
def FnExactOpsInUptoCardSaid : Prop := Claim7.holds Tryd.pinned (.plain (OpenSpec.upto fnExactOpsInSpec)) fnExactOpsInUptoCard

/-- THE SECOND FORM's CARD OF 'laws.FnExactOpsMerge'. -/
def fnExactOpsMergeUptoCard : Claim7 := { stood := { row := fnExactOpsMergeUptoRow, standIns := [], harness := (true, "cb254f5afafd8db5399f3d2e5ac8a7561a6f64971c06ca58a612c182efa6aa29"), looks := true }, kinds := [], alts := [], laidByText := true, laidKinds := [.sentinel], laidTests := true, laidLooks := .later }
def FnExactOpsMergeUptoCardSaid : Prop := Claim7.holds Tryd.pinned (.plain (OpenSpec.upto fnExactOpsMergeSpec)) fnExactOpsMergeUptoCard

/-- THE SECOND FORM's CARD OF 'laws.FnExactOpsPast'. -/
def fnExactOpsPastUptoCard : Claim7 := { stood := { row := fnExactOpsPastUptoRow, standIns := [], harness := (true, "cb254f5afafd8db5399f3d2e5ac8a7561a6f64971c06ca58a612c182efa6aa29"), looks := true }, kinds := [], alts := [], laidByText := true, laidKinds := [.sentinel], laidTests := true, laidLooks := .later }
def FnExactOpsPastUptoCardSaid : Prop := Claim7.holds Tryd.pinned (.plain (OpenSpec.upto fnExactOpsPastSpec)) fnExactOpsPastUptoCard

/-- THE SECOND FORM's CARD OF 'laws.FnExactTypeTake'. -/
def fnExactTypeTakeUptoCard : Claim7 := { stood := { row := fnExactTypeTakeUptoRow, standIns := [], harness := (true, "cb254f5afafd8db5399f3d2e5ac8a7561a6f64971c06ca58a612c182efa6aa29"), looks := true }, kinds := [], alts := [], laidByText := true, laidKinds := [.sentinel], laidTests := true, laidLooks := .later }
def FnExactTypeTakeUptoCardSaid : Prop := Claim7.holds Tryd.pinned (.plain (OpenSpec.upto fnExactTypeTakeSpec)) fnExactTypeTakeUptoCard

/-- THE SECOND FORM's CARD OF 'laws.FnExactTypePut'. -/
def fnExactTypePutUptoCard : Claim7 := { stood := { row := fnExactTypePutUptoRow, standIns := [], harness := (true, "cb254f5afafd8db5399f3d2e5ac8a7561a6f64971c06ca58a612c182efa6aa29"), looks := true }, kinds := [], alts := [], laidByText := true, laidKinds := [.sentinel], laidTests := true, laidLooks := .later }
def FnExactTypePutUptoCardSaid : Prop := Claim7.holds Tryd.pinned (.plain (OpenSpec.upto fnExactTypePutSpec)) fnExactTypePutUptoCard

/-- THE SECOND FORM's CARD OF 'laws.FnExactTypeRun'. -/
def fnExactTypeRunUptoCard : Claim7 := { stood := { row := fnExactTypeRunUptoRow, standIns := [], harness := (true, "cb254f5afafd8db5399f3d2e5ac8a7561a6f64971c06ca58a612c182efa6aa29"), looks := true }, kinds := [], alts := [], laidByText := true, laidKinds := [.sentinel], laidTests := true, laidLooks := .later }
def FnExactTypeRunUptoCardSaid : Prop := Claim7.holds Tryd.pinned (.plain (OpenSpec.upto fnExactTypeRunSpec)) fnExactTypeRunUptoCard

/-- THE SECOND FORM's CARD OF 'laws.FnExactDocOk'. -/
def fnExactDocOkUptoCard : Claim7 := { stood := { row := fnExactDocOkUptoRow, standIns := [], harness := (true, "cb254f5afafd8db5399f3d2e5ac8a7561a6f64971c06ca58a612c182efa6aa29"), looks := true }, kinds := [], alts := [], laidByText := true, laidKinds := [.sentinel], laidTests := true, laidLooks := .later }
def FnExactDocOkUptoCardSaid : Prop := Claim7.holds Tryd.pinned (.plain (OpenSpec.upto fnExactDocOkSpec)) fnExactDocOkUptoCard

/-- THE SECOND FORM's CARD OF 'laws.FnExactDocHear'. -/
def fnExactDocHearUptoCard : Claim7 := { stood := { row := fnExactDocHearUptoRow, standIns := [], harness := (true, "cb254f5afafd8db5399f3d2e5ac8a7561a6f64971c06ca58a612c182efa6aa29"), looks := true }, kinds := [], alts := [], laidByText := true, laidKinds := [.sentinel], laidTests := true, laidLooks := .later }
def FnExactDocHearUptoCardSaid : Prop := Claim7.holds Tryd.pinned (.plain (OpenSpec.upto fnExactDocHearSpec)) fnExactDocHearUptoCard

/-- THE SECOND FORM's CARD OF 'laws.FnExactDocAll'. -/
def fnExactDocAllUptoCard : Claim7 := { stood := { row := fnExactDocAllUptoRow, standIns := [], harness := (true, "cb254f5afafd8db5399f3d2e5ac8a7561a6f64971c06ca58a612c182efa6aa29"), looks := true }, kinds := [], alts := [], laidByText := true, laidKinds := [.sentinel], laidTests := true, laidLooks := .later }
def FnExactDocAllUptoCardSaid : Prop := Claim7.holds Tryd.pinned (.plain (OpenSpec.upto fnExactDocAllSpec)) fnExactDocAllUptoCard
end Rows
end Go.Proofs.YtkbogcbppenaaaaDoor
