/-
  DERIVED. GIVEN WITH THE SEED: THE CARDS: each row of YtfdhhebgefoalaaDoorRows.lean that lists a variable, with what it lists TIED to the program's text (the seventh form; the later family's looks); each row that meets fmt, with fmt's text TOLD by the authors' own Lean function (tested against real Go, not proved from fmt's source: count such statements apart). THE CARD IS WHAT COUNTS. Prove the row's statement (the work); the ties are given (YtfdhhebgefoalaaDoorTie.lean); close each card by the builder's one call (the guide's Derived/Test/ToyasCard.lean, 'card_holds'). Laid BY PROGRAM, IN A SANDBOX (cutbox-door.mjs). By AI agents, Wed Nov 11 2026. No macro, syntax, notation, axiom, sorry.
-/
import Derived.Test.YtfdhhebgefoalaaDoorRows
import GoSem.ClaimSeven
namespace Go.Proofs.YtfdhhebgefoalaaDoor
namespace Rows

/-- THE TIED CARD OF 'laws.FnExactOpsWith'. -/
def fnExactOpsWithCard : Claim7 := { stood := { row := fnExactOpsWithRow, standIns := [], harness := (true, "2b32bae2d4a10e3e71ad94d9237545df4e464bbb42a7393dac63eaf984c2f13a"), looks := true }, kinds := [], alts := [], laidByText := true, laidKinds := [.sentinel], laidTests := true, laidLooks := .later }
def FnExactOpsWithCardSaid : Prop := Claim7.holds Tryd.pinned (.plain (OpenSpec.ofChange fnExactOpsWithSpec)) fnExactOpsWithCard

/-- THE TIED CARD OF 'laws.FnExactTypeTake'. -/
def fnExactTypeTakeCard : Claim7 := { stood := { row := fnExactTypeTakeRow, standIns := [], harness := (true, "2b32bae2d4a10e3e71ad94d9237545df4e464bbb42a7393dac63eaf984c2f13a"), looks := true }, kinds := [], alts := [], laidByText := true, laidKinds := [.sentinel], laidTests := true, laidLooks := .later }
def FnExactTypeTakeCardSaid : Prop := Claim7.holds Tryd.pinned (.plain (OpenSpec.ofChange fnExactTypeTakeSpec)) fnExactTypeTakeCard

/-- THE TIED CARD OF 'laws.FnExactTypePut'. -/
def fnExactTypePutCard : Claim7 := { stood := { row := fnExactTypePutRow, standIns := [], harness := (true, "2b32bae2d4a10e3e71ad94d9237545df4e464bbb42a7393dac63eaf984c2f13a"), looks := true }, kinds := [], alts := [], laidByText := true, laidKinds := [.sentinel], laidTests := true, laidLooks := .later }
def FnExactTypePutCardSaid : Prop := Claim7.holds Tryd.pinned (.plain (OpenSpec.ofChange fnExactTypePutSpec)) fnExactTypePutCard

/-- THE TIED CARD OF 'laws.FnExactTypeRun'. -/
def fnExactTypeRunCard : Claim7 := { stood := { row := fnExactTypeRunRow, standIns := [], harness := (true, "2b32bae2d4a10e3e71ad94d9237545df4e464bbb42a7393dac63eaf984c2f13a"), looks := true }, kinds := [], alts := [], laidByText := true, laidKinds := [.sentinel], laidTests := true, laidLooks := .later }
def FnExactTypeRunCardSaid : Prop := Claim7.holds Tryd.pinned (.plain (OpenSpec.ofChange fnExactTypeRunSpec)) fnExactTypeRunCard

/-- THE TIED CARD OF 'laws.FnExactDocOk'. -/
def fnExactDocOkCard : Claim7 := { stood := { row := fnExactDocOkRow, standIns := [], harness := (true, "2b32bae2d4a10e3e71ad94d9237545df4e464bbb42a7393dac63eaf984c2f13a"), looks := true }, kinds := [], alts := [], laidByText := true, laidKinds := [.sentinel], laidTests := true, laidLooks := .later }
def FnExactDocOkCardSaid : Prop := Claim7.holds Tryd.pinned (.plain (OpenSpec.ofChange fnExactDocOkSpec)) fnExactDocOkCard

/-- THE TIED CARD OF 'laws.FnExactDocHear'. -/
def fnExactDocHearCard : Claim7 := { stood := { row := fnExactDocHearRow, standIns := [], harness := (true, "2b32bae2d4a10e3e71ad94d9237545df4e464bbb42a7393dac63eaf984c2f13a"), looks := true }, kinds := [], alts := [], laidByText := true, laidKinds := [.sentinel], laidTests := true, laidLooks := .later }
def FnExactDocHearCardSaid : Prop := Claim7.holds Tryd.pinned (.plain (OpenSpec.ofChange fnExactDocHearSpec)) fnExactDocHearCard

/-- THE TIED CARD OF 'laws.FnExactDocAll'. -/
def fnExactDocAllCard : Claim7 := { stood := { row := fnExactDocAllRow, standIns := [], harness := (true, "2b32bae2d4a10e3e71ad94d9237545df4e464bbb42a7393dac63eaf984c2f13a"), looks := true }, kinds := [], alts := [], laidByText := true, laidKinds := [.sentinel], laidTests := true, laidLooks := .later }
def FnExactDocAllCardSaid : Prop := Claim7.holds Tryd.pinned (.plain (OpenSpec.ofChange fnExactDocAllSpec)) fnExactDocAllCard

/-- THE SECOND FORM's CARD OF 'laws.FnExactOpsWith'. -/
def fnExactOpsWithUptoCard : Claim7 := { stood := { row := fnExactOpsWithUptoRow, standIns := [], harness := (true, "2b32bae2d4a10e3e71ad94d9237545df4e464bbb42a7393dac63eaf984c2f13a"), looks := true }, kinds := [], alts := [], laidByText := true, laidKinds := [.sentinel], laidTests := true, laidLooks := .later }
def FnExactOpsWithUptoCardSaid : Prop := Claim7.holds Tryd.pinned (.plain (OpenSpec.upto fnExactOpsWithSpec)) fnExactOpsWithUptoCard

/-- THE SECOND FORM's CARD OF 'laws.FnExactTypeTake'. -/
def fnExactTypeTakeUptoCard : Claim7 := { stood := { row := fnExactTypeTakeUptoRow, standIns := [], harness := (true, "2b32bae2d4a10e3e71ad94d9237545df4e464bbb42a7393dac63eaf984c2f13a"), looks := true }, kinds := [], alts := [], laidByText := true, laidKinds := [.sentinel], laidTests := true, laidLooks := .later }
def FnExactTypeTakeUptoCardSaid : Prop := Claim7.holds Tryd.pinned (.plain (OpenSpec.upto fnExactTypeTakeSpec)) fnExactTypeTakeUptoCard

/-- THE SECOND FORM's CARD OF 'laws.FnExactTypePut'. -/
def fnExactTypePutUptoCard : Claim7 := { stood := { row := fnExactTypePutUptoRow, standIns := [], harness := (true, "2b32bae2d4a10e3e71ad94d9237545df4e464bbb42a7393dac63eaf984c2f13a"), looks := true }, kinds := [], alts := [], laidByText := true, laidKinds := [.sentinel], laidTests := true, laidLooks := .later }
def FnExactTypePutUptoCardSaid : Prop := Claim7.holds Tryd.pinned (.plain (OpenSpec.upto fnExactTypePutSpec)) fnExactTypePutUptoCard

/-- THE SECOND FORM's CARD OF 'laws.FnExactTypeRun'. -/
def fnExactTypeRunUptoCard : Claim7 := { stood := { row := fnExactTypeRunUptoRow, standIns := [], harness := (true, "2b32bae2d4a10e3e71ad94d9237545df4e464bbb42a7393dac63eaf984c2f13a"), looks := true }, kinds := [], alts := [], laidByText := true, laidKinds := [.sentinel], laidTests := true, laidLooks := .later }
def FnExactTypeRunUptoCardSaid : Prop := Claim7.holds Tryd.pinned (.plain (OpenSpec.upto fnExactTypeRunSpec)) fnExactTypeRunUptoCard

/-- THE SECOND FORM's CARD OF 'laws.FnExactDocOk'. -/
def fnExactDocOkUptoCard : Claim7 := { stood := { row := fnExactDocOkUptoRow, standIns := [], harness := (true, "2b32bae2d4a10e3e71ad94d9237545df4e464bbb42a7393dac63eaf984c2f13a"), looks := true }, kinds := [], alts := [], laidByText := true, laidKinds := [.sentinel], laidTests := true, laidLooks := .later }
def FnExactDocOkUptoCardSaid : Prop := Claim7.holds Tryd.pinned (.plain (OpenSpec.upto fnExactDocOkSpec)) fnExactDocOkUptoCard

/-- THE SECOND FORM's CARD OF 'laws.FnExactDocHear'. -/
def fnExactDocHearUptoCard : Claim7 := { stood := { row := fnExactDocHearUptoRow, standIns := [], harness := (true, "2b32bae2d4a10e3e71ad94d9237545df4e464bbb42a7393dac63eaf984c2f13a"), looks := true }, kinds := [], alts := [], laidByText := true, laidKinds := [.sentinel], laidTests := true, laidLooks := .later }
def FnExactDocHearUptoCardSaid : Prop := Claim7.holds Tryd.pinned (.plain (OpenSpec.upto fnExactDocHearSpec)) fnExactDocHearUptoCard

/-- THE SECOND FORM's CARD OF 'laws.FnExactDocAll'. -/
def fnExactDocAllUptoCard : Claim7 := { stood := { row := fnExactDocAllUptoRow, standIns := [], harness := (true, "2b32bae2d4a10e3e71ad94d9237545df4e464bbb42a7393dac63eaf984c2f13a"), looks := true }, kinds := [], alts := [], laidByText := true, laidKinds := [.sentinel], laidTests := true, laidLooks := .later }
def FnExactDocAllUptoCardSaid : Prop := Claim7.holds Tryd.pinned (.plain (OpenSpec.upto fnExactDocAllSpec)) fnExactDocAllUptoCard
end Rows
end Go.Proofs.YtfdhhebgefoalaaDoor
