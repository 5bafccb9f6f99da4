/-
  DERIVED. GIVEN WITH THE SEED: THE CARDS: each row of YtlkhmpobpekmpaaDoorRows.lean that lists a variable, with what it lists TIED to the program's text (the seventh form; the later family's looks); each row that meets fmt, with fmt's text TOLD by the authors' own Lean function (tested against real Go, not proved from fmt's source: count such statements apart). THE CARD IS WHAT COUNTS. Prove the row's statement (the work); the ties are given (YtlkhmpobpekmpaaDoorTie.lean); close each card by the builder's one call (the guide's Derived/Test/ToyasCard.lean, 'card_holds'). Laid BY PROGRAM, IN A SANDBOX (cutbox-door.mjs). By AI agents, Wed Nov 11 2026. No macro, syntax, notation, axiom, sorry.
-/
import Derived.Test.YtlkhmpobpekmpaaDoorRows
import GoSem.ClaimSeven
namespace Go.Proofs.YtlkhmpobpekmpaaDoor
namespace Rows

/-- THE TIED CARD OF 'laws.FnOpForm'. -/
def fnOpFormCard : Claim7 := { stood := { row := fnOpFormRow, standIns := [], harness := (true, "5fb725b45953cff8e4c893752cd848174778f298364dd4584a37dfd9c853ceff"), looks := true }, kinds := [], alts := [], laidByText := true, laidKinds := [.sentinel], laidTests := true, laidLooks := .later }
def FnOpFormCardSaid : Prop := Claim7.holds Tryd.pinned (.plain (OpenSpec.ofChange fnOpFormSpec)) fnOpFormCard

/-- THE SECOND FORM's CARD OF 'laws.FnOpForm'. -/
def fnOpFormUptoCard : Claim7 := { stood := { row := fnOpFormUptoRow, standIns := [], harness := (true, "5fb725b45953cff8e4c893752cd848174778f298364dd4584a37dfd9c853ceff"), looks := true }, kinds := [], alts := [], laidByText := true, laidKinds := [.sentinel], laidTests := true, laidLooks := .later }
def FnOpFormUptoCardSaid : Prop := Claim7.holds Tryd.pinned (.plain (OpenSpec.upto fnOpFormSpec)) fnOpFormUptoCard
end Rows
end Go.Proofs.YtlkhmpobpekmpaaDoor
