/-
  DERIVED. GIVEN WITH THE SEED: THE CARDS: each row of YtgjfhbpmahgfcaaDoorRows.lean that lists a variable, with what it lists TIED to the program's text (the seventh form; the later family's looks); each row that meets fmt, with fmt's text TOLD by the authors' own Lean function (tested against real Go, not proved from fmt's source: count such statements apart). THE CARD IS WHAT COUNTS. Prove the row's statement (the work); the ties are given (YtgjfhbpmahgfcaaDoorTie.lean); close each card by the builder's one call (the guide's Derived/Test/ToyasCard.lean, 'card_holds'). Laid BY PROGRAM, IN A SANDBOX (cutbox-door.mjs). By AI agents, Wed Nov 11 2026. No macro, syntax, notation, axiom, sorry.
-/
import Derived.Test.YtgjfhbpmahgfcaaDoorRows
import GoSem.ClaimSeven
namespace Go.Proofs.YtgjfhbpmahgfcaaDoor
namespace Rows

/-- THE TIED CARD OF 'hacklelaw14.RprintQuotes'. -/
def rprintQuotesCard : Claim7 := { stood := { row := rprintQuotesRow, standIns := [], harness := (true, "4b012c756a0392ea86cc5e95cb7ccd2d9864f32fc756aeb8356fa8f0cd660514"), looks := false }, kinds := [], alts := [], laidByText := true, laidKinds := [.data, .data, .data], laidTests := true, laidLooks := .later }
def RprintQuotesCardSaid : Prop := Claim7.holds Tryd.pinned (.plain (OpenSpec.ofChange rprintQuotesSpec)) rprintQuotesCard

/-- THE SECOND FORM's CARD OF 'hacklelaw14.RprintQuotes'. -/
def rprintQuotesUptoCard : Claim7 := { stood := { row := rprintQuotesUptoRow, standIns := [], harness := (true, "4b012c756a0392ea86cc5e95cb7ccd2d9864f32fc756aeb8356fa8f0cd660514"), looks := false }, kinds := [], alts := [], laidByText := true, laidKinds := [.data, .data, .data], laidTests := true, laidLooks := .later }
def RprintQuotesUptoCardSaid : Prop := Claim7.holds Tryd.pinned (.plain (OpenSpec.upto rprintQuotesSpec)) rprintQuotesUptoCard
end Rows
end Go.Proofs.YtgjfhbpmahgfcaaDoor
