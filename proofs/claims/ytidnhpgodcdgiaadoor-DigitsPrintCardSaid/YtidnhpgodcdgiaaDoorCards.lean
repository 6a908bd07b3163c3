/-
  DERIVED. GIVEN WITH THE SEED: THE CARDS: each row of YtidnhpgodcdgiaaDoorRows.lean that lists a variable, with what it lists TIED to the program's text (the seventh form; the later family's looks); each row that meets fmt, with fmt's text TOLD by the authors' own Lean function (tested against real Go, not proved from fmt's source: count such statements apart). THE CARD IS WHAT COUNTS. Prove the row's statement (the work); the ties are given (YtidnhpgodcdgiaaDoorTie.lean); close each card by the builder's one call (the guide's Derived/Test/ToyasCard.lean, 'card_holds'). Laid BY PROGRAM, IN A SANDBOX (cutbox-door.mjs). By AI agents, Wed Nov 11 2026. No macro, syntax, notation, axiom, sorry.
-/
import Derived.Test.YtidnhpgodcdgiaaDoorRows
import GoSem.ClaimSeven
namespace Go.Proofs.YtidnhpgodcdgiaaDoor
namespace Rows

/-- THE TIED CARD OF 'hacklelaw03.DigitsParse'. -/
def digitsParseCard : Claim7 := { stood := { row := digitsParseRow, standIns := [], harness := (true, "af603055531a0eea23c0385a3dd43e2136c857e843551fafeafa54ce57e3c6e9"), looks := false }, kinds := [], alts := [], laidByText := true, laidKinds := [.data, .data, .data], laidTests := true, laidLooks := .later }
def DigitsParseCardSaid : Prop := Claim7.holds Tryd.pinned (.plain (OpenSpec.ofChange digitsParseSpec)) digitsParseCard

/-- THE TIED CARD OF 'hacklelaw03.DigitsPrint'. -/
def digitsPrintCard : Claim7 := { stood := { row := digitsPrintRow, standIns := [], harness := (true, "af603055531a0eea23c0385a3dd43e2136c857e843551fafeafa54ce57e3c6e9"), looks := false }, kinds := [], alts := [], laidByText := true, laidKinds := [.data, .data, .data], laidTests := true, laidLooks := .later }
def DigitsPrintCardSaid : Prop := Claim7.holds Tryd.pinned (.plain (OpenSpec.ofChange digitsPrintSpec)) digitsPrintCard

/-- THE TIED CARD OF 'hacklelaw03.DigitsCanon'. -/
def digitsCanonCard : Claim7 := { stood := { row := digitsCanonRow, standIns := [], harness := (true, "af603055531a0eea23c0385a3dd43e2136c857e843551fafeafa54ce57e3c6e9"), looks := false }, kinds := [], alts := [], laidByText := true, laidKinds := [.data, .data, .data], laidTests := true, laidLooks := .later }
def DigitsCanonCardSaid : Prop := Claim7.holds Tryd.pinned (.plain (OpenSpec.ofChange digitsCanonSpec)) digitsCanonCard

/-- THE SECOND FORM's CARD OF 'hacklelaw03.DigitsParse'. -/
def digitsParseUptoCard : Claim7 := { stood := { row := digitsParseUptoRow, standIns := [], harness := (true, "af603055531a0eea23c0385a3dd43e2136c857e843551fafeafa54ce57e3c6e9"), looks := false }, kinds := [], alts := [], laidByText := true, laidKinds := [.data, .data, .data], laidTests := true, laidLooks := .later }
def DigitsParseUptoCardSaid : Prop := Claim7.holds Tryd.pinned (.plain (OpenSpec.upto digitsParseSpec)) digitsParseUptoCard

/-- THE SECOND FORM's CARD OF 'hacklelaw03.DigitsPrint'. -/
def digitsPrintUptoCard : Claim7 := { stood := { row := digitsPrintUptoRow, standIns := [], harness := (true, "af603055531a0eea23c0385a3dd43e2136c857e843551fafeafa54ce57e3c6e9"), looks := false }, kinds := [], alts := [], laidByText := true, laidKinds := [.data, .data, .data], laidTests := true, laidLooks := .later }
def DigitsPrintUptoCardSaid : Prop := Claim7.holds Tryd.pinned (.plain (OpenSpec.upto digitsPrintSpec)) digitsPrintUptoCard

/-- THE SECOND FORM's CARD OF 'hacklelaw03.DigitsCanon'. -/
def digitsCanonUptoCard : Claim7 := { stood := { row := digitsCanonUptoRow, standIns := [], harness := (true, "af603055531a0eea23c0385a3dd43e2136c857e843551fafeafa54ce57e3c6e9"), looks := false }, kinds := [], alts := [], laidByText := true, laidKinds := [.data, .data, .data], laidTests := true, laidLooks := .later }
def DigitsCanonUptoCardSaid : Prop := Claim7.holds Tryd.pinned (.plain (OpenSpec.upto digitsCanonSpec)) digitsCanonUptoCard
end Rows
end Go.Proofs.YtidnhpgodcdgiaaDoor
