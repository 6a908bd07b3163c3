/-
  DERIVED. GIVEN WITH THE SEED: THE CARDS: each row of YtebhnfdgjbhhfaaDoorRows.lean that lists a variable, with what it lists TIED to the program's text (the seventh form; the later family's looks); each row that meets fmt, with fmt's text TOLD by the authors' own Lean function (tested against real Go, not proved from fmt's source: count such statements apart). THE CARD IS WHAT COUNTS. Prove the row's statement (the work); the ties are given (YtebhnfdgjbhhfaaDoorTie.lean); close each card by the builder's one call (the guide's Derived/Test/ToyasCard.lean, 'card_holds'). Laid BY PROGRAM, IN A SANDBOX (cutbox-door.mjs). By AI agents, Wed Nov 11 2026. No macro, syntax, notation, axiom, sorry.
-/
import Derived.Test.YtebhnfdgjbhhfaaDoorRows
import GoSem.ClaimSeven
namespace Go.Proofs.YtebhnfdgjbhhfaaDoor
namespace Rows

/-- THE TIED CARD OF 'hacklelaw02.ClassParts'. -/
def classPartsCard : Claim7 := { stood := { row := classPartsRow, standIns := [], harness := (true, "babe95f72ac6fb154d47395a10c955fdc237e780586b52c26eef863d412809e7"), looks := false }, kinds := [], alts := [], laidByText := true, laidKinds := [.data], laidTests := true, laidLooks := .later }
def ClassPartsCardSaid : Prop := Claim7.holds Tryd.pinned (.plain (OpenSpec.ofChange classPartsSpec)) classPartsCard

/-- THE TIED CARD OF 'hacklelaw02.ClassAsk'. -/
def classAskCard : Claim7 := { stood := { row := classAskRow, standIns := [], harness := (true, "babe95f72ac6fb154d47395a10c955fdc237e780586b52c26eef863d412809e7"), looks := false }, kinds := [], alts := [], laidByText := true, laidKinds := [.data], laidTests := true, laidLooks := .later }
def ClassAskCardSaid : Prop := Claim7.holds Tryd.pinned (.plain (OpenSpec.ofChange classAskSpec)) classAskCard

/-- THE TIED CARD OF 'hacklelaw02.ClassLeast'. -/
def classLeastCard : Claim7 := { stood := { row := classLeastRow, standIns := [], harness := (true, "babe95f72ac6fb154d47395a10c955fdc237e780586b52c26eef863d412809e7"), looks := false }, kinds := [], alts := [], laidByText := true, laidKinds := [.data], laidTests := true, laidLooks := .later }
def ClassLeastCardSaid : Prop := Claim7.holds Tryd.pinned (.plain (OpenSpec.ofChange classLeastSpec)) classLeastCard

/-- THE SECOND FORM's CARD OF 'hacklelaw02.ClassParts'. -/
def classPartsUptoCard : Claim7 := { stood := { row := classPartsUptoRow, standIns := [], harness := (true, "babe95f72ac6fb154d47395a10c955fdc237e780586b52c26eef863d412809e7"), looks := false }, kinds := [], alts := [], laidByText := true, laidKinds := [.data], laidTests := true, laidLooks := .later }
def ClassPartsUptoCardSaid : Prop := Claim7.holds Tryd.pinned (.plain (OpenSpec.upto classPartsSpec)) classPartsUptoCard

/-- THE SECOND FORM's CARD OF 'hacklelaw02.ClassAsk'. -/
def classAskUptoCard : Claim7 := { stood := { row := classAskUptoRow, standIns := [], harness := (true, "babe95f72ac6fb154d47395a10c955fdc237e780586b52c26eef863d412809e7"), looks := false }, kinds := [], alts := [], laidByText := true, laidKinds := [.data], laidTests := true, laidLooks := .later }
def ClassAskUptoCardSaid : Prop := Claim7.holds Tryd.pinned (.plain (OpenSpec.upto classAskSpec)) classAskUptoCard

/-- THE SECOND FORM's CARD OF 'hacklelaw02.ClassLeast'. -/
def classLeastUptoCard : Claim7 := { stood := { row := classLeastUptoRow, standIns := [], harness := (true, "babe95f72ac6fb154d47395a10c955fdc237e780586b52c26eef863d412809e7"), looks := false }, kinds := [], alts := [], laidByText := true, laidKinds := [.data], laidTests := true, laidLooks := .later }
def ClassLeastUptoCardSaid : Prop := Claim7.holds Tryd.pinned (.plain (OpenSpec.upto classLeastSpec)) classLeastUptoCard
end Rows
end Go.Proofs.YtebhnfdgjbhhfaaDoor
