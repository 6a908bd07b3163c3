/-
  DERIVED. GIVEN WITH THE SEED: THE CARDS: each row of YtjhdacckodoohaaDoorRows.lean that lists a variable, with what it lists TIED to the program's text (the seventh form; the later family's looks); each row that meets fmt, with fmt's text TOLD by the authors' own Lean function (tested against real Go, not proved from fmt's source: count such statements apart). THE CARD IS WHAT COUNTS. Prove the row's statement (the work); the ties are given (YtjhdacckodoohaaDoorTie.lean); close each card by the builder's one call (the guide's Derived/Test/ToyasCard.lean, 'card_holds'). Laid BY PROGRAM, IN A SANDBOX (cutbox-door.mjs). By AI agents, Wed Nov 11 2026. No macro, syntax, notation, axiom, sorry.
-/
import Derived.Test.YtjhdacckodoohaaDoorRows
import GoSem.ClaimSeven
namespace Go.Proofs.YtjhdacckodoohaaDoor
namespace Rows

/-- THE TIED CARD OF 'hacklelaw01.OctsMakes'. -/
def octsMakesCard : Claim7 := { stood := { row := octsMakesRow, standIns := [], harness := (true, "36af7370db962d8add8bd97ded87ae9b2ad3c603a70a1cbeef445a11c0ae6805"), looks := false }, kinds := [], alts := [], laidByText := true, laidKinds := [.data], laidTests := true, laidLooks := .later }
def OctsMakesCardSaid : Prop := Claim7.holds Tryd.pinned (.plain (OpenSpec.ofChange octsMakesSpec)) octsMakesCard

/-- THE TIED CARD OF 'hacklelaw01.OctsTwo'. -/
def octsTwoCard : Claim7 := { stood := { row := octsTwoRow, standIns := [], harness := (true, "36af7370db962d8add8bd97ded87ae9b2ad3c603a70a1cbeef445a11c0ae6805"), looks := false }, kinds := [], alts := [], laidByText := true, laidKinds := [.data], laidTests := true, laidLooks := .later }
def OctsTwoCardSaid : Prop := Claim7.holds Tryd.pinned (.plain (OpenSpec.ofChange octsTwoSpec)) octsTwoCard

/-- THE TIED CARD OF 'hacklelaw01.OctsAsk'. -/
def octsAskCard : Claim7 := { stood := { row := octsAskRow, standIns := [], harness := (true, "36af7370db962d8add8bd97ded87ae9b2ad3c603a70a1cbeef445a11c0ae6805"), looks := false }, kinds := [], alts := [], laidByText := true, laidKinds := [.data], laidTests := true, laidLooks := .later }
def OctsAskCardSaid : Prop := Claim7.holds Tryd.pinned (.plain (OpenSpec.ofChange octsAskSpec)) octsAskCard

/-- THE TIED CARD OF 'hacklelaw01.OctsParts'. -/
def octsPartsCard : Claim7 := { stood := { row := octsPartsRow, standIns := [], harness := (true, "36af7370db962d8add8bd97ded87ae9b2ad3c603a70a1cbeef445a11c0ae6805"), looks := false }, kinds := [], alts := [], laidByText := true, laidKinds := [.data], laidTests := true, laidLooks := .later }
def OctsPartsCardSaid : Prop := Claim7.holds Tryd.pinned (.plain (OpenSpec.ofChange octsPartsSpec)) octsPartsCard

/-- THE SECOND FORM's CARD OF 'hacklelaw01.OctsMakes'. -/
def octsMakesUptoCard : Claim7 := { stood := { row := octsMakesUptoRow, standIns := [], harness := (true, "36af7370db962d8add8bd97ded87ae9b2ad3c603a70a1cbeef445a11c0ae6805"), looks := false }, kinds := [], alts := [], laidByText := true, laidKinds := [.data], laidTests := true, laidLooks := .later }
def OctsMakesUptoCardSaid : Prop := Claim7.holds Tryd.pinned (.plain (OpenSpec.upto octsMakesSpec)) octsMakesUptoCard

/-- THE SECOND FORM's CARD OF 'hacklelaw01.OctsTwo'. -/
def octsTwoUptoCard : Claim7 := { stood := { row := octsTwoUptoRow, standIns := [], harness := (true, "36af7370db962d8add8bd97ded87ae9b2ad3c603a70a1cbeef445a11c0ae6805"), looks := false }, kinds := [], alts := [], laidByText := true, laidKinds := [.data], laidTests := true, laidLooks := .later }
def OctsTwoUptoCardSaid : Prop := Claim7.holds Tryd.pinned (.plain (OpenSpec.upto octsTwoSpec)) octsTwoUptoCard

/-- THE SECOND FORM's CARD OF 'hacklelaw01.OctsAsk'. -/
def octsAskUptoCard : Claim7 := { stood := { row := octsAskUptoRow, standIns := [], harness := (true, "36af7370db962d8add8bd97ded87ae9b2ad3c603a70a1cbeef445a11c0ae6805"), looks := false }, kinds := [], alts := [], laidByText := true, laidKinds := [.data], laidTests := true, laidLooks := .later }
def OctsAskUptoCardSaid : Prop := Claim7.holds Tryd.pinned (.plain (OpenSpec.upto octsAskSpec)) octsAskUptoCard

/-- THE SECOND FORM's CARD OF 'hacklelaw01.OctsParts'. -/
def octsPartsUptoCard : Claim7 := { stood := { row := octsPartsUptoRow, standIns := [], harness := (true, "36af7370db962d8add8bd97ded87ae9b2ad3c603a70a1cbeef445a11c0ae6805"), looks := false }, kinds := [], alts := [], laidByText := true, laidKinds := [.data], laidTests := true, laidLooks := .later }
def OctsPartsUptoCardSaid : Prop := Claim7.holds Tryd.pinned (.plain (OpenSpec.upto octsPartsSpec)) octsPartsUptoCard
end Rows
end Go.Proofs.YtjhdacckodoohaaDoor
