/-
  DERIVED. GIVEN WITH THE SEED: THE CARDS: each row of YtdjpphjpnkfeiaaGreatDoorRows.lean that lists a variable, with what it lists TIED to the program's text (the seventh form; the later family's looks); each row that meets fmt, with fmt's text TOLD by the authors' own Lean function (tested against real Go, not proved from fmt's source: count such statements apart). THE CARD IS WHAT COUNTS. Prove the row's statement (the work); the ties are given (YtdjpphjpnkfeiaaGreatDoorTie.lean); close each card by the builder's one call (the guide's Derived/Test/ToyasCard.lean, 'card_holds'). Laid BY PROGRAM, IN A SANDBOX (cutbox-door.mjs). By AI agents, Wed Nov 11 2026. No macro, syntax, notation, axiom, sorry.
-/
import Derived.Test.YtdjpphjpnkfeiaaGreatDoorRows
import GoSem.ClaimSeven
namespace Go.Proofs.YtdjpphjpnkfeiaaGreatDoor
namespace Rows

/-- THE TIED CARD OF 'hacklelaw12.ProdWalks'. -/
def prodWalksCard : Claim7 := { stood := { row := prodWalksRow, standIns := [], harness := (true, "e5ca92110988360d790e301f74b95b2abbf82bbe870b071a1bbf4a8780fe275a"), looks := false }, kinds := [], alts := [], laidByText := true, laidKinds := [.data], laidTests := true, laidLooks := .later }
def ProdWalksCardSaid : Prop := Claim7.holds Tryz.pinned (.plain (OpenSpec.ofChange prodWalksSpec)) prodWalksCard

/-- THE TIED CARD OF 'hacklelaw12.ProdFinds'. -/
def prodFindsCard : Claim7 := { stood := { row := prodFindsRow, standIns := [], harness := (true, "e5ca92110988360d790e301f74b95b2abbf82bbe870b071a1bbf4a8780fe275a"), looks := false }, kinds := [], alts := [], laidByText := true, laidKinds := [.data], laidTests := true, laidLooks := .later }
def ProdFindsCardSaid : Prop := Claim7.holds Tryz.pinned (.plain (OpenSpec.ofChange prodFindsSpec)) prodFindsCard

/-- THE TIED CARD OF 'hacklelaw12.ProdOver'. -/
def prodOverCard : Claim7 := { stood := { row := prodOverRow, standIns := [], harness := (true, "e5ca92110988360d790e301f74b95b2abbf82bbe870b071a1bbf4a8780fe275a"), looks := false }, kinds := [], alts := [], laidByText := true, laidKinds := [.data], laidTests := true, laidLooks := .later }
def ProdOverCardSaid : Prop := Claim7.holds Tryz.pinned (.plain (OpenSpec.ofChange prodOverSpec)) prodOverCard

/-- THE SECOND FORM's CARD OF 'hacklelaw12.ProdWalks'. -/
def prodWalksUptoCard : Claim7 := { stood := { row := prodWalksUptoRow, standIns := [], harness := (true, "e5ca92110988360d790e301f74b95b2abbf82bbe870b071a1bbf4a8780fe275a"), looks := false }, kinds := [], alts := [], laidByText := true, laidKinds := [.data], laidTests := true, laidLooks := .later }
def ProdWalksUptoCardSaid : Prop := Claim7.holds Tryz.pinned (.plain (OpenSpec.upto prodWalksSpec)) prodWalksUptoCard

/-- THE SECOND FORM's CARD OF 'hacklelaw12.ProdFinds'. -/
def prodFindsUptoCard : Claim7 := { stood := { row := prodFindsUptoRow, standIns := [], harness := (true, "e5ca92110988360d790e301f74b95b2abbf82bbe870b071a1bbf4a8780fe275a"), looks := false }, kinds := [], alts := [], laidByText := true, laidKinds := [.data], laidTests := true, laidLooks := .later }
def ProdFindsUptoCardSaid : Prop := Claim7.holds Tryz.pinned (.plain (OpenSpec.upto prodFindsSpec)) prodFindsUptoCard

/-- THE SECOND FORM's CARD OF 'hacklelaw12.ProdOver'. -/
def prodOverUptoCard : Claim7 := { stood := { row := prodOverUptoRow, standIns := [], harness := (true, "e5ca92110988360d790e301f74b95b2abbf82bbe870b071a1bbf4a8780fe275a"), looks := false }, kinds := [], alts := [], laidByText := true, laidKinds := [.data], laidTests := true, laidLooks := .later }
def ProdOverUptoCardSaid : Prop := Claim7.holds Tryz.pinned (.plain (OpenSpec.upto prodOverSpec)) prodOverUptoCard
end Rows
end Go.Proofs.YtdjpphjpnkfeiaaGreatDoor
