/-
  DERIVED. GIVEN WITH THE SEED: THE CARDS: each row of YtgbljnnmhmlifaaGreatDoorRows.lean that lists a variable, with what it lists TIED to the program's text (the seventh form; the later family's looks); each row that meets fmt, with fmt's text TOLD by the authors' own Lean function (tested against real Go, not proved from fmt's source: count such statements apart). THE CARD IS WHAT COUNTS. Prove the row's statement (the work); the ties are given (YtgbljnnmhmlifaaGreatDoorTie.lean); close each card by the builder's one call (the guide's Derived/Test/ToyasCard.lean, 'card_holds'). Laid BY PROGRAM, IN A SANDBOX (cutbox-door.mjs). By AI agents, Wed Nov 11 2026. No macro, syntax, notation, axiom, sorry.
-/
import Derived.Test.YtgbljnnmhmlifaaGreatDoorRows
import GoSem.ClaimSeven
namespace Go.Proofs.YtgbljnnmhmlifaaGreatDoor
namespace Rows

/-- THE TIED CARD OF 'hacklelaw09.DfaTags'. -/
def dfaTagsCard : Claim7 := { stood := { row := dfaTagsRow, standIns := [], harness := (true, "64d980efe7c26d0f25d88b2aa0374e9d67ca789c92d34e79b0ccc3449697a003"), looks := false }, kinds := [], alts := [], laidByText := true, laidKinds := [.data], laidTests := true, laidLooks := .later }
def DfaTagsCardSaid : Prop := Claim7.holds Tryz.pinned (.plain (OpenSpec.ofChange dfaTagsSpec)) dfaTagsCard

/-- THE SECOND FORM's CARD OF 'hacklelaw09.DfaTags'. -/
def dfaTagsUptoCard : Claim7 := { stood := { row := dfaTagsUptoRow, standIns := [], harness := (true, "64d980efe7c26d0f25d88b2aa0374e9d67ca789c92d34e79b0ccc3449697a003"), looks := false }, kinds := [], alts := [], laidByText := true, laidKinds := [.data], laidTests := true, laidLooks := .later }
def DfaTagsUptoCardSaid : Prop := Claim7.holds Tryz.pinned (.plain (OpenSpec.upto dfaTagsSpec)) dfaTagsUptoCard
end Rows
end Go.Proofs.YtgbljnnmhmlifaaGreatDoor
