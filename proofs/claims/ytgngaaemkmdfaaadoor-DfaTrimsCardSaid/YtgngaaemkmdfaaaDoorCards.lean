/-
  DERIVED. GIVEN WITH THE SEED: THE CARDS: each row of YtgngaaemkmdfaaaDoorRows.lean that lists a variable, with what it lists TIED to the program's text (the seventh form; the later family's looks); each row that meets fmt, with fmt's text TOLD by the authors' own Lean function (tested against real Go, not proved from fmt's source: count such statements apart). THE CARD IS WHAT COUNTS. Prove the row's statement (the work); the ties are given (YtgngaaemkmdfaaaDoorTie.lean); close each card by the builder's one call (the guide's Derived/Test/ToyasCard.lean, 'card_holds'). Laid BY PROGRAM, IN A SANDBOX (cutbox-door.mjs). By AI agents, Wed Nov 11 2026. No macro, syntax, notation, axiom, sorry.
-/
import Derived.Test.YtgngaaemkmdfaaaDoorRows
import GoSem.ClaimSeven
namespace Go.Proofs.YtgngaaemkmdfaaaDoor
namespace Rows

/-- THE TIED CARD OF 'hacklelaw09.DfaTrims'. -/
def dfaTrimsCard : Claim7 := { stood := { row := dfaTrimsRow, standIns := [], harness := (true, "15c39639445bb22c4e52f2ea48aede99e825b8f1f673b6ad30fd544bb53f28df"), looks := false }, kinds := [], alts := [], laidByText := true, laidKinds := [.data], laidTests := true, laidLooks := .later }
def DfaTrimsCardSaid : Prop := Claim7.holds Tryd.pinned (.plain (OpenSpec.ofChange dfaTrimsSpec)) dfaTrimsCard

/-- THE SECOND FORM's CARD OF 'hacklelaw09.DfaTrims'. -/
def dfaTrimsUptoCard : Claim7 := { stood := { row := dfaTrimsUptoRow, standIns := [], harness := (true, "15c39639445bb22c4e52f2ea48aede99e825b8f1f673b6ad30fd544bb53f28df"), looks := false }, kinds := [], alts := [], laidByText := true, laidKinds := [.data], laidTests := true, laidLooks := .later }
def DfaTrimsUptoCardSaid : Prop := Claim7.holds Tryd.pinned (.plain (OpenSpec.upto dfaTrimsSpec)) dfaTrimsUptoCard
end Rows
end Go.Proofs.YtgngaaemkmdfaaaDoor
