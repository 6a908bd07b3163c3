/-
  DERIVED. GIVEN WITH THE SEED: THE CARDS: each row of YtkcnknhhabbomaaDoorRows.lean that lists a variable, with what it lists TIED to the program's text (the seventh form; the later family's looks); each row that meets fmt, with fmt's text TOLD by the authors' own Lean function (tested against real Go, not proved from fmt's source: count such statements apart). THE CARD IS WHAT COUNTS. Prove the row's statement (the work); the ties are given (YtkcnknhhabbomaaDoorTie.lean); close each card by the builder's one call (the guide's Derived/Test/ToyasCard.lean, 'card_holds'). Laid BY PROGRAM, IN A SANDBOX (cutbox-door.mjs). By AI agents, Wed Nov 11 2026. No macro, syntax, notation, axiom, sorry.
-/
import Derived.Test.YtkcnknhhabbomaaDoorRows
import GoSem.ClaimSeven
namespace Go.Proofs.YtkcnknhhabbomaaDoor
namespace Rows

/-- THE TIED CARD OF 'hacklelaw09.DfaSubsets'. -/
def dfaSubsetsCard : Claim7 := { stood := { row := dfaSubsetsRow, standIns := [], harness := (true, "0797b8d17c3d42271042c2d6c985e0bdaceb98e921e720f53248c0d117771261"), looks := false }, kinds := [], alts := [], laidByText := true, laidKinds := [.data], laidTests := true, laidLooks := .later }
def DfaSubsetsCardSaid : Prop := Claim7.holds Tryd.pinned (.plain (OpenSpec.ofChange dfaSubsetsSpec)) dfaSubsetsCard

/-- THE TIED CARD OF 'hacklelaw09.DfaTrims'. -/
def dfaTrimsCard : Claim7 := { stood := { row := dfaTrimsRow, standIns := [], harness := (true, "0797b8d17c3d42271042c2d6c985e0bdaceb98e921e720f53248c0d117771261"), looks := false }, kinds := [], alts := [], laidByText := true, laidKinds := [.data], laidTests := true, laidLooks := .later }
def DfaTrimsCardSaid : Prop := Claim7.holds Tryd.pinned (.plain (OpenSpec.ofChange dfaTrimsSpec)) dfaTrimsCard

/-- THE SECOND FORM's CARD OF 'hacklelaw09.DfaSubsets'. -/
def dfaSubsetsUptoCard : Claim7 := { stood := { row := dfaSubsetsUptoRow, standIns := [], harness := (true, "0797b8d17c3d42271042c2d6c985e0bdaceb98e921e720f53248c0d117771261"), looks := false }, kinds := [], alts := [], laidByText := true, laidKinds := [.data], laidTests := true, laidLooks := .later }
def DfaSubsetsUptoCardSaid : Prop := Claim7.holds Tryd.pinned (.plain (OpenSpec.upto dfaSubsetsSpec)) dfaSubsetsUptoCard

/-- THE SECOND FORM's CARD OF 'hacklelaw09.DfaTrims'. -/
def dfaTrimsUptoCard : Claim7 := { stood := { row := dfaTrimsUptoRow, standIns := [], harness := (true, "0797b8d17c3d42271042c2d6c985e0bdaceb98e921e720f53248c0d117771261"), looks := false }, kinds := [], alts := [], laidByText := true, laidKinds := [.data], laidTests := true, laidLooks := .later }
def DfaTrimsUptoCardSaid : Prop := Claim7.holds Tryd.pinned (.plain (OpenSpec.upto dfaTrimsSpec)) dfaTrimsUptoCard
end Rows
end Go.Proofs.YtkcnknhhabbomaaDoor
