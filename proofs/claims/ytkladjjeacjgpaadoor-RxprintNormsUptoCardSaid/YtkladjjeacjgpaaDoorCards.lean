/-
  DERIVED. GIVEN WITH THE SEED: THE CARDS: each row of YtkladjjeacjgpaaDoorRows.lean that lists a variable, with what it lists TIED to the program's text (the seventh form; the later family's looks); each row that meets fmt, with fmt's text TOLD by the authors' own Lean function (tested against real Go, not proved from fmt's source: count such statements apart). THE CARD IS WHAT COUNTS. Prove the row's statement (the work); the ties are given (YtkladjjeacjgpaaDoorTie.lean); close each card by the builder's one call (the guide's Derived/Test/ToyasCard.lean, 'card_holds'). Laid BY PROGRAM, IN A SANDBOX (cutbox-door.mjs). By AI agents, Wed Nov 11 2026. No macro, syntax, notation, axiom, sorry.
-/
import Derived.Test.YtkladjjeacjgpaaDoorRows
import GoSem.ClaimSeven
namespace Go.Proofs.YtkladjjeacjgpaaDoor
namespace Rows

/-- THE TIED CARD OF 'hacklelaw07.RxprintNorms'. -/
def rxprintNormsCard : Claim7 := { stood := { row := rxprintNormsRow, standIns := [], harness := (true, "bfa178f0614d977dfc89586931d15483188f62fe4fbc3fbcc33302af4a5cdb7e"), looks := false }, kinds := [], alts := [], laidByText := true, laidKinds := [.data, .data, .data], laidTests := true, laidLooks := .later }
def RxprintNormsCardSaid : Prop := Claim7.holds Tryd.pinned (.plain (OpenSpec.ofChange rxprintNormsSpec)) rxprintNormsCard

/-- THE TIED CARD OF 'hacklelaw07.RxprintKeeps'. -/
def rxprintKeepsCard : Claim7 := { stood := { row := rxprintKeepsRow, standIns := [], harness := (true, "bfa178f0614d977dfc89586931d15483188f62fe4fbc3fbcc33302af4a5cdb7e"), looks := false }, kinds := [], alts := [], laidByText := true, laidKinds := [.data, .data, .data], laidTests := true, laidLooks := .later }
def RxprintKeepsCardSaid : Prop := Claim7.holds Tryd.pinned (.plain (OpenSpec.ofChange rxprintKeepsSpec)) rxprintKeepsCard

/-- THE TIED CARD OF 'hacklelaw07.RxprintWrites'. -/
def rxprintWritesCard : Claim7 := { stood := { row := rxprintWritesRow, standIns := [], harness := (true, "bfa178f0614d977dfc89586931d15483188f62fe4fbc3fbcc33302af4a5cdb7e"), looks := false }, kinds := [], alts := [], laidByText := true, laidKinds := [.data, .data, .data], laidTests := true, laidLooks := .later }
def RxprintWritesCardSaid : Prop := Claim7.holds Tryd.pinned (.plain (OpenSpec.ofChange rxprintWritesSpec)) rxprintWritesCard

/-- THE SECOND FORM's CARD OF 'hacklelaw07.RxprintNorms'. -/
def rxprintNormsUptoCard : Claim7 := { stood := { row := rxprintNormsUptoRow, standIns := [], harness := (true, "bfa178f0614d977dfc89586931d15483188f62fe4fbc3fbcc33302af4a5cdb7e"), looks := false }, kinds := [], alts := [], laidByText := true, laidKinds := [.data, .data, .data], laidTests := true, laidLooks := .later }
def RxprintNormsUptoCardSaid : Prop := Claim7.holds Tryd.pinned (.plain (OpenSpec.upto rxprintNormsSpec)) rxprintNormsUptoCard

/-- THE SECOND FORM's CARD OF 'hacklelaw07.RxprintKeeps'. -/
def rxprintKeepsUptoCard : Claim7 := { stood := { row := rxprintKeepsUptoRow, standIns := [], harness := (true, "bfa178f0614d977dfc89586931d15483188f62fe4fbc3fbcc33302af4a5cdb7e"), looks := false }, kinds := [], alts := [], laidByText := true, laidKinds := [.data, .data, .data], laidTests := true, laidLooks := .later }
def RxprintKeepsUptoCardSaid : Prop := Claim7.holds Tryd.pinned (.plain (OpenSpec.upto rxprintKeepsSpec)) rxprintKeepsUptoCard

/-- THE SECOND FORM's CARD OF 'hacklelaw07.RxprintWrites'. -/
def rxprintWritesUptoCard : Claim7 := { stood := { row := rxprintWritesUptoRow, standIns := [], harness := (true, "bfa178f0614d977dfc89586931d15483188f62fe4fbc3fbcc33302af4a5cdb7e"), looks := false }, kinds := [], alts := [], laidByText := true, laidKinds := [.data, .data, .data], laidTests := true, laidLooks := .later }
def RxprintWritesUptoCardSaid : Prop := Claim7.holds Tryd.pinned (.plain (OpenSpec.upto rxprintWritesSpec)) rxprintWritesUptoCard
end Rows
end Go.Proofs.YtkladjjeacjgpaaDoor
