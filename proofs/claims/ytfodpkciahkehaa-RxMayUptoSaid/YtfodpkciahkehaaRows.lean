/-
  NARROWER THAN 'FOR EVERY INPUT', by the rows' own cells (each row's printed sentence says how): RxMay: loops · RxFirst: loops · RxMakes: loops.
  DERIVED. THE GIVEN ROWS OF THIS SEAT. 3 by the template 'for every input the law returns true; each argument reads behind the call as it read before'; 0 by the template 'total and deterministic' (their statements: YtfodpkciahkehaaTotals.lean).
  GIVEN WITH THE SEED: the statements are not yours to turn. If you find one false, say at which input.
  Laid BY PROGRAM, IN A SANDBOX (cutbox-rows.mjs): the forced cells as the released guide's own fill.sh prints them over the translation a5054e0b0d90bd38… (all of the seat's roots in one cut). By AI agents, Wed Nov 11 2026. No macro, syntax, notation, axiom, sorry.
-/
import Derived.Test.YtfodpkciahkehaaChecked
import GoSem.Claim
import GoSem.ClaimJoined
import GoSem.ClaimMapViews
import Derived.JoinedTies
import Derived.KernelRfl
namespace Go.Proofs.Ytfodpkciahkehaa
/- THE CELL 'sum', in the pinned program and in every row, IS THE sha256 OF THE DUMP (.gsa) THAT YtfodpkciahkehaaProg.lean LOADS. Nothing in Lean hashes anything: it is a label: what it is worth is what the hold of that sum in a sandbox is worth. -/
noncomputable def Try.pinned : Pinned := { name := "ytfodpkciahkehaa", sum := "a5054e0b0d90bd3845a0b7e22d27c224427ff8a5f11e31716affd1a062ba4b8d", checked := Try.checked }
namespace Rows
def none {H : Type} : Left H := { results := [], args := [] }

/-- 'hacklelaw04.RxMay': WHATEVER THE INPUT: true; the input reads as it did. -/
def rxMaySpec : ChangeSpec := { name := "rxMay", fn := fun _ => fun
  | [d1, d2] => { results := [.lit (.bool true)], args := [d1, d2] }
  | _ => none }
def rxMayRow : OpenClaim := { program := "ytfodpkciahkehaa", sum := "a5054e0b0d90bd3845a0b7e22d27c224427ff8a5f11e31716affd1a062ba4b8d", func := "hackle/hacklelaw04.RxMay", spec := "rxMay", unfollowed := true, recurses := true, loops := true, apart := false }
def RxMaySaid : Prop := rxMayRow.holds Try.pinned (OpenSpec.ofChange rxMaySpec)

/-- ITS FALSE NEIGHBOUR: 'it returns false'. Refute it at one input. -/
def rxMayWrong : ChangeSpec := { name := "rxMay", fn := fun _ => fun
  | [d1, d2] => { results := [.lit (.bool false)], args := [d1, d2] }
  | _ => none }
def RxMayWrongFalsely : Prop := rxMayRow.holds Try.pinned (OpenSpec.ofChange rxMayWrong)

/-- 'hacklelaw04.RxFirst': WHATEVER THE INPUT: true; the input reads as it did. -/
def rxFirstSpec : ChangeSpec := { name := "rxFirst", fn := fun _ => fun
  | [d] => { results := [.lit (.bool true)], args := [d] }
  | _ => none }
def rxFirstRow : OpenClaim := { program := "ytfodpkciahkehaa", sum := "a5054e0b0d90bd3845a0b7e22d27c224427ff8a5f11e31716affd1a062ba4b8d", func := "hackle/hacklelaw04.RxFirst", spec := "rxFirst", unfollowed := true, recurses := true, loops := true, apart := false }
def RxFirstSaid : Prop := rxFirstRow.holds Try.pinned (OpenSpec.ofChange rxFirstSpec)

/-- ITS FALSE NEIGHBOUR: 'it returns false'. Refute it at one input. -/
def rxFirstWrong : ChangeSpec := { name := "rxFirst", fn := fun _ => fun
  | [d] => { results := [.lit (.bool false)], args := [d] }
  | _ => none }
def RxFirstWrongFalsely : Prop := rxFirstRow.holds Try.pinned (OpenSpec.ofChange rxFirstWrong)

/-- 'hacklelaw04.RxMakes': WHATEVER THE INPUT: true; the input reads as it did. -/
def rxMakesSpec : ChangeSpec := { name := "rxMakes", fn := fun _ => fun
  | [d1, d2, d3] => { results := [.lit (.bool true)], args := [d1, d2, d3] }
  | _ => none }
def rxMakesRow : OpenClaim := { program := "ytfodpkciahkehaa", sum := "a5054e0b0d90bd3845a0b7e22d27c224427ff8a5f11e31716affd1a062ba4b8d", func := "hackle/hacklelaw04.RxMakes", spec := "rxMakes", unfollowed := true, recurses := true, loops := true, apart := false }
def RxMakesSaid : Prop := rxMakesRow.holds Try.pinned (OpenSpec.ofChange rxMakesSpec)

/-- ITS FALSE NEIGHBOUR: 'it returns false'. Refute it at one input. -/
def rxMakesWrong : ChangeSpec := { name := "rxMakes", fn := fun _ => fun
  | [d1, d2, d3] => { results := [.lit (.bool false)], args := [d1, d2, d3] }
  | _ => none }
def RxMakesWrongFalsely : Prop := rxMakesRow.holds Try.pinned (OpenSpec.ofChange rxMakesWrong)

/- THE SECOND FORM. 'bulk': how many values and letters a reading holds, each counted each time it is reached (what is shared counts as often as it is met; a slice's spare places count too). A statement '..UptoSaid' is the law's where the arguments, and the package variables that the reading takes, are together of bulk at most 1048576: NARROWER than '..Said'. Prove '..Said' where nothing that the law and all that it calls make is longer than what came in: it says more and counts as full. Else prove '..UptoSaid'. A law counts once. -/
mutual
def uptoBulk {H : Type} : DataW H → Nat
  | .lit (.string bytes) => bytes.length + 1
  | .lit _ => 1
  | .nil => 1
  | .ptr d => uptoBulk d + 1
  | .slice elems spare => uptoBulkAll elems + uptoBulkAll spare + 1
  | .agg parts => uptoBulkAll parts + 1
  | .iface _ d => uptoBulk d + 1
  | .map entries => uptoBulkEntries entries + 1
  | .held _ => 1
def uptoBulkAll {H : Type} : List (DataW H) → Nat
  | [] => 0
  | d :: r => uptoBulk d + uptoBulkAll r
def uptoBulkEntries {H : Type} : List (Lit × DataW H) → Nat
  | [] => 0
  | x :: r => uptoBulkEntry x + uptoBulkEntries r
def uptoBulkEntry {H : Type} : Lit × DataW H → Nat
  | (.string bytes, d) => bytes.length + uptoBulk d + 1
  | (_, d) => uptoBulk d + 1
 end
def uptoSmall : (H : Type) → List (DataW H) → Bool := fun _ ds => decide (uptoBulkAll ds ≤ 1048576)
def OpenSpec.upto (s : _root_.Go.ChangeSpec) : _root_.Go.OpenSpec := { _root_.Go.OpenSpec.ofChange s with cond := some uptoSmall }

/-- 'hacklelaw04.RxMay', WHERE WHAT IT READS IS OF BULK AT MOST 1048576: true; the input reads as it did. -/
def rxMayUptoRow : OpenClaim := { program := "ytfodpkciahkehaa", sum := "a5054e0b0d90bd3845a0b7e22d27c224427ff8a5f11e31716affd1a062ba4b8d", func := "hackle/hacklelaw04.RxMay", spec := "rxMay", unfollowed := true, recurses := true, loops := true, apart := false, narrowed := true }
def RxMayUptoSaid : Prop := rxMayUptoRow.holds Try.pinned (OpenSpec.upto rxMaySpec)

/-- 'hacklelaw04.RxFirst', WHERE WHAT IT READS IS OF BULK AT MOST 1048576: true; the input reads as it did. -/
def rxFirstUptoRow : OpenClaim := { program := "ytfodpkciahkehaa", sum := "a5054e0b0d90bd3845a0b7e22d27c224427ff8a5f11e31716affd1a062ba4b8d", func := "hackle/hacklelaw04.RxFirst", spec := "rxFirst", unfollowed := true, recurses := true, loops := true, apart := false, narrowed := true }
def RxFirstUptoSaid : Prop := rxFirstUptoRow.holds Try.pinned (OpenSpec.upto rxFirstSpec)

/-- 'hacklelaw04.RxMakes', WHERE WHAT IT READS IS OF BULK AT MOST 1048576: true; the input reads as it did. -/
def rxMakesUptoRow : OpenClaim := { program := "ytfodpkciahkehaa", sum := "a5054e0b0d90bd3845a0b7e22d27c224427ff8a5f11e31716affd1a062ba4b8d", func := "hackle/hacklelaw04.RxMakes", spec := "rxMakes", unfollowed := true, recurses := true, loops := true, apart := false, narrowed := true }
def RxMakesUptoSaid : Prop := rxMakesUptoRow.holds Try.pinned (OpenSpec.upto rxMakesSpec)

end Rows
end Go.Proofs.Ytfodpkciahkehaa
