/-
  NARROWER THAN 'FOR EVERY INPUT', by the rows' own cells (each row's printed sentence says how): RxparseMay: loops.
  DERIVED. THE GIVEN ROWS OF THIS SEAT. 3 by the template 'for every input the law returns true; each argument reads behind the call as it read before'; 0 by the template 'total and deterministic' (their statements: YtngagijcdehjpaaTotals.lean).
  GIVEN WITH THE SEED: the statements are not yours to turn. If you find one false, say at which input.
  Laid BY PROGRAM, IN A SANDBOX (cutbox-rows.mjs): the forced cells as the released guide's own fill.sh prints them over the translation a354152e4708f946… (all of the seat's roots in one cut). By AI agents, Wed Nov 11 2026. No macro, syntax, notation, axiom, sorry.
-/
import Derived.Test.YtngagijcdehjpaaChecked
import GoSem.Claim
import GoSem.ClaimJoined
import GoSem.ClaimMapViews
import Derived.JoinedTies
import Derived.KernelRfl
namespace Go.Proofs.Ytngagijcdehjpaa
/- THE CELL 'sum', in the pinned program and in every row, IS THE sha256 OF THE DUMP (.gsa) THAT YtngagijcdehjpaaProg.lean LOADS. Nothing in Lean hashes anything: it is a label: what it is worth is what the hold of that sum in a sandbox is worth. -/
noncomputable def Try.pinned : Pinned := { name := "ytngagijcdehjpaa", sum := "a354152e4708f9468f8940d445f7cabff75425826596c60bc90399368e5cb8e1", checked := Try.checked }
namespace Rows
def none {H : Type} : Left H := { results := [], args := [] }

/-- 'hacklelaw06.RxparseNames': WHATEVER THE INPUT: true; the input reads as it did. -/
def rxparseNamesSpec : ChangeSpec := { name := "rxparseNames", fn := fun _ => fun
  | [d] => { results := [.lit (.bool true)], args := [d] }
  | _ => none }
def rxparseNamesRow : OpenClaim := { program := "ytngagijcdehjpaa", sum := "a354152e4708f9468f8940d445f7cabff75425826596c60bc90399368e5cb8e1", func := "hackle/hacklelaw06.RxparseNames", spec := "rxparseNames", inPlace := ["internal/bytealg.IndexByteString"], unfollowed := true, recurses := true, apart := false }
def RxparseNamesSaid : Prop := rxparseNamesRow.holds Try.pinned (OpenSpec.ofChange rxparseNamesSpec)

/-- ITS FALSE NEIGHBOUR: 'it returns false'. Refute it at one input. -/
def rxparseNamesWrong : ChangeSpec := { name := "rxparseNames", fn := fun _ => fun
  | [d] => { results := [.lit (.bool false)], args := [d] }
  | _ => none }
def RxparseNamesWrongFalsely : Prop := rxparseNamesRow.holds Try.pinned (OpenSpec.ofChange rxparseNamesWrong)

/-- 'hacklelaw06.RxparseMay': WHATEVER THE INPUT: true; the input reads as it did. -/
def rxparseMaySpec : ChangeSpec := { name := "rxparseMay", fn := fun _ => fun
  | [d1, d2] => { results := [.lit (.bool true)], args := [d1, d2] }
  | _ => none }
def rxparseMayRow : OpenClaim := { program := "ytngagijcdehjpaa", sum := "a354152e4708f9468f8940d445f7cabff75425826596c60bc90399368e5cb8e1", func := "hackle/hacklelaw06.RxparseMay", spec := "rxparseMay", inPlace := ["internal/bytealg.IndexByteString"], unfollowed := true, recurses := true, loops := true, apart := false }
def RxparseMaySaid : Prop := rxparseMayRow.holds Try.pinned (OpenSpec.ofChange rxparseMaySpec)

/-- ITS FALSE NEIGHBOUR: 'it returns false'. Refute it at one input. -/
def rxparseMayWrong : ChangeSpec := { name := "rxparseMay", fn := fun _ => fun
  | [d1, d2] => { results := [.lit (.bool false)], args := [d1, d2] }
  | _ => none }
def RxparseMayWrongFalsely : Prop := rxparseMayRow.holds Try.pinned (OpenSpec.ofChange rxparseMayWrong)

/-- 'hacklelaw06.RxparseTakes': WHATEVER THE INPUT: true; the input reads as it did. -/
def rxparseTakesSpec : ChangeSpec := { name := "rxparseTakes", fn := fun _ => fun
  | [d] => { results := [.lit (.bool true)], args := [d] }
  | _ => none }
def rxparseTakesRow : OpenClaim := { program := "ytngagijcdehjpaa", sum := "a354152e4708f9468f8940d445f7cabff75425826596c60bc90399368e5cb8e1", func := "hackle/hacklelaw06.RxparseTakes", spec := "rxparseTakes", inPlace := ["internal/bytealg.IndexByteString"], unfollowed := true, recurses := true, apart := false }
def RxparseTakesSaid : Prop := rxparseTakesRow.holds Try.pinned (OpenSpec.ofChange rxparseTakesSpec)

/-- ITS FALSE NEIGHBOUR: 'it returns false'. Refute it at one input. -/
def rxparseTakesWrong : ChangeSpec := { name := "rxparseTakes", fn := fun _ => fun
  | [d] => { results := [.lit (.bool false)], args := [d] }
  | _ => none }
def RxparseTakesWrongFalsely : Prop := rxparseTakesRow.holds Try.pinned (OpenSpec.ofChange rxparseTakesWrong)

/- THE SECOND FORM. 'bulk': how many values and letters a reading holds, each counted each time it is reached (what is shared counts as often as it is met; a slice's spare places count too). A statement '..UptoSaid' is the law's where the arguments, and the package variables that the reading takes, are together of bulk at most 1048576: NARROWER than '..Said'. Prove '..Said' where nothing that the law and all that it calls make is longer than what came in: it says more and counts as full. Else prove '..UptoSaid'. A law counts once. -/
mutual
def uptoBulk {H : Type} : DataW H → Nat
  | .lit (.string bytes) => bytes.length + 1
  | .lit _ => 1
  | .nil => 1
  | .ptr d => uptoBulk d + 1
  | .slice elems spare => uptoBulkAll elems + uptoBulkAll spare + 1
  | .agg parts => uptoBulkAll parts + 1
  | .iface _ d => uptoBulk d + 1
  | .map entries => uptoBulkEntries entries + 1
  | .held _ => 1
def uptoBulkAll {H : Type} : List (DataW H) → Nat
  | [] => 0
  | d :: r => uptoBulk d + uptoBulkAll r
def uptoBulkEntries {H : Type} : List (Lit × DataW H) → Nat
  | [] => 0
  | x :: r => uptoBulkEntry x + uptoBulkEntries r
def uptoBulkEntry {H : Type} : Lit × DataW H → Nat
  | (.string bytes, d) => bytes.length + uptoBulk d + 1
  | (_, d) => uptoBulk d + 1
 end
def uptoSmall : (H : Type) → List (DataW H) → Bool := fun _ ds => decide (uptoBulkAll ds ≤ 1048576)
def OpenSpec.upto (s : _root_.Go.ChangeSpec) : _root_.Go.OpenSpec := { _root_.Go.OpenSpec.ofChange s with cond := some uptoSmall }

/-- 'hacklelaw06.RxparseNames', WHERE WHAT IT READS IS OF BULK AT MOST 1048576: true; the input reads as it did. -/
def rxparseNamesUptoRow : OpenClaim := { program := "ytngagijcdehjpaa", sum := "a354152e4708f9468f8940d445f7cabff75425826596c60bc90399368e5cb8e1", func := "hackle/hacklelaw06.RxparseNames", spec := "rxparseNames", inPlace := ["internal/bytealg.IndexByteString"], unfollowed := true, recurses := true, apart := false, narrowed := true }
def RxparseNamesUptoSaid : Prop := rxparseNamesUptoRow.holds Try.pinned (OpenSpec.upto rxparseNamesSpec)

/-- 'hacklelaw06.RxparseMay', WHERE WHAT IT READS IS OF BULK AT MOST 1048576: true; the input reads as it did. -/
def rxparseMayUptoRow : OpenClaim := { program := "ytngagijcdehjpaa", sum := "a354152e4708f9468f8940d445f7cabff75425826596c60bc90399368e5cb8e1", func := "hackle/hacklelaw06.RxparseMay", spec := "rxparseMay", inPlace := ["internal/bytealg.IndexByteString"], unfollowed := true, recurses := true, loops := true, apart := false, narrowed := true }
def RxparseMayUptoSaid : Prop := rxparseMayUptoRow.holds Try.pinned (OpenSpec.upto rxparseMaySpec)

/-- 'hacklelaw06.RxparseTakes', WHERE WHAT IT READS IS OF BULK AT MOST 1048576: true; the input reads as it did. -/
def rxparseTakesUptoRow : OpenClaim := { program := "ytngagijcdehjpaa", sum := "a354152e4708f9468f8940d445f7cabff75425826596c60bc90399368e5cb8e1", func := "hackle/hacklelaw06.RxparseTakes", spec := "rxparseTakes", inPlace := ["internal/bytealg.IndexByteString"], unfollowed := true, recurses := true, apart := false, narrowed := true }
def RxparseTakesUptoSaid : Prop := rxparseTakesUptoRow.holds Try.pinned (OpenSpec.upto rxparseTakesSpec)

end Rows
end Go.Proofs.Ytngagijcdehjpaa
