/-
  hacklelaw08.NfaRuns ANSWERS true, whatever the automaton, the places and the text. No condition.
-/
import Derived.Test.YtojejnjjenmfaaaQAl8c
import Derived.Test.YtojejnjjenmfaaaQNr1
import Derived.Test.YtojejnjjenmfaaaQNr2
import Derived.Test.YtojejnjjenmfaaaQNr3
import Derived.Test.YtojejnjjenmfaaaQNr4
namespace Go.Proofs.Ytojejnjjenmfaaa
open Go.RowKit

theorem nfaRuns_any (N : Nf) (at' : List Int) (s : ByteArray) (v va : Value) (w : World) (h : NfaAt w N v) (ha : IntsV w at' va) :
    Calls Try.prog 5 #[v, va, .string s] w fun e w' => e = .returned (.bool true) ∧ Below w.heap.size w w' := by
  by_cases hl : (60 < N.sets.length ∨ 100 < at'.length ∨ 60 < s.size ∨ 80 < N.follow.length ∨ 100 < N.first.length ∨ 100 < N.rules.length ∨ 100 < N.ends.length)
  · exact runs_long alive8_any N at' s v va w h ha hl
  · cases hm : N.may
    · exact runs_not alive8_any N at' s v va w h ha hl hm
    · cases hr : risesB N.sets.length (-1) at'
      · exact runs_no alive8_any N at' s v va w h ha hl hm hr
      · exact runs_yes alive8_any N at' s v va w h ha hl hm hr
end Go.Proofs.Ytojejnjjenmfaaa

