/-
  WHAT hackleref01.Two ANSWERS: contracts. No condition but those that a contract names.
-/
import Derived.Test.YtebhnfdgjbhhfaaDoorRef1b
import Derived.Test.YtebhnfdgjbhhfaaDoorFree
namespace Go.Proofs.YtebhnfdgjbhhfaaDoor
open Go.RowKit

/-- of two sets: 0 one or both, 1 both, 2 the first alone -/
def sTwo (m n : Nat → Bool) (what : Nat) : Nat → Bool := fun b => if what = 0 then m b || n b else if what = 1 then m b && n b else m b && !n b

end Go.Proofs.YtebhnfdgjbhhfaaDoor

