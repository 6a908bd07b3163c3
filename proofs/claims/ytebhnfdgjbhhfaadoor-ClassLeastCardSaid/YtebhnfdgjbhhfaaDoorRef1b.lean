/-
  WHAT THE FUNCTIONS OF PACKAGE hackleref01 ANSWER THAT KEEP 256 MARKS: contracts. No condition but those that a contract names.
-/
import Derived.Test.YtebhnfdgjbhhfaaDoorRef1
namespace Go.Proofs.YtebhnfdgjbhhfaaDoor
open Go.RowKit

/-- the marks below k -/
def sCut (m : Nat → Bool) (k : Nat) : Nat → Bool := fun j => decide (j < k) && m j

end Go.Proofs.YtebhnfdgjbhhfaaDoor

