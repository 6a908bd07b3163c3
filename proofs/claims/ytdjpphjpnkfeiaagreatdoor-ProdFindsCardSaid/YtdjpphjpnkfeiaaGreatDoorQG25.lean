/-
 WHAT nfa's copied ANSWERS: a contract. Condition: at most 2^20 places.
-/
import Derived.Test.YtdjpphjpnkfeiaaGreatDoorQG24
namespace Go.Proofs.YtdjpphjpnkfeiaaGreatDoor
open Go.RowKit
attribute [local irreducible] FreeW textFrame
end Go.Proofs.YtdjpphjpnkfeiaaGreatDoor
