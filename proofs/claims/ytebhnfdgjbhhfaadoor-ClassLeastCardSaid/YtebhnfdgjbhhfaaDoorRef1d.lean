/-
  WHAT hackleref01.Bytes ANSWERS: a contract. No condition.
-/
import Derived.Test.YtebhnfdgjbhhfaaDoorRef1
import Derived.Test.YtebhnfdgjbhhfaaDoorBytes
namespace Go.Proofs.YtebhnfdgjbhhfaaDoor
open Go.RowKit

theorem mems_yes {m : Nat → Bool} {k : Nat} (h : m k = true) : mems m (k + 1) = mems m k ++ [k] := by
  unfold mems; rw [List.range_succ, List.filter_append]; simp [h]
theorem mems_no {m : Nat → Bool} {k : Nat} (h : m k = false) : mems m (k + 1) = mems m k := by
  unfold mems; rw [List.range_succ, List.filter_append]; simp [h]
theorem mems_len (m : Nat → Bool) (k : Nat) : (mems m k).length ≤ k := by
  have := List.length_filter_le m (List.range k)
  rw [List.length_range] at this
  exact this

theorem own_step {w w' : World} {base : Nat} {e : TypeId} {size n : Nat} {v : Value} {xs : List Value} (h : w.ownsRow base e size v n xs) (hb : Below w.heap.size w w') : w'.ownsRow base e size v n xs :=
  h.kept (row := none) ⟨hb.os, hb.tape, hb.output, hb.size, fun i hi _ => hb.block i hi⟩ (by
    rcases h.2 with ⟨rfl, _⟩ | ⟨g, cap, cur, rfl, _⟩
    · exact .inl rfl
    · exact .inr (by simp [Value.ownBlock]))

def u8s (l : List Nat) : List Value := l.map fun (x : Nat) => Value.int .u8 (x : Int)

end Go.Proofs.YtebhnfdgjbhhfaaDoor

