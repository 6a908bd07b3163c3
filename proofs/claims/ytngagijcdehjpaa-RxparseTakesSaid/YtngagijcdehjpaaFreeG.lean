/-
  WHAT IS SAID OF NO PROGRAM: an operation with a guard, in a region that is walked once in text order: wanted or not, by the slot that the guard looks at. No condition.
-/
import Derived.Test.YtngagijcdehjpaaFree
namespace Go.Proofs.Ytngagijcdehjpaa
open Go.RowKit

theorem wanted_guard {o : Oper} {ops : Array Oper} {tmps : Array Value} {i d : Nat} {b b' : Bool} (hg : o.guard = some (i, b)) (hi : (ops[i]?).bind (·.dst) = some d) (hv : tmps.getD d undef = .bool b') : Region.wanted o (yielded ops tmps) = (b' == b) := by
  have h2 : tmps[d]? = some (.bool b') := by
    cases h : tmps[d]? with
    | none => rw [Array.getD_eq_getD_getElem?, h] at hv; cases hv
    | some x => rw [Array.getD_eq_getD_getElem?, h] at hv; exact congrArg some hv
  unfold Region.wanted yielded
  rw [hg]
  simp [hi, h2]
theorem freeW_yes {P : Program} {C : World → Prop} {o : Oper} {a : Act} {ops : Array Oper} {K : Act → Prop} (i d : Nat) (b : Bool) (hg : o.guard = some (i, b)) (hi : (ops[i]?).bind (·.dst) = some d) (hv : a.tmps.getD d undef = .bool b) (h1 : ∃ v, (∀ w, C w → freeAt P o a w v) ∧ K (a.put o.dst v)) :
    if Region.wanted o (yielded ops a.tmps) = true then ∃ v, (∀ w, C w → freeAt P o a w v) ∧ K (a.put o.dst v) else K (a.put o.dst undef) := by rw [if_pos (by rw [wanted_guard hg hi hv]; simp)]; exact h1
theorem freeW_no {P : Program} {C : World → Prop} {o : Oper} {a : Act} {ops : Array Oper} {K : Act → Prop} (i d : Nat) (b : Bool) (hg : o.guard = some (i, b)) (hi : (ops[i]?).bind (·.dst) = some d) (hv : a.tmps.getD d undef = .bool (!b)) (h1 : K (a.put o.dst undef)) :
    if Region.wanted o (yielded ops a.tmps) = true then ∃ v, (∀ w, C w → freeAt P o a w v) ∧ K (a.put o.dst v) else K (a.put o.dst undef) := by rw [if_neg (by rw [wanted_guard hg hi hv]; cases b <;> simp)]; exact h1

end Go.Proofs.Ytngagijcdehjpaa

