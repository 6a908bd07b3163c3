/-
  WHAT hackleref04's Begins ANSWERS at a ReByte. Condition: the text has at most 2^30 bytes.
-/
import Derived.Test.YtkladjjeacjgpaaDoorQG08
import Derived.Test.YtkladjjeacjgpaaDoorQG02
namespace Go.Proofs.YtkladjjeacjgpaaDoor
open Go.RowKit
attribute [local irreducible] FreeW

theorem freeW_skip {P : Program} {C : World → Prop} {o : Oper} {a : Act} {ops : Array Oper} {K : Act → Prop} (i d : Nat) (b : Bool) (hg : o.guard = some (i, b)) (hi : (ops[i]?).bind (·.dst) = some d) (hv : a.tmps.getD d undef = undef) (h1 : K (a.put o.dst undef)) :
    if Region.wanted o (yielded ops a.tmps) = true then ∃ v, (∀ w, C w → freeAt P o a w v) ∧ K (a.put o.dst v) else K (a.put o.dst undef) := by
  rw [if_neg]
  · exact h1
  · unfold Region.wanted yielded
    rw [hg]
    cases h : a.tmps[d]? with
    | none => simp [hi, h]
    | some x =>
      rw [Array.getD_eq_getD_getElem?, h] at hv
      have hx : x = undef := hv
      subst hx
      simp [hi, h, undef]

end Go.Proofs.YtkladjjeacjgpaaDoor

