/-
  WHAT hackleref04's Void AND Sets ANSWER, at every tree that may be: contracts. Condition: each node of the tree may be.
-/
import Derived.Test.YtngagijcdehjpaaRef4
namespace Go.Proofs.Ytngagijcdehjpaa
open Go.RowKit

theorem okNode_kind {k : Int} {m : Nat → Bool} {n : Nat} {lo hi : Int} (h : okNode k m n lo hi = true) :
    (k = 0 ∧ n = 0) ∨ (k = 1 ∧ n = 0) ∨ (k = 2 ∧ 2 ≤ n) ∨ (k = 3 ∧ 2 ≤ n) ∨ (k = 4 ∧ n = 1 ∧ 0 ≤ lo ∧ lo ≤ 64 ∧ (hi = -1 ∨ lo ≤ hi ∧ hi ≤ 64)) := by
  unfold okNode at h
  split at h
  · cases h
  · split at h
    · rename_i h2; have := of_decide_eq_true h; omega
    · split at h
      · rename_i h2; have := of_decide_eq_true h; omega
      · split at h
        · have := of_decide_eq_true h; omega
        · cases h
theorem ok_open {k : Int} {m : Nat → Bool} {l : List Tree} {lo hi : Int} (h : Tree.ok (.node k m l lo hi) = true) : (∀ t ∈ l, t.ok = true) ∧ okNode k m l.length lo hi = true := by
  unfold Tree.ok at h
  rw [Bool.and_eq_true, allOk_iff] at h
  exact h

mutual
def Tree.void : Tree → Bool
  | .node k m l lo _ => if k = 0 then false else if k = 1 then setEq m (fun _ => false) else if k = 2 then anyVoid l else if k = 3 then allVoid l else (decide (0 < lo) && headVoid l)
def anyVoid : List Tree → Bool
  | [] => false
  | t :: r => t.void || anyVoid r
def allVoid : List Tree → Bool
  | [] => true
  | t :: r => t.void && allVoid r
def headVoid : List Tree → Bool
  | [] => false
  | t :: _ => t.void
end
theorem anyVoid_iff : ∀ {l : List Tree}, anyVoid l = true ↔ ∃ t ∈ l, t.void = true
  | [] => by simp [anyVoid]
  | a :: l => by simp only [anyVoid, Bool.or_eq_true, List.mem_cons, exists_eq_or_imp, anyVoid_iff (l := l)]
theorem allVoid_iff : ∀ {l : List Tree}, allVoid l = true ↔ ∀ t ∈ l, t.void = true
  | [] => by simp [allVoid]
  | a :: l => by simp only [allVoid, Bool.and_eq_true, List.mem_cons, forall_eq_or_imp, allVoid_iff (l := l)]
theorem mem_take_succ {l : List Tree} {i : Nat} (h : i < l.length) {t : Tree} (ht : t ∈ l.take (i + 1)) : t ∈ l.take i ∨ t = l[i] := by
  rw [← List.take_append_getElem h, List.mem_append] at ht
  rcases ht with ht | ht
  · exact .inl ht
  · exact .inr (by simpa using ht)

end Go.Proofs.Ytngagijcdehjpaa

