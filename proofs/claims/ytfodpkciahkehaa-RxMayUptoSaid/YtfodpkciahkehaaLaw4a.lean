/-
  hacklelaw04.RxLast ANSWERS true, whatever the tree and the text. No condition.
-/
import Derived.Test.YtfodpkciahkehaaAlive4
import Derived.Test.YtfodpkciahkehaaRef4d
namespace Go.Proofs.Ytfodpkciahkehaa
open Go.RowKit

/-! ### small trees count without a wrap -/
theorem weightL_ge : ∀ (l : List Tree) (n : Nat), n ≤ 1000000 → (∀ t ∈ l, min t.nodes 1000000 ≤ t.weight) → min (n + nodesL l) 1000000 ≤ weightL l n
  | [], n, hn, _ => by simp [nodesL, weightL]; omega
  | t :: r, n, hn, h => by
    have h1 := h t (by simp)
    have h2 := weightL_ge r (min (n + t.weight) 1000000) (Nat.min_le_right _ _) (fun x hx => h x (by simp [hx]))
    unfold weightL nodesL
    omega
theorem weight_nodes (T : Tree) : min T.nodes 1000000 ≤ T.weight := by
  induction T using Tree.ind with
  | h k m l lo hi ih =>
    have h1 := weightL_ge l 1 (by omega) ih
    have h3 : min (nodesL l + 1) 1000000 ≤ weightL l 1 := by omega
    unfold Tree.nodes Tree.weight weightEnd
    split
    · split
      · rename_i h
        have h4 : 1 ≤ hi.toNat := by omega
        have h5 : weightL l 1 * 1 ≤ weightL l 1 * hi.toNat := Nat.mul_le_mul_left _ h4
        omega
      · split
        · omega
        · exact h3
    · exact h3
theorem slow_nodes {T : Tree} (h : T.slow = false) : T.nodes ≤ 20000 := by
  unfold Tree.slow at h
  rw [Bool.or_eq_false_iff] at h
  have h1 := of_decide_eq_false h.2
  have h2 := weight_nodes T
  omega
mutual
theorem deepW_small : ∀ T : Tree, T.deepN ≤ 1099511627776 → T.deepW = (T.deepN : Int)
  | .node k m l lo hi => fun h => by
    have h1 := deepM_small l (by simp only [Tree.deepN] at h; omega)
    have h2 : Tree.deepW (.node k m l lo hi) = wrap64 (deepM l + 1) := by unfold Tree.deepW deepM; rfl
    rw [h2, h1]
    simp only [Tree.deepN] at h ⊢
    unfold wrap64
    omega
theorem deepsW_small : ∀ l : List Tree, deepL l ≤ 1099511627776 → ∀ x ∈ deepsW l, 0 ≤ x ∧ x ≤ (deepL l : Int)
  | [] => fun _ x hx => by simp [deepsW] at hx
  | t :: r => fun h x hx => by
    simp only [deepL] at h ⊢
    simp only [deepsW, List.mem_cons] at hx
    rcases hx with rfl | hx
    · rw [deepW_small t (by omega)]; omega
    · have := deepsW_small r (by omega) x hx
      omega
theorem deepM_small : ∀ l : List Tree, deepL l ≤ 1099511627776 → deepM l = (deepL l : Int)
  | [] => fun _ => rfl
  | t :: r => fun h => by
    simp only [deepL] at h
    have h1 := deepM_small r (by omega)
    have h2 := deepW_small t (by omega)
    have h3 : ∀ (xs : List Int) (a b : Int), 0 ≤ a → 0 ≤ b → (xs.foldl (fun d x => if d < x then x else d) (max a b)) = max a (xs.foldl (fun d x => if d < x then x else d) b) := by
      intro xs
      induction xs with
      | nil => intro a b _ _; rfl
      | cons y ys ih =>
        intro a b ha hb
        simp only [List.foldl_cons]
        by_cases hy : b < y
        · rw [if_pos hy]
          by_cases hy2 : max a b < y
          · rw [if_pos hy2]
            have := ih a y ha (by omega)
            rw [show max a y = y by omega] at this
            exact this
          · rw [if_neg hy2]
            have := ih a y ha (by omega)
            rw [← this]; congr 1; omega
        · rw [if_neg hy, if_neg (by omega)]
          exact ih a b ha hb
    unfold deepM at h1 ⊢
    simp only [deepsW, List.foldl_cons]
    have h4 : (if (0 : Int) < t.deepW then t.deepW else 0) = max t.deepW 0 := by rw [h2]; split <;> omega
    rw [h4, h3 _ _ _ (by rw [h2]; omega) (Int.le_refl _), h1, h2]
    simp only [deepL]
    omega
end
theorem may_small {T : Tree} (h : T.nodes ≤ 1099511627776) : T.may = T.mayN := by
  unfold Tree.may Tree.mayN
  have h1 := deepW_small T (Nat.le_trans (deep_nodes T) h)
  rw [h1]
  have h2 : wrap64 (T.nodes : Int) = (T.nodes : Int) := by unfold wrap64; omega
  rw [h2]
  congr 1
  · exact decide_eq_decide.2 (by omega)
  · congr 1
    exact decide_eq_decide.2 (by omega)
theorem may_ok {T : Tree} (h : T.mayN = true) : T.ok = true := by
  unfold Tree.mayN at h
  rw [Bool.and_eq_true, Bool.and_eq_true] at h
  exact h.2.2
theorem ex_start0 {w : World} {T : Tree} {A : Option Addr} {n c : Nat} (h : T.At w (reV T.kind T.set A n c T.lo T.hi)) : ExIs w T w.heap.size A n c (w.alloc (.cells (reL T.kind T.set A n c T.lo T.hi).toArray 27)) := ExIs.start h (Below.refl _ _)


end Go.Proofs.Ytfodpkciahkehaa

