/-
  WHAT hackleref07's Norm ANSWERS, at every tree that may be: the plain tree: a contract. Condition: at most 2^20 nodes.
-/
import Derived.Test.YtkladjjeacjgpaaDoorQRn5
import Derived.Test.YtkladjjeacjgpaaDoorQRn7
import Derived.Test.YtkladjjeacjgpaaDoorQRn8
namespace Go.Proofs.YtkladjjeacjgpaaDoor
open Go.RowKit

set_option maxRecDepth 20000 in
set_option maxHeartbeats 4000000 in
theorem refNorm_leaf (k : Int) (hk : k = 0 ∨ k = 1) (m : Nat → Bool) : NormIs (.node k m [] 0 0) := by
  intro H v w hH hat
  have hpl : Tree.plain (.node k m [] 0 0) = .node k m [] 0 0 := by
    unfold Tree.plain plainNode
    rw [if_neg (by omega), if_neg (by omega), if_neg (by omega)]
  rw [hpl]
  have hat0 := hat
  obtain ⟨A, c, rfl, hc, hs⟩ := hat.open
  have H0 := Lib.hid (NormS.start w H (reL k m A 0 c 0 0))
  have HAT := Lib.hid hat0
  have hbl := H0.out.2.2.1
  have e4 : (k == 4) = false := by simp; omega
  have e2 : decide (k < 2) = true := by simp; omega
  obtain ⟨W2, hW2⟩ : ∃ W2, (w.alloc (.cells (reL k m A 0 c 0 0).toArray 27)).alloc (.cells zeroL.toArray 27) = W2 := ⟨_, rfl⟩
  rw [hW2] at H0 hbl
  simp only [reL, zeroL] at hW2
  have hB3 := H0.out.2.2.2
  have hth : W2.there (w.heap.size + 1) 0 (reL k m A 0 c 0 0).toArray.size := hB3.there
  have hal : (reL k m A 0 c 0 0).toArray.all (·.oneCell') = true := reL_all
  have hin : (Tryd.prog.info? 27).map (·.size) = some (reL k m A 0 c 0 0).toArray.size := info_re8
  have HX := Lib.hid hH
  clear hat hat0 hs hH hpl hk
  unfold reL at hbl
  obtain ⟨c0, c1, c2, c3, c4, c5, c6, c7⟩ := hbl.eight
  simp only [List.length_nil] at *
  unfold reV reL
  go_enter Tryd.func11, Tryd.ntmps11
  go_wp2
  go_loopw [3, 4] (fun o i wr => o = .slice none 0 0 ∧ i = .int .i64 0 ∧ wr = W2) (fun _ _ _ => 0)
  case atStart => exact ⟨rfl, rfl, rfl⟩
  case round =>
    obtain ⟨rfl, rfl, rfl⟩ := hrel
    go_wp2_with ((with_reducible refine wpList_store_mid ?_ 27 (.tmp 2) (.tmp 98) ?_ (w.heap.size + 1) 0 (reL k m A 0 c 0 0).toArray ?_ ?_ hth hin hal ?_); exact rfl; exact rfl; exact rfl; exact rfl)
    have hl := load_re (store_re (k := k) (m := m) (A := A) (n := 0) (c := c) (lo := 0) (hi := 0) hB3 rfl)
    have hf := H0.out.fin (Below.refl _ _) (reL k m A 0 c 0 0)
    exact ⟨rfl, _, results_cell1 rfl rfl hl, ⟨_, rfl, (HAT.out.sub (H0.out.call HX.out).2).sub hf.1, hf.2.2⟩⟩
theorem refNorm_any (T : Tree) (h : T.ok = true) (hn : T.nodes ≤ 1048576) : NormIs T := by
  induction T using Tree.ind with
  | h k m l lo hi ih =>
    have hop := ok_open h
    have hkind := okNode_kind hop.2
    simp only [Tree.nodes] at hn
    have IH : ∀ t ∈ l, NormIs t := fun t ht => by
      obtain ⟨j, hj, rfl⟩ := List.getElem_of_mem ht
      exact ih _ ht (hop.1 _ ht) (Nat.le_trans (nodesL_get l j hj) (by omega))
    rcases hkind with ⟨rfl, hl⟩ | ⟨rfl, hl⟩ | ⟨rfl, hl⟩ | ⟨rfl, hl⟩ | ⟨rfl, hl, hlo⟩
    · obtain ⟨h1, h2, h3⟩ := okNode0 hop.2 (.inl rfl)
      subst h2; subst h3
      obtain rfl := List.eq_nil_of_length_eq_zero h1
      exact refNorm_leaf 0 (.inl rfl) m
    · obtain ⟨h1, h2, h3⟩ := okNode0 hop.2 (.inr rfl)
      subst h2; subst h3
      obtain rfl := List.eq_nil_of_length_eq_zero h1
      exact refNorm_leaf 1 (.inr rfl) m
    · exact refNorm_cat m l lo hi hl (by omega) hop.1 IH
    · exact refNorm_alt m l lo hi hl (by omega) hop.1 IH
    · exact refNorm_rep m l lo hi hl IH
end Go.Proofs.YtkladjjeacjgpaaDoor

