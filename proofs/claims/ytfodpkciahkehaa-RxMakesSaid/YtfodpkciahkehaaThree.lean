/-
  THREE BOXES, filled one by one: their cells. No condition.
-/
import Derived.Test.YtfodpkciahkehaaMade
namespace Go.Proofs.Ytfodpkciahkehaa
open Go.RowKit

theorem blkFar {W : World} {g k : Nat} {t : TypeId} {cs : Array Value} (h : BlkIs W k t cs) (hne : k ≠ g) (o : Nat) (vs : List Value) : BlkIs (W.setCells g o vs) k t cs := by
  show (W.setCells g o vs).heap[k]? = _
  rw [heap_cells g k hne]
  exact h
/-- three boxes, filled one by one -/
theorem three_boxes (u : World) (k1 l1 h1 k2 l2 h2 k3 l3 h3 : Int) (m1 m2 m3 : Nat → Bool) (A1 A2 A3 : Option Addr) (n1 c1 n2 c2 n3 c3 : Nat) :
    ∃ W, W = ((u.alloc (.cells zeroL.toArray 27)).alloc (.cells zeroL.toArray 27)).alloc (.cells zeroL.toArray 27) ∧
      BlkIs W u.heap.size 27 zeroL.toArray ∧ BlkIs (W.setCells u.heap.size 0 (reL k1 m1 A1 n1 c1 l1 h1)) (u.heap.size + 1) 27 zeroL.toArray ∧
      BlkIs ((W.setCells u.heap.size 0 (reL k1 m1 A1 n1 c1 l1 h1)).setCells (u.heap.size + 1) 0 (reL k2 m2 A2 n2 c2 l2 h2)) (u.heap.size + 1 + 1) 27 zeroL.toArray ∧
      ∃ V, V = ((W.setCells u.heap.size 0 (reL k1 m1 A1 n1 c1 l1 h1)).setCells (u.heap.size + 1) 0 (reL k2 m2 A2 n2 c2 l2 h2)).setCells (u.heap.size + 1 + 1) 0 (reL k3 m3 A3 n3 c3 l3 h3) ∧
        BlkIs V u.heap.size 27 (reL k1 m1 A1 n1 c1 l1 h1).toArray ∧ BlkIs V (u.heap.size + 1) 27 (reL k2 m2 A2 n2 c2 l2 h2).toArray ∧ BlkIs V (u.heap.size + 1 + 1) 27 (reL k3 m3 A3 n3 c3 l3 h3).toArray ∧ Below u.heap.size u V := by
  refine ⟨_, rfl, ?_⟩
  have b1 : BlkIs (((u.alloc (.cells zeroL.toArray 27)).alloc (.cells zeroL.toArray 27)).alloc (.cells zeroL.toArray 27)) u.heap.size 27 zeroL.toArray := ((BlkIs.new u _ _).alloc _).alloc _
  have b2 : BlkIs (((u.alloc (.cells zeroL.toArray 27)).alloc (.cells zeroL.toArray 27)).alloc (.cells zeroL.toArray 27)) (u.heap.size + 1) 27 zeroL.toArray := by
    have := (BlkIs.new (u.alloc (.cells zeroL.toArray 27)) 27 zeroL.toArray).alloc (.cells zeroL.toArray 27)
    rwa [World.size_alloc] at this
  have b3 : BlkIs (((u.alloc (.cells zeroL.toArray 27)).alloc (.cells zeroL.toArray 27)).alloc (.cells zeroL.toArray 27)) (u.heap.size + 1 + 1) 27 zeroL.toArray := by
    have := BlkIs.new ((u.alloc (.cells zeroL.toArray 27)).alloc (.cells zeroL.toArray 27)) 27 zeroL.toArray
    rwa [World.size_alloc, World.size_alloc] at this
  have hb : Below u.heap.size u (((u.alloc (.cells zeroL.toArray 27)).alloc (.cells zeroL.toArray 27)).alloc (.cells zeroL.toArray 27)) := (((Below.refl _ _).alloc (Nat.le_refl _) _).alloc (by simp) _).alloc (by simp; omega) _
  generalize ((u.alloc (.cells zeroL.toArray 27)).alloc (.cells zeroL.toArray 27)).alloc (.cells zeroL.toArray 27) = W at *
  have s1 := store_re (k := k1) (m := m1) (A := A1) (n := n1) (c := c1) (lo := l1) (hi := h1) b1 rfl
  have s2 := store_re (k := k2) (m := m2) (A := A2) (n := n2) (c := c2) (lo := l2) (hi := h2) (blkFar (g := u.heap.size) b2 (by omega) 0 (reL k1 m1 A1 n1 c1 l1 h1)) rfl
  have s3 := store_re (k := k3) (m := m3) (A := A3) (n := n3) (c := c3) (lo := l3) (hi := h3) (blkFar (g := u.heap.size + 1) (blkFar (g := u.heap.size) b3 (by omega) 0 (reL k1 m1 A1 n1 c1 l1 h1)) (by omega) 0 (reL k2 m2 A2 n2 c2 l2 h2)) rfl
  refine ⟨b1, blkFar (g := u.heap.size) b2 (by omega) 0 _, blkFar (g := u.heap.size + 1) (blkFar (g := u.heap.size) b3 (by omega) 0 _) (by omega) 0 _, _, rfl, blkFar (g := u.heap.size + 1 + 1) (blkFar (g := u.heap.size + 1) s1 (by omega) 0 _) (by omega) 0 _, blkFar (g := u.heap.size + 1 + 1) s2 (by omega) 0 _, s3, ?_⟩
  exact below_cells _ _ 0 _ (by omega) (below_cells _ _ 0 _ (by omega) (below_cells _ _ 0 _ (Nat.le_refl _) hb))

/-- the same, with names for the worlds between -/
theorem three_named (u : World) (k1 l1 h1 k2 l2 h2 k3 l3 h3 : Int) (m1 m2 m3 : Nat → Bool) (A1 A2 A3 : Option Addr) (n1 c1 n2 c2 n3 c3 : Nat) :
    ∃ W W1 W2 V, W = ((u.alloc (.cells zeroL.toArray 27)).alloc (.cells zeroL.toArray 27)).alloc (.cells zeroL.toArray 27) ∧
      W1 = W.setCells u.heap.size 0 (reL k1 m1 A1 n1 c1 l1 h1) ∧ W2 = W1.setCells (u.heap.size + 1) 0 (reL k2 m2 A2 n2 c2 l2 h2) ∧ V = W2.setCells (u.heap.size + 1 + 1) 0 (reL k3 m3 A3 n3 c3 l3 h3) ∧
      BlkIs W u.heap.size 27 zeroL.toArray ∧ BlkIs W1 (u.heap.size + 1) 27 zeroL.toArray ∧ BlkIs W2 (u.heap.size + 1 + 1) 27 zeroL.toArray ∧
      BlkIs V u.heap.size 27 (reL k1 m1 A1 n1 c1 l1 h1).toArray ∧ BlkIs V (u.heap.size + 1) 27 (reL k2 m2 A2 n2 c2 l2 h2).toArray ∧ BlkIs V (u.heap.size + 1 + 1) 27 (reL k3 m3 A3 n3 c3 l3 h3).toArray ∧ Below u.heap.size u V := by
  obtain ⟨W, hW, t1, t2, t3, V, hV, e⟩ := three_boxes u k1 l1 h1 k2 l2 h2 k3 l3 h3 m1 m2 m3 A1 A2 A3 n1 c1 n2 c2 n3 c3
  exact ⟨W, _, _, V, hW, rfl, rfl, hV, t1, t2, t3, e⟩

end Go.Proofs.Ytfodpkciahkehaa

