/-
  TREES LAID BY A LITERAL: rows of nodes in a new block; a node built; what a store into a zero variable leaves. No condition.
-/
import Derived.Test.YtkladjjeacjgpaaDoorQG06
import Derived.Test.YtkladjjeacjgpaaDoorQGrow
namespace Go.Proofs.YtkladjjeacjgpaaDoor
open Go.RowKit

theorem built_re (k : Int) (A : Option Addr) (n c : Nat) (lo hi : Int) : reV k (fun _ => false) A n c lo hi = .agg #[.int .i64 k, .int .u64 0, .int .u64 0, .int .u64 0, .int .u64 0, .slice A n c, .int .i64 lo, .int .i64 hi] := by
  unfold reV reL
  simp only [wd_zero]; rfl
/-- the cells of nodes, one behind the other -/
def cellsOf : List (List Value) → List Value
  | [] => []
  | c :: r => c ++ cellsOf r
theorem rows_at {W U : World} (hs : ∀ p v, W.cell? p = some v → U.cell? p = some v) {g : Nat} : ∀ (ts : List Tree) (css : List (List Value)) (pre : Nat), ts.length = css.length →
    (∀ (i : Nat) (h : i < ts.length) (h' : i < css.length), ts[i].At W (.agg css[i].toArray) ∧ css[i].length = 8) → (∀ j v, (cellsOf css)[j]? = some v → U.cell? ⟨g, pre + j, none⟩ = some v) → AllAt U ts g pre
  | [], _, _, _, _, _ => trivial
  | t :: r, [], _, h, _, _ => by simp at h
  | t :: r, c :: css, pre, hl, h, hc => by
    have h0 := h 0 (by simp) (by simp)
    refine ⟨⟨c, ?_, h0.2, fun j v hv => ?_⟩, ?_⟩
    · have h1 := h0.1
      exact Tree.At.sub hs _ h1
    · refine hc j v ?_
      show (c ++ cellsOf css)[j]? = some v
      rw [List.getElem?_append_left (List.getElem?_eq_some_iff.1 hv).1]; exact hv
    · refine rows_at hs r css (pre + 8) (by simpa using hl) (fun i h1 h2 => ?_) (fun j v hv => ?_)
      · have := h (i + 1) (by simpa using h1) (by simpa using h2)
        simpa using this
      · rw [Nat.add_assoc]
        refine hc (8 + j) v ?_
        show (c ++ cellsOf css)[8 + j]? = some v
        rw [List.getElem?_append_right (by have : c.length = 8 := h0.2; omega), show 8 + j - c.length = j by have : c.length = 8 := h0.2; omega]
        exact hv
/-- rows laid in a new block -/
theorem laid_rows {W : World} (t : TypeId) (ts : List Tree) (css : List (List Value)) (hl : ts.length = css.length) (h : ∀ (i : Nat) (h : i < ts.length) (h' : i < css.length), ts[i].At W (.agg css[i].toArray) ∧ css[i].length = 8) :
    AllAt (W.alloc (.cells (cellsOf css).toArray t)) ts W.heap.size 0 := by
  have hb : Below W.heap.size W (W.alloc (.cells (cellsOf css).toArray t)) := (Below.refl _ _).alloc (Nat.le_refl _) _
  refine rows_at (W := W) (fun p v hv => by rw [hb.cell (World.block_lt_of_cell? W p hv)]; exact hv) ts css 0 hl h (fun j v hv => ?_)
  have := (BlkIs.new W t (cellsOf css).toArray).cell j
  rw [Nat.zero_add, this]
  simpa using hv
/-- a node over a row -/
theorem node_at {W : World} {k : Int} {m : Nat → Bool} {l : List Tree} {lo hi : Int} {g c : Nat} (h : AllAt W l g 0) (hc : l.length ≤ c ∧ c ≤ 9223372036854775807) : Tree.At W (.node k m l lo hi) (reV k m (some ⟨g, 0, none⟩) l.length c lo hi) := by
  unfold Tree.At
  exact ⟨_, c, rfl, hc, fun _ => ⟨g, 0, rfl, h⟩⟩
theorem leaf_at {W : World} {k : Int} {m : Nat → Bool} : Tree.At W (.node k m [] 0 0) (reV k m none 0 0 0 0) := by
  unfold Tree.At
  exact ⟨none, 0, rfl, ⟨Nat.le_refl _, by decide⟩, fun h => absurd rfl h⟩

/-! ### a variable that holds nothing yet is no node's row -/
mutual
def Tree.lit : Tree → Bool
  | .node k _ l _ _ => (k != 0) && litL l
def litL : List Tree → Bool
  | [] => true
  | t :: r => t.lit && litL r
end
theorem zero_kind {W : World} {g j : Nat} {t : TypeId} (h : BlkIs W g t zeroL.toArray) {k : Int} (hk : k ≠ 0) : W.cell? ⟨g, j, none⟩ ≠ some (.int .i64 k) := by
  rw [h.cell j]
  intro e
  match j with
  | 0 => simp [zeroL] at e; exact hk e.symm
  | 1 => simp [zeroL] at e
  | 2 => simp [zeroL] at e
  | 3 => simp [zeroL] at e
  | 4 => simp [zeroL] at e
  | 5 => simp [zeroL] at e
  | 6 => simp [zeroL] at e; exact hk e.symm
  | 7 => simp [zeroL] at e; exact hk e.symm
  | j + 8 => simp [zeroL] at e
mutual
theorem lit_far {W U : World} {g : Nat} {t : TypeId} (hz : BlkIs W g t zeroL.toArray) (hs : ∀ p v, p.block ≠ g → W.cell? p = some v → U.cell? p = some v) : ∀ (T : Tree) {v : Value}, T.lit = true → Tree.At W T v → Tree.At U T v
  | .node k m l lo hi, v, hl, h => by
    simp only [Tree.lit, Bool.and_eq_true] at hl
    unfold Tree.At at h ⊢
    obtain ⟨A, c, h1, h2, h3⟩ := h
    refine ⟨A, c, h1, h2, fun hne => ?_⟩
    obtain ⟨b, o, h4, h5⟩ := h3 hne
    exact ⟨b, o, h4, litL_far hz hs l hl.2 h5⟩
theorem litL_far {W U : World} {g : Nat} {t : TypeId} (hz : BlkIs W g t zeroL.toArray) (hs : ∀ p v, p.block ≠ g → W.cell? p = some v → U.cell? p = some v) : ∀ (l : List Tree) {b o : Nat}, litL l = true → AllAt W l b o → AllAt U l b o
  | [], b, o, _, _ => trivial
  | .node k m s lo hi :: r, b, o, hl, h => by
    simp only [litL, Bool.and_eq_true] at hl
    obtain ⟨⟨cs, h1, h2, h3⟩, h4⟩ := h
    refine ⟨⟨cs, lit_far hz hs _ hl.1 h1, h2, fun j v hv => hs _ v ?_ (h3 j v hv)⟩, litL_far hz hs r hl.2 h4⟩
    intro e
    have e' : b = g := e
    subst e'
    obtain ⟨A, c, e1, _⟩ : ∃ A c, Value.agg cs.toArray = reV k m A s.length c lo hi ∧ _ := by
      unfold Tree.At at h1
      obtain ⟨A, c, h1, h1'⟩ := h1
      exact ⟨A, c, h1, h1'⟩
    have e2 : cs = reL k m A s.length c lo hi := by
      unfold reV at e1
      injection e1 with e1
      exact List.toArray_inj e1
    have h5 := h3 0 (.int .i64 k) (by rw [e2]; rfl)
    have hk : k ≠ 0 := by
      have := hl.1
      simp only [Tree.lit, Bool.and_eq_true] at this
      simpa using this.1
    exact zero_kind hz hk h5
end
theorem cells_far {u : World} {g : Nat} (vs : List Value) (p : Addr) (v : Value) (hp : p.block ≠ g) (h : u.cell? p = some v) : (u.setCells g 0 vs).cell? p = some v := by
  rw [World.cell?_of_block (w := u) (heap_cells g p.block hp vs 0 u)]
  exact h
end Go.Proofs.YtkladjjeacjgpaaDoor

