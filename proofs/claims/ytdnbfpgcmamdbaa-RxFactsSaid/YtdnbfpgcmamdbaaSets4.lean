/-
  WHAT hackleref04's Sets ANSWERS: the sets of a tree's bytes, from the left: a contract. Condition: the tree has at most 2^40 nodes.
-/
import Derived.Test.YtdnbfpgcmamdbaaTx4
namespace Go.Proofs.Ytdnbfpgcmamdbaa
open Go.RowKit

mutual
def Tree.sets : Tree → List (Nat → Bool)
  | .node k m l _ _ => if k = 1 then [m] else setsL l
def setsL : List Tree → List (Nat → Bool)
  | [] => []
  | t :: r => t.sets ++ setsL r
end
theorem setsL_append : ∀ (l r : List Tree), setsL (l ++ r) = setsL l ++ setsL r
  | [], r => rfl
  | a :: l, r => by simp only [List.cons_append, setsL, setsL_append l r, List.append_assoc]
theorem setsL_take {l : List Tree} {j : Nat} (h : j < l.length) : setsL (l.take (j + 1)) = setsL (l.take j) ++ (l[j]).sets := by
  rw [← List.take_append_getElem h, setsL_append]; simp [setsL]
mutual
theorem sets_nodes : ∀ T : Tree, T.sets.length ≤ T.nodes
  | .node k m l lo hi => by
    have := setsL_nodes l
    unfold Tree.sets
    simp only [Tree.nodes]
    split
    · simp
    · omega
theorem setsL_nodes : ∀ l : List Tree, (setsL l).length ≤ nodesL l
  | [] => Nat.le_refl _
  | t :: r => by have := sets_nodes t; have := setsL_nodes r; simp only [setsL, nodesL, List.length_append]; omega
end

/-- cells of sets, side by side -/
def flatS (ms : List (Nat → Bool)) : List Value := ms.flatMap setL
theorem setL_len (m : Nat → Bool) : (setL m).length = 4 := rfl
theorem flatS_len (ms : List (Nat → Bool)) : (flatS ms).length = ms.length * 4 := by
  induction ms with
  | nil => rfl
  | cons x xs ih => simp only [flatS, List.flatMap_cons, List.length_append] at *; rw [ih, setL_len]; simp; omega
theorem flatS_append (a b : List (Nat → Bool)) : flatS (a ++ b) = flatS a ++ flatS b := by simp [flatS]
theorem flatS_get : ∀ (ms : List (Nat → Bool)) (i : Nat) (h : i < ms.length) (q : Nat) (v : Value), (setL ms[i])[q]? = some v → (flatS ms)[i * 4 + q]? = some v
  | x :: xs, 0, _, q, v, hv => by
    have hq : q < 4 := by have := (List.getElem?_eq_some_iff.1 hv).1; rw [setL_len] at this; exact this
    show (setL x ++ flatS xs)[0 * 4 + q]? = some v
    rw [List.getElem?_append_left (by rw [setL_len]; omega), Nat.zero_mul, Nat.zero_add]
    exact hv
  | x :: xs, i + 1, h, q, v, hv => by
    have := flatS_get xs i (by simpa using h) q v (by simpa using hv)
    show (setL x ++ flatS xs)[(i + 1) * 4 + q]? = some v
    rw [List.getElem?_append_right (by rw [setL_len]; omega), setL_len, show (i + 1) * 4 + q - 4 = i * 4 + q by omega]
    exact this
theorem set_one (m : Nat → Bool) : ∀ u ∈ setL m, u.oneCell' = true := by
  intro u hu
  have := set_all m
  rw [Array.all_eq_true'] at this
  exact this u (by simpa using hu)
theorem flatS_one (ms : List (Nat → Bool)) : ∀ u ∈ flatS ms, u.oneCell' = true := by
  intro u hu
  obtain ⟨m, _, hm⟩ := List.mem_flatMap.1 hu
  exact set_one m u hm

/-- a row of sets in memory; nil where there is none -/
def SetsRow (W : World) (v : Value) (ms : List (Nat → Bool)) : Prop :=
  (ms = [] ∧ v = .slice none 0 0) ∨ ∃ b c, v = .slice (some ⟨b, 0, none⟩) ms.length c ∧ ms ≠ [] ∧ ms.length ≤ c ∧ b < W.heap.size ∧ ∀ q u, (flatS ms)[q]? = some u → W.cell? ⟨b, q, none⟩ = some u
theorem SetsRow.step {W W' : World} {v : Value} {ms : List (Nat → Bool)} (h : SetsRow W v ms) (hb : Below W.heap.size W W') : SetsRow W' v ms := by
  rcases h with h | ⟨b, c, h1, h2, h3, h4, h5⟩
  · exact .inl h
  · exact .inr ⟨b, c, h1, h2, h3, Nat.lt_of_lt_of_le h4 hb.size, fun q u hu => (hb.cell (p := ⟨b, q, none⟩) h4).trans (h5 q u hu)⟩
theorem own_sets {W : World} {base : Nat} {v : Value} {ms : List (Nat → Bool)} (h : W.ownsRow base 24 4 v ms.length (flatS ms)) (hn : v = .slice none 0 0 ↔ ms = []) : SetsRow W v ms := by
  rcases h.2 with ⟨rfl, h0⟩ | ⟨g, cap, cur, rfl, _, hh, hc, _⟩
  · exact .inl ⟨hn.1 rfl, rfl⟩
  · refine .inr ⟨g, cap, rfl, fun e => ?_, hc, (Array.getElem?_eq_some_iff.1 hh).1, fun q u hu => ?_⟩
    · have := hn.2 e
      cases this
    · have hq : q < ms.length * 4 := by have := (List.getElem?_eq_some_iff.1 hu).1; rw [flatS_len] at this; exact this
      rw [h.cellAt q hq]; exact hu

end Go.Proofs.Ytdnbfpgcmamdbaa
