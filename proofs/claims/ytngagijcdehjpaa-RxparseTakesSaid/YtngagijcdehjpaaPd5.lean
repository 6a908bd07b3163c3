/-
  A ROW OF TREES THAT A PARSER GATHERS by append: what is kept of it, and how it ends; where a row ends: a contract. No condition but that a text has at most 400 bytes.
-/
import Derived.Test.YtngagijcdehjpaaPd4
import Derived.Maps.AppendAt
namespace Go.Proofs.Ytngagijcdehjpaa
open Go.RowKit
section
variable {pb b : Nat} {s : ByteArray} {F : Value} {fr : Frs} {W W' W0 : World} {i o j o' : Nat} {v v' : Value} {l : List Tree} {T : Tree} {xs cs : List Value}

/-- the row l lies in the value v, in blocks of its own; its trees lie beside them -/
def RowX (pb b : Nat) (W : World) (v : Value) (l : List Tree) (xs : List Value) : Prop := W.ownsRow b 31 8 v l.length xs ∧ ∀ (i : Nat) (h : i < l.length), (l[i]).At (hide W (Hd pb b v.ownBlock)) (.agg ((xs.drop (i * 8)).take 8).toArray)
def RowJ (pb b : Nat) (W : World) (v : Value) (l : List Tree) : Prop := ∃ xs, RowX pb b W v l xs
theorem RowJ.nil (W : World) : RowJ pb b W (.slice none 0 0) [] := ⟨[], World.ownsRow_nil _ _ _ _, fun i h => by simp at h⟩
theorem RowX.kept (h : RowX pb b W v l xs) (hk : Kept pb W W') (hpb : pb < b) : RowX pb b W' v l xs := by
  refine ⟨⟨h.1.1, ?_⟩, fun i hi => (h.2 i hi).sub (hide_sub fun k h1 h2 => ⟨h1, ?_⟩)⟩
  · rcases h.1.2 with h1 | ⟨g, cap, cur, h1, h2, h3, h4⟩
    · exact .inl h1
    · refine .inr ⟨g, cap, cur, h1, h2, ?_, h4⟩
      rw [hk.get (Array.getElem?_eq_some_iff.1 h3).1 (by omega)]
      exact h3
  · rw [Hd_no] at h1
    exact hk.get h2 (by omega)
theorem RowX.alloc (h : RowX pb b W v l xs) (hpb : pb < b) (hb : b ≤ W.heap.size) (ob : Obj) : RowX pb b (W.alloc ob) v l xs := h.kept (Kept.alloc pb W ob (by omega)) hpb
theorem RowX.own (h : RowX pb b W v l xs) {k : Nat} (hk : v.ownBlock = some k) : b ≤ k ∧ k < W.heap.size := h.1.lt k hk
theorem RowX.snoc {b' : Nat} (h : RowX pb b W v l xs) (hT : encTree pb b' W T (.agg cs.toArray)) (hcs : cs.length = 8) (hb : b ≤ b') (hb' : ∀ k, v.ownBlock = some k → k < b') (hpb : pb < b)
    (hown : W'.ownsRow b 31 8 v' (l.length + 1) (xs ++ cs)) (hg : W.grownBy W' v.ownBlock) (hat : v'.ownBlock = v.ownBlock ∨ v'.ownBlock = some W.heap.size) : RowX pb b W' v' (l ++ [T]) (xs ++ cs) := by
  have key : ∀ {H : Nat → Bool}, (∀ k, H k = false → k < W.heap.size → (k < pb ∨ b ≤ k) ∧ v.ownBlock ≠ some k) → Sub (hide W H) (hide W' (Hd pb b v'.ownBlock)) := fun {H} hH => hide_sub fun k h1 h2 => by
    obtain ⟨h3, h4⟩ := hH k h1 h2
    refine ⟨Hd_no.2 ⟨h3, ?_⟩, hg.block k h2 (fun e => h4 e.symm)⟩
    rcases hat with e | e
    · rw [e]; exact h4
    · rw [e]; intro e2; injection e2 with e2; omega
  have hlen : xs.length = l.length * 8 := h.1.1
  refine ⟨by simpa using hown, fun i hi => ?_⟩
  by_cases hil : i < l.length
  · rw [List.getElem_append_left hil, List.drop_append_of_le_length (by omega), List.take_append_of_le_length (by simp; omega)]
    exact (h.2 i hil).sub (key fun k h1 _ => by rw [Hd_no] at h1; exact h1)
  · obtain rfl : i = l.length := by simp at hi; omega
    rw [← hlen]
    simp only [List.getElem_concat_length, List.drop_left]
    rw [List.take_of_length_le (by omega)]
    refine hT.sub (key fun k h1 h2 => ?_)
    rw [Hd_no] at h1
    refine ⟨by omega, fun e => ?_⟩
    have := hb' k e
    have := (h.own e).1
    omega
theorem St.grown {row : Option Nat} (h : St pb s F W0 W i o) (hg : W.grownBy W' row) (hr : ∀ k, row = some k → W0.heap.size ≤ k) (hp : pb < W0.heap.size) : St pb s F W0 W' i o := by
  have hne : ∀ k, k < W0.heap.size → some k ≠ row := fun k hk e => by have := hr k e.symm; omega
  refine ⟨⟨⟨hg.os.trans h.1.1.os, hg.tape.trans h.1.1.tape, hg.output.trans h.1.1.output, Nat.le_trans h.1.1.size hg.size, fun k hk => (hg.block k (Nat.lt_of_lt_of_le (by omega) h.1.1.size) (hne k (by omega))).trans (h.1.1.block k hk)⟩, fun k h1 h2 => (hg.block k (Nat.lt_of_lt_of_le h2 h.1.1.size) (hne k h2)).trans (h.1.2 k h1 h2)⟩, ?_, h.2.2⟩
  exact (hg.block pb (Nat.lt_of_lt_of_le hp h.1.1.size) (hne pb hp)).trans h.2.1
/-- a row that isn't empty: where it lies -/
theorem RowX.lies (h : RowX pb b W v l xs) (hne : l ≠ []) : ∃ g c, v = .slice (some ⟨g, 0, none⟩) l.length c ∧ (l.length ≤ c ∧ c ≤ 9223372036854775807) ∧ b ≤ g ∧
    ∀ (i : Nat) (hi : i < l.length), ∃ cs : List Value, (l[i]).At (hide W (Hd pb b v.ownBlock)) (.agg cs.toArray) ∧ cs.length = 8 ∧ W.rangeAt g (i * 8) cs := by
  rcases h.1.2 with ⟨_, h1⟩ | ⟨g, cap, cur, h1, h2, h3, h4, h5, h6, h7⟩
  · exact absurd (List.eq_nil_of_length_eq_zero h1) hne
  · refine ⟨g, cap, h1, ⟨h4, by unfold maxLen at h5; omega⟩, h2, fun i hi => ⟨_, h.2 i hi, ?_, fun j u hu => ?_⟩⟩
    · have := h.1.1
      simp; omega
    · have hj : j < 8 := by have := (List.getElem?_eq_some_iff.1 hu).1; simp at this; omega
      rw [List.getElem?_take_of_lt hj, List.getElem?_drop] at hu
      have := h.1.cells (g := g) (by rw [h1]; rfl) _ u hu
      rw [Addr.add_lit, Nat.zero_add] at this
      exact this
/-- the tree of a row, by the value that a parser lays of it -/
theorem RowX.tree (h : RowX pb b W v l xs) (hne : l ≠ []) (kind : Int) {b' : Nat} (hb : b' ≤ b) : ∃ g c, v = .slice (some ⟨g, 0, none⟩) l.length c ∧ encTree pb b' W (.node kind (fun _ => false) l 0 0) (reV kind (fun _ => false) (some ⟨g, 0, none⟩) l.length c 0 0) := by
  obtain ⟨g, c, h1, h2, h3, h4⟩ := h.lies hne
  refine ⟨g, c, h1, ?_⟩
  unfold encTree Tree.At
  refine ⟨some ⟨g, 0, none⟩, c, rfl, h2, fun _ => ⟨g, 0, rfl, AllAt.mk _ _ _ fun i hi => ?_⟩⟩
  obtain ⟨cs, h5, h6, h7⟩ := h4 i hi
  refine ⟨cs, h5.sub (hide_sub fun k k1 _ => ?_), h6, fun j u hu => hide_show ?_ (by simpa using h7 j u hu)⟩
  · rw [Hd_no] at k1 ⊢
    exact ⟨⟨by omega, by simp⟩, rfl⟩
  · rw [Hd_no]
    exact ⟨Or.inr (by show b' ≤ g; omega), by simp⟩
theorem RowX.one {t : Tree} (h : RowX pb b W v [t] xs) {b' : Nat} (hb : b' ≤ b) : ∃ g c A n c', v = .slice (some ⟨g, 0, none⟩) 1 c ∧ 1 ≤ c ∧ W.rangeAt g 0 (reL t.kind t.set A n c' t.lo t.hi) ∧ encTree pb b' W t (reV t.kind t.set A n c' t.lo t.hi) := by
  obtain ⟨g, c, h1, h2, h3, h4⟩ := h.lies (by simp)
  obtain ⟨cs, h5, h6, h7⟩ := h4 0 (by simp)
  obtain ⟨A, n, c', rfl⟩ := h5.eight
  refine ⟨g, c, A, n, c', h1, h2.1, by simpa using h7, h5.sub (hide_sub fun k k1 _ => ?_)⟩
  rw [Hd_no] at k1 ⊢
  exact ⟨⟨by omega, by simp⟩, rfl⟩

theorem rowEnds_any (h : St pb s F W0 W i o) : Calls Try.prog 39 #[ptrP pb] W fun e W' => e = .returned (.bool (endsP s i)) ∧ St pb s F W0 W' i o := by
  have hn := fun W W0 (h : St pb s F W0 W i o) => nextS h
  have his := h.2.2.1
  unfold endsP
  by_cases h2 : sgnAt s i = 2
  · simp only [h2] at hn ⊢
    go_enter Try.func39, Try.ntmps39
    go_wp2_with (go_at_call 42; (with_reducible refine (hn _ _ h).mono ?_); rintro e W1 ⟨rfl, g1⟩)
    go_ret
    exact ⟨rfl, g1⟩
  · by_cases h9 : sgnAt s i = 9
    · simp only [h9] at hn ⊢
      go_enter Try.func39, Try.ntmps39
      go_wp2_with (go_at_call 42; (with_reducible refine (hn _ _ h).mono ?_); rintro e W1 ⟨rfl, g1⟩)
      go_ret
      exact ⟨rfl, g1⟩
    · have e2 : ((sgnAt s i : Int) == 2) = false := by simp; omega
      have e9 : ((sgnAt s i : Int) == 9) = false := by simp; omega
      have d2 : decide (sgnAt s i = 2) = false := by simpa using h2
      have d9 : decide (sgnAt s i = 9) = false := by simpa using h9
      rw [d2, d9, Bool.false_or, Bool.false_or]
      have ez : ((i : Int) == (s.size : Int)) = decide (i = s.size) := by
        by_cases e : i = s.size
        · simp [e]
        · rw [decide_eq_false e]; simp; omega
      generalize decide (i = s.size) = z at *
      clear d2 d9 h2 h9
      go_enter Try.func39, Try.ntmps39
      go_wp2_with (go_at_call 42; (with_reducible refine (hn _ _ h).mono ?_); rintro e W1 ⟨rfl, g1⟩; obtain ⟨c0, c1, c2, c3, f0, f1, f2, f3⟩ := g1.cells)
      go_quiet (fail)
      go_wp2
      go_ret
      exact ⟨rfl, g1.draw _⟩
end
end Go.Proofs.Ytngagijcdehjpaa

