/-
  WHERE A READER ENDS: no place that it answers lies behind its text, and no error is none. Of no program. No condition.
-/
import Derived.Test.YtngagijcdehjpaaPlace
namespace Go.Proofs.Ytngagijcdehjpaa
open Go.RowKit
section
variable {s : ByteArray} {fr : Frs} {grp : Nat → Res Tree} {i j k : Nat}
def Fine {α : Type} (s : ByteArray) : Res α → Prop
  | .ok (_, j) => j ≤ s.size
  | .error (q, c) => q ≤ s.size ∧ c ≠ 0
theorem Fine.then {α β : Type} {r : Res α} {f : α → Nat → Res β} (h : Fine s r) (hf : ∀ a j, r = .ok (a, j) → j ≤ s.size → Fine s (f a j)) : Fine s (r.then f) := by
  rcases r with q | ⟨a, k⟩
  · exact h
  · exact hf a k rfl h
theorem Fine.bad {α : Type} {e : Nat} (hi : i ≤ s.size) (he : e ≠ 0) : Fine s (bad i e : Res α) := ⟨hi, he⟩
theorem Fine.ok {α : Type} {a : α} (hi : i ≤ s.size) : Fine s (.ok (a, i) : Res α) := hi
theorem fine_dig (b : Nat) (hi : i ≤ s.size) : Fine s (digP s b i) := by
  unfold digP
  split
  · rename_i h; exact Fine.ok (by omega)
  · exact Fine.bad hi (by decide)
theorem fine_num (hi : i ≤ s.size) : Fine s (numP s i) := (fine_dig 10 hi).then fun n j _ hj => by
  split
  · exact (fine_dig 10 hj).then fun m k _ hk => hk
  · exact hj
theorem fine_shut {first lo : Nat} {hi' : Int} (hf : first ≤ s.size) (hi : i ≤ s.size) : Fine s (shutP s first lo hi' i) := by
  unfold shutP
  split
  · rename_i h
    split
    · exact Fine.bad hf (by decide)
    · exact Fine.ok (by have := isAt_lt h; omega)
  · exact Fine.bad hi (by decide)
theorem fine_bounds (hi : i < s.size) : Fine s (boundsP s i) := (fine_num hi).then fun lo j _ hj => by
  split
  · rename_i h
    have := isAt_lt h
    split
    · exact fine_shut (by omega) (by omega)
    · exact (fine_num (by omega)).then fun hi' k _ hk => fine_shut (by omega) hk
  · exact fine_shut (by omega) hj
theorem fine_letter (hi : i ≤ s.size) : Fine s (letterP s i) := by
  unfold letterP
  split
  · rename_i h; exact Fine.ok (by have := isAt_lt h; omega)
  split
  · rename_i h; exact Fine.ok (by have := isAt_lt h; omega)
  split
  · rename_i h; exact Fine.ok (by have := isAt_lt h; omega)
  split
  · rename_i h
    have := isAt_lt h
    exact (fine_dig 16 (by omega)).then fun a j _ hj => (fine_dig 16 hj).then fun b k _ hk => hk
  · exact Fine.bad hi (by decide)
theorem fine_esc (hi : i < s.size) : Fine s (escP s i) := by
  unfold escP
  split
  · exact Fine.bad hi (by decide)
  split
  · exact fine_letter hi
  · rename_i h _
    have := sgnAt_lt (s := s) (i := i + 1) h
    exact Fine.ok (by omega)
theorem fine_mem (hi : i ≤ s.size) : Fine s (memP s i) := by
  unfold memP
  split
  · exact Fine.bad hi (by decide)
  · rename_i h
    have := sgnAt_lt (s := s) (i := i) (by omega)
    split
    · exact fine_esc this
    · exact Fine.ok this
theorem fine_span (hi : i ≤ s.size) : Fine s (spanP s i) := (fine_mem hi).then fun lo j _ hj => by
  split
  · rename_i h
    have := isAt_lt h
    refine (fine_mem (by omega)).then fun hi' k _ hk => ?_
    split
    · exact Fine.bad (by omega) (by decide)
    · exact Fine.ok hk
  · exact Fine.ok hj
theorem fine_classF : ∀ (k : Nat) (m : Nat → Bool) (i : Nat), i ≤ s.size → Fine s (classF s k m i)
  | 0, m, i, hi => Fine.bad hi (by decide)
  | k + 1, m, i, hi => by
    rw [classF]
    split
    · rename_i h; exact Fine.ok (by have := isAt_lt h; omega)
    · exact (fine_span hi).then fun n j _ hj => fine_classF k _ j hj
theorem fine_class (hi : i < s.size) : Fine s (classP s i) := by
  unfold classP
  split
  · rename_i h
    have := isAt_lt h
    exact (fine_classF _ _ _ (by omega)).then fun m j _ hj => hj
  · exact fine_classF _ _ _ hi
theorem nameF_le (first : Nat) : ∀ (k i : Nat), i ≤ s.size → nameF s first k i ≤ s.size
  | 0, i, h => h
  | k + 1, i, h => by
    rw [nameF]
    split
    · rename_i h2; exact nameF_le first k (i + 1) h2.1
    · exact h
theorem fine_name (hi : i ≤ s.size) : Fine s (nameP s i) := by
  unfold nameP
  split
  · exact Fine.bad hi (by decide)
  · exact Fine.ok (nameF_le i _ i hi)
theorem fine_find {l : List UInt8} (hi : i ≤ s.size) (hj : j ≤ s.size) : Fine s (findF fr l i j) := by
  unfold findF
  split
  · exact Fine.ok hj
  · exact Fine.bad hi (by decide)
theorem fine_frag (hi : i < s.size) : Fine s (fragP s fr i) := (fine_name hi).then fun j k h _ => by
  have he := nameP_eq h
  have hk : j ≤ s.size := by have := fine_name (s := s) hi; rw [h] at this; have h2 : k ≤ s.size := this; omega
  split
  · rename_i h2
    have := isAt_lt h2
    exact fine_find (by omega) (by omega)
  · exact Fine.bad hk (by decide)
def GrpFine (s : ByteArray) (grp : Nat → Res Tree) : Prop := ∀ i, sgnAt s i = 8 → Fine s (grp i)
theorem fine_atom (hG : GrpFine s grp) (hi : i ≤ s.size) : Fine s (atomP grp s fr i) := by
  unfold atomP
  split
  · rename_i h
    have := sgnAt_lt (s := s) (i := i) (by omega)
    exact Fine.ok this
  split
  · rename_i h
    have := sgnAt_lt (s := s) (i := i) (by omega)
    exact (fine_esc this).then fun b j _ hj => hj
  split
  · rename_i h
    have := sgnAt_lt (s := s) (i := i) (by omega)
    exact Fine.ok this
  split
  · rename_i h
    have := sgnAt_lt (s := s) (i := i) (by omega)
    exact (fine_class this).then fun b j _ hj => hj
  split
  · rename_i h; exact hG i h
  split
  · rename_i h
    have := sgnAt_lt (s := s) (i := i) (by omega)
    exact fine_frag this
  · exact Fine.bad hi (by decide)
theorem fine_item (hG : GrpFine s grp) (hi : i ≤ s.size) : Fine s (itemP grp s fr i) := (fine_atom hG hi).then fun t j _ hj => by
  split
  · have := sgnAt_lt (s := s) (i := j) (by omega); exact Fine.ok this
  split
  · have := sgnAt_lt (s := s) (i := j) (by omega); exact Fine.ok this
  split
  · have := sgnAt_lt (s := s) (i := j) (by omega); exact Fine.ok this
  split
  · have := sgnAt_lt (s := s) (i := j) (by omega)
    exact (fine_bounds this).then fun b k _ hk => hk
  · exact Fine.ok hj
theorem fine_rowF (hG : GrpFine s grp) : ∀ (k : Nat) (l : List Tree) (i : Nat), i ≤ s.size → Fine s (rowF grp s fr k l i)
  | 0, l, i, hi => Fine.bad hi (by decide)
  | k + 1, l, i, hi => by
    rw [rowF]
    split
    · exact Fine.ok hi
    · exact (fine_item hG hi).then fun t j _ hj => fine_rowF hG k _ j hj
theorem fine_row (hG : GrpFine s grp) (hi : i ≤ s.size) : Fine s (rowP grp s fr i) := (fine_rowF hG _ _ i hi).then fun _ _ _ hj => hj
theorem fine_altF (hG : GrpFine s grp) : ∀ (k : Nat) (l : List Tree) (i : Nat), i ≤ s.size → Fine s (altF grp s fr k l i)
  | 0, l, i, hi => Fine.bad hi (by decide)
  | k + 1, l, i, hi => by
    rw [altF]
    split
    · rename_i h
      have := isAt_lt h
      exact (fine_row hG (by omega)).then fun t j _ hj => fine_altF hG k _ j hj
    · exact Fine.ok hi
theorem fine_alt (hG : GrpFine s grp) (hi : i ≤ s.size) : Fine s (altP grp s fr i) := (fine_row hG hi).then fun _ j _ hj => (fine_altF hG _ _ j hj).then fun _ _ _ hk => hk
theorem fine_grp : ∀ d, GrpFine s (grpP s fr d)
  | 0 => fun i h => by
    have := sgnAt_lt (s := s) (i := i) (by omega)
    exact Fine.bad (by omega) (by decide)
  | d + 1 => fun i h => by
    have hl := sgnAt_lt (s := s) (i := i) (by omega)
    rw [grpP, altsP_is]
    refine (fine_alt (fine_grp d) (by omega)).then fun t k _ hk => ?_
    split
    · rename_i h2; have := isAt_lt h2; exact Fine.ok (by omega)
    · exact Fine.bad hk (by decide)
theorem fine_whole : Fine s (wholeP s fr) := by
  unfold wholeP
  rw [altsP_is]
  refine (fine_alt (fine_grp 30) (Nat.zero_le _)).then fun t j _ hj => ?_
  split
  · exact Fine.bad hj (by decide)
  · exact Fine.ok hj
theorem parse_fine {q : Nat × Nat} (h : parseP s fr = .error q) : q.1 ≤ s.size ∧ q.2 ≠ 0 := by
  unfold parseP at h
  split at h
  · injection h with h; rw [← h]; exact ⟨Nat.zero_le _, by decide⟩
  · have hw := fine_whole (s := s) (fr := fr)
    split at h
    · rename_i e he
      injection h with h
      rw [he] at hw
      rw [← h]
      exact hw
    · repeat' split at h
      all_goals first
        | (injection h with h; rw [← h]; exact ⟨Nat.zero_le _, by decide⟩)
        | (cases h)
end
end Go.Proofs.Ytngagijcdehjpaa
