/-
  A TEXT BETWEEN ( AND ) IS READ AS IT IS WITHOUT, one place further, but for what lies too deep. Of no program. No condition.
-/
import Derived.Test.YtngagijcdehjpaaFine
namespace Go.Proofs.Ytngagijcdehjpaa
open Go.RowKit
section
variable {s t : ByteArray} {fr : Frs} {i j k : Nat}
/-- t is s between ( and ) -/
def Wrap (s t : ByteArray) : Prop := t.data.toList = 40 :: s.data.toList ++ [41]
theorem Wrap.size (h : Wrap s t) : t.size = s.size + 2 := by
  have := congrArg List.length h
  rw [size_list, List.length_append, List.length_cons, size_list] at this
  simpa using this
theorem Wrap.bt (h : Wrap s t) (hi : i < s.size) : bt t (i + 1) = bt s i := by
  have hs := h.size
  rw [bt_list t (i + 1) (by omega), bt_list s i hi]
  have h2 : t.data.toList[i + 1]'(by rw [size_list]; omega) = (40 :: s.data.toList ++ [41])[i + 1]'(by simp; omega) := by simp only [show t.data.toList = _ from h]
  rw [h2]
  simp [List.getElem_append_left, hi]
theorem Wrap.first (h : Wrap s t) : Go.Proofs.Ytngagijcdehjpaa.bt t 0 = 40 := by
  have hs := h.size
  rw [bt_list t 0 (by omega)]
  have h2 : t.data.toList[0]'(by rw [size_list]; omega) = (40 :: s.data.toList ++ [41])[0]'(by simp) := by simp only [show t.data.toList = _ from h]
  rw [h2]; rfl
theorem Wrap.last (h : Wrap s t) : Go.Proofs.Ytngagijcdehjpaa.bt t (s.size + 1) = 41 := by
  have hs := h.size
  rw [bt_list t (s.size + 1) (by omega)]
  have h2 : t.data.toList[s.size + 1]'(by rw [size_list]; omega) = (40 :: s.data.toList ++ [41])[s.size + 1]'(by simp) := by simp only [show t.data.toList = _ from h]
  rw [h2]
  simp [List.getElem_append_right]
theorem Wrap.cut (h : Wrap s t) {a b : Nat} (hb : b ≤ s.size) (hab : a ≤ b) : cutL t (a + 1) (b + 1) = cutL s a b := by
  unfold cutL
  rw [show t.data.toList = _ from h, List.cons_append, List.drop_succ_cons, List.drop_append_of_le_length (by rw [size_list]; omega), Nat.add_sub_add_right, List.take_append_of_le_length (by rw [List.length_drop, size_list]; omega)]
theorem Wrap.cutEnd (h : Wrap s t) {a : Nat} (ha : a ≤ s.size) : cutL t (a + 1) (s.size + 2) = cutL s a s.size ++ [41] := by
  unfold cutL
  rw [show t.data.toList = _ from h, List.cons_append, List.drop_succ_cons, List.drop_append_of_le_length (by rw [size_list]; omega)]
  rw [List.take_of_length_le (by simp; omega), List.take_of_length_le (by simp)]
theorem Wrap.isAt (h : Wrap s t) {b : Nat} (hi : i < s.size) : isAt t (i + 1) b = isAt s i b := by
  unfold Go.Proofs.Ytngagijcdehjpaa.isAt
  rw [h.bt hi, decide_eq_true hi, decide_eq_true (by rw [h.size]; omega : i + 1 < t.size)]
theorem Wrap.isAt' (h : Wrap s t) {b : Nat} (hb : b ≠ 41) (hi : i ≤ s.size) : Go.Proofs.Ytngagijcdehjpaa.isAt t (i + 1) b = Go.Proofs.Ytngagijcdehjpaa.isAt s i b := by
  by_cases hl : i < s.size
  · exact h.isAt hl
  · obtain rfl : i = s.size := by omega
    unfold Go.Proofs.Ytngagijcdehjpaa.isAt
    rw [h.last, decide_eq_false (by omega : ¬ s.size < s.size), decide_eq_false (by omega : ¬ 41 = b)]
    simp
theorem Wrap.sgn (h : Wrap s t) (hi : i < s.size) : sgnAt t (i + 1) = sgnAt s i := by
  unfold sgnAt
  rw [if_pos hi, if_pos (by rw [h.size]; omega), h.bt hi]
theorem Wrap.sgnEnd (h : Wrap s t) : sgnAt t (s.size + 1) = 9 := by
  unfold sgnAt
  rw [if_pos (by rw [h.size]; omega), h.last]; rfl
theorem sgnAt_end : sgnAt s s.size = 0 := by unfold sgnAt; rw [if_neg (by omega)]
theorem Wrap.digC (h : Wrap s t) {b : Nat} (hb : b = 10 ∨ b = 16) (hi : i ≤ s.size) : (i + 1 < t.size ∧ 0 ≤ dig (Go.Proofs.Ytngagijcdehjpaa.bt t (i + 1)) b) ↔ (i < s.size ∧ 0 ≤ dig (Go.Proofs.Ytngagijcdehjpaa.bt s i) b) := by
  by_cases hl : i < s.size
  · rw [h.bt hl, h.size]
    constructor
    · intro hh; exact ⟨hl, hh.2⟩
    · intro hh; exact ⟨by omega, hh.2⟩
  · obtain rfl : i = s.size := by omega
    rw [h.last]
    constructor
    · intro hh
      exfalso
      have := hh.2
      rcases hb with rfl | rfl <;> exact absurd this (by decide)
    · intro hh; omega
/-- what answers a value in s answers it in t -/
def Shr {α : Type} (r r' : Res α) : Prop := ∀ a j, r = .ok (a, j) → r' = .ok (a, j + 1)
theorem Shr.then {α β : Type} {r r' : Res α} {f g : α → Nat → Res β} (h : Shr r r') (hf : ∀ a j, r = .ok (a, j) → Shr (f a j) (g a (j + 1))) : Shr (r.then f) (r'.then g) := fun x j hx => by
  obtain ⟨a, k, h1, h2⟩ := then_ok hx
  rw [h a k h1]
  exact hf a k h1 x j h2
theorem Shr.bad {α : Type} {e : Nat} {r : Res α} : Shr (Go.Proofs.Ytngagijcdehjpaa.bad i e : Res α) r := fun _ _ h => (bad_ok h).elim
theorem Shr.ok {α : Type} {a : α} : Shr (.ok (a, i) : Res α) (.ok (a, i + 1)) := fun b j h => by
  injection h with h; injection h with h1 h2; rw [h1, h2]
theorem sh_dig (h : Wrap s t) {b : Nat} (hb : b = 10 ∨ b = 16) (hi : i ≤ s.size) : Shr (digP s b i) (digP t b (i + 1)) := by
  unfold digP
  by_cases hd : i < s.size ∧ 0 ≤ dig (Go.Proofs.Ytngagijcdehjpaa.bt s i) b
  · rw [if_pos hd, if_pos ((h.digC hb hi).2 hd), h.bt hd.1]; exact Shr.ok
  · rw [if_neg hd]; exact Shr.bad
theorem fine_le {α : Type} {r : Res α} {a : α} (h : Fine s r) (hr : r = .ok (a, j)) : j ≤ s.size := by rw [hr] at h; exact h
theorem sh_num (h : Wrap s t) (hi : i ≤ s.size) : Shr (numP s i) (numP t (i + 1)) := (sh_dig h (.inl rfl) hi).then fun n j hn => by
  have hj := fine_le (fine_dig 10 hi) hn
  by_cases hc : 0 < n ∧ (j < s.size ∧ 0 ≤ dig (Go.Proofs.Ytngagijcdehjpaa.bt s j) 10)
  · rw [if_pos hc, if_pos ⟨hc.1, (h.digC (.inl rfl) hj).2 hc.2⟩]
    exact (sh_dig h (.inl rfl) hj).then fun m k _ => Shr.ok
  · rw [if_neg hc, if_neg (fun hh => hc ⟨hh.1, (h.digC (.inl rfl) hj).1 hh.2⟩)]
    exact Shr.ok
theorem sh_shut (h : Wrap s t) {first first' lo : Nat} {hi' : Int} (hi : i ≤ s.size) : Shr (shutP s first lo hi' i) (shutP t first' lo hi' (i + 1)) := by
  unfold shutP
  rw [h.isAt' (by decide) hi]
  by_cases h1 : Go.Proofs.Ytngagijcdehjpaa.isAt s i 125 = true
  · rw [if_pos h1, if_pos h1]
    split
    · exact Shr.bad
    · exact Shr.ok
  · rw [if_neg h1, if_neg h1]; exact Shr.bad
theorem sh_bounds (h : Wrap s t) (hi : i < s.size) : Shr (boundsP s i) (boundsP t (i + 1)) := (sh_num h hi).then fun lo j hn => by
  have hj := fine_le (fine_num hi) hn
  rw [h.isAt' (by decide) hj]
  by_cases h1 : Go.Proofs.Ytngagijcdehjpaa.isAt s j 44 = true
  · rw [if_pos h1, if_pos h1]
    have hjl := isAt_lt h1
    have hsg : sgnAt t (j + 1 + 1) = 7 ↔ sgnAt s (j + 1) = 7 := by
      by_cases hl : j + 1 < s.size
      · rw [h.sgn hl]
      · obtain he : j + 1 = s.size := by omega
        rw [he, h.sgnEnd, sgnAt_end]; decide
    by_cases h2 : sgnAt s (j + 1) = 7
    · rw [if_pos h2, if_pos (hsg.2 h2)]
      exact sh_shut h (by omega)
    · rw [if_neg h2, if_neg (fun hh => h2 (hsg.1 hh))]
      refine (sh_num h (by omega)).then fun hi' k hk => ?_
      exact sh_shut h (fine_le (fine_num (by omega)) hk)
  · rw [if_neg h1, if_neg h1]
    exact sh_shut h hj
theorem sh_letter (h : Wrap s t) (hi : i ≤ s.size) : Shr (letterP s i) (letterP t (i + 1)) := by
  unfold letterP
  rw [h.isAt' (by decide) hi, h.isAt' (by decide) hi, h.isAt' (by decide) hi, h.isAt' (by decide) hi]
  repeat' split
  all_goals first
    | exact Shr.ok
    | exact Shr.bad
    | skip
  rename_i h1
  have := isAt_lt h1
  refine (sh_dig h (.inr rfl) (by omega)).then fun a j ha => ?_
  exact (sh_dig h (.inr rfl) (fine_le (fine_dig 16 (by omega)) ha)).then fun b k _ => Shr.ok
theorem sh_esc (h : Wrap s t) (_hi : i < s.size) : Shr (escP s i) (escP t (i + 1)) := by
  unfold escP
  by_cases h0 : sgnAt s (i + 1) = 0
  · rw [if_pos h0]; exact Shr.bad
  · have hl := sgnAt_lt h0
    rw [h.sgn hl, h.bt hl, if_neg h0, if_neg h0]
    split
    · exact sh_letter h (by omega)
    · exact Shr.ok
theorem sh_mem (h : Wrap s t) (_hi : i ≤ s.size) : Shr (memP s i) (memP t (i + 1)) := by
  unfold memP
  by_cases h0 : sgnAt s i = 0 ∨ sgnAt s i = 10 ∨ sgnAt s i = 11 ∨ sgnAt s i = 17 ∨ sgnAt s i = 18 ∨ sgnAt s i = 15
  · rw [if_pos h0]; exact Shr.bad
  · have hl := sgnAt_lt (s := s) (i := i) (by omega)
    rw [h.sgn hl, h.bt hl, if_neg h0, if_neg h0]
    split
    · exact sh_esc h hl
    · exact Shr.ok
theorem sh_span (h : Wrap s t) (hi : i ≤ s.size) : Shr (spanP s i) (spanP t (i + 1)) := (sh_mem h hi).then fun lo j hn => by
  have hj := fine_le (fine_mem hi) hn
  rw [h.isAt' (by decide) hj]
  by_cases h1 : Go.Proofs.Ytngagijcdehjpaa.isAt s j 45 = true
  · rw [if_pos h1, if_pos h1]
    have := isAt_lt h1
    refine (sh_mem h (by omega)).then fun hi' k _ => ?_
    split
    · exact Shr.bad
    · exact Shr.ok
  · rw [if_neg h1, if_neg h1]; exact Shr.ok
theorem sh_classF (h : Wrap s t) : ∀ (k k' : Nat) (m : Nat → Bool) (i : Nat), k ≤ k' → i ≤ s.size → Shr (classF s k m i) (classF t k' m (i + 1))
  | 0, _, _, _, _, _ => Shr.bad
  | k + 1, k', m, i, hk, hi => by
    obtain ⟨k', rfl⟩ : ∃ q, k' = q + 1 := ⟨k' - 1, by omega⟩
    rw [classF, classF, h.isAt' (by decide) hi]
    split
    · exact Shr.ok
    · exact (sh_span h hi).then fun n j hn => sh_classF h k k' _ j (by omega) (fine_le (fine_span hi) hn)
theorem sh_class (h : Wrap s t) (hi : i < s.size) : Shr (classP s i) (classP t (i + 1)) := by
  have hs := h.size
  unfold classP
  rw [h.isAt' (by decide) (by omega)]
  split
  · rename_i h1
    have := isAt_lt h1
    exact (sh_classF h _ _ _ (i + 2) (by omega) (by omega)).then fun m j _ => Shr.ok
  · exact sh_classF h _ _ _ (i + 1) (by omega) (by omega)
theorem nameB_shut (l : List UInt8) : nameB (l ++ [41]) = false := by
  have h41 : (letB (41 : UInt8).toNat || numB (41 : UInt8).toNat) = false := by decide
  unfold nameB
  simp only [List.all_append, List.all_cons, h41, Bool.false_and, Bool.and_false]
theorem sh_nameF (h : Wrap s t) {first : Nat} : ∀ (n k k' i : Nat), s.size ≤ n + i → s.size ≤ k + i → s.size ≤ k' + i → first ≤ i → i ≤ s.size → nameF t (first + 1) k' (i + 1) = nameF s first k i + 1 := by
  intro n
  induction n with
  | zero =>
    intro k k' i hn _ _ hf hi
    obtain rfl : i = s.size := by omega
    rw [nameF_no (s := s) (fun hh => by omega), nameF_no (s := t) (fun hh => ?_)]
    have h2 := hh.2
    rw [h.cutEnd hf, nameB_shut] at h2
    cases h2
  | succ n ih =>
    intro k k' i hn hk hk' hf hi
    by_cases hc : i < s.size ∧ nameB (cutL s first (i + 1)) = true
    · obtain ⟨k, rfl⟩ : ∃ q, k = q + 1 := ⟨k - 1, by omega⟩
      obtain ⟨k', rfl⟩ : ∃ q, k' = q + 1 := ⟨k' - 1, by omega⟩
      rw [nameF, nameF, if_pos hc, if_pos ⟨by rw [h.size]; omega, by rw [h.cut hc.1 (by omega)]; exact hc.2⟩]
      exact ih k k' (i + 1) (by omega) (by omega) (by omega) (by omega) hc.1
    · rw [nameF_no hc, nameF_no (s := t) (fun hh => ?_)]
      by_cases hl : i < s.size
      · exact hc ⟨hl, by rw [← h.cut hl (by omega)]; exact hh.2⟩
      · obtain rfl : i = s.size := by omega
        have h2 := hh.2
        rw [h.cutEnd hf, nameB_shut] at h2
        cases h2
theorem sh_name (h : Wrap s t) (hi : i ≤ s.size) : ∀ j k, nameP s i = .ok (j, k) → nameP t (i + 1) = .ok (j + 1, k + 1) := fun j k hn => by
  unfold nameP at hn ⊢
  rw [sh_nameF h s.size (s.size - i) (t.size - (i + 1)) i (by omega) (by omega) (by rw [h.size]; omega) (Nat.le_refl _) hi]
  split at hn
  · exact (bad_ok hn).elim
  · rename_i hne
    rw [if_neg (by omega)]
    injection hn with hn; injection hn with h1 h2
    rw [h1] at h2 ⊢
    rw [h2]
theorem sh_find {l : List UInt8} : Shr (findF fr l i j) (findF fr l (i + 1) (j + 1)) := by
  unfold findF
  split
  · exact Shr.ok
  · exact Shr.bad
theorem sh_frag (h : Wrap s t) (hi : i < s.size) : Shr (fragP s fr i) (fragP t fr (i + 1)) := fun x j hx => by
  unfold fragP at hx ⊢
  obtain ⟨a, k, h1, h2⟩ := then_ok hx
  have hk := fine_le (fine_name (by omega)) h1
  have he := nameP_eq h1
  rw [sh_name h (by omega) a k h1]
  simp only [Res.then]
  rw [h.isAt' (by decide) (by omega), h.cut (by omega) (by omega)]
  split at h2
  · rename_i h3
    rw [if_pos h3]
    exact sh_find x j h2
  · exact (bad_ok h2).elim

/-- the same, or too deep -/
def Shd {α : Type} (r r' : Res α) : Prop := ∀ a j, r = .ok (a, j) → r' = .ok (a, j + 1) ∨ ∃ q, r' = .error (q, 3) ∧ 0 < q
theorem Shd.then {α β : Type} {r r' : Res α} {f g : α → Nat → Res β} (h : Shd r r') (hf : ∀ a j, r = .ok (a, j) → Shd (f a j) (g a (j + 1))) : Shd (r.then f) (r'.then g) := fun x j hx => by
  obtain ⟨a, k, h1, h2⟩ := then_ok hx
  rcases h a k h1 with h3 | ⟨q, h3, h4⟩
  · rw [h3]; exact hf a k h1 x j h2
  · rw [h3]; exact .inr ⟨q, rfl, h4⟩
theorem Shr.d {α : Type} {r r' : Res α} (h : Shr r r') : Shd r r' := fun a j hr => .inl (h a j hr)
def GrpSh (s : ByteArray) (g g' : Nat → Res Tree) : Prop := ∀ i, sgnAt s i = 8 → Shd (g i) (g' (i + 1))
section
variable {g g' : Nat → Res Tree}
theorem sh_atom (h : Wrap s t) (hG : GrpSh s g g') (hi : i ≤ s.size) : Shd (atomP g s fr i) (atomP g' t fr (i + 1)) := by
  by_cases hl : i < s.size
  · unfold atomP
    rw [h.sgn hl, h.bt hl]
    split
    · exact Shr.ok.d
    split
    · exact (Shr.then (sh_esc h hl) fun b j _ => Shr.ok).d
    split
    · exact Shr.ok.d
    split
    · exact (Shr.then (sh_class h hl) fun b j _ => Shr.ok).d
    split
    · rename_i h8; exact hG i h8
    split
    · exact (sh_frag h hl).d
    · exact Shr.bad.d
  · obtain rfl : i = s.size := by omega
    have hb : atomP g s fr s.size = bad s.size 2 := by
      unfold atomP
      rw [sgnAt_end]
      simp
    rw [hb]
    exact Shr.bad.d
theorem sh_item (h : Wrap s t) (hG : GrpSh s g g') (hf : GrpFine s g) (hi : i ≤ s.size) : Shd (itemP g s fr i) (itemP g' t fr (i + 1)) := (sh_atom h hG hi).then fun T j hT => by
  have hj := fine_le (fine_atom hf hi) hT
  by_cases hl : j < s.size
  · rw [h.sgn hl]
    split
    · exact Shr.ok.d
    split
    · exact Shr.ok.d
    split
    · exact Shr.ok.d
    split
    · exact (Shr.then (sh_bounds h hl) fun b k _ => Shr.ok).d
    · exact Shr.ok.d
  · obtain rfl : j = s.size := by omega
    rw [sgnAt_end, h.sgnEnd]
    simp only [show ¬ (0 = 3) by decide, show ¬ (0 = 4) by decide, show ¬ (0 = 5) by decide, show ¬ (0 = 6) by decide, show ¬ (9 = 3) by decide, show ¬ (9 = 4) by decide, show ¬ (9 = 5) by decide, show ¬ (9 = 6) by decide, if_false]
    exact Shr.ok.d
theorem sh_ends (h : Wrap s t) (hi : i ≤ s.size) : endsP t (i + 1) = endsP s i := by
  unfold endsP
  have hs := h.size
  by_cases hl : i < s.size
  · rw [h.sgn hl, decide_eq_false (by omega : ¬ i + 1 = t.size), decide_eq_false (by omega : ¬ i = s.size)]
  · obtain rfl : i = s.size := by omega
    rw [h.sgnEnd]
    simp
theorem sh_rowF (h : Wrap s t) (hG : GrpSh s g g') (hf : GrpFine s g) : ∀ (k k' : Nat) (l : List Tree) (i : Nat), k ≤ k' → i ≤ s.size → Shd (rowF g s fr k l i) (rowF g' t fr k' l (i + 1))
  | 0, _, _, _, _, _ => Shr.bad.d
  | k + 1, k', l, i, hk, hi => by
    obtain ⟨k', rfl⟩ : ∃ q, k' = q + 1 := ⟨k' - 1, by omega⟩
    rw [rowF, rowF, sh_ends h hi]
    split
    · exact Shr.ok.d
    · exact (sh_item h hG hf hi).then fun T j hT => sh_rowF h hG hf k k' _ j (by omega) (fine_le (fine_item hf hi) hT)
theorem sh_row (h : Wrap s t) (hG : GrpSh s g g') (hf : GrpFine s g) (hi : i ≤ s.size) : Shd (rowP g s fr i) (rowP g' t fr (i + 1)) := by
  have hs := h.size
  exact (sh_rowF h hG hf _ _ _ i (by omega) hi).then fun l j _ => Shr.ok.d
theorem sh_altF (h : Wrap s t) (hG : GrpSh s g g') (hf : GrpFine s g) : ∀ (k k' : Nat) (l : List Tree) (i : Nat), k ≤ k' → i ≤ s.size → Shd (altF g s fr k l i) (altF g' t fr k' l (i + 1))
  | 0, _, _, _, _, _ => Shr.bad.d
  | k + 1, k', l, i, hk, hi => by
    obtain ⟨k', rfl⟩ : ∃ q, k' = q + 1 := ⟨k' - 1, by omega⟩
    rw [altF, altF, h.isAt' (by decide) hi]
    split
    · rename_i h1
      have := isAt_lt h1
      exact (sh_row h hG hf (by omega)).then fun T j hT => sh_altF h hG hf k k' _ j (by omega) (fine_le (fine_row hf (by omega)) hT)
    · exact Shr.ok.d
theorem sh_alt (h : Wrap s t) (hG : GrpSh s g g') (hf : GrpFine s g) (hi : i ≤ s.size) : Shd (altP g s fr i) (altP g' t fr (i + 1)) := by
  have hs := h.size
  refine (sh_row h hG hf hi).then fun T j hT => ?_
  exact (sh_altF h hG hf _ _ _ j (by omega) (fine_le (fine_row hf hi) hT)).then fun l k _ => Shr.ok.d
end
theorem sh_grp (h : Wrap s t) : ∀ d, GrpSh s (grpP s fr (d + 1)) (grpP t fr d)
  | 0 => fun i _ => fun _ _ _ => .inr ⟨i + 1, rfl, Nat.succ_pos _⟩
  | d + 1 => fun i h8 => by
    have hl := sgnAt_lt (s := s) (i := i) (by omega)
    rw [grpP, grpP, altsP_is, altsP_is]
    refine (sh_alt h (sh_grp h d) (fine_grp (d + 1)) (by omega)).then fun T k hT => ?_
    split
    · rename_i h1
      rw [if_pos (by rw [h.isAt (isAt_lt h1)]; exact h1)]
      exact Shr.ok.d
    · exact Shr.bad.d
theorem sh_alts (h : Wrap s t) (d : Nat) (hi : i ≤ s.size) : Shd (altsP s fr (d + 1) i) (altsP t fr d (i + 1)) := by
  rw [altsP_is, altsP_is]
  exact sh_alt h (sh_grp h d) (fine_grp (d + 1)) hi
/-- the whole -/
theorem sh_whole (h : Wrap s t) {T : Tree} (hw : wholeP s fr = .ok (T, j)) : (∃ k, wholeP t fr = .ok (T, k)) ∨ ∃ q, wholeP t fr = .error (q, 3) ∧ 0 < q := by
  have hs := h.size
  unfold wholeP at hw
  obtain ⟨a, k, h1, h2⟩ := then_ok hw
  have hk := fine_le (by rw [altsP_is]; exact fine_alt (fine_grp 30) (Nat.zero_le _)) h1
  split at h2
  · exact (bad_ok h2).elim
  · obtain rfl : k = s.size := by omega
    injection h2 with h2; injection h2 with h2 _
    subst h2
    have h8 : sgnAt t 0 = 8 := by unfold sgnAt; rw [if_pos (by omega), h.first]; rfl
    have hend : sgnAt t (s.size + 1 + 1) = 0 := by unfold sgnAt; rw [if_neg (by omega)]
    have hatom : atomP (grpP t fr 30) t fr 0 = grpP t fr 30 0 := by unfold atomP; rw [h8]; simp
    have he0 : endsP t 0 = false := by unfold endsP; rw [h8, decide_eq_false (by omega : ¬ 0 = t.size)]; rfl
    have he1 : endsP t (s.size + 1 + 1) = true := by unfold endsP; rw [decide_eq_true (by omega : s.size + 1 + 1 = t.size)]; simp
    have hg : grpP t fr 30 0 = (altsP t fr 29 1).then fun u k => if isAt t k 41 = true then .ok (u, k + 1) else bad k 2 := by rw [grpP]
    unfold wholeP
    rcases sh_alts (fr := fr) h 29 (Nat.zero_le _) a s.size h1 with h3 | ⟨q, h3, h4⟩
    · left
      have h41 : isAt t (s.size + 1) 41 = true := by unfold isAt; rw [h.last, decide_eq_true (by omega : s.size + 1 < t.size)]; rfl
      rw [h3] at hg
      simp only [Res.then, if_pos h41] at hg
      have hitem : itemP (grpP t fr 30) t fr 0 = .ok (a, s.size + 1 + 1) := by
        unfold itemP
        rw [hatom, hg]
        simp only [Res.then, hend]
        simp
      have hrow : rowP (grpP t fr 30) t fr 0 = .ok (a, s.size + 1 + 1) := by
        unfold rowP
        rw [show t.size + 1 - 0 = s.size + 1 + 1 + 1 by omega, rowF, if_neg (by rw [he0]; decide), hitem]
        simp only [Res.then, List.nil_append]
        rw [rowF, if_pos he1]
        rfl
      have halt : altsP t fr 30 0 = .ok (a, s.size + 1 + 1) := by
        rw [altsP_is]
        unfold altP
        rw [hrow]
        simp only [Res.then]
        rw [show t.size + 1 - (s.size + 1 + 1) = 0 + 1 by omega, altF, if_neg (by unfold isAt; rw [decide_eq_false (by omega : ¬ s.size + 1 + 1 < t.size)]; simp)]
        rfl
      rw [halt]
      simp only [Res.then]
      rw [if_neg (by omega)]
      exact ⟨_, rfl⟩
    · right
      refine ⟨q, ?_, h4⟩
      rw [h3] at hg
      simp only [Res.then] at hg
      have hitem : itemP (grpP t fr 30) t fr 0 = .error (q, 3) := by
        unfold itemP
        rw [hatom, hg]
        rfl
      have hrow : rowP (grpP t fr 30) t fr 0 = .error (q, 3) := by
        unfold rowP
        rw [show t.size + 1 - 0 = s.size + 1 + 1 + 1 by omega, rowF, if_neg (by rw [he0]; decide), hitem]
        rfl
      rw [altsP_is]
      unfold altP
      rw [hrow]
      rfl
theorem parse_wrap (h : Wrap s t) (hs : s.size ≤ 390) {T : Tree} (hp : parseP s fr = .ok T) : parseP t fr = .ok T ∨ ∃ q, parseP t fr = .error (q, 3) ∧ 0 < q := by
  have hsz := h.size
  unfold parseP at hp ⊢
  rw [if_neg (by omega)] at hp ⊢
  rcases hw : wholeP s fr with e | ⟨U, j⟩
  · rw [hw] at hp; cases hp
  · rw [hw] at hp
    rcases sh_whole (fr := fr) h hw with ⟨k, h1⟩ | ⟨q, h1, h2⟩
    · rw [h1]; exact .inl hp
    · rw [h1]; exact .inr ⟨q, rfl, h2⟩
end
end Go.Proofs.Ytngagijcdehjpaa
