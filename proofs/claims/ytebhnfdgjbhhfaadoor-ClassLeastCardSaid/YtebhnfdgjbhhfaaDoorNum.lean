/-
  WHAT IS SAID OF NO PROGRAM: places numbered by what they have: classes in the order of their first places. No condition.
-/
import Derived.Test.YtebhnfdgjbhhfaaDoorBools
namespace Go.Proofs.YtebhnfdgjbhhfaaDoor
open Go.RowKit

section
variable {α β : Type} [DecidableEq α] [DecidableEq β]

/-- has a lesser place the same? -/
def old (g : Nat → α) (b : Nat) : Bool := (List.range b).any fun a => decide (g a = g b)
/-- how many classes the places below b have -/
def cnt (g : Nat → α) : Nat → Nat
  | 0 => 0
  | b + 1 => cnt g b + (if old g b then 0 else 1)
/-- the first place that has the same as b -/
def fst' (g : Nat → α) (b : Nat) : Nat := ((List.range (b + 1)).find? fun a => decide (g a = g b)).getD b
/-- the class of b -/
def num (g : Nat → α) (b : Nat) : Nat := cnt g (fst' g b)

theorem old_iff {g : Nat → α} {b : Nat} : old g b = true ↔ ∃ a, a < b ∧ g a = g b := by
  unfold old
  rw [List.any_eq_true]
  constructor
  · rintro ⟨a, ha, h⟩; exact ⟨a, List.mem_range.1 ha, of_decide_eq_true h⟩
  · rintro ⟨a, ha, h⟩; exact ⟨a, List.mem_range.2 ha, decide_eq_true h⟩
theorem old_not {g : Nat → α} {b : Nat} : old g b = false ↔ ∀ a, a < b → g a ≠ g b := by
  rw [← Bool.not_eq_true, old_iff]
  exact ⟨fun h a ha e => h ⟨a, ha, e⟩, fun h ⟨a, ha, e⟩ => h a ha e⟩
theorem cnt_succ (g : Nat → α) (b : Nat) : cnt g (b + 1) = cnt g b + (if old g b then 0 else 1) := rfl
theorem cnt_le (g : Nat → α) : ∀ b, cnt g b ≤ b
  | 0 => Nat.le_refl _
  | b + 1 => by have := cnt_le g b; rw [cnt_succ]; split <;> omega
theorem cnt_mono (g : Nat → α) {a b : Nat} (h : a ≤ b) : cnt g a ≤ cnt g b := by
  induction h with
  | refl => exact Nat.le_refl _
  | step _ ih => rw [cnt_succ]; omega

theorem find_least {p : Nat → Bool} : ∀ (n : Nat), (∃ i, i < n ∧ p i = true) → ∃ i, (List.range n).find? p = some i ∧ i < n ∧ p i = true ∧ ∀ j, j < i → p j = false
  | 0, ⟨i, hi, _⟩ => absurd hi (by omega)
  | n + 1, ⟨i, hi, hp⟩ => by
    rw [List.range_succ, List.find?_append]
    by_cases h : ∃ i, i < n ∧ p i = true
    · obtain ⟨i, h1, h2, h3, h4⟩ := find_least n h
      exact ⟨i, by rw [h1]; rfl, by omega, h3, h4⟩
    · have hin : i = n := by
        rcases Nat.lt_or_ge i n with hlt | hge
        · exact absurd ⟨i, hlt, hp⟩ h
        · omega
      subst hin
      have hn : (List.range i).find? p = none := by
        rw [List.find?_eq_none]
        intro x hx hpx
        exact h ⟨x, List.mem_range.1 hx, hpx⟩
      refine ⟨i, by rw [hn]; simp [hp], by omega, hp, fun j hj => ?_⟩
      cases hpj : p j
      · rfl
      · exact absurd ⟨j, hj, hpj⟩ h

theorem fst_spec (g : Nat → α) (b : Nat) : fst' g b ≤ b ∧ g (fst' g b) = g b ∧ ∀ j, j < fst' g b → g j ≠ g b := by
  obtain ⟨i, h1, h2, h3, h4⟩ := find_least (p := fun a => decide (g a = g b)) (b + 1) ⟨b, by omega, decide_eq_true rfl⟩
  have e : fst' g b = i := by unfold fst'; rw [h1]; rfl
  rw [e]
  exact ⟨by omega, of_decide_eq_true h3, fun j hj => of_decide_eq_false (h4 j hj)⟩
theorem fst_uniq {g : Nat → α} {b i : Nat} (h1 : g i = g b) (h2 : ∀ j, j < i → g j ≠ g b) : fst' g b = i := by
  obtain ⟨_, k2, k3⟩ := fst_spec g b
  rcases Nat.lt_trichotomy (fst' g b) i with h | h | h
  · exact absurd k2 (h2 _ h)
  · exact h
  · exact absurd h1 (k3 _ h)
theorem num_new {g : Nat → α} {b : Nat} (h : old g b = false) : num g b = cnt g b := by
  unfold num
  rw [fst_uniq (i := b) rfl (old_not.1 h)]
theorem num_same {g : Nat → α} {a b : Nat} (h : g a = g b) : num g a = num g b := by
  obtain ⟨_, h2, h3⟩ := fst_spec g a
  unfold num
  rw [fst_uniq (b := b) (i := fst' g a) (h2.trans h) (fun j hj => by rw [← h]; exact h3 j hj)]
theorem fst_fresh (g : Nat → α) (b : Nat) : old g (fst' g b) = false := by
  obtain ⟨_, h2, h3⟩ := fst_spec g b
  exact old_not.2 fun a ha => by rw [h2]; exact h3 a ha
theorem num_lt (g : Nat → α) (b : Nat) : num g b < cnt g (b + 1) := by
  have h := fst_fresh g b
  have h1 := (fst_spec g b).1
  have h2 : cnt g (fst' g b + 1) = num g b + 1 := by rw [cnt_succ, h]; rfl
  have h3 := cnt_mono g (a := fst' g b + 1) (b := b + 1) (by omega)
  omega
theorem num_le (g : Nat → α) (b : Nat) : num g b ≤ b := Nat.le_trans (cnt_mono g (fst_spec g b).1) (cnt_le g b)
theorem num_inj {g : Nat → α} {a b : Nat} (h : num g a = num g b) : g a = g b := by
  have ha := fst_fresh g a
  have hb := fst_fresh g b
  have key : ∀ i j, old g i = false → i < j → cnt g i < cnt g j := fun i j hi hij => by
    have := cnt_mono g (a := i + 1) (b := j) hij
    rw [cnt_succ, hi] at this
    exact this
  rcases Nat.lt_trichotomy (fst' g a) (fst' g b) with h1 | h1 | h1
  · have := key _ _ ha h1; unfold num at h; omega
  · rw [← (fst_spec g a).2.1, h1, (fst_spec g b).2.1]
  · have := key _ _ hb h1; unfold num at h; omega
theorem num_hit (g : Nat → α) {k : Nat} : ∀ b, k < cnt g b → ∃ a, a < b ∧ num g a = k
  | 0, h => absurd h (by simp [cnt])
  | b + 1, h => by
    rcases Nat.lt_or_ge k (cnt g b) with hlt | hge
    · obtain ⟨a, h1, h2⟩ := num_hit g b hlt
      exact ⟨a, by omega, h2⟩
    · rw [cnt_succ] at h
      cases ho : old g b
      · rw [ho] at h
        exact ⟨b, by omega, by rw [num_new ho]; simp at h; omega⟩
      · rw [ho] at h; simp at h; omega

/-- of one relation on the places below n: the same numbers -/
theorem old_congr {g : Nat → α} {g' : Nat → β} {b : Nat} (h : ∀ a, a < b → (g a = g b ↔ g' a = g' b)) : old g b = old g' b := by
  rw [Bool.eq_iff_iff, old_iff, old_iff]
  exact ⟨fun ⟨a, ha, e⟩ => ⟨a, ha, (h a ha).1 e⟩, fun ⟨a, ha, e⟩ => ⟨a, ha, (h a ha).2 e⟩⟩
theorem cnt_congr {g : Nat → α} {g' : Nat → β} {n : Nat} (h : ∀ a b, a < n → b < n → (g a = g b ↔ g' a = g' b)) : ∀ b, b ≤ n → cnt g b = cnt g' b
  | 0, _ => rfl
  | b + 1, hb => by rw [cnt_succ, cnt_succ, cnt_congr h b (by omega), old_congr fun a ha => h a b (by omega) (by omega)]
theorem num_congr {g : Nat → α} {g' : Nat → β} {n : Nat} (h : ∀ a b, a < n → b < n → (g a = g b ↔ g' a = g' b)) {b : Nat} (hb : b < n) : num g b = num g' b := by
  obtain ⟨h1, h2, h3⟩ := fst_spec g b
  unfold num
  rw [fst_uniq (g := g') (b := b) (i := fst' g b) ((h _ _ (by omega) hb).1 h2) (fun j hj e => h3 j hj ((h _ _ (by omega) hb).2 e)), cnt_congr h _ (by omega)]
/-- a finer relation has no fewer classes -/
theorem cnt_finer {g : Nat → α} {g' : Nat → β} {n : Nat} (h : ∀ a b, a < n → b < n → g a = g b → g' a = g' b) : ∀ b, b ≤ n → cnt g' b ≤ cnt g b
  | 0, _ => Nat.le_refl _
  | b + 1, hb => by
    have ih := cnt_finer h b (by omega)
    rw [cnt_succ, cnt_succ]
    cases ho : old g b
    · split <;> simp <;> omega
    · obtain ⟨a, ha, e⟩ := old_iff.1 ho
      have : old g' b = true := old_iff.2 ⟨a, ha, h a b (by omega) (by omega) e⟩
      rw [this]; simpa using ih
theorem num_num (g : Nat → α) {n b : Nat} (hb : b < n) : num (num g) b = num g b :=
  num_congr (n := n) (fun _ _ _ _ => ⟨num_inj, num_same⟩) hb
theorem cnt_num (g : Nat → α) (b : Nat) : cnt (num g) b = cnt g b :=
  cnt_congr (n := b) (fun _ _ _ _ => ⟨num_inj, num_same⟩) b (Nat.le_refl _)
end

/-! ### whether a partition may be -/
/-- the first t places are numbered by their first places -/
def MayTo (f : Nat → Nat) (t : Nat) : Prop := ∀ b, b < t → f b = num f b
theorem mayTo_over {f : Nat → Nat} {t : Nat} (h : cnt f t < f t) : f t ≠ num f t := by
  have := num_lt f t
  rw [cnt_succ] at this
  split at this <;> omega
theorem mayTo_new {f : Nat → Nat} {t : Nat} (hm : MayTo f t) (h : f t = cnt f t) : f t = num f t ∧ cnt f (t + 1) = cnt f t + 1 := by
  have ho : old f t = false := old_not.2 fun a ha e => by
    have h1 := hm a ha
    have h2 := num_lt f a
    have h3 := cnt_mono f (a := a + 1) (b := t) (by omega)
    omega
  exact ⟨by rw [num_new ho, h], by rw [cnt_succ, ho]; rfl⟩
theorem mayTo_old {f : Nat → Nat} {t : Nat} (hm : MayTo f t) (h : f t < cnt f t) : f t = num f t ∧ cnt f (t + 1) = cnt f t := by
  obtain ⟨a, ha, e⟩ := num_hit f t h
  have h1 := hm a ha
  have h2 : f a = f t := by omega
  have ho : old f t = true := old_iff.2 ⟨a, ha, h2⟩
  exact ⟨by rw [← num_same h2, e], by rw [cnt_succ, ho]; rfl⟩
theorem MayTo.succ {f : Nat → Nat} {t : Nat} (hm : MayTo f t) (h : f t = num f t) : MayTo f (t + 1) := fun b hb => by
  rcases Nat.lt_or_ge b t with h1 | h1
  · exact hm b h1
  · obtain rfl : b = t := by omega
    exact h

def mayB (f : Nat → Nat) (n : Int) : Bool := (List.range 256).all (fun b => decide (f b = num f b)) && decide (n = (cnt f 256 : Nat))
theorem mayB_iff {f : Nat → Nat} {n : Int} : mayB f n = true ↔ MayTo f 256 ∧ n = (cnt f 256 : Nat) := by
  unfold mayB
  rw [Bool.and_eq_true, List.all_eq_true, decide_eq_true_iff]
  exact and_congr ⟨fun h b hb => of_decide_eq_true (h b (List.mem_range.2 hb)), fun h b hb => decide_eq_true (h b (List.mem_range.1 hb))⟩ Iff.rfl
theorem mayB_end {f : Nat → Nat} {n : Int} (h : MayTo f 256) : mayB f n = decide (n = (cnt f 256 : Nat)) := by
  rw [Bool.eq_iff_iff, mayB_iff, decide_eq_true_iff]
  exact ⟨fun h => h.2, fun h' => ⟨h, h'⟩⟩
theorem mayB_not {f : Nat → Nat} {n : Int} {t : Nat} (ht : t < 256) (h : f t ≠ num f t) : mayB f n = false := by
  rw [← Bool.not_eq_true, mayB_iff]
  exact fun h' => h (h'.1 t ht)

/-- has a set of each class all or none? -/
def wholeB (f : Nat → Nat) (n : Int) (s : Nat → Bool) : Bool := mayB f n && (List.range 256).all fun a => (List.range a).all fun b => decide (f a = f b → s a = s b)
theorem wholeB_iff {f : Nat → Nat} {n : Int} {s : Nat → Bool} : wholeB f n s = true ↔ mayB f n = true ∧ ∀ a b, a < 256 → b < 256 → f a = f b → s a = s b := by
  unfold wholeB
  rw [Bool.and_eq_true, List.all_eq_true]
  refine and_congr Iff.rfl ⟨fun h a b ha hb e => ?_, fun h a ha => List.all_eq_true.2 fun b hb => decide_eq_true (fun e => h a b (List.mem_range.1 ha) (by have := List.mem_range.1 ha; have := List.mem_range.1 hb; omega) e)⟩
  rcases Nat.lt_trichotomy a b with h1 | h1 | h1
  · exact (of_decide_eq_true (List.all_eq_true.1 (h b (List.mem_range.2 hb)) a (List.mem_range.2 h1)) e.symm).symm
  · rw [h1]
  · exact of_decide_eq_true (List.all_eq_true.1 (h a (List.mem_range.2 ha)) b (List.mem_range.2 h1)) e

/-- the same classes and as many -/
def sameB (f f' : Nat → Nat) (n n' : Int) : Bool := (List.range 256).all (fun b => decide (f b = f' b)) && decide (n = n')
theorem sameB_iff {f f' : Nat → Nat} {n n' : Int} : sameB f f' n n' = true ↔ (∀ b, b < 256 → f b = f' b) ∧ n = n' := by
  unfold sameB
  rw [Bool.and_eq_true, List.all_eq_true, decide_eq_true_iff]
  exact and_congr ⟨fun h b hb => of_decide_eq_true (h b (List.mem_range.2 hb)), fun h b hb => decide_eq_true (h b (List.mem_range.1 hb))⟩ Iff.rfl

/-- what the classes of f become when s parts them: just f if s is whole -/
theorem whole_split {f : Nat → Nat} {n : Int} {s : Nat → Bool} {α : Type} [DecidableEq α] {g : Nat → α} (hg : ∀ a b, a < 256 → b < 256 → (g a = g b ↔ f a = f b ∧ s a = s b)) :
    sameB (num g) f (cnt g 256 : Nat) n = wholeB f n s := by
  rw [Bool.eq_iff_iff, sameB_iff, wholeB_iff, mayB_iff]
  constructor
  · rintro ⟨h1, h2⟩
    have hs : ∀ a b, a < 256 → b < 256 → f a = f b → s a = s b := fun a b ha hb e => ((hg a b ha hb).1 (num_inj (by rw [h1 a ha, h1 b hb, e]))).2
    have hr : ∀ a b, a < 256 → b < 256 → (g a = g b ↔ f a = f b) := fun a b ha hb => ⟨fun h => ((hg a b ha hb).1 h).1, fun h => (hg a b ha hb).2 ⟨h, hs a b ha hb h⟩⟩
    exact ⟨⟨fun b hb => by rw [← num_congr hr hb, h1 b hb], by rw [← h2, cnt_congr hr 256 (Nat.le_refl _)]⟩, hs⟩
  · rintro ⟨⟨h1, h2⟩, hs⟩
    have hr : ∀ a b, a < 256 → b < 256 → (g a = g b ↔ f a = f b) := fun a b ha hb => ⟨fun h => ((hg a b ha hb).1 h).1, fun h => (hg a b ha hb).2 ⟨h, hs a b ha hb h⟩⟩
    exact ⟨fun b hb => by rw [num_congr hr hb, h1 b hb], by rw [cnt_congr hr 256 (Nat.le_refl _), h2]⟩
theorem mayB_num {α : Type} [DecidableEq α] (g : Nat → α) : mayB (num g) (cnt g 256 : Nat) = true :=
  mayB_iff.2 ⟨fun b hb => (num_num g hb).symm, by rw [cnt_num]⟩

/-! ### blocks of cells by places -/
def cellsN (N : Nat) (g : Nat → Value) : Array Value := ((List.range N).map g).toArray
theorem cellsN_size (N : Nat) (g : Nat → Value) : (cellsN N g).size = N := by simp [cellsN]
theorem cellsN_get {N : Nat} (g : Nat → Value) {i : Nat} (h : i < N) : (cellsN N g)[i]? = some (g i) := by
  unfold cellsN
  rw [List.getElem?_toArray, List.getElem?_map, List.getElem?_range h]; rfl
theorem cellsN_congr {N : Nat} {g h : Nat → Value} (e : ∀ i, i < N → g i = h i) : cellsN N g = cellsN N h := by
  unfold cellsN
  rw [List.map_congr_left (fun i hi => e i (List.mem_range.1 hi))]
theorem cellsN_set (N : Nat) (g : Nat → Value) (i : Nat) (v : Value) : (cellsN N g).setIfInBounds i v = cellsN N (fun j => if j = i then v else g j) := by
  apply Array.ext_getElem?
  intro j
  by_cases hj : j < N
  · rw [Array.getElem?_setIfInBounds, cellsN_get _ hj, cellsN_get _ hj, cellsN_size]
    by_cases e : i = j
    · subst e; simp [hj]
    · have e' : ¬ j = i := fun h => e h.symm
      simp [e, e']
  · rw [Array.getElem?_eq_none (by rw [Array.size_setIfInBounds, cellsN_size]; omega), Array.getElem?_eq_none (by rw [cellsN_size]; omega)]
theorem cellsN_one {N : Nat} {g : Nat → Value} (h : ∀ i, (g i).oneCell' = true) : (cellsN N g).all (·.oneCell') = true := by
  rw [Array.all_eq_true_iff_forall_mem]
  intro v hv
  unfold cellsN at hv
  simp only [List.mem_toArray, List.mem_map] at hv
  obtain ⟨i, _, rfl⟩ := hv
  exact h i
theorem cellsN_agg (N : Nat) (g : Nat → Value) : Value.agg (cellsN N g).toList.toArray = .agg (cellsN N g) := by simp

/-- the cells of a partition -/
def clsG (f : Nat → Nat) (n : Int) (i : Nat) : Value := if i < 256 then .int .u8 (f i) else .int .i64 n
def clsC (f : Nat → Nat) (n : Int) : Array Value := cellsN 257 (clsG f n)
theorem clsC_size (f : Nat → Nat) (n : Int) : (clsC f n).size = 257 := cellsN_size _ _
theorem clsC_of (f : Nat → Nat) (n : Int) {i : Nat} (h : i < 256) : (clsC f n)[i]? = some (.int .u8 (f i)) := by
  unfold clsC; rw [cellsN_get _ (by omega)]; unfold clsG; rw [if_pos h]
theorem clsC_n (f : Nat → Nat) (n : Int) : (clsC f n)[256]? = some (.int .i64 n) := by
  unfold clsC; rw [cellsN_get _ (by omega)]; rfl
theorem clsC_one (f : Nat → Nat) (n : Int) : (clsC f n).all (·.oneCell') = true := cellsN_one fun i => by unfold clsG; split <;> rfl
theorem clsC_congr {f f' : Nat → Nat} (n : Int) (h : ∀ b, b < 256 → f b = f' b) : clsC f n = clsC f' n := cellsN_congr fun i _ => by
  unfold clsG
  split
  · rename_i hi; rw [h i hi]
  · rfl
def updN (f : Nat → Nat) (i v : Nat) : Nat → Nat := fun j => if j = i then v else f j
theorem clsC_set (f : Nat → Nat) (n : Int) {i : Nat} (h : i < 256) (v : Nat) : (clsC f n).setIfInBounds i (.int .u8 v) = clsC (updN f i v) n := by
  unfold clsC
  rw [cellsN_set]
  refine cellsN_congr fun j _ => ?_
  unfold clsG updN
  by_cases e : j = i
  · subst e; simp [h]
  · simp [e]
theorem clsC_setN (f : Nat → Nat) (n n' : Int) : (clsC f n).setIfInBounds 256 (.int .i64 n') = clsC f n' := by
  unfold clsC
  rw [cellsN_set]
  refine cellsN_congr fun j hj => ?_
  unfold clsG
  by_cases e : j = 256
  · subst e; simp
  · have : j < 256 := by omega
    simp [e, this]

attribute [irreducible] clsC

end Go.Proofs.YtebhnfdgjbhhfaaDoor
