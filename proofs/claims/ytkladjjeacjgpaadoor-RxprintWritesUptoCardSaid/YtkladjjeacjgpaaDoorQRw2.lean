/-
  THE BYTES OF A SET, ONE BEHIND THE OTHER, AND ITS RANGES: what is said of no program. No condition.
-/
import Derived.Test.YtkladjjeacjgpaaDoorQTst
namespace Go.Proofs.YtkladjjeacjgpaaDoor

theorem mems_mono {m : Nat → Bool} {i j : Nat} (h : i < j) (hj : j < (mems m 256).length) : (mems m 256)[i] < (mems m 256)[j] := by
  have hp : (mems m 256).Pairwise (· < ·) := List.Pairwise.filter _ List.pairwise_lt_range
  exact List.pairwise_iff_getElem.1 hp i j (by omega) hj h
theorem mems_in {m : Nat → Bool} {i : Nat} (h : i < (mems m 256).length) : (mems m 256)[i] < 256 ∧ m (mems m 256)[i] = true := by
  have : (mems m 256)[i] ∈ mems m 256 := List.getElem_mem h
  unfold mems at this ⊢
  rw [List.mem_filter, List.mem_range] at this
  exact this
theorem mems_at {m : Nat → Bool} {c : Nat} (hc : c < 256) (hm : m c = true) : ∃ i, ∃ h : i < (mems m 256).length, (mems m 256)[i] = c := by
  have : c ∈ mems m 256 := by unfold mems; rw [List.mem_filter, List.mem_range]; exact ⟨hc, hm⟩
  obtain ⟨i, h, e⟩ := List.getElem_of_mem this
  exact ⟨i, h, e⟩
theorem mems_le {m : Nat → Bool} {i j : Nat} (hi : i < (mems m 256).length) (hj : j < (mems m 256).length) (h : (mems m 256)[i] < (mems m 256)[j]) : i < j := by
  rcases Nat.lt_trichotomy i j with g | g | g
  · exact g
  · subst g; omega
  · have := mems_mono (m := m) g hi; omega
/-- between two that stand side by side there is none -/
theorem gap {m : Nat → Bool} {k : Nat} (hk : k + 1 < (mems m 256).length) {c : Nat} (h1 : (mems m 256)[k] < c) (h2 : c < (mems m 256)[k + 1]) : m c = false := by
  cases hm : m c with
  | false => rfl
  | true =>
    have := (mems_in hk).1
    obtain ⟨i, hi, e⟩ := mems_at (m := m) (c := c) (by omega) hm
    have := mems_le (m := m) (i := k) (j := i) (by omega) hi (by rw [e]; exact h1)
    have := mems_le (m := m) (i := i) (j := k + 1) hi hk (by rw [e]; exact h2)
    omega
theorem gap_end {m : Nat → Bool} {k : Nat} (hk : k < (mems m 256).length) (he : ¬ k + 1 < (mems m 256).length) {c : Nat} (h1 : (mems m 256)[k] < c) (h2 : c < 256) : m c = false := by
  cases hm : m c with
  | false => rfl
  | true =>
    obtain ⟨i, hi, e⟩ := mems_at (m := m) (c := c) h2 hm
    have := mems_le (m := m) (i := k) (j := i) hk hi (by rw [e]; exact h1)
    omega
theorem gap_start {m : Nat → Bool} (hk : 0 < (mems m 256).length) {c : Nat} (h2 : c < (mems m 256)[0]) : m c = false := by
  cases hm : m c with
  | false => rfl
  | true =>
    have := (mems_in hk).1
    obtain ⟨i, hi, e⟩ := mems_at (m := m) (c := c) (by omega) hm
    have := mems_le (m := m) (i := i) (j := 0) hi hk (by rw [e]; exact h2)
    omega

theorem next_least {m : Nat → Bool} {k : Int} {b : Nat} (h : nextS m k = (b : Int)) {c : Nat} (h1 : k ≤ (c : Int)) (h2 : c < b) (h3 : b < 256) : m c = false := by
  cases hm : m c with
  | false => rfl
  | true =>
    unfold nextS at h
    have hc : c ∈ mems (sLess m (sBelow k)) 256 := by
      unfold mems
      rw [List.mem_filter, List.mem_range]
      refine ⟨by omega, ?_⟩
      simp only [sLess, sBelow, hm, Bool.true_and, Bool.not_eq_true', decide_eq_false_iff_not]
      omega
    have hp : (mems (sLess m (sBelow k)) 256).Pairwise (· < ·) := List.Pairwise.filter _ List.pairwise_lt_range
    cases hl : mems (sLess m (sBelow k)) 256 with
    | nil => rw [hl] at hc; cases hc
    | cons x r =>
      rw [hl] at hc h hp
      have hx : x = b := by have h' : (x : Int) = (b : Int) := h; omega
      subst hx
      rcases List.mem_cons.1 hc with e | e
      · omega
      · have := (List.pairwise_cons.1 hp).1 c e
        omega
theorem next_no {m : Nat → Bool} {k : Int} (h : nextS m k = -1) {c : Nat} (h1 : k ≤ (c : Int)) (h2 : c < 256) : m c = false := by
  cases hm : m c with
  | false => rfl
  | true =>
    unfold nextS at h
    have hc : c ∈ mems (sLess m (sBelow k)) 256 := by
      unfold mems
      rw [List.mem_filter, List.mem_range]
      refine ⟨h2, ?_⟩
      simp only [sLess, sBelow, hm, Bool.true_and, Bool.not_eq_true', decide_eq_false_iff_not]
      omega
    cases hl : mems (sLess m (sBelow k)) 256 with
    | nil => rw [hl] at hc; cases hc
    | cons x r => rw [hl] at h; have h' : (x : Int) = -1 := h; omega
theorem next_is {m : Nat → Bool} {k : Int} {b : Nat} (hb : b < 256) (hm : m b = true) (hk : k ≤ (b : Int)) (hn : ∀ c : Nat, k ≤ (c : Int) → c < b → m c = false) : nextS m k = (b : Int) := by
  rcases nextS_spec m k with e | ⟨b', h1, h2, h3, e⟩
  · rw [next_no e hk hb] at hm; cases hm
  · rcases Nat.lt_trichotomy b b' with g | g | g
    · rw [next_least e hk g h1] at hm; cases hm
    · rw [e, g]
    · rw [hn b' h3 g] at h2; cases h2
theorem next_none {m : Nat → Bool} {k : Int} (hn : ∀ c : Nat, c < 256 → k ≤ (c : Int) → m c = false) : nextS m k = -1 := by
  rcases nextS_spec m k with e | ⟨b', h1, h2, h3, e⟩
  · exact e
  · rw [hn b' h1 h3] at h2; cases h2

/-- the byte at a place, or -1 behind the last one -/
def byteOr (l : List Nat) (i : Nat) : Int := if h : i < l.length then (l[i] : Int) else -1
theorem next_start (m : Nat → Bool) : nextS m 0 = byteOr (mems m 256) 0 := by
  unfold byteOr
  split
  · rename_i h
    exact next_is (mems_in h).1 (mems_in h).2 (by omega) (fun c _ hc => gap_start h hc)
  · rename_i h
    refine next_none (fun c hc _ => ?_)
    cases hm : m c with
    | false => rfl
    | true => obtain ⟨i, hi, _⟩ := mems_at hc hm; omega
theorem next_behind {m : Nat → Bool} {k : Nat} (hk : k < (mems m 256).length) : nextS m (((mems m 256)[k] : Int) + 1) = byteOr (mems m 256) (k + 1) := by
  unfold byteOr
  split
  · rename_i h
    have := mems_mono (m := m) (show k < k + 1 by omega) h
    exact next_is (mems_in h).1 (mems_in h).2 (by omega) (fun c hc h2 => gap h (by omega) h2)
  · rename_i h
    exact next_none (fun c hc h1 => gap_end hk h (by omega) hc)
/-- a run ends where the next byte is none of the set's -/
theorem run_end {m : Nat → Bool} {i k : Nat} (hik : i ≤ k) (hk : k < (mems m 256).length) (hr : ∀ j (h : j < (mems m 256).length), i ≤ j → j ≤ k → (mems m 256)[j] = (mems m 256)[i] + (j - i))
    (he : ∀ h : k + 1 < (mems m 256).length, (mems m 256)[k + 1] ≠ (mems m 256)[k] + 1) : upto (nextS (sNot m) ((mems m 256)[i] : Int)) = ((mems m 256)[k] : Int) + 1 := by
  have hek := hr k hk hik (Nat.le_refl _)
  have hin : ∀ c : Nat, ((mems m 256)[i] : Int) ≤ (c : Int) → c ≤ (mems m 256)[k] → m c = true := fun c h1 h2 => by
    have := hr (i + (c - (mems m 256)[i])) (by omega) (by omega) (by omega)
    have e : c = (mems m 256)[i + (c - (mems m 256)[i])]'(by omega) := by rw [this]; omega
    rw [e]
    exact (mems_in _).2
  have hlt := (mems_in hk).1
  unfold upto
  by_cases h255 : (mems m 256)[k] + 1 < 256
  · have hno : m ((mems m 256)[k] + 1) = false := by
      by_cases h : k + 1 < (mems m 256).length
      · have h1 := mems_mono (m := m) (show k < k + 1 by omega) h
        exact gap h (by omega) (by have := he h; omega)
      · exact gap_end hk h (by omega) h255
    have e : nextS (sNot m) ((mems m 256)[i] : Int) = (((mems m 256)[k] + 1 : Nat) : Int) := next_is h255 (by simp [sNot, hno]) (by omega) (fun c h1 h2 => by simp [sNot, hin c h1 (by omega)])
    rw [e, if_neg (by omega)]
    omega
  · have e : nextS (sNot m) ((mems m 256)[i] : Int) = -1 := next_none (fun c hc h1 => by simp [sNot, hin c h1 (by omega)])
    rw [e, if_pos (by omega)]
    omega
/-- the ranges from a byte on: a run, and those from the byte behind it on -/
theorem ranges_run {m : Nat → Bool} {i k f : Nat} (hi : i < (mems m 256).length) (hik : i ≤ k) (hk : k < (mems m 256).length) (hr : ∀ j (h : j < (mems m 256).length), i ≤ j → j ≤ k → (mems m 256)[j] = (mems m 256)[i] + (j - i))
    (he : ∀ h : k + 1 < (mems m 256).length, (mems m 256)[k + 1] ≠ (mems m 256)[k] + 1) :
    rangesFrom m (f + 1) (byteOr (mems m 256) i) = (((mems m 256)[i] : Int), ((mems m 256)[k] : Int)) :: rangesFrom m f (byteOr (mems m 256) (k + 1)) := by
  have h0 : byteOr (mems m 256) i = ((mems m 256)[i] : Int) := by unfold byteOr; rw [dif_pos hi]
  have h1 := run_end hik hk hr he
  have h2 := next_behind hk
  rw [h0, rangesFrom, if_neg (by omega), h1, h2]
  congr 2
  omega
theorem ranges_end {m : Nat → Bool} {i f : Nat} (hi : ¬ i < (mems m 256).length) : rangesFrom m f (byteOr (mems m 256) i) = [] := by
  unfold byteOr
  rw [dif_neg hi]
  cases f with
  | zero => rfl
  | succ f => rw [rangesFrom, if_pos (by decide)]
end Go.Proofs.YtkladjjeacjgpaaDoor

