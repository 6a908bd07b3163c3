/-
  WHAT IS SAID OF NO PROGRAM: the bytes of a set, rising: how a word loses its lowest bit. No condition.
-/
import Derived.Test.YtebhnfdgjbhhfaaDoorKit
import Derived.Lib.TrailingZeros
namespace Go.Proofs.YtebhnfdgjbhhfaaDoor
open Go.RowKit

/-- the bytes of a set below t, rising -/
def mems (m : Nat → Bool) (t : Nat) : List Nat := (List.range t).filter m
theorem mems_none {m : Nat → Bool} {t : Nat} : ∀ (d : Nat), (∀ b, t ≤ b → b < t + d → m b = false) → mems m (t + d) = mems m t
  | 0, _ => rfl
  | d + 1, h => by
    unfold mems
    rw [show t + (d + 1) = (t + d) + 1 by omega, List.range_succ, List.filter_append]
    have := mems_none d (fun b h1 h2 => h b h1 (by omega))
    unfold mems at this
    rw [this, List.filter_cons, h (t + d) (by omega) (by omega)]
    simp
theorem mems_step {m : Nat → Bool} {t b : Nat} (htb : t ≤ b) (h : ∀ c, t ≤ c → c < b → m c = false) (hb : m b = true) : mems m (b + 1) = mems m t ++ [b] := by
  have h1 := mems_none (m := m) (t := t) (b - t) (fun c h1 h2 => h c h1 (by omega))
  rw [show t + (b - t) = b by omega] at h1
  unfold mems at *
  rw [List.range_succ, List.filter_append, h1]
  simp [hb]
theorem mems_all {m : Nat → Bool} {t t' : Nat} (htb : t ≤ t') (h : ∀ c, t ≤ c → c < t' → m c = false) : mems m t' = mems m t := by
  have h1 := mems_none (m := m) (t := t) (t' - t) (fun c h1 h2 => h c h1 (by omega))
  rwa [show t + (t' - t) = t' by omega] at h1
theorem mems_prefix {m : Nat → Bool} {t t' : Nat} (h : t ≤ t') : mems m t <+: mems m t' := by
  unfold mems
  obtain ⟨d, rfl⟩ : ∃ d, t' = t + d := ⟨t' - t, by omega⟩
  rw [List.range_add, List.filter_append]
  exact List.prefix_append _ _

/-- the set from t on -/
def sFrom (m : Nat → Bool) (t : Nat) : Nat → Bool := fun b => decide (t ≤ b) && m b

theorem ctz_word {y : Nat} (h0 : y ≠ 0) (hy : y < 18446744073709551616) : ∃ k q, Lib.ctz 64 y = k ∧ k < 64 ∧ y = 2 ^ k + 2 ^ (k + 1) * q := by
  obtain ⟨q, h1, h2⟩ := Lib.ctzFrom_spec 64 y (by omega) (by simpa using hy)
  refine ⟨Lib.ctzFrom 64 y, q, by unfold Lib.ctz; rw [if_neg h0], h2, ?_⟩
  generalize Lib.ctzFrom 64 y = k at *
  rw [h1, Nat.mul_add, Nat.pow_succ, Nat.mul_one, Nat.mul_assoc]
  omega

theorem lowest (k q j : Nat) : (2 ^ k + 2 ^ (k + 1) * q).testBit j = if j < k + 1 then decide (j = k) else q.testBit (j - (k + 1)) := by
  rw [Nat.add_comm, Nat.testBit_two_pow_mul_add _ (Nat.pow_lt_pow_right (by decide) (by omega))]
  split
  · rw [Nat.testBit_two_pow]; exact decide_eq_decide.2 ⟨fun h => h.symm, fun h => h.symm⟩
  · rfl
theorem lost (k q : Nat) : (2 ^ k + 2 ^ (k + 1) * q) &&& (2 ^ k + 2 ^ (k + 1) * q - 1) = 2 ^ (k + 1) * q := by
  have hp : 0 < 2 ^ k := Nat.two_pow_pos k
  have e : 2 ^ k + 2 ^ (k + 1) * q - 1 = 2 ^ (k + 1) * q + (2 ^ k - 1) := by omega
  have hlt : 2 ^ k - 1 < 2 ^ (k + 1) := by rw [Nat.pow_succ]; omega
  refine Nat.eq_of_testBit_eq fun j => ?_
  rw [Nat.testBit_and, lowest, e, Nat.testBit_two_pow_mul_add _ hlt, Nat.testBit_two_pow_mul]
  split
  · rename_i h
    rw [Nat.testBit_two_pow_sub_one]
    by_cases e : j = k
    · subst e; simp; intro h; omega
    · simp [e]; omega
  · rename_i h
    have : k + 1 ≤ j := by omega
    simp [this]

/-- THE NEXT BYTE OF A WORD: where it lies, and what is left -/
theorem next_bit {m : Nat → Bool} {i t y : Nat} (h1 : 64 * i ≤ t) (hy : y = wd (sFrom m t) i) (h0 : y ≠ 0) :
    ∃ b, t ≤ b ∧ b < 64 * i + 64 ∧ Lib.ctz 64 y = b - 64 * i ∧ m b = true ∧ (∀ c, t ≤ c → c < b → m c = false) ∧ y &&& (y - 1) = wd (sFrom m (b + 1)) i := by
  have hlt : y < 18446744073709551616 := by rw [hy]; exact wd_lt _ _
  obtain ⟨k, q, hk, hk64, hyk⟩ := ctz_word h0 hlt
  have hbit : ∀ j, j < 64 → y.testBit j = (decide (t ≤ 64 * i + j) && m (64 * i + j)) := fun j hj => by rw [hy, wd_testBit]; simp [hj, sFrom]
  have hkb := hbit k hk64
  rw [hyk, lowest, if_pos (by omega)] at hkb
  simp at hkb
  refine ⟨64 * i + k, hkb.1, by omega, by rw [hk]; omega, hkb.2, fun c hc1 hc2 => ?_, ?_⟩
  · have := hbit (c - 64 * i) (by omega)
    rw [hyk, lowest, if_pos (by omega), show 64 * i + (c - 64 * i) = c by omega] at this
    have e : ¬ c - 64 * i = k := by omega
    simpa [e, hc1] using this.symm
  · rw [hyk, lost]
    refine eq_wd (by rw [hyk] at hlt; exact Nat.lt_of_le_of_lt (Nat.le_add_left _ _) hlt) fun j hj => ?_
    rw [Nat.testBit_two_pow_mul]
    have hb2 := hbit j hj
    rw [hyk, lowest] at hb2
    unfold sFrom
    by_cases hjk : k + 1 ≤ j
    · rw [if_neg (by omega)] at hb2
      have e1 : 64 * i + k + 1 ≤ 64 * i + j := by omega
      have e2 : t ≤ 64 * i + j := by omega
      simp [hjk, hb2, e1, e2]
    · have e1 : ¬ 64 * i + k + 1 ≤ 64 * i + j := by omega
      simp [hjk, e1]
theorem no_bit {m : Nat → Bool} {i t : Nat} (h1 : 64 * i ≤ t) (hy : wd (sFrom m t) i = 0) : ∀ c, t ≤ c → c < 64 * i + 64 → m c = false := fun c hc1 hc2 => by
  have h := wd_testBit (sFrom m t) i (c - 64 * i)
  rw [hy, Nat.zero_testBit, show 64 * i + (c - 64 * i) = c by omega] at h
  have e : c - 64 * i < 64 := by omega
  simpa [sFrom, e, hc1] using h.symm

end Go.Proofs.YtebhnfdgjbhhfaaDoor

