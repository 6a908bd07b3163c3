/-
  WHAT EACH FUNCTION OF PACKAGE hackleref01 ANSWERS: contracts. No condition but those that a contract names.
-/
import Derived.Test.YtngagijcdehjpaaOcts2
import Derived.Test.YtngagijcdehjpaaBools
import Derived.Deep.WholeRow
namespace Go.Proofs.Ytngagijcdehjpaa
open Go.RowKit

theorem half_div (x k : Nat) : x / 2 ^ k / 2 = x / 2 ^ (k + 1) := by rw [Nat.div_div_eq_div_mul, Nat.pow_succ]

set_option maxHeartbeats 400000 in
theorem refHas_any (m : Nat → Bool) (b : Nat) (hb : b < 256) (w : World) :
    Calls Try.prog 34 #[setV m, .int .i64 b] w fun e w' => e = .returned (.bool (m b)) ∧ Below w.heap.size w w' := by
  have hcase : b / 64 = 0 ∨ b / 64 = 1 ∨ b / 64 = 2 ∨ b / 64 = 3 := by omega
  have hlast : ∀ q y : Nat, b / 64 = q → y = wd m q / 2 ^ (b % 64) → (((y : Int) % 2 == 1) = m b) := by
    intro q y h1 h2
    have ht := wd_testBit m q (b % 64)
    rw [show 64 * q + b % 64 = b by omega] at ht
    have h64 : b % 64 < 64 := by omega
    simp only [h64, decide_true, Bool.true_and] at ht
    rw [← ht, Nat.testBit_eq_decide_div_mod_eq, ← h2, Bool.eq_iff_iff, beq_iff_eq, decide_eq_true_iff]
    omega
  have HL := Lib.hid hlast
  clear hlast
  rcases hcase with hq | hq | hq | hq
  · have hqi : (b : Int) / 64 = 0 := by omega
    have HQ := Lib.hid hq
    clear hq
    go_enter Try.func34, Try.ntmps34
    go_wp2
    go_loop [5, 6] (fun x i => ∃ k y : Nat, k ≤ b % 64 ∧ y < 18446744073709551616 ∧ Hid (y = wd m 0 / 2 ^ k) ∧ i = .int .i64 k ∧ x = .int .u64 (y : Int)) (fun _ i => b % 64 - (intOf i).toNat)
    case atStart => exact ⟨0, wd m 0, by omega, wd_lt _ _, Lib.hid (by simp), rfl, rfl⟩
    case round =>
      obtain ⟨k, y, hk, hy, HY, rfl, rfl⟩ := hrel
      by_cases hlt : k < b % 64
      · go_wp2
        refine ⟨⟨k + 1, y / 2, by omega, by omega, Lib.hid (by rw [HY.out, half_div]), by go_num, ?_⟩, by simp [intOf]; omega⟩
        rw [Int.natCast_ediv]; rfl
      · have he : k = b % 64 := by omega
        have hfin := HL.out 0 y HQ.out (by rw [HY.out, he])
        have HF := Lib.hid hfin
        clear hfin he
        go_wp2
        go_ret
        exact ⟨ret_bool HF.out, (Below.refl _ _).alloc (Nat.le_refl _) _⟩
  · have hqi : (b : Int) / 64 = 1 := by omega
    have HQ := Lib.hid hq
    clear hq
    go_enter Try.func34, Try.ntmps34
    go_wp2
    go_loop [5, 6] (fun x i => ∃ k y : Nat, k ≤ b % 64 ∧ y < 18446744073709551616 ∧ Hid (y = wd m 1 / 2 ^ k) ∧ i = .int .i64 k ∧ x = .int .u64 (y : Int)) (fun _ i => b % 64 - (intOf i).toNat)
    case atStart => exact ⟨0, wd m 1, by omega, wd_lt _ _, Lib.hid (by simp), rfl, rfl⟩
    case round =>
      obtain ⟨k, y, hk, hy, HY, rfl, rfl⟩ := hrel
      by_cases hlt : k < b % 64
      · go_wp2
        refine ⟨⟨k + 1, y / 2, by omega, by omega, Lib.hid (by rw [HY.out, half_div]), by go_num, ?_⟩, by simp [intOf]; omega⟩
        rw [Int.natCast_ediv]; rfl
      · have he : k = b % 64 := by omega
        have hfin := HL.out 1 y HQ.out (by rw [HY.out, he])
        have HF := Lib.hid hfin
        clear hfin he
        go_wp2
        go_ret
        exact ⟨ret_bool HF.out, (Below.refl _ _).alloc (Nat.le_refl _) _⟩
  · have hqi : (b : Int) / 64 = 2 := by omega
    have HQ := Lib.hid hq
    clear hq
    go_enter Try.func34, Try.ntmps34
    go_wp2
    go_loop [5, 6] (fun x i => ∃ k y : Nat, k ≤ b % 64 ∧ y < 18446744073709551616 ∧ Hid (y = wd m 2 / 2 ^ k) ∧ i = .int .i64 k ∧ x = .int .u64 (y : Int)) (fun _ i => b % 64 - (intOf i).toNat)
    case atStart => exact ⟨0, wd m 2, by omega, wd_lt _ _, Lib.hid (by simp), rfl, rfl⟩
    case round =>
      obtain ⟨k, y, hk, hy, HY, rfl, rfl⟩ := hrel
      by_cases hlt : k < b % 64
      · go_wp2
        refine ⟨⟨k + 1, y / 2, by omega, by omega, Lib.hid (by rw [HY.out, half_div]), by go_num, ?_⟩, by simp [intOf]; omega⟩
        rw [Int.natCast_ediv]; rfl
      · have he : k = b % 64 := by omega
        have hfin := HL.out 2 y HQ.out (by rw [HY.out, he])
        have HF := Lib.hid hfin
        clear hfin he
        go_wp2
        go_ret
        exact ⟨ret_bool HF.out, (Below.refl _ _).alloc (Nat.le_refl _) _⟩
  · have hqi : (b : Int) / 64 = 3 := by omega
    have HQ := Lib.hid hq
    clear hq
    go_enter Try.func34, Try.ntmps34
    go_wp2
    go_loop [5, 6] (fun x i => ∃ k y : Nat, k ≤ b % 64 ∧ y < 18446744073709551616 ∧ Hid (y = wd m 3 / 2 ^ k) ∧ i = .int .i64 k ∧ x = .int .u64 (y : Int)) (fun _ i => b % 64 - (intOf i).toNat)
    case atStart => exact ⟨0, wd m 3, by omega, wd_lt _ _, Lib.hid (by simp), rfl, rfl⟩
    case round =>
      obtain ⟨k, y, hk, hy, HY, rfl, rfl⟩ := hrel
      by_cases hlt : k < b % 64
      · go_wp2
        refine ⟨⟨k + 1, y / 2, by omega, by omega, Lib.hid (by rw [HY.out, half_div]), by go_num, ?_⟩, by simp [intOf]; omega⟩
        rw [Int.natCast_ediv]; rfl
      · have he : k = b % 64 := by omega
        have hfin := HL.out 3 y HQ.out (by rw [HY.out, he])
        have HF := Lib.hid hfin
        clear hfin he
        go_wp2
        go_ret
        exact ⟨ret_bool HF.out, (Below.refl _ _).alloc (Nat.le_refl _) _⟩

/-- word i, less its c lowest places (of the whole) -/
def shW (f : Nat → Bool) (c i : Nat) : Nat := wd f i / 2 ^ (min 64 (c - 64 * i))
theorem shW_other {f : Nat → Bool} {b i : Nat} (h : b / 64 ≠ i) : shW f b i = shW f (b + 1) i := by
  unfold shW
  have : min 64 (b - 64 * i) = min 64 (b + 1 - 64 * i) := by omega
  rw [this]
theorem shW_step {f : Nat → Bool} {b q : Nat} (h : b / 64 = q) : shW f b q = 2 * shW f (b + 1) q + (if f b then 1 else 0) := by
  unfold shW
  have e1 : min 64 (b - 64 * q) = b % 64 := by omega
  have e2 : min 64 (b + 1 - 64 * q) = b % 64 + 1 := by omega
  rw [e1, e2]
  have ht := wd_testBit f q (b % 64)
  rw [show 64 * q + b % 64 = b by omega, Nat.testBit_eq_decide_div_mod_eq] at ht
  have h64 : b % 64 < 64 := by omega
  simp only [h64, decide_true, Bool.true_and] at ht
  rw [← half_div]
  generalize wd f q / 2 ^ (b % 64) = y at *
  cases hf : f b
  · rw [hf] at ht; have : ¬ y % 2 = 1 := of_decide_eq_false ht; simp; omega
  · rw [hf] at ht; have : y % 2 = 1 := of_decide_eq_true ht; simp; omega
theorem shW_small {f : Nat → Bool} {b q : Nat} (h : b / 64 = q) : shW f (b + 1) q < 9223372036854775808 := by
  unfold shW
  have e2 : min 64 (b + 1 - 64 * q) = b % 64 + 1 := by omega
  rw [e2, ← half_div]
  have h1 : wd f q / 2 ^ (b % 64) ≤ wd f q := Nat.div_le_self _ _
  have h2 := wd_lt f q
  omega
theorem shW_lt (f : Nat → Bool) (c i : Nat) : shW f c i < 18446744073709551616 := Nat.lt_of_le_of_lt (Nat.div_le_self _ _) (wd_lt _ _)
theorem shW_zero (f : Nat → Bool) (i : Nat) : shW f 0 i = wd f i := by simp [shW]
theorem shW_all (f : Nat → Bool) {i : Nat} (hi : i < 4) : shW f 256 i = 0 := by
  unfold shW
  rw [show min 64 (256 - 64 * i) = 64 by omega]
  exact Nat.div_eq_of_lt (wd_lt _ _)

def sRng (lo b : Nat) : Nat → Bool := fun j => decide (lo ≤ j) && decide (j < b)
end Go.Proofs.Ytngagijcdehjpaa

