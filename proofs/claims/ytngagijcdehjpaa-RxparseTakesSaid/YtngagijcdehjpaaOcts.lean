/-
  WHAT EACH FUNCTION OF PACKAGE octs ANSWERS, at every argument and in every memory: contracts. No condition but those that a contract names.
-/
import Derived.Test.YtngagijcdehjpaaRows
import Derived.Test.YtngagijcdehjpaaPop
import Derived.Lib.Hide
import Derived.Deep.RegionWith
namespace Go.Proofs.Ytngagijcdehjpaa
open Go.RowKit

theorem idx_set (m : Nat → Bool) (w : World) :
    (Instr.index 28 (setV m) (.int .i64 0)).run Try.prog w = .ok (.int .u64 (wd m 0 : Nat)) w ∧
    (Instr.index 28 (setV m) (.int .i64 1)).run Try.prog w = .ok (.int .u64 (wd m 1 : Nat)) w ∧
    (Instr.index 28 (setV m) (.int .i64 2)).run Try.prog w = .ok (.int .u64 (wd m 2 : Nat)) w ∧
    (Instr.index 28 (setV m) (.int .i64 3)).run Try.prog w = .ok (.int .u64 (wd m 3 : Nat)) w :=
  ⟨by kernel_rfl, by kernel_rfl, by kernel_rfl, by kernel_rfl⟩

set_option maxHeartbeats 400000 in
theorem any_any (m n : Nat → Bool) (w : World) :
    Calls Try.prog 62 #[setV m, setV n] w fun e w' => e = .returned (setV (sOr m n)) ∧ Below w.heap.size w w' := by
  have ix := idx_set n
  go_enter Try.func62, Try.ntmps62
  go_wp2
  refine wp_loop_unr 5 ?_
  go_wp2_with (refine unr_succ ?_; intro _ _)
  refine bodyPost_ret (v := setV (sOr m n)) (by simp [results, Try.results62, go_sem, bits_or_wd]) rfl ⟨rfl, ?_⟩
  exact (((Below.refl _ _).alloc (Nat.le_refl _) _).alloc (by simp) _).alloc (by simp; omega) _

set_option maxHeartbeats 400000 in
theorem less_any (m n : Nat → Bool) (w : World) :
    Calls Try.prog 72 #[setV m, setV n] w fun e w' => e = .returned (setV (sLess m n)) ∧ Below w.heap.size w w' := by
  have ix := idx_set n
  go_enter Try.func72, Try.ntmps72
  go_wp2
  refine wp_loop_unr 5 ?_
  go_wp2_with (refine unr_succ ?_; intro _ _)
  refine bodyPost_ret (v := setV (sLess m n)) (by simp [results, Try.results72, go_sem, bits_andNot_wd]) rfl ⟨rfl, ?_⟩
  exact (((Below.refl _ _).alloc (Nat.le_refl _) _).alloc (by simp) _).alloc (by simp; omega) _

set_option maxHeartbeats 400000 in
theorem not_any (m : Nat → Bool) (w : World) :
    Calls Try.prog 54 #[setV m] w fun e w' => e = .returned (setV (sNot m)) ∧ Below w.heap.size w w' := by
  have ix := idx_set m
  go_enter Try.func54, Try.ntmps54
  go_wp2
  refine wp_loop_unr 5 ?_
  go_wp2_with (refine unr_succ ?_; intro _ _)
  refine bodyPost_ret (v := setV (sNot m)) (by simp [results, Try.results54, go_sem, bits_not_wd]) rfl ⟨rfl, ?_⟩
  exact ((Below.refl _ _).alloc (Nat.le_refl _) _).alloc (by simp) _

def belowIs (n : Int) (w : World) : Ending → World → Prop := fun e w' => e = .returned (setV (sBelow n)) ∧ Below w.heap.size w w'

set_option maxHeartbeats 400000 in
theorem below_neg (n : Int) (h : n ≤ 0) (w : World) : Calls Try.prog 73 #[.int .i64 n] w (belowIs n w) := by
  go_enter Try.func73, Try.ntmps73
  go_wp2
  all_goals refine wp_loop_unr 5 ?_
  all_goals go_wp2_with (refine unr_succ ?_; intro _ _)
  all_goals refine bodyPost_ret (v := setV (sBelow n)) (by simp [results, Try.results73, go_sem, low_zero n 0 (by omega), low_zero n 1 (by omega), low_zero n 2 (by omega), low_zero n 3 (by omega)] <;> (repeat' apply And.intro) <;> first | with_reducible exact (low_part n n 0 (by omega) (by omega) (by omega)).trans (low_zero n 0 (by omega)) | with_reducible exact low_one) rfl ⟨rfl, ?_⟩
  all_goals exact ((Below.refl _ _).alloc (Nat.le_refl _) _).alloc (by simp) _

set_option maxHeartbeats 400000 in
theorem below_q0 (n : Int) (h0 : 0 < n) (h1 : n ≤ 64) (w : World) : Calls Try.prog 73 #[.int .i64 n] w (belowIs n w) := by
  go_enter Try.func73, Try.ntmps73
  go_wp2
  all_goals refine wp_loop_unr 5 ?_
  all_goals go_wp2_with (refine unr_succ ?_; intro _ _)
  all_goals refine bodyPost_ret (v := setV (sBelow n)) (by simp [results, Try.results73, go_sem, low_zero n 1 (by omega), low_zero n 2 (by omega), low_zero n 3 (by omega)] <;> (repeat' apply And.intro) <;> first | with_reducible exact low_part n n 0 (by omega) (by omega) (by omega) | with_reducible exact (low_part n (n - 64) 1 (by omega) (by omega) (by omega)).trans (low_zero n 1 (by omega)) | with_reducible exact low_one) rfl ⟨rfl, ?_⟩
  all_goals exact ((Below.refl _ _).alloc (Nat.le_refl _) _).alloc (by simp) _

set_option maxHeartbeats 400000 in
theorem below_q1 (n : Int) (h0 : 64 < n) (h1 : n ≤ 128) (w : World) : Calls Try.prog 73 #[.int .i64 n] w (belowIs n w) := by
  go_enter Try.func73, Try.ntmps73
  go_wp2
  all_goals refine wp_loop_unr 5 ?_
  all_goals go_wp2_with (refine unr_succ ?_; intro _ _)
  all_goals refine bodyPost_ret (v := setV (sBelow n)) (by simp [results, Try.results73, go_sem, low_zero n 2 (by omega), low_zero n 3 (by omega)] <;> (repeat' apply And.intro) <;> first | with_reducible exact low_full n 0 (by omega) | with_reducible exact low_part n (n - 64) 1 (by omega) (by omega) (by omega) | with_reducible exact (low_part n (n - 128) 2 (by omega) (by omega) (by omega)).trans (low_zero n 2 (by omega)) | with_reducible exact low_one) rfl ⟨rfl, ?_⟩
  all_goals exact ((Below.refl _ _).alloc (Nat.le_refl _) _).alloc (by simp) _

set_option maxHeartbeats 400000 in
theorem below_q2 (n : Int) (h0 : 128 < n) (h1 : n ≤ 192) (w : World) : Calls Try.prog 73 #[.int .i64 n] w (belowIs n w) := by
  go_enter Try.func73, Try.ntmps73
  go_wp2
  all_goals refine wp_loop_unr 5 ?_
  all_goals go_wp2_with (refine unr_succ ?_; intro _ _)
  all_goals refine bodyPost_ret (v := setV (sBelow n)) (by simp [results, Try.results73, go_sem, low_zero n 3 (by omega)] <;> (repeat' apply And.intro) <;> first | with_reducible exact low_full n 0 (by omega) | with_reducible exact low_full n 1 (by omega) | with_reducible exact low_part n (n - 128) 2 (by omega) (by omega) (by omega) | with_reducible exact (low_part n (n - 192) 3 (by omega) (by omega) (by omega)).trans (low_zero n 3 (by omega)) | with_reducible exact low_one) rfl ⟨rfl, ?_⟩
  all_goals exact ((Below.refl _ _).alloc (Nat.le_refl _) _).alloc (by simp) _

set_option maxHeartbeats 400000 in
theorem below_q3 (n : Int) (h0 : 192 < n) (h1 : n ≤ 256) (w : World) : Calls Try.prog 73 #[.int .i64 n] w (belowIs n w) := by
  go_enter Try.func73, Try.ntmps73
  go_wp2
  all_goals refine wp_loop_unr 5 ?_
  all_goals go_wp2_with (refine unr_succ ?_; intro _ _)
  all_goals refine bodyPost_ret (v := setV (sBelow n)) (by simp [results, Try.results73, go_sem] <;> (repeat' apply And.intro) <;> first | with_reducible exact low_full n 0 (by omega) | with_reducible exact low_full n 1 (by omega) | with_reducible exact low_full n 2 (by omega) | with_reducible exact low_part n (n - 192) 3 (by omega) (by omega) (by omega)) rfl ⟨rfl, ?_⟩
  all_goals exact ((Below.refl _ _).alloc (Nat.le_refl _) _).alloc (by simp) _

set_option maxHeartbeats 400000 in
theorem below_big (n : Int) (h0 : 256 < n) (h1 : n ≤ 9223372036854775807) (w : World) : Calls Try.prog 73 #[.int .i64 n] w (belowIs n w) := by
  go_enter Try.func73, Try.ntmps73
  go_wp2
  all_goals refine wp_loop_unr 5 ?_
  all_goals go_wp2_with (refine unr_succ ?_; intro _ _)
  all_goals refine bodyPost_ret (v := setV (sBelow n)) (by simp [results, Try.results73, go_sem] <;> (repeat' apply And.intro) <;> first | with_reducible exact low_full n 0 (by omega) | with_reducible exact low_full n 1 (by omega) | with_reducible exact low_full n 2 (by omega) | with_reducible exact low_full n 3 (by omega)) rfl ⟨rfl, ?_⟩
  all_goals exact ((Below.refl _ _).alloc (Nat.le_refl _) _).alloc (by simp) _

theorem below_any (n : Int) (hn : n ≤ 9223372036854775807) (w : World) : Calls Try.prog 73 #[.int .i64 n] w (belowIs n w) := by
  by_cases h : n ≤ 0
  · exact below_neg n h w
  by_cases h1 : n ≤ 64
  · exact below_q0 n (by omega) h1 w
  by_cases h2 : n ≤ 128
  · exact below_q1 n (by omega) h2 w
  by_cases h3 : n ≤ 192
  · exact below_q2 n (by omega) h3 w
  by_cases h4 : n ≤ 256
  · exact below_q3 n (by omega) h4 w
  · exact below_big n (by omega) hn w

set_option maxHeartbeats 400000 in
theorem range_any (lo hi : Nat) (h1 : lo < 256) (h2 : hi < 256) (w : World) :
    Calls Try.prog 69 #[.int .u8 lo, .int .u8 hi] w fun e w' => e = .returned (setV (sRange lo hi)) ∧ Below w.heap.size w w' := by
  have hset : setV (sRange lo hi) = setV (sLess (sBelow ((hi : Int) + 1)) (sBelow lo)) :=
    setV_congr fun b _ => by
      unfold sRange sLess sBelow
      rw [Bool.eq_iff_iff]; simp; omega
  rw [hset]
  clear hset
  go_enter Try.func69, Try.ntmps69
  go_wp2_with fail
  refine (below_any _ (by omega) _).mono ?_
  rintro e w1 ⟨rfl, hb1⟩
  obtain ⟨hc1, hf1, hz1⟩ := belowStep (g := w.heap.size) hb1 (by simp)
  have hB1 : Below w.heap.size w w1 := ((Below.refl _ _).alloc (Nat.le_refl _) _).trans (hb1.mono (by simp))
  go_wp2_with fail
  refine (below_any _ (by omega) _).mono ?_
  rintro e w2 ⟨rfl, hb2⟩
  obtain ⟨hc2, hf2, hz2⟩ := belowStep hb2 hz1
  have hB2 := hB1.trans (hb2.mono hB1.size)
  go_wp2_with fail
  refine (less_any _ _ _).mono ?_
  rintro e w3 ⟨rfl, hb3⟩
  obtain ⟨hc3, hf3, hz3⟩ := belowStep hb3 hz2
  have hB3 := hB2.trans (hb3.mono hB2.size)
  go_wp2
  refine bodyPost_ret (v := setV (sLess (sBelow ((hi : Int) + 1)) (sBelow lo))) (by simp [results, Try.results69, go_sem, hc3, hc2, hc1]) rfl ⟨rfl, ?_⟩
  exact (((hB3.setCell (p := ⟨w.heap.size, 0, none⟩) (Nat.le_refl _) _).setCell (p := ⟨w.heap.size, 1, none⟩) (Nat.le_refl _) _).setCell (p := ⟨w.heap.size, 2, none⟩) (Nat.le_refl _) _).setCell (p := ⟨w.heap.size, 3, none⟩) (Nat.le_refl _) _

end Go.Proofs.Ytngagijcdehjpaa

