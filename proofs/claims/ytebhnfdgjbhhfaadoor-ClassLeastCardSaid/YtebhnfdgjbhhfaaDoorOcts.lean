/-
  WHAT EACH FUNCTION OF PACKAGE octs ANSWERS, at every argument and in every memory: contracts. No condition but those that a contract names.
-/
import Derived.Test.YtebhnfdgjbhhfaaDoorRows
import Derived.Test.YtebhnfdgjbhhfaaDoorPop
import Derived.Lib.Hide
import Derived.Deep.RegionWith
namespace Go.Proofs.YtebhnfdgjbhhfaaDoor
open Go.RowKit

theorem idx_set (m : Nat → Bool) (w : World) :
    (Instr.index 35 (setV m) (.int .i64 0)).run Tryd.prog w = .ok (.int .u64 (wd m 0 : Nat)) w ∧
    (Instr.index 35 (setV m) (.int .i64 1)).run Tryd.prog w = .ok (.int .u64 (wd m 1 : Nat)) w ∧
    (Instr.index 35 (setV m) (.int .i64 2)).run Tryd.prog w = .ok (.int .u64 (wd m 2 : Nat)) w ∧
    (Instr.index 35 (setV m) (.int .i64 3)).run Tryd.prog w = .ok (.int .u64 (wd m 3 : Nat)) w :=
  ⟨by kernel_rfl, by kernel_rfl, by kernel_rfl, by kernel_rfl⟩

set_option maxHeartbeats 400000 in
theorem less_any (m n : Nat → Bool) (w : World) :
    Calls Tryd.prog 30 #[setV m, setV n] w fun e w' => e = .returned (setV (sLess m n)) ∧ Below w.heap.size w w' := by
  have ix := idx_set n
  go_enter Tryd.func30, Tryd.ntmps30
  go_wp2
  refine wp_loop_unr 5 ?_
  go_wp2_with (refine unr_succ ?_; intro _ _)
  refine bodyPost_ret (v := setV (sLess m n)) (by simp [results, Tryd.results30, go_sem, bits_andNot_wd]) rfl ⟨rfl, ?_⟩
  exact (((Below.refl _ _).alloc (Nat.le_refl _) _).alloc (by simp) _).alloc (by simp; omega) _

set_option maxHeartbeats 400000 in
theorem ones_core (x x1 x2 x3 x4 x5 x6 c : Nat) (w : World)
    (E1 : IntKind.u64.wrap (bits .and .u64 ((x : Int) / 2) 6148914691236517205 + bits .and .u64 (x : Int) 6148914691236517205) = (x1 : Int))
    (E2 : IntKind.u64.wrap (bits .and .u64 ((x1 : Int) / 4) 3689348814741910323 + bits .and .u64 (x1 : Int) 3689348814741910323) = (x2 : Int))
    (E3 : bits .and .u64 (IntKind.u64.wrap ((x2 : Int) / 16 + (x2 : Int))) 1085102592571150095 = (x3 : Int))
    (E4 : IntKind.u64.wrap ((x3 : Int) + (x3 : Int) / 256) = (x4 : Int))
    (E5 : IntKind.u64.wrap ((x4 : Int) + (x4 : Int) / 65536) = (x5 : Int))
    (E6 : IntKind.u64.wrap ((x5 : Int) + (x5 : Int) / 4294967296) = (x6 : Int))
    (E7 : bits .and .i64 (wrap64 (x6 : Int)) 127 = (c : Int)) :
    Calls Tryd.prog 36 #[.int .u64 x] w fun e w' => e = .returned (.int .i64 c) ∧ w' = w := by
  go_enter Tryd.func36, Tryd.ntmps36
  go_wp2
  go_ret
  exact ⟨rfl, rfl⟩

theorem ones_any (m : Nat → Bool) (i : Nat) (w : World) :
    Calls Tryd.prog 36 #[.int .u64 (wd m i : Nat)] w fun e w' => e = .returned (.int .i64 (cntN (fun j => m (64 * i + j)) 64 : Nat)) ∧ w = w' := by
  obtain ⟨x1, x2, x3, x4, x5, x6, e1, e2, e3, e4, e5, e6, e7⟩ := ones_steps (fun j => m (64 * i + j)) (wd m i) rfl
  exact (ones_core _ _ _ _ _ _ _ _ w e1 e2 e3 e4 e5 e6 e7).mono fun _ _ h => ⟨h.1, h.2.symm⟩

set_option maxHeartbeats 400000 in
theorem count_any (m : Nat → Bool) (w : World) :
    Calls Tryd.prog 35 #[setV m] w fun e w' => e = .returned (.int .i64 (cntN m 256 : Nat)) ∧ Below w.heap.size w w' := by
  have ix := idx_set m
  have b0 := cntN_le (fun j => m (64 * 0 + j)) 64
  have b1 := cntN_le (fun j => m (64 * 1 + j)) 64
  have b2 := cntN_le (fun j => m (64 * 2 + j)) 64
  have b3 := cntN_le (fun j => m (64 * 3 + j)) 64
  have hsum : cntN m 256 = cntN (fun j => m (64 * 0 + j)) 64 + cntN (fun j => m (64 * 1 + j)) 64 + cntN (fun j => m (64 * 2 + j)) 64 + cntN (fun j => m (64 * 3 + j)) 64 := by
    rw [show (256 : Nat) = 64 + (64 + (64 + 64)) from rfl, cntN_add, cntN_add, cntN_add]
    have e0 : (fun j => m (64 * 0 + j)) = m := funext fun j => by rw [show 64 * 0 + j = j by omega]
    have e1 : (fun j => m (64 * 1 + j)) = fun j => m (64 + j) := funext fun j => by rw [show 64 * 1 + j = 64 + j by omega]
    have e2 : (fun j => m (64 * 2 + j)) = fun j => m (64 + (64 + j)) := funext fun j => by rw [show 64 * 2 + j = 64 + (64 + j) by omega]
    have e3 : (fun j => m (64 * 3 + j)) = fun j => m (64 + (64 + (64 + j))) := funext fun j => by rw [show 64 * 3 + j = 64 + (64 + (64 + j)) by omega]
    rw [e0, e1, e2, e3]
    omega
  have o0 := ones_any m 0
  have o1 := ones_any m 1
  have o2 := ones_any m 2
  have o3 := ones_any m 3
  generalize cntN (fun j => m (64 * 0 + j)) 64 = c0 at *
  generalize cntN (fun j => m (64 * 1 + j)) 64 = c1 at *
  generalize cntN (fun j => m (64 * 2 + j)) 64 = c2 at *
  generalize cntN (fun j => m (64 * 3 + j)) 64 = c3 at *
  generalize cntN m 256 = c at *
  have H0 := Lib.hid o0
  have H1 := Lib.hid o1
  have H2 := Lib.hid o2
  have H3 := Lib.hid o3
  have Hs := Lib.hid hsum
  clear o0 o1 o2 o3 hsum
  go_enter Tryd.func35, Tryd.ntmps35
  go_wp2
  refine wp_loop_unr 5 ?_
  go_wp2_with (first
    | (refine unr_succ ?_; intro _ _)
    | (go_at_call_of 36 (Value.int .u64 (wd m 0 : Nat)); refine (H0.out _).mono ?_; rintro e w' ⟨rfl, rfl⟩)
    | (go_at_call_of 36 (Value.int .u64 (wd m 1 : Nat)); refine (H1.out _).mono ?_; rintro e w' ⟨rfl, rfl⟩)
    | (go_at_call_of 36 (Value.int .u64 (wd m 2 : Nat)); refine (H2.out _).mono ?_; rintro e w' ⟨rfl, rfl⟩)
    | (go_at_call_of 36 (Value.int .u64 (wd m 3 : Nat)); refine (H3.out _).mono ?_; rintro e w' ⟨rfl, rfl⟩))
  go_ret
  refine ⟨ret_int ?_, (Below.refl _ _).alloc (Nat.le_refl _) _⟩
  have := Hs.out
  omega

def belowIs (n : Int) (w : World) : Ending → World → Prop := fun e w' => e = .returned (setV (sBelow n)) ∧ Below w.heap.size w w'

set_option maxHeartbeats 400000 in
theorem below_neg (n : Int) (h : n ≤ 0) (w : World) : Calls Tryd.prog 31 #[.int .i64 n] w (belowIs n w) := by
  go_enter Tryd.func31, Tryd.ntmps31
  go_wp2
  all_goals refine wp_loop_unr 5 ?_
  all_goals go_wp2_with (refine unr_succ ?_; intro _ _)
  all_goals refine bodyPost_ret (v := setV (sBelow n)) (by simp [results, Tryd.results31, go_sem, low_zero n 0 (by omega), low_zero n 1 (by omega), low_zero n 2 (by omega), low_zero n 3 (by omega)] <;> (repeat' apply And.intro) <;> first | with_reducible exact (low_part n n 0 (by omega) (by omega) (by omega)).trans (low_zero n 0 (by omega)) | with_reducible exact low_one) rfl ⟨rfl, ?_⟩
  all_goals exact ((Below.refl _ _).alloc (Nat.le_refl _) _).alloc (by simp) _

set_option maxHeartbeats 400000 in
theorem below_q0 (n : Int) (h0 : 0 < n) (h1 : n ≤ 64) (w : World) : Calls Tryd.prog 31 #[.int .i64 n] w (belowIs n w) := by
  go_enter Tryd.func31, Tryd.ntmps31
  go_wp2
  all_goals refine wp_loop_unr 5 ?_
  all_goals go_wp2_with (refine unr_succ ?_; intro _ _)
  all_goals refine bodyPost_ret (v := setV (sBelow n)) (by simp [results, Tryd.results31, go_sem, low_zero n 1 (by omega), low_zero n 2 (by omega), low_zero n 3 (by omega)] <;> (repeat' apply And.intro) <;> first | with_reducible exact low_part n n 0 (by omega) (by omega) (by omega) | with_reducible exact (low_part n (n - 64) 1 (by omega) (by omega) (by omega)).trans (low_zero n 1 (by omega)) | with_reducible exact low_one) rfl ⟨rfl, ?_⟩
  all_goals exact ((Below.refl _ _).alloc (Nat.le_refl _) _).alloc (by simp) _

set_option maxHeartbeats 400000 in
theorem below_q1 (n : Int) (h0 : 64 < n) (h1 : n ≤ 128) (w : World) : Calls Tryd.prog 31 #[.int .i64 n] w (belowIs n w) := by
  go_enter Tryd.func31, Tryd.ntmps31
  go_wp2
  all_goals refine wp_loop_unr 5 ?_
  all_goals go_wp2_with (refine unr_succ ?_; intro _ _)
  all_goals refine bodyPost_ret (v := setV (sBelow n)) (by simp [results, Tryd.results31, go_sem, low_zero n 2 (by omega), low_zero n 3 (by omega)] <;> (repeat' apply And.intro) <;> first | with_reducible exact low_full n 0 (by omega) | with_reducible exact low_part n (n - 64) 1 (by omega) (by omega) (by omega) | with_reducible exact (low_part n (n - 128) 2 (by omega) (by omega) (by omega)).trans (low_zero n 2 (by omega)) | with_reducible exact low_one) rfl ⟨rfl, ?_⟩
  all_goals exact ((Below.refl _ _).alloc (Nat.le_refl _) _).alloc (by simp) _

set_option maxHeartbeats 400000 in
theorem below_q2 (n : Int) (h0 : 128 < n) (h1 : n ≤ 192) (w : World) : Calls Tryd.prog 31 #[.int .i64 n] w (belowIs n w) := by
  go_enter Tryd.func31, Tryd.ntmps31
  go_wp2
  all_goals refine wp_loop_unr 5 ?_
  all_goals go_wp2_with (refine unr_succ ?_; intro _ _)
  all_goals refine bodyPost_ret (v := setV (sBelow n)) (by simp [results, Tryd.results31, go_sem, low_zero n 3 (by omega)] <;> (repeat' apply And.intro) <;> first | with_reducible exact low_full n 0 (by omega) | with_reducible exact low_full n 1 (by omega) | with_reducible exact low_part n (n - 128) 2 (by omega) (by omega) (by omega) | with_reducible exact (low_part n (n - 192) 3 (by omega) (by omega) (by omega)).trans (low_zero n 3 (by omega)) | with_reducible exact low_one) rfl ⟨rfl, ?_⟩
  all_goals exact ((Below.refl _ _).alloc (Nat.le_refl _) _).alloc (by simp) _

set_option maxHeartbeats 400000 in
theorem below_q3 (n : Int) (h0 : 192 < n) (h1 : n ≤ 256) (w : World) : Calls Tryd.prog 31 #[.int .i64 n] w (belowIs n w) := by
  go_enter Tryd.func31, Tryd.ntmps31
  go_wp2
  all_goals refine wp_loop_unr 5 ?_
  all_goals go_wp2_with (refine unr_succ ?_; intro _ _)
  all_goals refine bodyPost_ret (v := setV (sBelow n)) (by simp [results, Tryd.results31, go_sem] <;> (repeat' apply And.intro) <;> first | with_reducible exact low_full n 0 (by omega) | with_reducible exact low_full n 1 (by omega) | with_reducible exact low_full n 2 (by omega) | with_reducible exact low_part n (n - 192) 3 (by omega) (by omega) (by omega)) rfl ⟨rfl, ?_⟩
  all_goals exact ((Below.refl _ _).alloc (Nat.le_refl _) _).alloc (by simp) _

set_option maxHeartbeats 400000 in
theorem below_big (n : Int) (h0 : 256 < n) (h1 : n ≤ 9223372036854775807) (w : World) : Calls Tryd.prog 31 #[.int .i64 n] w (belowIs n w) := by
  go_enter Tryd.func31, Tryd.ntmps31
  go_wp2
  all_goals refine wp_loop_unr 5 ?_
  all_goals go_wp2_with (refine unr_succ ?_; intro _ _)
  all_goals refine bodyPost_ret (v := setV (sBelow n)) (by simp [results, Tryd.results31, go_sem] <;> (repeat' apply And.intro) <;> first | with_reducible exact low_full n 0 (by omega) | with_reducible exact low_full n 1 (by omega) | with_reducible exact low_full n 2 (by omega) | with_reducible exact low_full n 3 (by omega)) rfl ⟨rfl, ?_⟩
  all_goals exact ((Below.refl _ _).alloc (Nat.le_refl _) _).alloc (by simp) _

theorem below_any (n : Int) (hn : n ≤ 9223372036854775807) (w : World) : Calls Tryd.prog 31 #[.int .i64 n] w (belowIs n w) := by
  by_cases h : n ≤ 0
  · exact below_neg n h w
  by_cases h1 : n ≤ 64
  · exact below_q0 n (by omega) h1 w
  by_cases h2 : n ≤ 128
  · exact below_q1 n (by omega) h2 w
  by_cases h3 : n ≤ 192
  · exact below_q2 n (by omega) h3 w
  by_cases h4 : n ≤ 256
  · exact below_q3 n (by omega) h4 w
  · exact below_big n (by omega) hn w

end Go.Proofs.YtebhnfdgjbhhfaaDoor

