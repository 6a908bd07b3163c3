/-
  WHAT EACH FUNCTION OF PACKAGE octs ANSWERS, at every argument and in every memory: contracts. No condition but those that a contract names.
-/
import Derived.Test.YtgngaaemkmdfaaaDoorRows
import Derived.Lib.Hide
import Derived.Deep.RegionWith
import Derived.Deep.RegionHeld3
import Derived.BigQuiet
import Derived.Deep.MidRow
import Derived.Test.YtgngaaemkmdfaaaDoorQG01
namespace Go.Proofs.YtgngaaemkmdfaaaDoor
section
open Go.RowKit

theorem idx_set (m : Nat → Bool) (w : World) :
    (Instr.index 51 (setV m) (.int .i64 0)).run Tryd.prog w = .ok (.int .u64 (wd m 0 : Nat)) w ∧
    (Instr.index 51 (setV m) (.int .i64 1)).run Tryd.prog w = .ok (.int .u64 (wd m 1 : Nat)) w ∧
    (Instr.index 51 (setV m) (.int .i64 2)).run Tryd.prog w = .ok (.int .u64 (wd m 2 : Nat)) w ∧
    (Instr.index 51 (setV m) (.int .i64 3)).run Tryd.prog w = .ok (.int .u64 (wd m 3 : Nat)) w :=
  ⟨by kernel_rfl, by kernel_rfl, by kernel_rfl, by kernel_rfl⟩

set_option maxHeartbeats 400000 in
theorem any_any (m n : Nat → Bool) (w : World) :
    Calls Tryd.prog 85 #[setV m, setV n] w fun e w' => e = .returned (setV (sOr m n)) ∧ Below w.heap.size w w' := by
  have ix := idx_set n
  go_enter Tryd.func85, Tryd.ntmps85
  go_wp2
  refine wp_loop_unr 5 ?_
  go_wp2_with (refine unr_succ ?_; intro _ _)
  refine bodyPost_ret (v := setV (sOr m n)) (by simp [results, Tryd.results85, go_sem, bits_or_wd]) rfl ⟨rfl, ?_⟩
  exact (((Below.refl _ _).alloc (Nat.le_refl _) _).alloc (by simp) _).alloc (by simp; omega) _

set_option maxHeartbeats 400000 in
theorem less_any (m n : Nat → Bool) (w : World) :
    Calls Tryd.prog 88 #[setV m, setV n] w fun e w' => e = .returned (setV (sLess m n)) ∧ Below w.heap.size w w' := by
  have ix := idx_set n
  go_enter Tryd.func88, Tryd.ntmps88
  go_wp2
  refine wp_loop_unr 5 ?_
  go_wp2_with (refine unr_succ ?_; intro _ _)
  refine bodyPost_ret (v := setV (sLess m n)) (by simp [results, Tryd.results88, go_sem, bits_andNot_wd]) rfl ⟨rfl, ?_⟩
  exact (((Below.refl _ _).alloc (Nat.le_refl _) _).alloc (by simp) _).alloc (by simp; omega) _

set_option maxHeartbeats 400000 in
theorem ones_core (x x1 x2 x3 x4 x5 x6 c : Nat) (w : World)
    (E1 : IntKind.u64.wrap (bits .and .u64 ((x : Int) / 2) 6148914691236517205 + bits .and .u64 (x : Int) 6148914691236517205) = (x1 : Int))
    (E2 : IntKind.u64.wrap (bits .and .u64 ((x1 : Int) / 4) 3689348814741910323 + bits .and .u64 (x1 : Int) 3689348814741910323) = (x2 : Int))
    (E3 : bits .and .u64 (IntKind.u64.wrap ((x2 : Int) / 16 + (x2 : Int))) 1085102592571150095 = (x3 : Int))
    (E4 : IntKind.u64.wrap ((x3 : Int) + (x3 : Int) / 256) = (x4 : Int))
    (E5 : IntKind.u64.wrap ((x4 : Int) + (x4 : Int) / 65536) = (x5 : Int))
    (E6 : IntKind.u64.wrap ((x5 : Int) + (x5 : Int) / 4294967296) = (x6 : Int))
    (E7 : bits .and .i64 (wrap64 (x6 : Int)) 127 = (c : Int)) :
    Calls Tryd.prog 100 #[.int .u64 x] w fun e w' => e = .returned (.int .i64 c) ∧ w' = w := by
  go_enter Tryd.func100, Tryd.ntmps100
  go_wp2
  go_ret
  exact ⟨rfl, rfl⟩

theorem ones_any (m : Nat → Bool) (i : Nat) (w : World) :
    Calls Tryd.prog 100 #[.int .u64 (wd m i : Nat)] w fun e w' => e = .returned (.int .i64 (cntN (fun j => m (64 * i + j)) 64 : Nat)) ∧ w = w' := by
  obtain ⟨x1, x2, x3, x4, x5, x6, e1, e2, e3, e4, e5, e6, e7⟩ := ones_steps (fun j => m (64 * i + j)) (wd m i) rfl
  exact (ones_core _ _ _ _ _ _ _ _ w e1 e2 e3 e4 e5 e6 e7).mono fun _ _ h => ⟨h.1, h.2.symm⟩

set_option maxHeartbeats 400000 in
theorem count_any (m : Nat → Bool) (w : World) :
    Calls Tryd.prog 99 #[setV m] w fun e w' => e = .returned (.int .i64 (cntN m 256 : Nat)) ∧ Below w.heap.size w w' := by
  have ix := idx_set m
  have b0 := cntN_le (fun j => m (64 * 0 + j)) 64
  have b1 := cntN_le (fun j => m (64 * 1 + j)) 64
  have b2 := cntN_le (fun j => m (64 * 2 + j)) 64
  have b3 := cntN_le (fun j => m (64 * 3 + j)) 64
  have hsum : cntN m 256 = cntN (fun j => m (64 * 0 + j)) 64 + cntN (fun j => m (64 * 1 + j)) 64 + cntN (fun j => m (64 * 2 + j)) 64 + cntN (fun j => m (64 * 3 + j)) 64 := by
    rw [show (256 : Nat) = 64 + (64 + (64 + 64)) from rfl, cntN_add, cntN_add, cntN_add]
    have e0 : (fun j => m (64 * 0 + j)) = m := funext fun j => by rw [show 64 * 0 + j = j by omega]
    have e1 : (fun j => m (64 * 1 + j)) = fun j => m (64 + j) := funext fun j => by rw [show 64 * 1 + j = 64 + j by omega]
    have e2 : (fun j => m (64 * 2 + j)) = fun j => m (64 + (64 + j)) := funext fun j => by rw [show 64 * 2 + j = 64 + (64 + j) by omega]
    have e3 : (fun j => m (64 * 3 + j)) = fun j => m (64 + (64 + (64 + j))) := funext fun j => by rw [show 64 * 3 + j = 64 + (64 + (64 + j)) by omega]
    rw [e0, e1, e2, e3]
    omega
  have o0 := ones_any m 0
  have o1 := ones_any m 1
  have o2 := ones_any m 2
  have o3 := ones_any m 3
  generalize cntN (fun j => m (64 * 0 + j)) 64 = c0 at *
  generalize cntN (fun j => m (64 * 1 + j)) 64 = c1 at *
  generalize cntN (fun j => m (64 * 2 + j)) 64 = c2 at *
  generalize cntN (fun j => m (64 * 3 + j)) 64 = c3 at *
  generalize cntN m 256 = c at *
  have H0 := Lib.hid o0
  have H1 := Lib.hid o1
  have H2 := Lib.hid o2
  have H3 := Lib.hid o3
  have Hs := Lib.hid hsum
  clear o0 o1 o2 o3 hsum
  go_enter Tryd.func99, Tryd.ntmps99
  go_wp2
  refine wp_loop_unr 5 ?_
  go_wp2_with (first
    | (refine unr_succ ?_; intro _ _)
    | (go_at_call_of 100 (Value.int .u64 (wd m 0 : Nat)); refine (H0.out _).mono ?_; rintro e w' ⟨rfl, rfl⟩)
    | (go_at_call_of 100 (Value.int .u64 (wd m 1 : Nat)); refine (H1.out _).mono ?_; rintro e w' ⟨rfl, rfl⟩)
    | (go_at_call_of 100 (Value.int .u64 (wd m 2 : Nat)); refine (H2.out _).mono ?_; rintro e w' ⟨rfl, rfl⟩)
    | (go_at_call_of 100 (Value.int .u64 (wd m 3 : Nat)); refine (H3.out _).mono ?_; rintro e w' ⟨rfl, rfl⟩))
  go_ret
  refine ⟨ret_int ?_, (Below.refl _ _).alloc (Nat.le_refl _) _⟩
  have := Hs.out
  omega

def belowIs (n : Int) (w : World) : Ending → World → Prop := fun e w' => e = .returned (setV (sBelow n)) ∧ Below w.heap.size w w'

set_option maxHeartbeats 400000 in
theorem below_neg (n : Int) (h : n ≤ 0) (w : World) : Calls Tryd.prog 89 #[.int .i64 n] w (belowIs n w) := by
  go_enter Tryd.func89, Tryd.ntmps89
  go_wp2
  all_goals refine wp_loop_unr 5 ?_
  all_goals go_wp2_with (refine unr_succ ?_; intro _ _)
  all_goals refine bodyPost_ret (v := setV (sBelow n)) (by simp [results, Tryd.results89, go_sem, low_zero n 0 (by omega), low_zero n 1 (by omega), low_zero n 2 (by omega), low_zero n 3 (by omega)] <;> (repeat' apply And.intro) <;> first | with_reducible exact (low_part n n 0 (by omega) (by omega) (by omega)).trans (low_zero n 0 (by omega)) | with_reducible exact low_one) rfl ⟨rfl, ?_⟩
  all_goals exact ((Below.refl _ _).alloc (Nat.le_refl _) _).alloc (by simp) _

set_option maxHeartbeats 400000 in
theorem below_q0 (n : Int) (h0 : 0 < n) (h1 : n ≤ 64) (w : World) : Calls Tryd.prog 89 #[.int .i64 n] w (belowIs n w) := by
  go_enter Tryd.func89, Tryd.ntmps89
  go_wp2
  all_goals refine wp_loop_unr 5 ?_
  all_goals go_wp2_with (refine unr_succ ?_; intro _ _)
  all_goals refine bodyPost_ret (v := setV (sBelow n)) (by simp [results, Tryd.results89, go_sem, low_zero n 1 (by omega), low_zero n 2 (by omega), low_zero n 3 (by omega)] <;> (repeat' apply And.intro) <;> first | with_reducible exact low_part n n 0 (by omega) (by omega) (by omega) | with_reducible exact (low_part n (n - 64) 1 (by omega) (by omega) (by omega)).trans (low_zero n 1 (by omega)) | with_reducible exact low_one) rfl ⟨rfl, ?_⟩
  all_goals exact ((Below.refl _ _).alloc (Nat.le_refl _) _).alloc (by simp) _

set_option maxHeartbeats 400000 in
theorem below_q1 (n : Int) (h0 : 64 < n) (h1 : n ≤ 128) (w : World) : Calls Tryd.prog 89 #[.int .i64 n] w (belowIs n w) := by
  go_enter Tryd.func89, Tryd.ntmps89
  go_wp2
  all_goals refine wp_loop_unr 5 ?_
  all_goals go_wp2_with (refine unr_succ ?_; intro _ _)
  all_goals refine bodyPost_ret (v := setV (sBelow n)) (by simp [results, Tryd.results89, go_sem, low_zero n 2 (by omega), low_zero n 3 (by omega)] <;> (repeat' apply And.intro) <;> first | with_reducible exact low_full n 0 (by omega) | with_reducible exact low_part n (n - 64) 1 (by omega) (by omega) (by omega) | with_reducible exact (low_part n (n - 128) 2 (by omega) (by omega) (by omega)).trans (low_zero n 2 (by omega)) | with_reducible exact low_one) rfl ⟨rfl, ?_⟩
  all_goals exact ((Below.refl _ _).alloc (Nat.le_refl _) _).alloc (by simp) _

set_option maxHeartbeats 400000 in
theorem below_q2 (n : Int) (h0 : 128 < n) (h1 : n ≤ 192) (w : World) : Calls Tryd.prog 89 #[.int .i64 n] w (belowIs n w) := by
  go_enter Tryd.func89, Tryd.ntmps89
  go_wp2
  all_goals refine wp_loop_unr 5 ?_
  all_goals go_wp2_with (refine unr_succ ?_; intro _ _)
  all_goals refine bodyPost_ret (v := setV (sBelow n)) (by simp [results, Tryd.results89, go_sem, low_zero n 3 (by omega)] <;> (repeat' apply And.intro) <;> first | with_reducible exact low_full n 0 (by omega) | with_reducible exact low_full n 1 (by omega) | with_reducible exact low_part n (n - 128) 2 (by omega) (by omega) (by omega) | with_reducible exact (low_part n (n - 192) 3 (by omega) (by omega) (by omega)).trans (low_zero n 3 (by omega)) | with_reducible exact low_one) rfl ⟨rfl, ?_⟩
  all_goals exact ((Below.refl _ _).alloc (Nat.le_refl _) _).alloc (by simp) _

set_option maxHeartbeats 400000 in
theorem below_q3 (n : Int) (h0 : 192 < n) (h1 : n ≤ 256) (w : World) : Calls Tryd.prog 89 #[.int .i64 n] w (belowIs n w) := by
  go_enter Tryd.func89, Tryd.ntmps89
  go_wp2
  all_goals refine wp_loop_unr 5 ?_
  all_goals go_wp2_with (refine unr_succ ?_; intro _ _)
  all_goals refine bodyPost_ret (v := setV (sBelow n)) (by simp [results, Tryd.results89, go_sem] <;> (repeat' apply And.intro) <;> first | with_reducible exact low_full n 0 (by omega) | with_reducible exact low_full n 1 (by omega) | with_reducible exact low_full n 2 (by omega) | with_reducible exact low_part n (n - 192) 3 (by omega) (by omega) (by omega)) rfl ⟨rfl, ?_⟩
  all_goals exact ((Below.refl _ _).alloc (Nat.le_refl _) _).alloc (by simp) _

set_option maxHeartbeats 400000 in
theorem below_big (n : Int) (h0 : 256 < n) (h1 : n ≤ 9223372036854775807) (w : World) : Calls Tryd.prog 89 #[.int .i64 n] w (belowIs n w) := by
  go_enter Tryd.func89, Tryd.ntmps89
  go_wp2
  all_goals refine wp_loop_unr 5 ?_
  all_goals go_wp2_with (refine unr_succ ?_; intro _ _)
  all_goals refine bodyPost_ret (v := setV (sBelow n)) (by simp [results, Tryd.results89, go_sem] <;> (repeat' apply And.intro) <;> first | with_reducible exact low_full n 0 (by omega) | with_reducible exact low_full n 1 (by omega) | with_reducible exact low_full n 2 (by omega) | with_reducible exact low_full n 3 (by omega)) rfl ⟨rfl, ?_⟩
  all_goals exact ((Below.refl _ _).alloc (Nat.le_refl _) _).alloc (by simp) _

theorem below_any (n : Int) (hn : n ≤ 9223372036854775807) (w : World) : Calls Tryd.prog 89 #[.int .i64 n] w (belowIs n w) := by
  by_cases h : n ≤ 0
  · exact below_neg n h w
  by_cases h1 : n ≤ 64
  · exact below_q0 n (by omega) h1 w
  by_cases h2 : n ≤ 128
  · exact below_q1 n (by omega) h2 w
  by_cases h3 : n ≤ 192
  · exact below_q2 n (by omega) h3 w
  by_cases h4 : n ≤ 256
  · exact below_q3 n (by omega) h4 w
  · exact below_big n (by omega) hn w

end

section
open Go.RowKit

def ByteRow (w : World) (B : Nat) (A : Option Addr) (l : List Nat) : Prop :=
  l ≠ [] → ∃ b off, A = some ⟨b, off, none⟩ ∧ b < B ∧ ∀ (k x : Nat), l[k]? = some x → w.cell? ⟨b, off + k, none⟩ = some (.int .u8 (x : Int))

theorem sOf_nil : sOf [] = fun _ => false := by funext b; simp [sOf]

theorem sOf_take {l : List Nat} {k x : Nat} (h : l[k]? = some x) (b : Nat) : sOf (l.take (k + 1)) b = (sOf (l.take k) b || decide (b = x)) := by
  unfold sOf
  rw [List.take_add_one, h]
  simp [Bool.decide_or]

theorem or_bit {m m' : Nat → Bool} {x i : Nat} (h : ∀ b, m' b = (m b || decide (b = x))) (hi : x / 64 = i) : bits .or .u64 (wd m i : Nat) (IntKind.u64.wrap (2 ^ (x % 64))) = (wd m' i : Int) := by
  have hp : 2 ^ (x % 64) < 2 ^ 64 := Nat.pow_lt_pow_right (by decide) (by omega)
  have e : IntKind.u64.wrap ((2 : Int) ^ (x % 64)) = ((2 ^ (x % 64) : Nat) : Int) := by
    have e2 : ((2 : Int) ^ (x % 64)) = ((2 ^ (x % 64) : Nat) : Int) := by rw [Int.natCast_pow]; rfl
    rw [e2, IntKind.wrap_u64]
    generalize 2 ^ (x % 64) = p at *
    omega
  rw [e, u64_or_nat _ _ (wd_lt _ _) hp]
  refine congrArg (fun n : Nat => (n : Int)) (eq_wd (Nat.or_lt_two_pow (n := 64) (wd_lt _ _) hp) fun j hj => ?_)
  rw [Nat.testBit_or, wd_testBit, Nat.testBit_two_pow, h]
  have : decide (x % 64 = j) = decide (64 * i + j = x) := by rw [decide_eq_decide]; omega
  rw [this]; simp [hj]
theorem other_bit {m m' : Nat → Bool} {x i : Nat} (h : ∀ b, m' b = (m b || decide (b = x))) (hi : x / 64 ≠ i) : wd m i = wd m' i :=
  wd_congr fun j hj => by
    have : ¬ 64 * i + j = x := by omega
    rw [h]; simp [this]

theorem wd_none (i : Nat) : wd (sOf []) i = 0 := by
  have := lowBits 0 i 0 (by decide) (fun j hj => ⟨fun h => absurd h (by omega), fun h => by omega⟩)
  have h2 : wd (sOf []) i = wd (sBelow 0) i := wd_congr fun j _ => by simp [sOf, sBelow]; omega
  rw [h2, ← this]

set_option maxHeartbeats 400000 in
theorem of_any (A : Option Addr) (c : Nat) (l : List Nat) (w : World) (hr : ByteRow w w.heap.size A l) (hl : ∀ x ∈ l, x < 256) (hn : l.length ≤ 9223372036854775807) :
    Calls Tryd.prog 86 #[.slice A l.length c] w fun e w' => e = .returned (setV (sOf l)) ∧ Below w.heap.size w w' := by
  go_enter Tryd.func86, Tryd.ntmps86
  go_wp2
  go_loopw [8] (fun i wr => ∃ k, k ≤ l.length ∧ i = .int .i64 (k : Nat) ∧
      wr = (w.alloc (.cells #[.int .u64 0, .int .u64 0, .int .u64 0, .int .u64 0] 51)).alloc (.cells #[.int .u64 (wd (sOf (l.take k)) 0 : Nat), .int .u64 (wd (sOf (l.take k)) 1 : Nat), .int .u64 (wd (sOf (l.take k)) 2 : Nat), .int .u64 (wd (sOf (l.take k)) 3 : Nat)] 51))
    (fun i _ => l.length - (intOf i).toNat)
  case atStart =>
    refine ⟨0, Nat.zero_le _, rfl, ?_⟩
    simp only [List.take_zero, wd_none]
    rfl
  case round =>
    obtain ⟨k, hk, rfl, rfl⟩ := hrel
    by_cases hlt : k < l.length
    · obtain ⟨b, off, rfl, hb, hcell⟩ := hr (by intro h; subst h; simp at hlt)
      have hx := hl l[k] (List.getElem_mem hlt)
      have hg : l[k]? = some l[k] := List.getElem?_eq_getElem hlt
      have hc := hcell k l[k] hg
      have ht := sOf_take hg
      clear hg
      generalize l[k] = x at *
      have hne : b ≠ w.heap.size := by omega
      have hne2 : b ≠ w.heap.size + 1 := by omega
      have HT := Lib.hid ht
      clear hr hl hcell ht
      have hcase : x / 64 = 0 ∨ x / 64 = 1 ∨ x / 64 = 2 ∨ x / 64 = 3 := by omega
      rcases hcase with hq | hq | hq | hq
      · have hqi : (x : Int) / 64 = 0 := by omega
        have HQ := Lib.hid hq
        clear hq
        go_wp2
        refine ⟨⟨k + 1, by omega, by go_num, ?_⟩, by simp [intOf]; omega⟩
        rw [or_bit HT.out HQ.out, other_bit (i := 1) HT.out (by rw [HQ.out]; decide), other_bit (i := 2) HT.out (by rw [HQ.out]; decide), other_bit (i := 3) HT.out (by rw [HQ.out]; decide)]
      · have hqi : (x : Int) / 64 = 1 := by omega
        have HQ := Lib.hid hq
        clear hq
        go_wp2
        refine ⟨⟨k + 1, by omega, by go_num, ?_⟩, by simp [intOf]; omega⟩
        rw [or_bit HT.out HQ.out, other_bit (i := 0) HT.out (by rw [HQ.out]; decide), other_bit (i := 2) HT.out (by rw [HQ.out]; decide), other_bit (i := 3) HT.out (by rw [HQ.out]; decide)]
      · have hqi : (x : Int) / 64 = 2 := by omega
        have HQ := Lib.hid hq
        clear hq
        go_wp2
        refine ⟨⟨k + 1, by omega, by go_num, ?_⟩, by simp [intOf]; omega⟩
        rw [or_bit HT.out HQ.out, other_bit (i := 0) HT.out (by rw [HQ.out]; decide), other_bit (i := 1) HT.out (by rw [HQ.out]; decide), other_bit (i := 3) HT.out (by rw [HQ.out]; decide)]
      · have hqi : (x : Int) / 64 = 3 := by omega
        have HQ := Lib.hid hq
        clear hq
        go_wp2
        refine ⟨⟨k + 1, by omega, by go_num, ?_⟩, by simp [intOf]; omega⟩
        rw [or_bit HT.out HQ.out, other_bit (i := 0) HT.out (by rw [HQ.out]; decide), other_bit (i := 1) HT.out (by rw [HQ.out]; decide), other_bit (i := 2) HT.out (by rw [HQ.out]; decide)]
    · have he : l.take k = l := List.take_of_length_le (by omega)
      rw [he]
      clear hr hl
      go_wp2
      refine bodyPost_ret (v := setV (sOf l)) (by simp [results, Tryd.results86, go_sem]) rfl ⟨rfl, ?_⟩
      exact ((Below.refl _ _).alloc (Nat.le_refl _) _).alloc (by simp) _

theorem eqItems_step (d : Nat) (xs ys : Array Value) (j : Nat) (js : List Nat) (a b : Int) (w : World)
    (ha : (part 49 xs (j * 1)).run Tryd.prog w = .ok (.int .u64 a) w) (hb : (part 49 ys (j * 1)).run Tryd.prog w = .ok (.int .u64 b) w) :
    (Op.eqItems (d + 1) 49 1 xs ys (j :: js)).run Tryd.prog w = if a = b then (Op.eqItems (d + 1) 49 1 xs ys js).run Tryd.prog w else .ok false w := by
  have h64 := run_equalIn_int (P := Tryd.prog) w d 49 .u64 .u64 a b Tryd.underlying49
  simp only [Op.eqItems, Sem.run_bind, ha, hb, Result.andThen_ok, h64]
  by_cases h : a = b
  · simp [h]
  · have h2 : (a == b) = false := by simpa using h
    simp [h, h2]

theorem eql_set (m n : Nat → Bool) (w : World) : (binOp .eql 51 (setV m) (setV n)).run Tryd.prog w = .ok (.bool (setEq m n)) w := by
  have hp0 : ∀ (k : Nat → Bool), (part 49 #[.int .u64 (wd k 0 : Nat), .int .u64 (wd k 1 : Nat), .int .u64 (wd k 2 : Nat), .int .u64 (wd k 3 : Nat)] (0 * 1)).run Tryd.prog w = .ok (.int .u64 (wd k 0 : Nat)) w := fun k => by kernel_rfl
  have hp1 : ∀ (k : Nat → Bool), (part 49 #[.int .u64 (wd k 0 : Nat), .int .u64 (wd k 1 : Nat), .int .u64 (wd k 2 : Nat), .int .u64 (wd k 3 : Nat)] (1 * 1)).run Tryd.prog w = .ok (.int .u64 (wd k 1 : Nat)) w := fun k => by kernel_rfl
  have hp2 : ∀ (k : Nat → Bool), (part 49 #[.int .u64 (wd k 0 : Nat), .int .u64 (wd k 1 : Nat), .int .u64 (wd k 2 : Nat), .int .u64 (wd k 3 : Nat)] (2 * 1)).run Tryd.prog w = .ok (.int .u64 (wd k 2 : Nat)) w := fun k => by kernel_rfl
  have hp3 : ∀ (k : Nat → Bool), (part 49 #[.int .u64 (wd k 0 : Nat), .int .u64 (wd k 1 : Nat), .int .u64 (wd k 2 : Nat), .int .u64 (wd k 3 : Nat)] (3 * 1)).run Tryd.prog w = .ok (.int .u64 (wd k 3 : Nat)) w := fun k => by kernel_rfl
  have e : (Op.equalIn 10000 51 (setV m) (setV n)).run Tryd.prog w = .ok (setEq m n) w := by
    obtain ⟨i, hi⟩ : ∃ i, Tryd.prog.info? 49 = some i := Option.isSome_iff_exists.1 (by kernel_rfl)
    have hc : Tryd.prog.cellsOf 49 = 1 := by kernel_rfl
    have h := run_equalIn_array (P := Tryd.prog) w 9999 #[.int .u64 (wd m 0 : Nat), .int .u64 (wd m 1 : Nat), .int .u64 (wd m 2 : Nat), .int .u64 (wd m 3 : Nat)]
      #[.int .u64 (wd n 0 : Nat), .int .u64 (wd n 1 : Nat), .int .u64 (wd n 2 : Nat), .int .u64 (wd n 3 : Nat)] Tryd.underlying51 hi
    rw [hc, show List.range 4 = [0, 1, 2, 3] from rfl] at h
    rw [eqItems_step 9998 _ _ 0 _ _ _ w (hp0 m) (hp0 n), eqItems_step 9998 _ _ 1 _ _ _ w (hp1 m) (hp1 n), eqItems_step 9998 _ _ 2 _ _ _ w (hp2 m) (hp2 n), eqItems_step 9998 _ _ 3 _ _ _ w (hp3 m) (hp3 n)] at h
    refine h.trans ?_
    unfold setEq
    simp only [Int.natCast_inj]
    by_cases h0 : wd m 0 = wd n 0
    · by_cases h1 : wd m 1 = wd n 1
      · by_cases h2 : wd m 2 = wd n 2
        · by_cases h3 : wd m 3 = wd n 3
          · rw [if_pos h0, if_pos h1, if_pos h2, if_pos h3, h0, h1, h2, h3]; simp [Op.eqItems]
          · rw [if_pos h0, if_pos h1, if_pos h2, if_neg h3]; simp [h3]
        · rw [if_pos h0, if_pos h1, if_neg h2]; simp [h2]
      · rw [if_pos h0, if_neg h1]; simp [h1]
    · rw [if_neg h0]; simp [h0]
  have h2 := run_eql_struct (P := Tryd.prog) w 51 #[.int .u64 (wd m 0 : Nat), .int .u64 (wd m 1 : Nat), .int .u64 (wd m 2 : Nat), .int .u64 (wd m 3 : Nat)]
      #[.int .u64 (wd n 0 : Nat), .int .u64 (wd n 1 : Nat), .int .u64 (wd n 2 : Nat), .int .u64 (wd n 3 : Nat)]
  refine h2.trans ?_
  have e' : (Op.equalIn 10000 51 (.agg #[.int .u64 (wd m 0 : Nat), .int .u64 (wd m 1 : Nat), .int .u64 (wd m 2 : Nat), .int .u64 (wd m 3 : Nat)]) (.agg #[.int .u64 (wd n 0 : Nat), .int .u64 (wd n 1 : Nat), .int .u64 (wd n 2 : Nat), .int .u64 (wd n 3 : Nat)])).run Tryd.prog w = .ok (setEq m n) w := e
  rw [e']; rfl

def BoxIs (g : Nat) (m : Nat → Bool) (w : World) : Prop :=
  w.cell? ⟨g, 0, none⟩ = some (.int .u64 (wd m 0 : Nat)) ∧ w.cell? ⟨g, 1, none⟩ = some (.int .u64 (wd m 1 : Nat)) ∧
  w.cell? ⟨g, 2, none⟩ = some (.int .u64 (wd m 2 : Nat)) ∧ w.cell? ⟨g, 3, none⟩ = some (.int .u64 (wd m 3 : Nat))

theorem BoxIs.below {g : Nat} {m : Nat → Bool} {W W' : World} (h : BoxIs g m W) (hb : Below W.heap.size W W') (hg : g < W.heap.size) : BoxIs g m W' :=
  ⟨(hb.cell (p := ⟨g, 0, none⟩) hg).trans h.1, (hb.cell (p := ⟨g, 1, none⟩) hg).trans h.2.1, (hb.cell (p := ⟨g, 2, none⟩) hg).trans h.2.2.1, (hb.cell (p := ⟨g, 3, none⟩) hg).trans h.2.2.2⟩

theorem held_step {w W W' : World} {g : Nat} {m : Nat → Bool} (h : Below w.heap.size w W ∧ g < W.heap.size ∧ W.cell? ⟨g, 0, none⟩ = some (.int .u64 (wd m 0 : Nat)) ∧ W.cell? ⟨g, 1, none⟩ = some (.int .u64 (wd m 1 : Nat)) ∧
      W.cell? ⟨g, 2, none⟩ = some (.int .u64 (wd m 2 : Nat)) ∧ W.cell? ⟨g, 3, none⟩ = some (.int .u64 (wd m 3 : Nat))) (hb : Below W.heap.size W W') :
    Below w.heap.size w W' ∧ g < W'.heap.size ∧ W'.cell? ⟨g, 0, none⟩ = some (.int .u64 (wd m 0 : Nat)) ∧ W'.cell? ⟨g, 1, none⟩ = some (.int .u64 (wd m 1 : Nat)) ∧
      W'.cell? ⟨g, 2, none⟩ = some (.int .u64 (wd m 2 : Nat)) ∧ W'.cell? ⟨g, 3, none⟩ = some (.int .u64 (wd m 3 : Nat)) :=
  ⟨h.1.trans (hb.mono h.1.size), Nat.lt_of_lt_of_le h.2.1 hb.size, BoxIs.below h.2.2 hb h.2.1⟩

theorem of_one (x b c : Nat) (w : World) (hx : x < 256) (hb : b < w.heap.size) (h0 : w.cell? ⟨b, 0, none⟩ = some (.int .u8 (x : Int))) :
    Calls Tryd.prog 86 #[.slice (some ⟨b, 0, none⟩) 1 c] w fun e w' => e = .returned (setV (sOf [x])) ∧ Below w.heap.size w w' :=
  of_any (some ⟨b, 0, none⟩) c [x] w (fun _ => ⟨b, 0, rfl, hb, fun k y hk => by
    obtain ⟨rfl, rfl⟩ : k = 0 ∧ x = y := by
      cases k with
      | zero => simpa using hk
      | succ k => simp at hk
    exact h0⟩) (by simpa using hx) (by simp)
set_option maxHeartbeats 400000 in
theorem has_any (m : Nat → Bool) (c : Nat) (hc : c < 256) (w : World) :
    Calls Tryd.prog 68 #[setV m, .int .u8 c] w fun e w' => e = .returned (.bool (m c)) ∧ Below w.heap.size w w' := by
  have hq := eql_set (sOr m (sOf [c])) m
  have hb : setEq (sOr m (sOf [c])) m = m c := by
    rw [Bool.eq_iff_iff, setEq_iff]
    constructor
    · intro h
      have := h c hc
      simpa [sOr, sOf] using this
    · intro h b _
      by_cases e : b = c
      · subst e; simp [sOr, sOf, h]
      · simp [sOr, sOf, e]
  rw [← hb]
  have HB := Lib.hid hb
  clear hb
  go_enter Tryd.func68, Tryd.ntmps68
  go_wp2
  go_region_held3 (fun w' => Below w.heap.size w w' ∧ w.heap.size < w'.heap.size ∧ w'.cell? ⟨w.heap.size, 0, none⟩ = some (.int .u64 (wd m 0 : Nat)) ∧ w'.cell? ⟨w.heap.size, 1, none⟩ = some (.int .u64 (wd m 1 : Nat)) ∧
      w'.cell? ⟨w.heap.size, 2, none⟩ = some (.int .u64 (wd m 2 : Nat)) ∧ w'.cell? ⟨w.heap.size, 3, none⟩ = some (.int .u64 (wd m 3 : Nat)))
    ((first
      | exact held_step (by assumption) hb1
      | (refine ⟨(by first | exact ((Below.refl _ _).alloc (Nat.le_refl _) _).drew | exact (((Below.refl _ _).alloc (Nat.le_refl _) _).alloc (by simp) _).drew), ?_, ?_, ?_, ?_, ?_⟩ <;> go_simp <;> done)))
    ((first
      | (go_at_call 86; go_must (refine (of_one c _ _ _ hc (by simp) (by go_simp)).mono ?_); rintro e w1 ⟨rfl, hb1⟩)
      | (go_at_call 85; go_must (refine (any_any _ _ _).mono ?_); rintro e w1 ⟨rfl, hb1⟩)))
  have hB : Below w.heap.size w w1 := by
    have h := ‹Below w.heap.size w w1 ∧ _›
    exact h.1
  go_wp2
  go_ret
  exact ⟨rfl, hB⟩

end

section
open Go.RowKit

def BlkIs (w : World) (g : Nat) (t : TypeId) (cs : Array Value) : Prop := w.heap[g]? = some (.cells cs t (0, 0))

section
variable {w W' : World} {g : Nat} {t : TypeId} {cs : Array Value}
theorem BlkIs.lt (h : BlkIs w g t cs) : g < w.heap.size := by
  rcases Nat.lt_or_ge g w.heap.size with hlt | hge
  · exact hlt
  · unfold BlkIs at h; rw [Array.getElem?_eq_none hge] at h; cases h
theorem BlkIs.cell (h : BlkIs w g t cs) (i : Nat) : w.cell? ⟨g, i, none⟩ = cs[i]? := cell_of_row w g i cs t (0, 0) h
theorem BlkIs.frozen (h : BlkIs w g t cs) (i : Nat) : w.frozen? ⟨g, i, none⟩ = false := by
  unfold BlkIs at h; simp [World.frozen?, h]
theorem BlkIs.new (w : World) (t : TypeId) (cs : Array Value) : BlkIs (w.alloc (.cells cs t)) w.heap.size t cs := by
  show (w.heap.push _)[w.heap.size]? = _
  simp
theorem BlkIs.alloc (h : BlkIs w g t cs) (o : Obj) : BlkIs (w.alloc o) g t cs := (Below.heap_alloc w o g h.lt).trans h
theorem BlkIs.drew (h : BlkIs w g t cs) : BlkIs w.drew g t cs := h
theorem BlkIs.below {B : Nat} (h : BlkIs w g t cs) (hb : Below B w W') (hg : g < B) : BlkIs W' g t cs := (hb.block g hg).trans h
theorem BlkIs.step (h : BlkIs w g t cs) (hb : Below w.heap.size w W') : BlkIs W' g t cs := h.below hb h.lt
theorem BlkIs.far (h : BlkIs w g t cs) {p : Addr} (hp : g ≠ p.block) (u : Value) : BlkIs (w.setCell p u) g t cs := (Below.heap_setCell w p u g hp).trans h
theorem BlkIs.put (h : BlkIs w g t cs) (i : Nat) (u : Value) : BlkIs (w.setCell ⟨g, i, none⟩ u) g t (cs.setIfInBounds i u) := by
  unfold BlkIs at h ⊢
  simp [World.setCell, Array.getElem?_modify, h]
theorem BlkIs.four {a b c d : Value} (h : BlkIs w g t #[a, b, c, d]) : w.cell? ⟨g, 0, none⟩ = some a ∧ w.cell? ⟨g, 1, none⟩ = some b ∧ w.cell? ⟨g, 2, none⟩ = some c ∧ w.cell? ⟨g, 3, none⟩ = some d ∧
    w.frozen? ⟨g, 0, none⟩ = false ∧ w.frozen? ⟨g, 1, none⟩ = false ∧ w.frozen? ⟨g, 2, none⟩ = false ∧ w.frozen? ⟨g, 3, none⟩ = false :=
  ⟨h.cell 0, h.cell 1, h.cell 2, h.cell 3, h.frozen 0, h.frozen 1, h.frozen 2, h.frozen 3⟩
theorem BlkIs.range (h : BlkIs w g t cs) : w.rangeAt g 0 cs.toList := fun j v hv => by
  rw [Nat.zero_add, h.cell j]; simpa using hv
theorem BlkIs.there (h : BlkIs w g t cs) : w.there g 0 cs.size := fun j hj => by
  rw [Nat.zero_add, h.cell j]
  exact ⟨by simp [hj], h.frozen j⟩
end

theorem BlkIs.sized {g : Nat} {t : TypeId} : ∀ (vs : List Value) (o : Nat) (w : World) (cs : Array Value), BlkIs w g t cs → ∃ cs', BlkIs (w.setCells g o vs) g t cs' ∧ cs'.size = cs.size
  | [], _, _, cs, h => ⟨cs, h, rfl⟩
  | v :: r, o, w, cs, h => by
    rw [World.setCells]
    obtain ⟨cs', h1, h2⟩ := BlkIs.sized r (o + 1) _ _ (h.put o v)
    exact ⟨cs', h1, by rw [h2]; simp⟩
theorem BlkIs.fill {w : World} {g : Nat} {t : TypeId} {cs new : Array Value} (h : BlkIs w g t cs) (hs : new.size = cs.size) : BlkIs (w.setCells g 0 new.toList) g t new := by
  obtain ⟨cs', h1, h2⟩ := BlkIs.sized new.toList 0 w cs h
  have hr := World.rangeAt_setCells_same w g 0 new.toList (by rw [Array.length_toList, hs]; exact h.there)
  have e : cs' = new := by
    apply Array.ext (by rw [h2, hs])
    intro i hi hi'
    have a := hr i new[i] (by simp [hi'])
    rw [Nat.zero_add, h1.cell i] at a
    simpa [hi] using a
  rw [← e]; rw [← e] at h1; exact h1

theorem results_cell1 {fn : Func} {p : Tmp} {ty : TypeId} {tmps : Array Value} {P : Program} {w w' : World} {a : Addr} {v : Value} (h : fn.results = #[.cell p ty])
    (hp : tmps.getD p undef = .pointer (some a)) (hl : (loadVar ty a).run P w = .ok v w') : (results fn tmps).run P w = .ok v w' := by
  have hp' : tmps[p]?.getD undef = .pointer (some a) := by rw [← hp]; simp
  unfold results
  rw [h]
  simp [hp', asAddr, hl]

def bools (f : Nat → Bool) : Array Value := ((List.range 256).map fun i => Value.bool (f i)).toArray
theorem bools_size (f : Nat → Bool) : (bools f).size = 256 := by simp [bools]
theorem bools_get (f : Nat → Bool) {i : Nat} (h : i < 256) : (bools f)[i]? = some (.bool (f i)) := by
  unfold bools
  rw [List.getElem?_toArray, List.getElem?_map, List.getElem?_range h]; rfl
theorem bools_congr {f g : Nat → Bool} (h : ∀ i, i < 256 → f i = g i) : bools f = bools g := by
  unfold bools
  rw [List.map_congr_left (fun i hi => by rw [h i (List.mem_range.1 hi)])]
def updS (f : Nat → Bool) (i : Nat) (v : Bool) : Nat → Bool := fun j => if j = i then v else f j
theorem bools_set (f : Nat → Bool) (i : Nat) (v : Bool) : (bools f).setIfInBounds i (.bool v) = bools (updS f i v) := by
  apply Array.ext_getElem?
  intro j
  by_cases hj : j < 256
  · rw [Array.getElem?_setIfInBounds, bools_get _ hj, bools_get _ hj, bools_size]
    unfold updS
    by_cases e : i = j
    · subst e; simp [hj]
    · have e' : ¬ j = i := fun h => e h.symm
      simp [e, e']
  · rw [Array.getElem?_eq_none (by rw [Array.size_setIfInBounds, bools_size]; omega), Array.getElem?_eq_none (by rw [bools_size]; omega)]
theorem bools_agg (f : Nat → Bool) : Value.agg (bools f).toList.toArray = .agg (bools f) := by simp

end
end Go.Proofs.YtgngaaemkmdfaaaDoor
