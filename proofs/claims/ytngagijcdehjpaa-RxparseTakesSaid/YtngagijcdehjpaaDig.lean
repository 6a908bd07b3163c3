/-
  BYTES AS DIGITS, NUMBERS AS DIGITS: what is said of no program; and what isBase, value and both Digits answer, at every byte and every base. No condition.
-/
import Derived.Test.YtngagijcdehjpaaRows
import Derived.WalkKit
import Derived.WalkSpells
import Derived.ProofKit
import Derived.Lib.Hide
import Derived.Lib.ItoaNum
import Derived.Lib.ItoaWalk
import Derived.Laws.RangeString
import Derived.Laws.RangeAny
namespace Go.Proofs.Ytngagijcdehjpaa
open Go.RowKit

/-- what c is as a digit of 16; -1 -/
def dg1 (c : Nat) : Int := if 48 ≤ c ∧ c ≤ 57 then (c : Int) - 48 else if 97 ≤ c ∧ c ≤ 102 then (c : Int) - 87 else if 65 ≤ c ∧ c ≤ 70 then (c : Int) - 55 else -1
/-- what c is as a digit of b; -1 -/
def dig (c b : Nat) : Int := if dg1 c < (b : Int) then dg1 c else -1

theorem dg1_lt (c : Nat) : dg1 c < 16 := by unfold dg1; split <;> (try split) <;> (try split) <;> omega
theorem dg1_ge (c : Nat) : -1 ≤ dg1 c := by unfold dg1; split <;> (try split) <;> (try split) <;> omega
theorem dig_lt (c b : Nat) (hb : 0 < b) : dig c b < b := by unfold dig; split <;> omega
theorem dig_ge (c b : Nat) : -1 ≤ dig c b := by have := dg1_ge c; unfold dig; split <;> omega
theorem dig_high {c b : Nat} (h : 128 ≤ c) : dig c b = -1 := by
  have : dg1 c = -1 := by unfold dg1; rw [if_neg (by omega), if_neg (by omega), if_neg (by omega)]
  unfold dig; rw [this]; split <;> rfl

def isB (x : Int) : Prop := x = 10 ∨ x = 16
instance (x : Int) : Decidable (isB x) := by unfold isB; exact inferInstance
/-- what c is as a digit of any base; -1 -/
def digZ (c : Nat) (x : Int) : Int := if isB x then dig c x.toNat else -1

theorem isBase_any (x : Int) (w : World) : Calls Try.prog 74 #[.int .i64 x] w fun e w' => e = .returned (.bool (decide (isB x))) ∧ w' = w := by
  unfold isB
  by_cases h1 : x = 10
  · subst h1
    go_enter Try.func74, Try.ntmps74
    go_wp2
    go_ret
    exact ⟨rfl, rfl⟩
  · by_cases h2 : x = 16
    · subst h2
      go_enter Try.func74, Try.ntmps74
      go_wp2
      go_ret
      exact ⟨rfl, rfl⟩
    · have e1 : (x == 10) = false := by simp [h1]
      have e2 : (x == 16) = false := by simp [h2]
      go_enter Try.func74, Try.ntmps74
      go_wp2
      go_ret
      exact ⟨by simp [h1, h2], rfl⟩

set_option maxHeartbeats 1000000 in
theorem value_any (r b : Nat) (w : World) : Calls Try.prog 75 #[.int .i32 r, .int .i64 b] w fun e w' => e = .returned (.int .i64 (dig r b)) ∧ w' = w := by
  by_cases c1 : 97 ≤ r ∧ r ≤ 102
  · have e1 : decide ((97 : Int) ≤ (r : Int)) = true := by simp; omega
    have e2 : decide ((r : Int) ≤ 102) = true := by simp; omega
    have k1 : IntKind.i32.wrap ((r : Int) - 32) = (r : Int) - 32 := by rw [IntKind.wrap_i32]; omega
    have k2 : IntKind.i32.wrap ((r : Int) - 32 - 7) = (r : Int) - 39 := by rw [IntKind.wrap_i32]; omega
    have k3 : IntKind.i32.wrap ((r : Int) - 39 - 48) = (r : Int) - 87 := by rw [IntKind.wrap_i32]; omega
    have k4 : IntKind.i64.wrap ((r : Int) - 87) = (r : Int) - 87 := by rw [IntKind.wrap_i64]; omega
    have hd : dg1 r = (r : Int) - 87 := by unfold dg1; rw [if_neg (by omega), if_pos c1]
    by_cases hl : (r : Int) - 87 < (b : Int)
    · have e3 : decide ((r : Int) - 87 < (b : Int)) = true := by simp [hl]
      go_enter Try.func75, Try.ntmps75
      go_wp2
      go_ret
      exact ⟨by unfold dig; rw [hd, if_pos (by omega)]; rfl, rfl⟩
    · have e3 : decide ((r : Int) - 87 < (b : Int)) = false := by simp [hl]
      go_enter Try.func75, Try.ntmps75
      go_wp2
      go_ret
      exact ⟨by unfold dig; rw [hd, if_neg (by omega)]; rfl, rfl⟩
  · by_cases c2 : 65 ≤ r ∧ r ≤ 70
    · have e1 : decide ((97 : Int) ≤ (r : Int)) = false := by simp; omega
      have e2 : decide ((65 : Int) ≤ (r : Int)) = true := by simp; omega
      have e4 : decide ((r : Int) ≤ 70) = true := by simp; omega
      have k2 : IntKind.i32.wrap ((r : Int) - 7) = (r : Int) - 7 := by rw [IntKind.wrap_i32]; omega
      have k3 : IntKind.i32.wrap ((r : Int) - 7 - 48) = (r : Int) - 55 := by rw [IntKind.wrap_i32]; omega
      have k4 : IntKind.i64.wrap ((r : Int) - 55) = (r : Int) - 55 := by rw [IntKind.wrap_i64]; omega
      have hd : dg1 r = (r : Int) - 55 := by unfold dg1; rw [if_neg (by omega), if_neg (by omega), if_pos c2]
      by_cases hl : (r : Int) - 55 < (b : Int)
      · have e3 : decide ((r : Int) - 55 < (b : Int)) = true := by simp [hl]
        go_enter Try.func75, Try.ntmps75
        go_wp2
        go_ret
        exact ⟨by unfold dig; rw [hd, if_pos (by omega)]; rfl, rfl⟩
      · have e3 : decide ((r : Int) - 55 < (b : Int)) = false := by simp [hl]
        go_enter Try.func75, Try.ntmps75
        go_wp2
        go_ret
        exact ⟨by unfold dig; rw [hd, if_neg (by omega)]; rfl, rfl⟩
    · by_cases c3 : 48 ≤ r ∧ r ≤ 57
      · have e1 : decide ((97 : Int) ≤ (r : Int)) = false := by simp; omega
        have e2 : decide ((65 : Int) ≤ (r : Int)) = false := by simp; omega
        have e4 : decide ((48 : Int) ≤ (r : Int)) = true := by simp; omega
        have e5 : decide ((r : Int) ≤ 57) = true := by simp; omega
        have k3 : IntKind.i32.wrap ((r : Int) - 48) = (r : Int) - 48 := by rw [IntKind.wrap_i32]; omega
        have k4 : IntKind.i64.wrap ((r : Int) - 48) = (r : Int) - 48 := by rw [IntKind.wrap_i64]; omega
        have hd : dg1 r = (r : Int) - 48 := by unfold dg1; rw [if_pos c3]
        by_cases hl : (r : Int) - 48 < (b : Int)
        · have e3 : decide ((r : Int) - 48 < (b : Int)) = true := by simp [hl]
          go_enter Try.func75, Try.ntmps75
          go_wp2
          go_ret
          exact ⟨by unfold dig; rw [hd, if_pos (by omega)]; rfl, rfl⟩
        · have e3 : decide ((r : Int) - 48 < (b : Int)) = false := by simp [hl]
          go_enter Try.func75, Try.ntmps75
          go_wp2
          go_ret
          exact ⟨by unfold dig; rw [hd, if_neg (by omega)]; rfl, rfl⟩
      · have hd : dig r b = -1 := by
          have : dg1 r = -1 := by unfold dg1; rw [if_neg c3, if_neg c1, if_neg c2]
          unfold dig; rw [this]; split <;> rfl
        rw [hd]
        clear hd
        go_enter Try.func75, Try.ntmps75
        go_wp2
        all_goals first
          | (go_ret; exact ⟨rfl, rfl⟩)
          | (exfalso; simp at *; omega)

theorem digit_any (c : Nat) (hc : c < 256) (x : Int) (w : World) : Calls Try.prog 70 #[.int .u8 c, .int .i64 x] w fun e w' => e = .returned (.int .i64 (digZ c x)) ∧ w' = w := by
  have hk : IntKind.i32.wrap (c : Int) = (c : Int) := by rw [IntKind.wrap_i32]; omega
  unfold digZ
  by_cases h : isB x
  · have hx : ((x.toNat : Nat) : Int) = x := by unfold isB at h; omega
    rw [if_pos h]
    have hv := fun w => value_any c x.toNat w
    rw [hx] at hv
    have hd : decide (isB x) = true := by simp [h]
    go_enter Try.func70, Try.ntmps70
    go_wp2_with (first
      | (go_at_call 74; refine (isBase_any _ _).mono ?_; rw [hd]; rintro e w' ⟨rfl, rfl⟩)
      | (go_at_call 75; refine (hv _).mono ?_; rintro e w' ⟨rfl, rfl⟩))
    go_ret
    exact ⟨rfl, rfl⟩
  · rw [if_neg h]
    have hd : decide (isB x) = false := by simp [h]
    go_enter Try.func70, Try.ntmps70
    go_wp2_with (go_at_call 74; refine (isBase_any _ _).mono ?_; rw [hd]; rintro e w' ⟨rfl, rfl⟩)
    go_ret
    exact ⟨rfl, rfl⟩

end Go.Proofs.Ytngagijcdehjpaa

