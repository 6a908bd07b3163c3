/-
  WHAT timesText ANSWERS: how often, written: a contract. Condition: what strconv.Itoa answers there.
-/
import Derived.Test.YtkladjjeacjgpaaDoorQTbt
namespace Go.Proofs.YtkladjjeacjgpaaDoor
open Go.RowKit

/-- how often, by six tests -/
def timesB (l0 hm l1 h1 ne gt : Bool) (a b : ByteArray) : ByteArray :=
  if (l0 && hm) then ⟨#[42]⟩ else if (l1 && hm) then ⟨#[43]⟩ else if (l0 && h1) then ⟨#[63]⟩
  else if ne then (if gt then ((⟨#[123]⟩ ++ ((a ++ ⟨#[44]⟩) ++ b)) ++ ⟨#[125]⟩) else ((⟨#[123]⟩ ++ (a ++ ⟨#[44]⟩)) ++ ⟨#[125]⟩))
  else (if gt then ((⟨#[123]⟩ ++ (a ++ b)) ++ ⟨#[125]⟩) else ((⟨#[123]⟩ ++ a) ++ ⟨#[125]⟩))

set_option maxRecDepth 100000 in
set_option maxHeartbeats 16000000 in
theorem times_any (lo hi : Int) (a b : ByteArray) (ha : a.size ≤ 100) (hb : b.size ≤ 100) (w : World)
    (HA : ∀ u : World, Calls Tryd.prog 68 #[.int .i64 lo] u fun e u' => e = .returned (.string a) ∧ u' = u) (HB : ∀ u : World, hi ≠ lo → decide (hi > lo) = true → Calls Tryd.prog 68 #[.int .i64 hi] u fun e u' => e = .returned (.string b) ∧ u' = u) :
    Calls Tryd.prog 47 #[.int .i64 lo, .int .i64 hi] w fun e w' => e = .returned (.string (timesB (lo == 0) (hi == -1) (lo == 1) (hi == 1) (hi != lo) (decide (hi > lo)) a b)) ∧ w' = w := by
  have HS := Lib.hid (fun u => isStar_any lo hi u)
  have HAA := Lib.hid HA
  have hne : decide (hi > lo) = true → hi ≠ lo := fun h e => by subst e; simp at h
  have HBB := Lib.hid (fun u (h : decide (hi > lo) = true) => HB u (hne h) h)
  clear HA HB hne
  unfold timesB
  cases l0 : (lo == 0) <;> cases hm : (hi == -1) <;> cases l1 : (lo == 1) <;> cases h1 : (hi == 1) <;> cases ne : (hi != lo) <;> cases gt : (decide (hi > lo))
  all_goals
    rw [l0, hm] at HS
    go_enter Tryd.func47, Tryd.ntmps47
    go_wp2_with (first
      | (go_at_call 60; go_must (refine (HS.out _).mono ?_); rintro e u ⟨rfl, rfl⟩)
      | (go_at_call_of 68 (Value.int .i64 lo); go_must (refine (HAA.out _).mono ?_); rintro e u ⟨rfl, rfl⟩)
      | (go_at_call_of 68 (Value.int .i64 hi); go_must (refine (HBB.out _ gt).mono ?_); rintro e u ⟨rfl, rfl⟩))
    go_ret
    exact ⟨rfl, rfl⟩

end Go.Proofs.YtkladjjeacjgpaaDoor

