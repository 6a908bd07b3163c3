/-
  hacklelaw08.NfaRuns ANSWERS true WHERE THE ARGUMENTS ARE LONGER THAN IT LOOKS AT. Condition: alive answers true.
-/
import Derived.Test.YtojejnjjenmfaaaQG07
namespace Go.Proofs.Ytojejnjjenmfaaa
open Go.RowKit

attribute [local irreducible] FreeW

set_option maxRecDepth 20000 in
set_option maxHeartbeats 16000000 in
theorem runs_long (hal : ∀ u : World, Calls Try.prog 6 #[] u fun e w' => e = .returned (.bool true) ∧ Below u.heap.size u w') (N : Nf) (at' : List Int) (s : ByteArray) (v va : Value) (w : World) (h : NfaAt w N v) (ha : IntsV w at' va) (hlong : 60 < N.sets.length ∨ 100 < at'.length ∨ 60 < s.size ∨ 80 < N.follow.length ∨ 100 < N.first.length ∨ 100 < N.rules.length ∨ 100 < N.ends.length) :
    Calls Try.prog 5 #[v, va, .string s] w fun e w' => e = .returned (.bool true) ∧ Below w.heap.size w w' := by
  obtain ⟨A0, A1, A2, A3, A4, c0, c1, c2, c3, c4, rfl⟩ := h.form
  have hia := ha
  obtain ⟨Aa, ca, rfl⟩ := ha.len0
  have hb0 : Below w.heap.size w (w.alloc (.cells #[.slice A0 N.sets.length c0, .slice A1 N.rules.length c1, .slice A2 N.first.length c2, .slice A3 N.follow.length c3, .slice A4 N.ends.length c4, .int .i64 N.empty] 42)) := (Below.refl _ _).alloc (Nat.le_refl _) _
  have hbx := BlkIs.new w 42 #[.slice A0 N.sets.length c0, .slice A1 N.rules.length c1, .slice A2 N.first.length c2, .slice A3 N.follow.length c3, .slice A4 N.ends.length c4, .int .i64 N.empty]
  obtain ⟨W1, hW1⟩ : ∃ W1, w.alloc (.cells #[.slice A0 N.sets.length c0, .slice A1 N.rules.length c1, .slice A2 N.first.length c2, .slice A3 N.follow.length c3, .slice A4 N.ends.length c4, .int .i64 N.empty] 42) = W1 := ⟨_, rfl⟩
  rw [hW1] at hb0 hbx
  have H0 := Lib.hid (And.intro hb0 hbx)
  have HAL := Lib.hid (hal W1)
  clear h ha hia hal hb0 hbx
  by_cases q0 : 60 < N.sets.length
  · have e0 : decide ((N.sets.length : Int) > 60) = true := by simp; omega
    have e0b : decide ((60 : Int) < (N.sets.length : Int)) = true := by simp; omega
    clear hlong q0
    go_enter Try.func5, Try.ntmps5
    go_wp2_with (go_at_call 6; go_must (refine HAL.out.mono ?_); rintro e w1 ⟨rfl, hb⟩; have HX := Lib.hid (And.intro (H0.out.1.trans (hb.mono H0.out.1.size)) (H0.out.2.step hb)); clear hb; obtain ⟨d0, d1, d2, d3, d4, d5⟩ := six HX.out.2)
    go_ret
    exact ⟨rfl, HX.out.1⟩
  have e0 : decide ((N.sets.length : Int) > 60) = false := by simp; omega
  have e0b : decide ((60 : Int) < (N.sets.length : Int)) = false := by simp; omega
  by_cases q1 : 100 < at'.length
  · have e1 : decide ((at'.length : Int) > 100) = true := by simp; omega
    have e1b : decide ((100 : Int) < (at'.length : Int)) = true := by simp; omega
    clear hlong q0 q1
    go_enter Try.func5, Try.ntmps5
    go_wp2_with (go_at_call 6; go_must (refine HAL.out.mono ?_); rintro e w1 ⟨rfl, hb⟩; have HX := Lib.hid (And.intro (H0.out.1.trans (hb.mono H0.out.1.size)) (H0.out.2.step hb)); clear hb; obtain ⟨d0, d1, d2, d3, d4, d5⟩ := six HX.out.2)
    go_ret
    exact ⟨rfl, HX.out.1⟩
  have e1 : decide ((at'.length : Int) > 100) = false := by simp; omega
  have e1b : decide ((100 : Int) < (at'.length : Int)) = false := by simp; omega
  by_cases q2 : 60 < s.size
  · have e2 : decide ((s.size : Int) > 60) = true := by simp; omega
    have e2b : decide ((60 : Int) < (s.size : Int)) = true := by simp; omega
    clear hlong q0 q1 q2
    go_enter Try.func5, Try.ntmps5
    go_wp2_with (go_at_call 6; go_must (refine HAL.out.mono ?_); rintro e w1 ⟨rfl, hb⟩; have HX := Lib.hid (And.intro (H0.out.1.trans (hb.mono H0.out.1.size)) (H0.out.2.step hb)); clear hb; obtain ⟨d0, d1, d2, d3, d4, d5⟩ := six HX.out.2)
    go_ret
    exact ⟨rfl, HX.out.1⟩
  have e2 : decide ((s.size : Int) > 60) = false := by simp; omega
  have e2b : decide ((60 : Int) < (s.size : Int)) = false := by simp; omega
  by_cases q3 : 80 < N.follow.length
  · have e3 : decide ((N.follow.length : Int) > 80) = true := by simp; omega
    have e3b : decide ((80 : Int) < (N.follow.length : Int)) = true := by simp; omega
    clear hlong q0 q1 q2 q3
    go_enter Try.func5, Try.ntmps5
    go_wp2_with (go_at_call 6; go_must (refine HAL.out.mono ?_); rintro e w1 ⟨rfl, hb⟩; have HX := Lib.hid (And.intro (H0.out.1.trans (hb.mono H0.out.1.size)) (H0.out.2.step hb)); clear hb; obtain ⟨d0, d1, d2, d3, d4, d5⟩ := six HX.out.2)
    go_ret
    exact ⟨rfl, HX.out.1⟩
  have e3 : decide ((N.follow.length : Int) > 80) = false := by simp; omega
  have e3b : decide ((80 : Int) < (N.follow.length : Int)) = false := by simp; omega
  by_cases q4 : 100 < N.first.length
  · have e4 : decide ((N.first.length : Int) > 100) = true := by simp; omega
    have e4b : decide ((100 : Int) < (N.first.length : Int)) = true := by simp; omega
    clear hlong q0 q1 q2 q3 q4
    go_enter Try.func5, Try.ntmps5
    go_wp2_with (go_at_call 6; go_must (refine HAL.out.mono ?_); rintro e w1 ⟨rfl, hb⟩; have HX := Lib.hid (And.intro (H0.out.1.trans (hb.mono H0.out.1.size)) (H0.out.2.step hb)); clear hb; obtain ⟨d0, d1, d2, d3, d4, d5⟩ := six HX.out.2)
    go_ret
    exact ⟨rfl, HX.out.1⟩
  have e4 : decide ((N.first.length : Int) > 100) = false := by simp; omega
  have e4b : decide ((100 : Int) < (N.first.length : Int)) = false := by simp; omega
  by_cases q5 : 100 < N.rules.length
  · have e5 : decide ((N.rules.length : Int) > 100) = true := by simp; omega
    have e5b : decide ((100 : Int) < (N.rules.length : Int)) = true := by simp; omega
    clear hlong q0 q1 q2 q3 q4 q5
    go_enter Try.func5, Try.ntmps5
    go_wp2_with (go_at_call 6; go_must (refine HAL.out.mono ?_); rintro e w1 ⟨rfl, hb⟩; have HX := Lib.hid (And.intro (H0.out.1.trans (hb.mono H0.out.1.size)) (H0.out.2.step hb)); clear hb; obtain ⟨d0, d1, d2, d3, d4, d5⟩ := six HX.out.2)
    go_ret
    exact ⟨rfl, HX.out.1⟩
  have e5 : decide ((N.rules.length : Int) > 100) = false := by simp; omega
  have e5b : decide ((100 : Int) < (N.rules.length : Int)) = false := by simp; omega
  by_cases q6 : 100 < N.ends.length
  · have e6 : decide ((N.ends.length : Int) > 100) = true := by simp; omega
    have e6b : decide ((100 : Int) < (N.ends.length : Int)) = true := by simp; omega
    clear hlong q0 q1 q2 q3 q4 q5 q6
    go_enter Try.func5, Try.ntmps5
    go_wp2_with (go_at_call 6; go_must (refine HAL.out.mono ?_); rintro e w1 ⟨rfl, hb⟩; have HX := Lib.hid (And.intro (H0.out.1.trans (hb.mono H0.out.1.size)) (H0.out.2.step hb)); clear hb; obtain ⟨d0, d1, d2, d3, d4, d5⟩ := six HX.out.2)
    go_ret
    exact ⟨rfl, HX.out.1⟩
  have e6 : decide ((N.ends.length : Int) > 100) = false := by simp; omega
  have e6b : decide ((100 : Int) < (N.ends.length : Int)) = false := by simp; omega
  exfalso; omega
end Go.Proofs.Ytojejnjjenmfaaa

