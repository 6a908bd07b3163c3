/-
  THE READER OF NUMBERS BETWEEN { AND } of package rxparse: a contract. Condition: a text has at most 400 bytes.
-/
import Derived.Test.YtngagijcdehjpaaPc4
namespace Go.Proofs.Ytngagijcdehjpaa
open Go.RowKit
section
variable {pb : Nat} {s : ByteArray} {F : Value} {W0 W : World} {i o : Nat}
def encTwo (_ : World) (b : Int × Int) (v : Value) : Prop := v = .tuple #[.int .i64 b.1, .int .i64 b.2]
set_option maxHeartbeats 4000000 in
theorem bounds_any (h : St pb s F W0 W i o) (hb : sgnAt s i = 6) : Calls Try.prog 44 #[ptrP pb] W (EndsAs pb s F W0 encTwo o (boundsP s i)) := by
  have hb123 := sgn_brace hb
  obtain ⟨c0, c1, c2, c3, f0, f1, f2, f3⟩ := h.cells
  have k123 : ∀ W, St pb s F W0 W i o → Calls Try.prog 58 #[ptrP pb, .int .u8 123] W fun e W' => e = .returned (.tuple #[]) ∧ St pb s F W0 W' (i + 1) o := fun _ h => mustY 123 h hb123
  have hN1 := fun W (h : St pb s F W0 W (i + 1) o) => number_any h
  unfold boundsP
  rcases hl : numP s (i + 1) with q | ⟨lo, j⟩
  · simp only [hl] at hN1
    simp only [Res.then]
    go_enter Try.func44, Try.ntmps44
    go_wp2_with (first
      | (go_at_call 58; with_reducible refine (k123 _ h).mono ?_; rintro e W1 ⟨rfl, g1⟩)
      | (go_at_call 59; (with_reducible refine (hN1 _ g1).mono ?_); rintro e W2 ⟨rfl, hk⟩))
    exact ⟨rfl, rfl, hk⟩
  · simp only [hl] at hN1
    simp only [Res.then]
    cases h44 : isAt s j 44
    · rw [if_neg (by decide)]
      have k44 : ∀ W, St pb s F W0 W j o → Calls Try.prog 36 #[ptrP pb, .int .u8 44] W fun e W' => e = .returned (.bool false) ∧ St pb s F W0 W' j o := fun _ h => tookN 44 h h44
      unfold shutP
      cases hz : isAt s (j) 125
      · rw [if_neg (by decide)]
        have kz : ∀ W, St pb s F W0 W (j) o → Calls Try.prog 58 #[ptrP pb, .int .u8 125] W fun e W' => e = .panicked [{ v := fltV ((j), 2), recovered := false }] ∧ Kept pb W0 W' := fun _ h => mustN 125 h hz
        go_enter Try.func44, Try.ntmps44
        go_wp2_with (first
          | (go_at_call 58; with_reducible refine (k123 _ h).mono ?_; rintro e W1 ⟨rfl, g1⟩)
          | (go_at_call 59; (with_reducible refine (hN1 _ g1).mono ?_); rintro e W2 ⟨⟨v, rfl, rfl⟩, g2⟩)
          | (go_at_call 36; with_reducible refine (k44 _ g2).mono ?_; rintro e W3 ⟨rfl, g3⟩)
          | (go_at_call 58; with_reducible refine (kz _ g3).mono ?_; rintro e W6 ⟨rfl, hk⟩))
        exact ⟨rfl, rfl, hk⟩
      · rw [if_pos rfl]
        have kz : ∀ W, St pb s F W0 W (j) o → Calls Try.prog 58 #[ptrP pb, .int .u8 125] W fun e W' => e = .returned (.tuple #[]) ∧ St pb s F W0 W' ((j) + 1) o := fun _ h => mustY 125 h hz
        by_cases hA : 64 < lo
        · rw [if_pos (Or.inl hA)]
          have eA : decide (64 < (lo : Int)) = true := by simp; try omega
          go_enter Try.func44, Try.ntmps44
          go_wp2_with (first
            | (go_at_call 58; with_reducible refine (k123 _ h).mono ?_; rintro e W1 ⟨rfl, g1⟩)
            | (go_at_call 59; (with_reducible refine (hN1 _ g1).mono ?_); rintro e W2 ⟨⟨v, rfl, rfl⟩, g2⟩)
            | (go_at_call 36; with_reducible refine (k44 _ g2).mono ?_; rintro e W3 ⟨rfl, g3⟩)
            | (go_at_call 58; with_reducible refine (kz _ g3).mono ?_; rintro e W6 ⟨rfl, g6⟩))
          exact ⟨rfl, rfl, g6.kept⟩
        have eA : decide (64 < (lo : Int)) = false := by simp; try omega
        have eB : decide (64 < ((lo : Int))) = false := by simp; try omega
        rw [if_neg (by omega)]
        have eC : (((lo : Int)) == -1) = false := by simp; try omega
        have eD : decide (((lo : Int)) < (lo : Int)) = false := by simp; try omega
        go_enter Try.func44, Try.ntmps44
        go_wp2_with (first
          | (go_at_call 58; with_reducible refine (k123 _ h).mono ?_; rintro e W1 ⟨rfl, g1⟩)
          | (go_at_call 59; (with_reducible refine (hN1 _ g1).mono ?_); rintro e W2 ⟨⟨v, rfl, rfl⟩, g2⟩)
          | (go_at_call 36; with_reducible refine (k44 _ g2).mono ?_; rintro e W3 ⟨rfl, g3⟩)
          | (go_at_call 58; with_reducible refine (kz _ g3).mono ?_; rintro e W6 ⟨rfl, g6⟩))
        go_ret2
        exact ⟨⟨_, rfl, rfl⟩, g6⟩
    · rw [if_pos rfl]
      have k44 : ∀ W, St pb s F W0 W j o → Calls Try.prog 36 #[ptrP pb, .int .u8 44] W fun e W' => e = .returned (.bool true) ∧ St pb s F W0 W' (j + 1) o := fun _ h => tookY 44 h h44
      have hX := fun W (h : St pb s F W0 W (j + 1) o) => nextS h
      by_cases h7 : sgnAt s (j + 1) = 7
      · rw [if_pos h7]
        simp only [h7] at hX
        unfold shutP
        cases hz : isAt s (j + 1) 125
        · rw [if_neg (by decide)]
          have kz : ∀ W, St pb s F W0 W (j + 1) o → Calls Try.prog 58 #[ptrP pb, .int .u8 125] W fun e W' => e = .panicked [{ v := fltV ((j + 1), 2), recovered := false }] ∧ Kept pb W0 W' := fun _ h => mustN 125 h hz
          go_enter Try.func44, Try.ntmps44
          go_wp2_with (first
            | (go_at_call 58; with_reducible refine (k123 _ h).mono ?_; rintro e W1 ⟨rfl, g1⟩)
            | (go_at_call 59; (with_reducible refine (hN1 _ g1).mono ?_); rintro e W2 ⟨⟨v, rfl, rfl⟩, g2⟩)
            | (go_at_call 36; with_reducible refine (k44 _ g2).mono ?_; rintro e W3 ⟨rfl, g3⟩)
            | (go_at_call 42; with_reducible refine (hX _ g3).mono ?_; rintro e W4 ⟨rfl, g4⟩)
            | (go_at_call 58; with_reducible refine (kz _ g4).mono ?_; rintro e W6 ⟨rfl, hk⟩))
          exact ⟨rfl, rfl, hk⟩
        · rw [if_pos rfl]
          have kz : ∀ W, St pb s F W0 W (j + 1) o → Calls Try.prog 58 #[ptrP pb, .int .u8 125] W fun e W' => e = .returned (.tuple #[]) ∧ St pb s F W0 W' ((j + 1) + 1) o := fun _ h => mustY 125 h hz
          by_cases hA : 64 < lo
          · rw [if_pos (Or.inl hA)]
            have eA : decide (64 < (lo : Int)) = true := by simp; try omega
            go_enter Try.func44, Try.ntmps44
            go_wp2_with (first
              | (go_at_call 58; with_reducible refine (k123 _ h).mono ?_; rintro e W1 ⟨rfl, g1⟩)
              | (go_at_call 59; (with_reducible refine (hN1 _ g1).mono ?_); rintro e W2 ⟨⟨v, rfl, rfl⟩, g2⟩)
              | (go_at_call 36; with_reducible refine (k44 _ g2).mono ?_; rintro e W3 ⟨rfl, g3⟩)
              | (go_at_call 42; with_reducible refine (hX _ g3).mono ?_; rintro e W4 ⟨rfl, g4⟩)
              | (go_at_call 58; with_reducible refine (kz _ g4).mono ?_; rintro e W6 ⟨rfl, g6⟩))
            exact ⟨rfl, rfl, g6.kept⟩
          have eA : decide (64 < (lo : Int)) = false := by simp; try omega
          have eB : decide (64 < ((-1 : Int))) = false := by simp; try omega
          rw [if_neg (by omega)]
          go_enter Try.func44, Try.ntmps44
          go_wp2_with (first
            | (go_at_call 58; with_reducible refine (k123 _ h).mono ?_; rintro e W1 ⟨rfl, g1⟩)
            | (go_at_call 59; (with_reducible refine (hN1 _ g1).mono ?_); rintro e W2 ⟨⟨v, rfl, rfl⟩, g2⟩)
            | (go_at_call 36; with_reducible refine (k44 _ g2).mono ?_; rintro e W3 ⟨rfl, g3⟩)
            | (go_at_call 42; with_reducible refine (hX _ g3).mono ?_; rintro e W4 ⟨rfl, g4⟩)
            | (go_at_call 58; with_reducible refine (kz _ g4).mono ?_; rintro e W6 ⟨rfl, g6⟩))
          go_ret2
          exact ⟨⟨_, rfl, rfl⟩, g6⟩
      · rw [if_neg h7]
        have e7 : ((sgnAt s (j + 1) : Int) == 7) = false := by simp; try omega
        have hN2 := fun W (h : St pb s F W0 W (j + 1) o) => number_any h
        rcases hl2 : numP s (j + 1) with q | ⟨hi, k⟩
        · simp only [hl2] at hN2
          simp only
          go_enter Try.func44, Try.ntmps44
          go_wp2_with (first
            | (go_at_call 58; with_reducible refine (k123 _ h).mono ?_; rintro e W1 ⟨rfl, g1⟩)
            | (go_at_call 59; (with_reducible refine (hN1 _ g1).mono ?_); rintro e W2 ⟨⟨v, rfl, rfl⟩, g2⟩)
            | (go_at_call 36; with_reducible refine (k44 _ g2).mono ?_; rintro e W3 ⟨rfl, g3⟩)
            | (go_at_call 42; with_reducible refine (hX _ g3).mono ?_; rintro e W4 ⟨rfl, g4⟩)
            | (go_at_call 59; (with_reducible refine (hN2 _ g4).mono ?_); rintro e W5 ⟨rfl, hk⟩))
          exact ⟨rfl, rfl, hk⟩
        · simp only [hl2] at hN2
          simp only
          unfold shutP
          cases hz : isAt s (k) 125
          · rw [if_neg (by decide)]
            have kz : ∀ W, St pb s F W0 W (k) o → Calls Try.prog 58 #[ptrP pb, .int .u8 125] W fun e W' => e = .panicked [{ v := fltV ((k), 2), recovered := false }] ∧ Kept pb W0 W' := fun _ h => mustN 125 h hz
            go_enter Try.func44, Try.ntmps44
            go_wp2_with (first
              | (go_at_call 58; with_reducible refine (k123 _ h).mono ?_; rintro e W1 ⟨rfl, g1⟩)
              | (go_at_call 59; (with_reducible refine (hN1 _ g1).mono ?_); rintro e W2 ⟨⟨v, rfl, rfl⟩, g2⟩)
              | (go_at_call 36; with_reducible refine (k44 _ g2).mono ?_; rintro e W3 ⟨rfl, g3⟩)
              | (go_at_call 42; with_reducible refine (hX _ g3).mono ?_; rintro e W4 ⟨rfl, g4⟩)
              | (go_at_call 59; (with_reducible refine (hN2 _ g4).mono ?_); rintro e W5 ⟨⟨v, rfl, rfl⟩, g5⟩)
              | (go_at_call 58; with_reducible refine (kz _ g5).mono ?_; rintro e W6 ⟨rfl, hk⟩))
            exact ⟨rfl, rfl, hk⟩
          · rw [if_pos rfl]
            have kz : ∀ W, St pb s F W0 W (k) o → Calls Try.prog 58 #[ptrP pb, .int .u8 125] W fun e W' => e = .returned (.tuple #[]) ∧ St pb s F W0 W' ((k) + 1) o := fun _ h => mustY 125 h hz
            by_cases hA : 64 < lo
            · rw [if_pos (Or.inl hA)]
              have eA : decide (64 < (lo : Int)) = true := by simp; try omega
              go_enter Try.func44, Try.ntmps44
              go_wp2_with (first
                | (go_at_call 58; with_reducible refine (k123 _ h).mono ?_; rintro e W1 ⟨rfl, g1⟩)
                | (go_at_call 59; (with_reducible refine (hN1 _ g1).mono ?_); rintro e W2 ⟨⟨v, rfl, rfl⟩, g2⟩)
                | (go_at_call 36; with_reducible refine (k44 _ g2).mono ?_; rintro e W3 ⟨rfl, g3⟩)
                | (go_at_call 42; with_reducible refine (hX _ g3).mono ?_; rintro e W4 ⟨rfl, g4⟩)
                | (go_at_call 59; (with_reducible refine (hN2 _ g4).mono ?_); rintro e W5 ⟨⟨v, rfl, rfl⟩, g5⟩)
                | (go_at_call 58; with_reducible refine (kz _ g5).mono ?_; rintro e W6 ⟨rfl, g6⟩))
              exact ⟨rfl, rfl, g6.kept⟩
            have eA : decide (64 < (lo : Int)) = false := by simp; try omega
            by_cases hB : 64 < ((hi : Int))
            · rw [if_pos (Or.inr (Or.inl (by omega)))]
              have eB : decide (64 < ((hi : Int))) = true := by simp; try omega
              go_enter Try.func44, Try.ntmps44
              go_wp2_with (first
                | (go_at_call 58; with_reducible refine (k123 _ h).mono ?_; rintro e W1 ⟨rfl, g1⟩)
                | (go_at_call 59; (with_reducible refine (hN1 _ g1).mono ?_); rintro e W2 ⟨⟨v, rfl, rfl⟩, g2⟩)
                | (go_at_call 36; with_reducible refine (k44 _ g2).mono ?_; rintro e W3 ⟨rfl, g3⟩)
                | (go_at_call 42; with_reducible refine (hX _ g3).mono ?_; rintro e W4 ⟨rfl, g4⟩)
                | (go_at_call 59; (with_reducible refine (hN2 _ g4).mono ?_); rintro e W5 ⟨⟨v, rfl, rfl⟩, g5⟩)
                | (go_at_call 58; with_reducible refine (kz _ g5).mono ?_; rintro e W6 ⟨rfl, g6⟩))
              exact ⟨rfl, rfl, g6.kept⟩
            have eB : decide (64 < ((hi : Int))) = false := by simp; try omega
            by_cases hC : ((hi : Int)) ≠ -1 ∧ ((hi : Int)) < (lo : Int)
            · rw [if_pos (Or.inr (Or.inr hC))]
              have eC : (((hi : Int)) == -1) = false := by simp; try omega
              have eD : decide (((hi : Int)) < (lo : Int)) = true := by simp; try omega
              go_enter Try.func44, Try.ntmps44
              go_wp2_with (first
                | (go_at_call 58; with_reducible refine (k123 _ h).mono ?_; rintro e W1 ⟨rfl, g1⟩)
                | (go_at_call 59; (with_reducible refine (hN1 _ g1).mono ?_); rintro e W2 ⟨⟨v, rfl, rfl⟩, g2⟩)
                | (go_at_call 36; with_reducible refine (k44 _ g2).mono ?_; rintro e W3 ⟨rfl, g3⟩)
                | (go_at_call 42; with_reducible refine (hX _ g3).mono ?_; rintro e W4 ⟨rfl, g4⟩)
                | (go_at_call 59; (with_reducible refine (hN2 _ g4).mono ?_); rintro e W5 ⟨⟨v, rfl, rfl⟩, g5⟩)
                | (go_at_call 58; with_reducible refine (kz _ g5).mono ?_; rintro e W6 ⟨rfl, g6⟩))
              exact ⟨rfl, rfl, g6.kept⟩
            rw [if_neg (by omega)]
            have eC : (((hi : Int)) == -1) = false := by simp; try omega
            have eD : decide (((hi : Int)) < (lo : Int)) = false := by simp; try omega
            go_enter Try.func44, Try.ntmps44
            go_wp2_with (first
              | (go_at_call 58; with_reducible refine (k123 _ h).mono ?_; rintro e W1 ⟨rfl, g1⟩)
              | (go_at_call 59; (with_reducible refine (hN1 _ g1).mono ?_); rintro e W2 ⟨⟨v, rfl, rfl⟩, g2⟩)
              | (go_at_call 36; with_reducible refine (k44 _ g2).mono ?_; rintro e W3 ⟨rfl, g3⟩)
              | (go_at_call 42; with_reducible refine (hX _ g3).mono ?_; rintro e W4 ⟨rfl, g4⟩)
              | (go_at_call 59; (with_reducible refine (hN2 _ g4).mono ?_); rintro e W5 ⟨⟨v, rfl, rfl⟩, g5⟩)
              | (go_at_call 58; with_reducible refine (kz _ g5).mono ?_; rintro e W6 ⟨rfl, g6⟩))
            go_ret2
            exact ⟨⟨_, rfl, rfl⟩, g6⟩
end
end Go.Proofs.Ytngagijcdehjpaa

