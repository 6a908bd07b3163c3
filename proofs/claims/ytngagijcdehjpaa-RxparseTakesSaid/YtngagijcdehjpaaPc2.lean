/-
  THE READERS OF PACKAGE rxparse THAT READ NO TREE: contracts: from wherever a parser stands they answer as the plain functions of Pars say: a value and the place behind it, or a panic with a place and an error. Condition: a text has at most 400 bytes.
-/
import Derived.Test.YtngagijcdehjpaaPc1
import Derived.LoopTactic
namespace Go.Proofs.Ytngagijcdehjpaa
open Go.RowKit

/-- a parser stands at place i, o groups are open; all else is as it was in W0 -/
def St (pb : Nat) (s : ByteArray) (F : Value) (W0 W : World) (i o : Nat) : Prop := Kept pb W0 W ∧ PIs W pb s i o F ∧ i ≤ s.size ∧ s.size ≤ 400
/-- how a reader ends whose answer is r -/
def EndsAs {α : Type} (pb : Nat) (s : ByteArray) (F : Value) (W0 : World) (enc : World → α → Value → Prop) (o : Nat) : Res α → Ending → World → Prop
  | .ok (a, j), e, W' => (∃ v, e = .returned v ∧ enc W' a v) ∧ St pb s F W0 W' j o
  | .error q, e, W' => e = .panicked [{ v := fltV q, recovered := false }] ∧ Kept pb W0 W'

section
variable {pb : Nat} {s : ByteArray} {F : Value} {W0 W : World} {i o : Nat}
theorem St.draw (h : St pb s F W0 W i o) (m : Nat) : St pb s F W0 (W.drewN m) i o := ⟨h.1.trans (Kept.drewN pb W m), h.2.1.draw m, h.2.2⟩
theorem St.step {W' : World} (h : St pb s F W0 W i o) (hb : Below W.heap.size W W') : St pb s F W0 W' i o := ⟨h.1.trans (Kept.below hb (Nat.le_of_lt h.2.1.lt)), h.2.1.step hb, h.2.2⟩
theorem St.to1 (h : St pb s F W0 W i o) (hi : i < s.size) : St pb s F W0 (W.setCell ⟨pb, 1, none⟩ (.int .i64 ((i : Int) + 1))) (i + 1) o := ⟨h.1.trans (Kept.put _ _ _ _), h.2.1.to1, hi, h.2.2.2⟩
theorem sgnAt_lt (h : sgnAt s i ≠ 0) : i < s.size := by
  unfold sgnAt at h
  split at h
  · assumption
  · exact absurd rfl h
theorem isAt_lt {b : Nat} (h : isAt s i b = true) : i < s.size := by
  unfold isAt at h; simp at h; exact h.1

theorem tookY (b : Nat) (h : St pb s F W0 W i o) (hb : isAt s i b = true) : Calls Try.prog 36 #[ptrP pb, .int .u8 b] W fun e W' => e = .returned (.bool true) ∧ St pb s F W0 W' (i + 1) o :=
  (took_any W pb s i o F b h.2.1 h.2.2.1 h.2.2.2).mono fun e W' ⟨h1, h2, h3⟩ => by
    rw [hb] at h1; rw [if_pos hb] at h2
    exact ⟨h1, h.1.trans h3, h2, isAt_lt hb, h.2.2.2⟩
theorem tookN (b : Nat) (h : St pb s F W0 W i o) (hb : isAt s i b = false) : Calls Try.prog 36 #[ptrP pb, .int .u8 b] W fun e W' => e = .returned (.bool false) ∧ St pb s F W0 W' i o :=
  (took_any W pb s i o F b h.2.1 h.2.2.1 h.2.2.2).mono fun e W' ⟨h1, h2, h3⟩ => by
    rw [hb] at h1; rw [if_neg (by rw [hb]; decide)] at h2
    exact ⟨h1, h.1.trans h3, h2, h.2.2⟩
theorem mustY (b : Nat) (h : St pb s F W0 W i o) (hb : isAt s i b = true) : Calls Try.prog 58 #[ptrP pb, .int .u8 b] W fun e W' => e = .returned (.tuple #[]) ∧ St pb s F W0 W' (i + 1) o :=
  (must_any W pb s i o F b h.2.1 h.2.2.1 h.2.2.2).mono fun _ _ hh => by
    rw [if_pos hb] at hh
    obtain ⟨h1, ⟨v, h2, h3⟩, h4⟩ := hh.ok
    unfold encUnit at h3; subst h3
    exact ⟨h2, h.1.trans h1, h4, isAt_lt hb, h.2.2.2⟩
theorem mustN (b : Nat) (h : St pb s F W0 W i o) (hb : isAt s i b = false) : Calls Try.prog 58 #[ptrP pb, .int .u8 b] W fun e W' => e = .panicked [{ v := fltV (i, 2), recovered := false }] ∧ Kept pb W0 W' :=
  (must_any W pb s i o F b h.2.1 h.2.2.1 h.2.2.2).mono fun _ _ hh => by
    rw [if_neg (by rw [hb]; decide)] at hh
    obtain ⟨h1, h2⟩ := Ans.bad hh
    exact ⟨h2, h.1.trans h1⟩
theorem nextS (h : St pb s F W0 W i o) : Calls Try.prog 42 #[ptrP pb] W fun e W' => e = .returned (.int .i64 (sgnAt s i : Nat)) ∧ St pb s F W0 W' i o :=
  (next_any W pb s i o F h.2.1 h.2.2.1).mono fun e W' ⟨h1, m, h2⟩ => by
    subst h2
    exact ⟨h1, h.draw m⟩
theorem wrongS (h : St pb s F W0 W i o) : Calls Try.prog 28 #[ptrP pb] W fun e W' => e = .returned (.agg #[.int .i64 (i : Nat), .int .i64 2]) ∧ Kept pb W0 W' :=
  (wrong_any W pb s i o F h.2.1).mono fun _ _ ⟨h1, h2⟩ => ⟨h1, h.1.trans (Kept.below h2 (Nat.le_of_lt h.2.1.lt))⟩
theorem takeS (h : St pb s F W0 W i o) (hi : i < s.size) : Calls Try.prog 52 #[ptrP pb] W fun e W' => e = .returned (.int .u8 (bt s i : Nat)) ∧ St pb s F W0 W' (i + 1) o :=
  (take_any W pb s i o F h.2.1 hi h.2.2.2).mono fun _ _ hh => by
    obtain ⟨h1, ⟨v, h2, h3, _⟩, h4⟩ := hh.ok
    subst h3
    exact ⟨h2, h.1.trans h1, h4, hi, h.2.2.2⟩
theorem digitY (b : Nat) (hb : b = 10 ∨ b = 16) (h : St pb s F W0 W i o) {n j : Nat} (hd : digP s b i = .ok (n, j)) : Calls Try.prog 65 #[ptrP pb, .int .i64 (b : Nat)] W fun e W' => e = .returned (.int .i64 (n : Nat)) ∧ St pb s F W0 W' j o :=
  (digit_reads W pb s i o F b hb h.2.1 h.2.2.1 h.2.2.2).mono fun _ _ hh => by
    rw [hd] at hh
    obtain ⟨h1, ⟨v, h2, h3⟩, h4⟩ := hh.ok
    unfold encInt at h3; subst h3
    refine ⟨h2, h.1.trans h1, h4, ?_, h.2.2.2⟩
    unfold digP at hd
    split at hd
    · rename_i hl; injection hd with hd; injection hd with _ hd; omega
    · simp [bad] at hd
theorem digitN (b : Nat) (hb : b = 10 ∨ b = 16) (h : St pb s F W0 W i o) {q : Nat × Nat} (hd : digP s b i = .error q) : Calls Try.prog 65 #[ptrP pb, .int .i64 (b : Nat)] W fun e W' => e = .panicked [{ v := fltV q, recovered := false }] ∧ Kept pb W0 W' :=
  (digit_reads W pb s i o F b hb h.2.1 h.2.2.1 h.2.2.2).mono fun _ _ hh => by
    rw [hd] at hh
    obtain ⟨h1, h2⟩ := Ans.bad hh
    exact ⟨h2, h.1.trans h1⟩
theorem valueS (b : Nat) (hb : b = 10 ∨ b = 16) (h : St pb s F W0 W i o) : Calls Try.prog 66 #[ptrP pb, .int .i64 (b : Nat)] W fun e W' => e = .returned (.int .i64 (if i < s.size then dig (bt s i) b else -1)) ∧ St pb s F W0 W' i o :=
  (valueAt_any W pb s i o F b hb h.2.1 h.2.2.1).mono fun e W' ⟨h1, m, h2⟩ => by
    subst h2
    exact ⟨h1, h.draw m⟩
theorem dig_some {b n j : Nat} (hb : 0 < b) (h : digP s b i = .ok (n, j)) : n < b ∧ i < s.size ∧ j = i + 1 := by
  unfold digP at h
  split at h
  · rename_i hl
    injection h with h; injection h with h1 h2
    have := dig_lt (bt s i) b hb
    exact ⟨by omega, hl.1, h2.symm⟩
  · simp [bad] at h

theorem encByte_of {W : World} {z : Int} {n : Nat} (h : z = (n : Int)) (h2 : n < 256) : encByte W n (.int .u8 z) := by unfold encByte; rw [h]; exact ⟨rfl, h2⟩
theorem encInt_of {W : World} {z : Int} {n : Nat} (h : z = (n : Int)) : encInt W n (.int .i64 z) := by unfold encInt; rw [h]
/-! ### numbers -/
theorem number_any (h : St pb s F W0 W i o) : Calls Try.prog 59 #[ptrP pb] W (EndsAs pb s F W0 encInt o (numP s i)) := by
  have hd0 := fun W (h : St pb s F W0 W i o) => @digitY pb s F W0 W i o 10 (.inl rfl) h
  have hd1 := fun W (h : St pb s F W0 W i o) => @digitN pb s F W0 W i o 10 (.inl rfl) h
  unfold numP
  rcases hn : digP s 10 i with q | ⟨n, j⟩
  · replace hd1 := fun W h => hd1 W h hn
    simp only [Res.then]
    go_enter Try.func59, Try.ntmps59
    go_wp2_with (go_at_call 65; refine (hd1 _ h).mono ?_; rintro e W1 ⟨rfl, hk⟩)
    exact ⟨rfl, rfl, hk⟩
  · replace hd0 := fun W h => hd0 W h hn
    obtain ⟨hn9, hil, rfl⟩ := dig_some (by decide) hn
    have hv := fun W (h : St pb s F W0 W (i + 1) o) => @valueS pb s F W0 W (i + 1) o 10 (.inl rfl) h
    have hd2 := fun W (h : St pb s F W0 W (i + 1) o) => @digitY pb s F W0 W (i + 1) o 10 (.inl rfl) h
    simp only [Res.then]
    by_cases hn0 : 0 < n
    · have e0 : decide (0 < (n : Int)) = true := by simp; omega
      by_cases h2 : i + 1 < s.size ∧ 0 ≤ dig (bt s (i + 1)) 10
      · rw [if_pos ⟨hn0, h2⟩]
        simp only [h2.1, if_true] at hv
        obtain ⟨m, hm⟩ : ∃ m : Nat, dig (bt s (i + 1)) 10 = (m : Int) := ⟨(dig (bt s (i + 1)) 10).toNat, by omega⟩
        have hdm : digP s 10 (i + 1) = .ok (m, i + 1 + 1) := by unfold digP; rw [if_pos h2, hm]; rfl
        rw [hdm]
        replace hd2 := fun W h => hd2 W h hdm
        rw [hm] at hv
        have hm9 := (dig_some (by decide) hdm).1
        have e1 : decide (0 ≤ (m : Int)) = true := by simp
        go_enter Try.func59, Try.ntmps59
        go_wp2_with (first
          | (go_at_call 65; refine (hd0 _ h).mono ?_; rintro e W1 ⟨rfl, hS1⟩)
          | (go_at_call 66; refine (hv _ hS1).mono ?_; rintro e W2 ⟨rfl, hS2⟩)
          | (go_at_call 65; refine (hd2 _ hS2).mono ?_; rintro e W3 ⟨rfl, hS3⟩))
        go_ret
        exact ⟨⟨_, rfl, encInt_of (by omega)⟩, hS3⟩
      · rw [if_neg (fun hh => h2 hh.2)]
        obtain ⟨z, hz, hneg⟩ : ∃ z : Int, (if i + 1 < s.size then dig (bt s (i + 1)) 10 else -1) = z ∧ z < 0 := by
          by_cases hl : i + 1 < s.size
          · rw [if_pos hl]; exact ⟨_, rfl, by omega⟩
          · rw [if_neg hl]; exact ⟨_, rfl, by decide⟩
        rw [hz] at hv
        have e1 : decide (0 ≤ z) = false := by simp; omega
        go_enter Try.func59, Try.ntmps59
        go_wp2_with (first
          | (go_at_call 65; refine (hd0 _ h).mono ?_; rintro e W1 ⟨rfl, hS1⟩)
          | (go_at_call 66; refine (hv _ hS1).mono ?_; rintro e W2 ⟨rfl, hS2⟩))
        go_ret
        exact ⟨⟨_, rfl, rfl⟩, hS2⟩
    · have e0 : decide (0 < (n : Int)) = false := by simp; omega
      rw [if_neg (fun hh => hn0 hh.1)]
      go_enter Try.func59, Try.ntmps59
      go_wp2_with (first
          | (go_at_call 65; refine (hd0 _ h).mono ?_; rintro e W1 ⟨rfl, hS1⟩))
      go_ret
      exact ⟨⟨_, rfl, rfl⟩, hS1⟩
theorem at_one {b c : Nat} (h : isAt s i b = true) (hne : b ≠ c) : isAt s i c = false := by
  unfold isAt at h ⊢
  simp at h ⊢
  intro _ h2
  exact hne (h.2.symm.trans h2)
set_option maxHeartbeats 1000000 in
theorem letter_any (h : St pb s F W0 W i o) : Calls Try.prog 61 #[ptrP pb] W (EndsAs pb s F W0 encByte o (letterP s i)) := by
  unfold letterP
  cases h110 : isAt s i 110
  case true =>
    rw [if_pos rfl]
    have k110 : ∀ W, St pb s F W0 W (i) o → Calls Try.prog 36 #[ptrP pb, .int .u8 110] W fun e W' => e = .returned (.bool true) ∧ St pb s F W0 W' (i + 1) o := fun _ h => tookY 110 h h110
    go_enter Try.func61, Try.ntmps61
    go_wp2_with (first
          | (go_at_call 36; with_reducible refine (k110 _ h).mono ?_; rintro e W110 ⟨rfl, g110⟩))
    go_ret
    exact ⟨⟨_, rfl, rfl, by decide⟩, g110⟩
  rw [if_neg (by decide)]
  have k110 : ∀ W, St pb s F W0 W (i) o → Calls Try.prog 36 #[ptrP pb, .int .u8 110] W fun e W' => e = .returned (.bool false) ∧ St pb s F W0 W' (i) o := fun _ h => tookN 110 h h110
  cases h114 : isAt s i 114
  case true =>
    rw [if_pos rfl]
    have k114 : ∀ W, St pb s F W0 W (i) o → Calls Try.prog 36 #[ptrP pb, .int .u8 114] W fun e W' => e = .returned (.bool true) ∧ St pb s F W0 W' (i + 1) o := fun _ h => tookY 114 h h114
    go_enter Try.func61, Try.ntmps61
    go_wp2_with (first
          | (go_at_call 36; with_reducible refine (k110 _ h).mono ?_; rintro e W110 ⟨rfl, g110⟩)
          | (go_at_call 36; with_reducible refine (k114 _ g110).mono ?_; rintro e W114 ⟨rfl, g114⟩))
    go_ret
    exact ⟨⟨_, rfl, rfl, by decide⟩, g114⟩
  rw [if_neg (by decide)]
  have k114 : ∀ W, St pb s F W0 W (i) o → Calls Try.prog 36 #[ptrP pb, .int .u8 114] W fun e W' => e = .returned (.bool false) ∧ St pb s F W0 W' (i) o := fun _ h => tookN 114 h h114
  cases h116 : isAt s i 116
  case true =>
    rw [if_pos rfl]
    have k116 : ∀ W, St pb s F W0 W (i) o → Calls Try.prog 36 #[ptrP pb, .int .u8 116] W fun e W' => e = .returned (.bool true) ∧ St pb s F W0 W' (i + 1) o := fun _ h => tookY 116 h h116
    go_enter Try.func61, Try.ntmps61
    go_wp2_with (first
          | (go_at_call 36; with_reducible refine (k110 _ h).mono ?_; rintro e W110 ⟨rfl, g110⟩)
          | (go_at_call 36; with_reducible refine (k114 _ g110).mono ?_; rintro e W114 ⟨rfl, g114⟩)
          | (go_at_call 36; with_reducible refine (k116 _ g114).mono ?_; rintro e W116 ⟨rfl, g116⟩))
    go_ret
    exact ⟨⟨_, rfl, rfl, by decide⟩, g116⟩
  rw [if_neg (by decide)]
  have k116 : ∀ W, St pb s F W0 W (i) o → Calls Try.prog 36 #[ptrP pb, .int .u8 116] W fun e W' => e = .returned (.bool false) ∧ St pb s F W0 W' (i) o := fun _ h => tookN 116 h h116
  cases h120 : isAt s i 120
  case false =>
    rw [if_neg (by decide)]
    have k120 : ∀ W, St pb s F W0 W (i) o → Calls Try.prog 36 #[ptrP pb, .int .u8 120] W fun e W' => e = .returned (.bool false) ∧ St pb s F W0 W' (i) o := fun _ h => tookN 120 h h120
    go_enter Try.func61, Try.ntmps61
    go_wp2_with (first
          | (go_at_call 36; with_reducible refine (k110 _ h).mono ?_; rintro e W110 ⟨rfl, g110⟩)
          | (go_at_call 36; with_reducible refine (k114 _ g110).mono ?_; rintro e W114 ⟨rfl, g114⟩)
          | (go_at_call 36; with_reducible refine (k116 _ g114).mono ?_; rintro e W116 ⟨rfl, g116⟩)
          | (go_at_call 36; with_reducible refine (k120 _ g116).mono ?_; rintro e W120 ⟨rfl, g120⟩)
          | (go_at_call 28; refine (wrongS g120).mono ?_; rintro e W5 ⟨rfl, hk⟩))
    exact ⟨rfl, rfl, hk⟩
  rw [if_pos rfl]
  have k120 : ∀ W, St pb s F W0 W (i) o → Calls Try.prog 36 #[ptrP pb, .int .u8 120] W fun e W' => e = .returned (.bool true) ∧ St pb s F W0 W' (i + 1) o := fun _ h => tookY 120 h h120
  have hd0 := fun W (h : St pb s F W0 W (i + 1) o) => @digitY pb s F W0 W (i + 1) o 16 (.inr rfl) h
  have hd1 := fun W (h : St pb s F W0 W (i + 1) o) => @digitN pb s F W0 W (i + 1) o 16 (.inr rfl) h
  rcases hn : digP s 16 (i + 1) with q | ⟨n, j⟩
  · replace hd1 := fun W h => hd1 W h hn
    simp only [Res.then]
    go_enter Try.func61, Try.ntmps61
    go_wp2_with (first
          | (go_at_call 36; with_reducible refine (k110 _ h).mono ?_; rintro e W110 ⟨rfl, g110⟩)
          | (go_at_call 36; with_reducible refine (k114 _ g110).mono ?_; rintro e W114 ⟨rfl, g114⟩)
          | (go_at_call 36; with_reducible refine (k116 _ g114).mono ?_; rintro e W116 ⟨rfl, g116⟩)
          | (go_at_call 36; with_reducible refine (k120 _ g116).mono ?_; rintro e W120 ⟨rfl, g120⟩)
          | (go_at_call 65; refine (hd1 _ g120).mono ?_; rintro e W5 ⟨rfl, hk⟩))
    exact ⟨rfl, rfl, hk⟩
  · replace hd0 := fun W h => hd0 W h hn
    obtain ⟨hn9, hil, rfl⟩ := dig_some (by decide) hn
    have hd2 := fun W (h : St pb s F W0 W (i + 1 + 1) o) => @digitY pb s F W0 W (i + 1 + 1) o 16 (.inr rfl) h
    have hd3 := fun W (h : St pb s F W0 W (i + 1 + 1) o) => @digitN pb s F W0 W (i + 1 + 1) o 16 (.inr rfl) h
    simp only [Res.then]
    rcases hm : digP s 16 (i + 1 + 1) with q | ⟨m, j⟩
    · replace hd3 := fun W h => hd3 W h hm
      simp only
      go_enter Try.func61, Try.ntmps61
      go_wp2_with (first
          | (go_at_call 36; with_reducible refine (k110 _ h).mono ?_; rintro e W110 ⟨rfl, g110⟩)
          | (go_at_call 36; with_reducible refine (k114 _ g110).mono ?_; rintro e W114 ⟨rfl, g114⟩)
          | (go_at_call 36; with_reducible refine (k116 _ g114).mono ?_; rintro e W116 ⟨rfl, g116⟩)
          | (go_at_call 36; with_reducible refine (k120 _ g116).mono ?_; rintro e W120 ⟨rfl, g120⟩)
          | (go_at_call 65; refine (hd0 _ g120).mono ?_; rintro e W6 ⟨rfl, g6⟩)
          | (go_at_call 65; refine (hd3 _ g6).mono ?_; rintro e W7 ⟨rfl, hk⟩))
      exact ⟨rfl, rfl, hk⟩
    · replace hd2 := fun W h => hd2 W h hm
      have hm9 := (dig_some (by decide) hm).1
      have ew : IntKind.u8.wrap (16 * (n : Int) + (m : Int)) = 16 * (n : Int) + (m : Int) := by rw [IntKind.wrap_u8]; omega
      simp only
      go_enter Try.func61, Try.ntmps61
      go_wp2_with (first
          | (go_at_call 36; with_reducible refine (k110 _ h).mono ?_; rintro e W110 ⟨rfl, g110⟩)
          | (go_at_call 36; with_reducible refine (k114 _ g110).mono ?_; rintro e W114 ⟨rfl, g114⟩)
          | (go_at_call 36; with_reducible refine (k116 _ g114).mono ?_; rintro e W116 ⟨rfl, g116⟩)
          | (go_at_call 36; with_reducible refine (k120 _ g116).mono ?_; rintro e W120 ⟨rfl, g120⟩)
          | (go_at_call 65; refine (hd0 _ g120).mono ?_; rintro e W6 ⟨rfl, g6⟩)
          | (go_at_call 65; refine (hd2 _ g6).mono ?_; rintro e W7 ⟨rfl, g7⟩))
      go_ret
      exact ⟨⟨_, rfl, encByte_of (by omega) (by omega)⟩, g7⟩
theorem sgn_at {c : Nat} (h : sgnAt s i = c) (hc : c ≠ 0) : i < s.size ∧ sgn (bt s i) = c := by
  have hl := sgnAt_lt (s := s) (i := i) (by omega)
  unfold sgnAt at h
  rw [if_pos hl] at h
  exact ⟨hl, h⟩
theorem sgn_inv : ∀ b : Fin 256, (sgn b.val = 16 → b.val = 92) ∧ (sgn b.val = 6 → b.val = 123) ∧ (sgn b.val = 10 → b.val = 91) ∧ (sgn b.val = 8 → b.val = 40) ∧ (sgn b.val = 13 → b.val = 60) := by decide +kernel
theorem is_at {b : Nat} (hl : i < s.size) (h : bt s i = b) : isAt s i b = true := by unfold isAt; simp [hl, h]
theorem sgn_back (h : sgnAt s i = 16) : isAt s i 92 = true := by
  obtain ⟨h1, h2⟩ := sgn_at h (by decide)
  exact is_at h1 ((sgn_inv ⟨bt s i, bt_lt s i⟩).1 h2)
theorem sgn_brace (h : sgnAt s i = 6) : isAt s i 123 = true := by
  obtain ⟨h1, h2⟩ := sgn_at h (by decide)
  exact is_at h1 ((sgn_inv ⟨bt s i, bt_lt s i⟩).2.1 h2)
theorem sgn_bracket (h : sgnAt s i = 10) : isAt s i 91 = true := by
  obtain ⟨h1, h2⟩ := sgn_at h (by decide)
  exact is_at h1 ((sgn_inv ⟨bt s i, bt_lt s i⟩).2.2.1 h2)
theorem sgn_paren (h : sgnAt s i = 8) : isAt s i 40 = true := by
  obtain ⟨h1, h2⟩ := sgn_at h (by decide)
  exact is_at h1 ((sgn_inv ⟨bt s i, bt_lt s i⟩).2.2.2.1 h2)
theorem sgn_angle (h : sgnAt s i = 13) : isAt s i 60 = true := by
  obtain ⟨h1, h2⟩ := sgn_at h (by decide)
  exact is_at h1 ((sgn_inv ⟨bt s i, bt_lt s i⟩).2.2.2.2 h2)
theorem escape_any (h : St pb s F W0 W i o) (hb : sgnAt s i = 16) : Calls Try.prog 53 #[ptrP pb] W (EndsAs pb s F W0 encByte o (escP s i)) := by
  have hb92 := sgn_back hb
  have hn := fun W (h : St pb s F W0 W (i + 1) o) => nextS h
  unfold escP
  by_cases h0 : sgnAt s (i + 1) = 0
  · rw [if_pos h0]
    simp only [h0] at hn
    go_enter Try.func53, Try.ntmps53
    go_wp2_with (first
          | (go_at_call 58; refine (mustY 92 h hb92).mono ?_; rintro e W5 ⟨rfl, g5⟩)
          | (go_at_call 42; refine (hn _ g5).mono ?_; rintro e W6 ⟨rfl, g6⟩)
          | (go_at_call 28; refine (wrongS g6).mono ?_; rintro e W7 ⟨rfl, hk⟩))
    exact ⟨rfl, rfl, hk⟩
  · rw [if_neg h0]
    have e0 : ((sgnAt s (i + 1) : Int) == 0) = false := by simp; omega
    by_cases h1 : sgnAt s (i + 1) = 1
    · rw [if_pos h1]
      have e1 : ((sgnAt s (i + 1) : Int) == 1) = true := by simp; omega
      have hL := fun W (h : St pb s F W0 W (i + 1) o) => letter_any h
      rcases hl : letterP s (i + 1) with q | ⟨n, j⟩
      · simp only [hl] at hL
        go_enter Try.func53, Try.ntmps53
        go_wp2_with (first
          | (go_at_call 58; refine (mustY 92 h hb92).mono ?_; rintro e W5 ⟨rfl, g5⟩)
          | (go_at_call 42; refine (hn _ g5).mono ?_; rintro e W6 ⟨rfl, g6⟩)
          | (go_at_call 61; refine (hL _ g6).mono ?_; rintro e W7 ⟨rfl, hk⟩))
        exact ⟨rfl, rfl, hk⟩
      · simp only [hl] at hL
        go_enter Try.func53, Try.ntmps53
        go_wp2_with (first
          | (go_at_call 58; refine (mustY 92 h hb92).mono ?_; rintro e W5 ⟨rfl, g5⟩)
          | (go_at_call 42; refine (hn _ g5).mono ?_; rintro e W6 ⟨rfl, g6⟩)
          | (go_at_call 61; refine (hL _ g6).mono ?_; rintro e W7 ⟨⟨v, rfl, rfl, hn9⟩, g7⟩))
        go_ret
        exact ⟨⟨_, rfl, rfl, hn9⟩, g7⟩
    · rw [if_neg h1]
      have e1 : ((sgnAt s (i + 1) : Int) == 1) = false := by simp; omega
      have hl := sgnAt_lt h0
      go_enter Try.func53, Try.ntmps53
      go_wp2_with (first
          | (go_at_call 58; refine (mustY 92 h hb92).mono ?_; rintro e W5 ⟨rfl, g5⟩)
          | (go_at_call 42; refine (hn _ g5).mono ?_; rintro e W6 ⟨rfl, g6⟩)
          | (go_at_call 52; refine (takeS g6 hl).mono ?_; rintro e W7 ⟨rfl, g7⟩))
      go_ret
      exact ⟨⟨_, rfl, rfl, bt_lt _ _⟩, g7⟩
end
end Go.Proofs.Ytngagijcdehjpaa

