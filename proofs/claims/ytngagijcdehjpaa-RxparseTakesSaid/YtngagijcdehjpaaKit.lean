/-
  WHAT IS SAID OF NO PROGRAM: a loop that is over within n rounds; sets of bytes as four words, by which byte is in. No condition.
-/
import Derived.WalkKit
import Derived.WalkSpells
import Derived.ProofKit
namespace Go.Proofs.Ytngagijcdehjpaa
open Go.RowKit

/-- 'the loop is over within n rounds' -/
def Unr (P : Program) (c : Code) (Q : Exit → Act → World → Prop) : Nat → Act → World → Prop
  | 0, _, _ => False
  | n + 1, a, w => c.wp P (Exit.then (Unr P c Q n) Q) a w

theorem unr_succ {P : Program} {Q : Exit → Act → World → Prop} {a : Act} {w : World} {c : Code} {n : Nat}
    (h : ∀ K : Act → World → Prop, (∀ a w, Unr P c Q n a w → K a w) → c.wp P (Exit.then K Q) a w) : Unr P c Q (n + 1) a w :=
  h _ (fun _ _ h => h)

open Classical in
/-- A loop that is over within n rounds may be walked round by round. -/
theorem wp_loop_unr {P : Program} {Q : Exit → Act → World → Prop} {a : Act} {w : World} {c : Code} (n : Nat) (h : Unr P c Q n a w) : (Code.loop c).wp P Q a w := by
  have least : ∀ n a w, Unr P c Q n a w → ∃ m, Unr P c Q m a w ∧ ∀ k, k < m → ¬ Unr P c Q k a w := by
    intro n
    induction n using Nat.strongRecOn with
    | _ n ih =>
      intro a w h
      by_cases hk : ∃ k, k < n ∧ Unr P c Q k a w
      · obtain ⟨k, hlt, hu⟩ := hk
        exact ih k hlt a w hu
      · exact ⟨n, h, fun k hlt hu => hk ⟨k, hlt, hu⟩⟩
  refine wp_loop (fun a w => ∃ n, Unr P c Q n a w) (fun a w => if h : ∃ m, Unr P c Q m a w ∧ ∀ k, k < m → ¬ Unr P c Q k a w then h.choose else 0) ⟨n, h⟩ ?_
  intro a w hI
  have hm : ∃ m, Unr P c Q m a w ∧ ∀ k, k < m → ¬ Unr P c Q k a w := by obtain ⟨n, hn⟩ := hI; exact least n a w hn
  have hd := hm.choose_spec
  rw [dif_pos hm]
  generalize hm.choose = m at hd
  obtain ⟨hu, _⟩ := hd
  cases m with
  | zero => exact hu.elim
  | succ m =>
    refine Code.wp_mono (fun e a' w' q => ?_) hu
    cases e with
    | normal =>
      have q' : Unr P c Q m a' w' := q
      refine ⟨⟨m, q'⟩, ?_⟩
      have hm' := least m a' w' q'
      rw [dif_pos hm']
      have hs := hm'.choose_spec
      rcases Nat.lt_or_ge m hm'.choose with hlt | hge
      · exact (hs.2 m hlt q').elim
      · exact Nat.lt_succ_of_le hge
    | _ => exact q

/-! ### a number out of bits -/
def wdN (f : Nat → Bool) : Nat → Nat
  | 0 => 0
  | n + 1 => wdN f n + (if f n then 2 ^ n else 0)

theorem wdN_lt (f : Nat → Bool) : ∀ n, wdN f n < 2 ^ n
  | 0 => by simp [wdN]
  | n + 1 => by
    have := wdN_lt f n
    have h2 : 2 ^ (n + 1) = 2 ^ n + 2 ^ n := by rw [Nat.pow_succ]; omega
    unfold wdN
    split <;> omega

theorem wdN_testBit (f : Nat → Bool) : ∀ n i, (wdN f n).testBit i = (decide (i < n) && f i)
  | 0, i => by simp [wdN]
  | n + 1, i => by
    have ih := wdN_testBit f n
    have hlt := wdN_lt f n
    have e : wdN f (n + 1) = 2 ^ n * (if f n then 1 else 0) + wdN f n := by
      show wdN f n + (if f n then 2 ^ n else 0) = _
      cases f n <;> simp [Nat.add_comm]
    rw [e, Nat.testBit_two_pow_mul_add _ hlt]
    by_cases h1 : i < n
    · have h2 : i < n + 1 := by omega
      rw [if_pos h1, ih]
      simp [h1, h2]
    · rw [if_neg h1]
      by_cases h2 : i = n
      · subst h2
        cases hf : f i <;> simp
      · have h3 : ¬ i < n + 1 := by omega
        have h4 : i - n ≠ 0 := by omega
        have h5 : Nat.testBit 1 (i - n) = false := by
          cases ht : Nat.testBit 1 (i - n)
          · rfl
          · exact absurd (Nat.testBit_one_eq_true_iff_self_eq_zero.1 ht) h4
        cases hf : f n <;> simp [h3, h5]

/-- word i of the set that has what m says -/
def wd (m : Nat → Bool) (i : Nat) : Nat := wdN (fun j => m (64 * i + j)) 64

theorem wd_lt (m : Nat → Bool) (i : Nat) : wd m i < 18446744073709551616 := by
  have := wdN_lt (fun j => m (64 * i + j)) 64
  simpa [wd] using this

theorem wd_testBit (m : Nat → Bool) (i j : Nat) : (wd m i).testBit j = (decide (j < 64) && m (64 * i + j)) := wdN_testBit _ _ _

theorem eq_wd {a : Nat} {m : Nat → Bool} {i : Nat} (ha : a < 18446744073709551616) (h : ∀ j, j < 64 → a.testBit j = m (64 * i + j)) : a = wd m i := by
  refine Nat.eq_of_testBit_eq fun j => ?_
  rw [wd_testBit]
  by_cases hj : j < 64
  · rw [h j hj]; simp [hj]
  · have : a < 2 ^ j := Nat.lt_of_lt_of_le ha (by
      have : 2 ^ 64 ≤ 2 ^ j := Nat.pow_le_pow_right (by decide) (by omega)
      simpa using this)
    rw [Nat.testBit_lt_two_pow this]
    simp [hj]

theorem wd_congr {m n : Nat → Bool} {i : Nat} (h : ∀ j, j < 64 → m (64 * i + j) = n (64 * i + j)) : wd m i = wd n i :=
  eq_wd (wd_lt _ _) fun j hj => by rw [wd_testBit, h j hj]; simp [hj]

theorem wd_inj {m n : Nat → Bool} {i : Nat} (h : wd m i = wd n i) {j : Nat} (hj : j < 64) : m (64 * i + j) = n (64 * i + j) := by
  have := congrArg (fun x => Nat.testBit x j) h
  simpa [wd_testBit, hj] using this

/-- which byte is in, of four words -/
def memOf (a0 a1 a2 a3 : Nat) (b : Nat) : Bool :=
  if b < 64 then a0.testBit b else if b < 128 then a1.testBit (b - 64) else if b < 192 then a2.testBit (b - 128) else if b < 256 then a3.testBit (b - 192) else false

theorem wd_memOf0 {a0 a1 a2 a3 : Nat} (h : a0 < 18446744073709551616) : a0 = wd (memOf a0 a1 a2 a3) 0 :=
  eq_wd h fun j hj => by unfold memOf; rw [if_pos (by omega), show 64 * 0 + j = j by omega]
theorem wd_memOf1 {a0 a1 a2 a3 : Nat} (h : a1 < 18446744073709551616) : a1 = wd (memOf a0 a1 a2 a3) 1 :=
  eq_wd h fun j hj => by unfold memOf; rw [if_neg (by omega), if_pos (by omega), show 64 * 1 + j - 64 = j by omega]
theorem wd_memOf2 {a0 a1 a2 a3 : Nat} (h : a2 < 18446744073709551616) : a2 = wd (memOf a0 a1 a2 a3) 2 :=
  eq_wd h fun j hj => by unfold memOf; rw [if_neg (by omega), if_neg (by omega), if_pos (by omega), show 64 * 2 + j - 128 = j by omega]
theorem wd_memOf3 {a0 a1 a2 a3 : Nat} (h : a3 < 18446744073709551616) : a3 = wd (memOf a0 a1 a2 a3) 3 :=
  eq_wd h fun j hj => by unfold memOf; rw [if_neg (by omega), if_neg (by omega), if_neg (by omega), if_pos (by omega), show 64 * 3 + j - 192 = j by omega]

/-- the value of the set that has what m says -/
abbrev setV (m : Nat → Bool) : Value := .agg #[.int .u64 (wd m 0 : Nat), .int .u64 (wd m 1 : Nat), .int .u64 (wd m 2 : Nat), .int .u64 (wd m 3 : Nat)]

theorem setV_congr {m n : Nat → Bool} (h : ∀ b, b < 256 → m b = n b) : setV m = setV n := by
  unfold setV
  rw [wd_congr (m := m) (n := n) (i := 0) (fun j hj => h _ (by omega)), wd_congr (m := m) (n := n) (i := 1) (fun j hj => h _ (by omega)),
    wd_congr (m := m) (n := n) (i := 2) (fun j hj => h _ (by omega)), wd_congr (m := m) (n := n) (i := 3) (fun j hj => h _ (by omega))]

/-- are two sets one? -/
def setEq (m n : Nat → Bool) : Bool := wd m 0 == wd n 0 && (wd m 1 == wd n 1 && (wd m 2 == wd n 2 && wd m 3 == wd n 3))

theorem setEq_iff {m n : Nat → Bool} : setEq m n = true ↔ ∀ b, b < 256 → m b = n b := by
  unfold setEq
  simp only [Bool.and_eq_true, beq_iff_eq]
  constructor
  · rintro ⟨h0, h1, h2, h3⟩ b hb
    have e : b = 64 * (b / 64) + b % 64 := by omega
    have hq : b / 64 = 0 ∨ b / 64 = 1 ∨ b / 64 = 2 ∨ b / 64 = 3 := by omega
    rw [e]
    rcases hq with hq | hq | hq | hq <;> rw [hq]
    · exact wd_inj h0 (by omega)
    · exact wd_inj h1 (by omega)
    · exact wd_inj h2 (by omega)
    · exact wd_inj h3 (by omega)
  · intro h
    exact ⟨wd_congr fun j hj => h _ (by omega), wd_congr fun j hj => h _ (by omega), wd_congr fun j hj => h _ (by omega), wd_congr fun j hj => h _ (by omega)⟩

theorem setEq_refl (m : Nat → Bool) : setEq m m = true := setEq_iff.2 fun _ _ => rfl
theorem setEq_of {m n : Nat → Bool} (h : ∀ b, b < 256 → m b = n b) : setEq m n = true := setEq_iff.2 h

/-! ### sets made of sets: names that the walk doesn't look into -/
def sOr (m n : Nat → Bool) : Nat → Bool := fun b => m b || n b
def sAnd (m n : Nat → Bool) : Nat → Bool := fun b => m b && n b
def sLess (m n : Nat → Bool) : Nat → Bool := fun b => m b && !n b
def sNot (m : Nat → Bool) : Nat → Bool := fun b => !m b
def sBelow (k : Int) : Nat → Bool := fun b => decide ((b : Int) < k)
def sRange (lo hi : Int) : Nat → Bool := fun b => decide (lo ≤ (b : Int)) && decide ((b : Int) ≤ hi)
def sOf (l : List Nat) : Nat → Bool := fun b => decide (b ∈ l)

/-! ### what the operations on words are -/
theorem bits_or_wd (m n : Nat → Bool) (i : Nat) : bits .or .u64 (wd m i : Nat) (wd n i : Nat) = (wd (sOr m n) i : Nat) := by
  rw [u64_or_nat _ _ (wd_lt _ _) (wd_lt _ _)]
  congr 1
  refine eq_wd (Nat.or_lt_two_pow (n := 64) (wd_lt _ _) (wd_lt _ _)) fun j hj => ?_
  rw [Nat.testBit_or, wd_testBit, wd_testBit]; simp [hj, sOr]
theorem bits_and_wd (m n : Nat → Bool) (i : Nat) : bits .and .u64 (wd m i : Nat) (wd n i : Nat) = (wd (sAnd m n) i : Nat) := by
  rw [u64_and_nat _ _ (wd_lt _ _) (wd_lt _ _)]
  congr 1
  refine eq_wd (Nat.and_lt_two_pow (n := 64) _ (wd_lt _ _)) fun j hj => ?_
  rw [Nat.testBit_and, wd_testBit, wd_testBit]; simp [hj, sAnd]
theorem sub_wd (m : Nat → Bool) (i : Nat) : 18446744073709551615 - wd m i = wd (sNot m) i := by
  refine eq_wd (by omega) fun j hj => ?_
  have e : 18446744073709551615 - wd m i = 2 ^ 64 - (wd m i + 1) := by have := wd_lt m i; omega
  rw [e, Nat.testBit_two_pow_sub_succ (wd_lt m i), wd_testBit]
  simp [hj, sNot]
theorem bits_andNot_wd (m n : Nat → Bool) (i : Nat) : bits .andNot .u64 (wd m i : Nat) (wd n i : Nat) = (wd (sLess m n) i : Nat) := by
  rw [u64_andNot_nat _ _ (wd_lt _ _) (wd_lt _ _), sub_wd]
  congr 1
  refine eq_wd (Nat.and_lt_two_pow (n := 64) _ (wd_lt _ _)) fun j hj => ?_
  rw [Nat.testBit_and, wd_testBit, wd_testBit]; simp [hj, sLess, sNot]
theorem bits_not_wd (m : Nat → Bool) (i : Nat) : bits .xor .u64 IntKind.u64.max (wd m i : Nat) = (wd (sNot m) i : Nat) := by
  have h := u64_xor_nat 18446744073709551615 (wd m i) (by omega) (wd_lt _ _)
  refine h.trans ?_
  congr 1
  refine eq_wd (Nat.xor_lt_two_pow (n := 64) (by decide) (wd_lt _ _)) fun j hj => ?_
  have e : Nat.testBit 18446744073709551615 j = true := by
    have := Nat.testBit_two_pow_sub_one 64 j
    simpa [hj] using this
  rw [Nat.testBit_xor, e, wd_testBit]; simp [hj, sNot]

/-! ### the bytes below a number -/
theorem lowBits (n : Int) (i t : Nat) (ht : t ≤ 64) (h : ∀ j, j < 64 → (j < t ↔ ((64 * i + j : Nat) : Int) < n)) : 2 ^ t - 1 = wd (sBelow n) i := by
  have hp : 2 ^ t ≤ 2 ^ 64 := Nat.pow_le_pow_right (by decide) ht
  have h0 : 0 < 2 ^ t := Nat.two_pow_pos t
  refine eq_wd (by omega) fun j hj => ?_
  rw [Nat.testBit_two_pow_sub_one]
  exact decide_eq_decide.2 (h j hj)
theorem low_full (n : Int) (i : Nat) (h : 64 * (i : Int) + 64 ≤ n) : IntKind.u64.wrap (IntKind.u64.wrap 18446744073709551616 - 1) = (wd (sBelow n) i : Int) := by
  rw [← lowBits n i 64 (Nat.le_refl _) (fun j hj => ⟨fun _ => by omega, fun _ => hj⟩), IntKind.wrap_u64, IntKind.wrap_u64]
  decide
theorem low_part (n t : Int) (i : Nat) (ht : t = n - 64 * (i : Int)) (h0 : 0 ≤ t) (h1 : t ≤ 64) : IntKind.u64.wrap (IntKind.u64.wrap (2 ^ t.toNat) - 1) = (wd (sBelow n) i : Int) := by
  obtain ⟨k, rfl⟩ := Int.eq_ofNat_of_zero_le h0
  have hk : k ≤ 64 := by omega
  rw [← lowBits n i k hk (fun j hj => by omega), Int.toNat_natCast, IntKind.wrap_u64, IntKind.wrap_u64]
  have hp : 2 ^ k ≤ 2 ^ 64 := Nat.pow_le_pow_right (by decide) hk
  have hp0 : 0 < 2 ^ k := Nat.two_pow_pos k
  have e : ((2 : Int) ^ k) = ((2 ^ k : Nat) : Int) := by rw [Int.natCast_pow]; rfl
  rw [e]
  generalize 2 ^ k = p at *
  omega
theorem low_one : IntKind.u64.wrap (IntKind.u64.wrap 1 - 1) = 0 := by decide
theorem low_zero (n : Int) (i : Nat) (h : n ≤ 64 * (i : Int)) : (wd (sBelow n) i : Int) = 0 := by
  rw [← lowBits n i 0 (by decide) (fun j hj => ⟨fun h => absurd h (by omega), fun h => by omega⟩)]
  rfl

theorem ret_int {k : IntKind} {a b : Int} (h : a = b) : Ending.returned (.int k a) = .returned (.int k b) := by rw [h]
theorem ret_bool {a b : Bool} (h : a = b) : Ending.returned (.bool a) = .returned (.bool b) := by rw [h]

/-- what a call that makes memory leaves of one block that lay there -/
theorem belowStep {W w1 : World} {g : Nat} (hb : Below W.heap.size W w1) (hg : g < W.heap.size) :
    (∀ o, w1.cell? ⟨g, o, none⟩ = W.cell? ⟨g, o, none⟩) ∧ (∀ o, w1.frozen? ⟨g, o, none⟩ = W.frozen? ⟨g, o, none⟩) ∧ g < w1.heap.size :=
  ⟨fun o => hb.cell (p := ⟨g, o, none⟩) hg, fun o => hb.frozen (p := ⟨g, o, none⟩) hg, Nat.lt_of_lt_of_le hg hb.size⟩

theorem block_below {W w1 : World} (hb : Below W.heap.size W w1) : (∀ b o, b < W.heap.size → w1.cell? ⟨b, o, none⟩ = W.cell? ⟨b, o, none⟩) ∧ (∀ b o, b < W.heap.size → w1.frozen? ⟨b, o, none⟩ = W.frozen? ⟨b, o, none⟩) :=
  ⟨fun b o h => hb.cell (p := ⟨b, o, none⟩) h, fun b o h => hb.frozen (p := ⟨b, o, none⟩) h⟩

end Go.Proofs.Ytngagijcdehjpaa

