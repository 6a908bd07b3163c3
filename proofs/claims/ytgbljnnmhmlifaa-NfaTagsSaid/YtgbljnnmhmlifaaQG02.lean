/-
  WHAT IS SAID OF NO PROGRAM: the count of bits as math/bits reckons it is how many bits there are. No condition.
-/
import Derived.Test.YtgbljnnmhmlifaaRows
import Derived.Lib.Hide
import Derived.Deep.RegionWith
import Derived.Deep.RegionHeld3
import Derived.BigQuiet
import Derived.Test.YtgbljnnmhmlifaaQG01
namespace Go.Proofs.Ytgbljnnmhmlifaa
open Go.RowKit

def swar (s m u : Nat) : Nat := ((u / 2 ^ s) &&& m) + (u &&& m)

def m0 : Nat → Nat | 0 => 0 | n + 1 => 85 + 256 * m0 n
def m1 : Nat → Nat | 0 => 0 | n + 1 => 51 + 256 * m1 n
def m2 : Nat → Nat | 0 => 0 | n + 1 => 15 + 256 * m2 n
def fold4 (m x : Nat) : Nat := (x / 16 + x) &&& m
theorem eight : ∀ b0 b1 b2 b3 b4 b5 b6 b7 : Bool,
    (let u := (((((((if b0 then 1 else 0) + (if b1 then 2 else 0)) + (if b2 then 4 else 0)) + (if b3 then 8 else 0)) + (if b4 then 16 else 0)) + (if b5 then 32 else 0)) + (if b6 then 64 else 0)) + (if b7 then 128 else 0)
     fold4 15 (swar 2 51 (swar 1 85 u)) = (((((((if b0 then 1 else 0) + (if b1 then 1 else 0)) + (if b2 then 1 else 0)) + (if b3 then 1 else 0)) + (if b4 then 1 else 0)) + (if b5 then 1 else 0)) + (if b6 then 1 else 0)) + (if b7 then 1 else 0) ∧
     swar 1 85 u < 256 ∧ swar 2 51 (swar 1 85 u) < 256 ∧ swar 2 51 (swar 1 85 u) % 16 ≤ 4 ∧ swar 2 51 (swar 1 85 u) / 16 ≤ 4) := by decide +kernel

end Go.Proofs.Ytgbljnnmhmlifaa

namespace Go.Proofs.Ytgbljnnmhmlifaa
open Go.RowKit

theorem idx_set (m : Nat → Bool) (w : World) :
    (Instr.index 37 (setV m) (.int .i64 0)).run Try.prog w = .ok (.int .u64 (wd m 0 : Nat)) w ∧
    (Instr.index 37 (setV m) (.int .i64 1)).run Try.prog w = .ok (.int .u64 (wd m 1 : Nat)) w ∧
    (Instr.index 37 (setV m) (.int .i64 2)).run Try.prog w = .ok (.int .u64 (wd m 2 : Nat)) w ∧
    (Instr.index 37 (setV m) (.int .i64 3)).run Try.prog w = .ok (.int .u64 (wd m 3 : Nat)) w :=
  ⟨by kernel_rfl, by kernel_rfl, by kernel_rfl, by kernel_rfl⟩

set_option maxHeartbeats 400000 in
theorem any_any (m n : Nat → Bool) (w : World) :
    Calls Try.prog 61 #[setV m, setV n] w fun e w' => e = .returned (setV (sOr m n)) ∧ Below w.heap.size w w' := by
  have ix := idx_set n
  go_enter Try.func61, Try.ntmps61
  go_wp2
  refine wp_loop_unr 5 ?_
  go_wp2_with (refine unr_succ ?_; intro _ _)
  refine bodyPost_ret (v := setV (sOr m n)) (by simp [results, Try.results61, go_sem, bits_or_wd]) rfl ⟨rfl, ?_⟩
  exact (((Below.refl _ _).alloc (Nat.le_refl _) _).alloc (by simp) _).alloc (by simp; omega) _

end Go.Proofs.Ytgbljnnmhmlifaa

namespace Go.Proofs.Ytgbljnnmhmlifaa
open Go.RowKit

def ByteRow (w : World) (B : Nat) (A : Option Addr) (l : List Nat) : Prop :=
  l ≠ [] → ∃ b off, A = some ⟨b, off, none⟩ ∧ b < B ∧ ∀ (k x : Nat), l[k]? = some x → w.cell? ⟨b, off + k, none⟩ = some (.int .u8 (x : Int))

theorem sOf_take {l : List Nat} {k x : Nat} (h : l[k]? = some x) (b : Nat) : sOf (l.take (k + 1)) b = (sOf (l.take k) b || decide (b = x)) := by
  unfold sOf
  rw [List.take_add_one, h]
  simp [Bool.decide_or]

theorem or_bit {m m' : Nat → Bool} {x i : Nat} (h : ∀ b, m' b = (m b || decide (b = x))) (hi : x / 64 = i) : bits .or .u64 (wd m i : Nat) (IntKind.u64.wrap (2 ^ (x % 64))) = (wd m' i : Int) := by
  have hp : 2 ^ (x % 64) < 2 ^ 64 := Nat.pow_lt_pow_right (by decide) (by omega)
  have e : IntKind.u64.wrap ((2 : Int) ^ (x % 64)) = ((2 ^ (x % 64) : Nat) : Int) := by
    have e2 : ((2 : Int) ^ (x % 64)) = ((2 ^ (x % 64) : Nat) : Int) := by rw [Int.natCast_pow]; rfl
    rw [e2, IntKind.wrap_u64]
    generalize 2 ^ (x % 64) = p at *
    omega
  rw [e, u64_or_nat _ _ (wd_lt _ _) hp]
  refine congrArg (fun n : Nat => (n : Int)) (eq_wd (Nat.or_lt_two_pow (n := 64) (wd_lt _ _) hp) fun j hj => ?_)
  rw [Nat.testBit_or, wd_testBit, Nat.testBit_two_pow, h]
  have : decide (x % 64 = j) = decide (64 * i + j = x) := by rw [decide_eq_decide]; omega
  rw [this]; simp [hj]
theorem other_bit {m m' : Nat → Bool} {x i : Nat} (h : ∀ b, m' b = (m b || decide (b = x))) (hi : x / 64 ≠ i) : wd m i = wd m' i :=
  wd_congr fun j hj => by
    have : ¬ 64 * i + j = x := by omega
    rw [h]; simp [this]

theorem wd_none (i : Nat) : wd (sOf []) i = 0 := by
  have := lowBits 0 i 0 (by decide) (fun j hj => ⟨fun h => absurd h (by omega), fun h => by omega⟩)
  have h2 : wd (sOf []) i = wd (sBelow 0) i := wd_congr fun j _ => by simp [sOf, sBelow]; omega
  rw [h2, ← this]

set_option maxHeartbeats 400000 in
theorem of_any (A : Option Addr) (c : Nat) (l : List Nat) (w : World) (hr : ByteRow w w.heap.size A l) (hl : ∀ x ∈ l, x < 256) (hn : l.length ≤ 9223372036854775807) :
    Calls Try.prog 62 #[.slice A l.length c] w fun e w' => e = .returned (setV (sOf l)) ∧ Below w.heap.size w w' := by
  go_enter Try.func62, Try.ntmps62
  go_wp2
  go_loopw [8] (fun i wr => ∃ k, k ≤ l.length ∧ i = .int .i64 (k : Nat) ∧
      wr = (w.alloc (.cells #[.int .u64 0, .int .u64 0, .int .u64 0, .int .u64 0] 37)).alloc (.cells #[.int .u64 (wd (sOf (l.take k)) 0 : Nat), .int .u64 (wd (sOf (l.take k)) 1 : Nat), .int .u64 (wd (sOf (l.take k)) 2 : Nat), .int .u64 (wd (sOf (l.take k)) 3 : Nat)] 37))
    (fun i _ => l.length - (intOf i).toNat)
  case atStart =>
    refine ⟨0, Nat.zero_le _, rfl, ?_⟩
    simp only [List.take_zero, wd_none]
    rfl
  case round =>
    obtain ⟨k, hk, rfl, rfl⟩ := hrel
    by_cases hlt : k < l.length
    · obtain ⟨b, off, rfl, hb, hcell⟩ := hr (by intro h; subst h; simp at hlt)
      have hx := hl l[k] (List.getElem_mem hlt)
      have hg : l[k]? = some l[k] := List.getElem?_eq_getElem hlt
      have hc := hcell k l[k] hg
      have ht := sOf_take hg
      clear hg
      generalize l[k] = x at *
      have hne : b ≠ w.heap.size := by omega
      have hne2 : b ≠ w.heap.size + 1 := by omega
      have HT := Lib.hid ht
      clear hr hl hcell ht
      have hcase : x / 64 = 0 ∨ x / 64 = 1 ∨ x / 64 = 2 ∨ x / 64 = 3 := by omega
      rcases hcase with hq | hq | hq | hq
      · have hqi : (x : Int) / 64 = 0 := by omega
        have HQ := Lib.hid hq
        clear hq
        go_wp2
        refine ⟨⟨k + 1, by omega, by go_num, ?_⟩, by simp [intOf]; omega⟩
        rw [or_bit HT.out HQ.out, other_bit (i := 1) HT.out (by rw [HQ.out]; decide), other_bit (i := 2) HT.out (by rw [HQ.out]; decide), other_bit (i := 3) HT.out (by rw [HQ.out]; decide)]
      · have hqi : (x : Int) / 64 = 1 := by omega
        have HQ := Lib.hid hq
        clear hq
        go_wp2
        refine ⟨⟨k + 1, by omega, by go_num, ?_⟩, by simp [intOf]; omega⟩
        rw [or_bit HT.out HQ.out, other_bit (i := 0) HT.out (by rw [HQ.out]; decide), other_bit (i := 2) HT.out (by rw [HQ.out]; decide), other_bit (i := 3) HT.out (by rw [HQ.out]; decide)]
      · have hqi : (x : Int) / 64 = 2 := by omega
        have HQ := Lib.hid hq
        clear hq
        go_wp2
        refine ⟨⟨k + 1, by omega, by go_num, ?_⟩, by simp [intOf]; omega⟩
        rw [or_bit HT.out HQ.out, other_bit (i := 0) HT.out (by rw [HQ.out]; decide), other_bit (i := 1) HT.out (by rw [HQ.out]; decide), other_bit (i := 3) HT.out (by rw [HQ.out]; decide)]
      · have hqi : (x : Int) / 64 = 3 := by omega
        have HQ := Lib.hid hq
        clear hq
        go_wp2
        refine ⟨⟨k + 1, by omega, by go_num, ?_⟩, by simp [intOf]; omega⟩
        rw [or_bit HT.out HQ.out, other_bit (i := 0) HT.out (by rw [HQ.out]; decide), other_bit (i := 1) HT.out (by rw [HQ.out]; decide), other_bit (i := 2) HT.out (by rw [HQ.out]; decide)]
    · have he : l.take k = l := List.take_of_length_le (by omega)
      rw [he]
      clear hr hl
      go_wp2
      refine bodyPost_ret (v := setV (sOf l)) (by simp [results, Try.results62, go_sem]) rfl ⟨rfl, ?_⟩
      exact ((Below.refl _ _).alloc (Nat.le_refl _) _).alloc (by simp) _

theorem eqItems_step (d : Nat) (xs ys : Array Value) (j : Nat) (js : List Nat) (a b : Int) (w : World)
    (ha : (part 35 xs (j * 1)).run Try.prog w = .ok (.int .u64 a) w) (hb : (part 35 ys (j * 1)).run Try.prog w = .ok (.int .u64 b) w) :
    (Op.eqItems (d + 1) 35 1 xs ys (j :: js)).run Try.prog w = if a = b then (Op.eqItems (d + 1) 35 1 xs ys js).run Try.prog w else .ok false w := by
  have h64 := run_equalIn_int (P := Try.prog) w d 35 .u64 .u64 a b Try.underlying35
  simp only [Op.eqItems, Sem.run_bind, ha, hb, Result.andThen_ok, h64]
  by_cases h : a = b
  · simp [h]
  · have h2 : (a == b) = false := by simpa using h
    simp [h, h2]

theorem eql_set (m n : Nat → Bool) (w : World) : (binOp .eql 37 (setV m) (setV n)).run Try.prog w = .ok (.bool (setEq m n)) w := by
  have hp0 : ∀ (k : Nat → Bool), (part 35 #[.int .u64 (wd k 0 : Nat), .int .u64 (wd k 1 : Nat), .int .u64 (wd k 2 : Nat), .int .u64 (wd k 3 : Nat)] (0 * 1)).run Try.prog w = .ok (.int .u64 (wd k 0 : Nat)) w := fun k => by kernel_rfl
  have hp1 : ∀ (k : Nat → Bool), (part 35 #[.int .u64 (wd k 0 : Nat), .int .u64 (wd k 1 : Nat), .int .u64 (wd k 2 : Nat), .int .u64 (wd k 3 : Nat)] (1 * 1)).run Try.prog w = .ok (.int .u64 (wd k 1 : Nat)) w := fun k => by kernel_rfl
  have hp2 : ∀ (k : Nat → Bool), (part 35 #[.int .u64 (wd k 0 : Nat), .int .u64 (wd k 1 : Nat), .int .u64 (wd k 2 : Nat), .int .u64 (wd k 3 : Nat)] (2 * 1)).run Try.prog w = .ok (.int .u64 (wd k 2 : Nat)) w := fun k => by kernel_rfl
  have hp3 : ∀ (k : Nat → Bool), (part 35 #[.int .u64 (wd k 0 : Nat), .int .u64 (wd k 1 : Nat), .int .u64 (wd k 2 : Nat), .int .u64 (wd k 3 : Nat)] (3 * 1)).run Try.prog w = .ok (.int .u64 (wd k 3 : Nat)) w := fun k => by kernel_rfl
  have e : (Op.equalIn 10000 37 (setV m) (setV n)).run Try.prog w = .ok (setEq m n) w := by
    obtain ⟨i, hi⟩ : ∃ i, Try.prog.info? 35 = some i := Option.isSome_iff_exists.1 (by kernel_rfl)
    have hc : Try.prog.cellsOf 35 = 1 := by kernel_rfl
    have h := run_equalIn_array (P := Try.prog) w 9999 #[.int .u64 (wd m 0 : Nat), .int .u64 (wd m 1 : Nat), .int .u64 (wd m 2 : Nat), .int .u64 (wd m 3 : Nat)]
      #[.int .u64 (wd n 0 : Nat), .int .u64 (wd n 1 : Nat), .int .u64 (wd n 2 : Nat), .int .u64 (wd n 3 : Nat)] Try.underlying37 hi
    rw [hc, show List.range 4 = [0, 1, 2, 3] from rfl] at h
    rw [eqItems_step 9998 _ _ 0 _ _ _ w (hp0 m) (hp0 n), eqItems_step 9998 _ _ 1 _ _ _ w (hp1 m) (hp1 n), eqItems_step 9998 _ _ 2 _ _ _ w (hp2 m) (hp2 n), eqItems_step 9998 _ _ 3 _ _ _ w (hp3 m) (hp3 n)] at h
    refine h.trans ?_
    unfold setEq
    simp only [Int.natCast_inj]
    by_cases h0 : wd m 0 = wd n 0
    · by_cases h1 : wd m 1 = wd n 1
      · by_cases h2 : wd m 2 = wd n 2
        · by_cases h3 : wd m 3 = wd n 3
          · rw [if_pos h0, if_pos h1, if_pos h2, if_pos h3, h0, h1, h2, h3]; simp [Op.eqItems]
          · rw [if_pos h0, if_pos h1, if_pos h2, if_neg h3]; simp [h3]
        · rw [if_pos h0, if_pos h1, if_neg h2]; simp [h2]
      · rw [if_pos h0, if_neg h1]; simp [h1]
    · rw [if_neg h0]; simp [h0]
  have h2 := run_eql_struct (P := Try.prog) w 37 #[.int .u64 (wd m 0 : Nat), .int .u64 (wd m 1 : Nat), .int .u64 (wd m 2 : Nat), .int .u64 (wd m 3 : Nat)]
      #[.int .u64 (wd n 0 : Nat), .int .u64 (wd n 1 : Nat), .int .u64 (wd n 2 : Nat), .int .u64 (wd n 3 : Nat)]
  refine h2.trans ?_
  have e' : (Op.equalIn 10000 37 (.agg #[.int .u64 (wd m 0 : Nat), .int .u64 (wd m 1 : Nat), .int .u64 (wd m 2 : Nat), .int .u64 (wd m 3 : Nat)]) (.agg #[.int .u64 (wd n 0 : Nat), .int .u64 (wd n 1 : Nat), .int .u64 (wd n 2 : Nat), .int .u64 (wd n 3 : Nat)])).run Try.prog w = .ok (setEq m n) w := e
  rw [e']; rfl

def BoxIs (g : Nat) (m : Nat → Bool) (w : World) : Prop :=
  w.cell? ⟨g, 0, none⟩ = some (.int .u64 (wd m 0 : Nat)) ∧ w.cell? ⟨g, 1, none⟩ = some (.int .u64 (wd m 1 : Nat)) ∧
  w.cell? ⟨g, 2, none⟩ = some (.int .u64 (wd m 2 : Nat)) ∧ w.cell? ⟨g, 3, none⟩ = some (.int .u64 (wd m 3 : Nat))

theorem BoxIs.below {g : Nat} {m : Nat → Bool} {W W' : World} (h : BoxIs g m W) (hb : Below W.heap.size W W') (hg : g < W.heap.size) : BoxIs g m W' :=
  ⟨(hb.cell (p := ⟨g, 0, none⟩) hg).trans h.1, (hb.cell (p := ⟨g, 1, none⟩) hg).trans h.2.1, (hb.cell (p := ⟨g, 2, none⟩) hg).trans h.2.2.1, (hb.cell (p := ⟨g, 3, none⟩) hg).trans h.2.2.2⟩

theorem held_step {w W W' : World} {g : Nat} {m : Nat → Bool} (h : Below w.heap.size w W ∧ g < W.heap.size ∧ W.cell? ⟨g, 0, none⟩ = some (.int .u64 (wd m 0 : Nat)) ∧ W.cell? ⟨g, 1, none⟩ = some (.int .u64 (wd m 1 : Nat)) ∧
      W.cell? ⟨g, 2, none⟩ = some (.int .u64 (wd m 2 : Nat)) ∧ W.cell? ⟨g, 3, none⟩ = some (.int .u64 (wd m 3 : Nat))) (hb : Below W.heap.size W W') :
    Below w.heap.size w W' ∧ g < W'.heap.size ∧ W'.cell? ⟨g, 0, none⟩ = some (.int .u64 (wd m 0 : Nat)) ∧ W'.cell? ⟨g, 1, none⟩ = some (.int .u64 (wd m 1 : Nat)) ∧
      W'.cell? ⟨g, 2, none⟩ = some (.int .u64 (wd m 2 : Nat)) ∧ W'.cell? ⟨g, 3, none⟩ = some (.int .u64 (wd m 3 : Nat)) :=
  ⟨h.1.trans (hb.mono h.1.size), Nat.lt_of_lt_of_le h.2.1 hb.size, BoxIs.below h.2.2 hb h.2.1⟩

theorem of_one (x b c : Nat) (w : World) (hx : x < 256) (hb : b < w.heap.size) (h0 : w.cell? ⟨b, 0, none⟩ = some (.int .u8 (x : Int))) :
    Calls Try.prog 62 #[.slice (some ⟨b, 0, none⟩) 1 c] w fun e w' => e = .returned (setV (sOf [x])) ∧ Below w.heap.size w w' :=
  of_any (some ⟨b, 0, none⟩) c [x] w (fun _ => ⟨b, 0, rfl, hb, fun k y hk => by
    obtain ⟨rfl, rfl⟩ : k = 0 ∧ x = y := by
      cases k with
      | zero => simpa using hk
      | succ k => simp at hk
    exact h0⟩) (by simpa using hx) (by simp)
set_option maxHeartbeats 400000 in
theorem has_any (m : Nat → Bool) (c : Nat) (hc : c < 256) (w : World) :
    Calls Try.prog 50 #[setV m, .int .u8 c] w fun e w' => e = .returned (.bool (m c)) ∧ Below w.heap.size w w' := by
  have hq := eql_set (sOr m (sOf [c])) m
  have hb : setEq (sOr m (sOf [c])) m = m c := by
    rw [Bool.eq_iff_iff, setEq_iff]
    constructor
    · intro h
      have := h c hc
      simpa [sOr, sOf] using this
    · intro h b _
      by_cases e : b = c
      · subst e; simp [sOr, sOf, h]
      · simp [sOr, sOf, e]
  rw [← hb]
  have HB := Lib.hid hb
  clear hb
  go_enter Try.func50, Try.ntmps50
  go_wp2
  go_region_held3 (fun w' => Below w.heap.size w w' ∧ w.heap.size < w'.heap.size ∧ w'.cell? ⟨w.heap.size, 0, none⟩ = some (.int .u64 (wd m 0 : Nat)) ∧ w'.cell? ⟨w.heap.size, 1, none⟩ = some (.int .u64 (wd m 1 : Nat)) ∧
      w'.cell? ⟨w.heap.size, 2, none⟩ = some (.int .u64 (wd m 2 : Nat)) ∧ w'.cell? ⟨w.heap.size, 3, none⟩ = some (.int .u64 (wd m 3 : Nat)))
    ((first
      | exact held_step (by assumption) hb1
      | (refine ⟨(by first | exact ((Below.refl _ _).alloc (Nat.le_refl _) _).drew | exact (((Below.refl _ _).alloc (Nat.le_refl _) _).alloc (by simp) _).drew), ?_, ?_, ?_, ?_, ?_⟩ <;> go_simp <;> done)))
    ((first
      | (go_at_call 62; go_must (refine (of_one c _ _ _ hc (by simp) (by go_simp)).mono ?_); rintro e w1 ⟨rfl, hb1⟩)
      | (go_at_call 61; go_must (refine (any_any _ _ _).mono ?_); rintro e w1 ⟨rfl, hb1⟩)))
  have hB : Below w.heap.size w w1 := by
    have h := ‹Below w.heap.size w w1 ∧ _›
    exact h.1
  go_wp2
  go_ret
  exact ⟨rfl, hB⟩

end Go.Proofs.Ytgbljnnmhmlifaa

