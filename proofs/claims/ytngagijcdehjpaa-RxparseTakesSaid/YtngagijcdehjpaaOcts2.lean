/-
  WHAT THE REST OF PACKAGE octs ANSWERS: Of, Has: contracts. No condition but those that a contract names.
-/
import Derived.Test.YtngagijcdehjpaaOcts
import Derived.Deep.RegionHeld3
import Derived.BigQuiet
namespace Go.Proofs.Ytngagijcdehjpaa
open Go.RowKit

/-- a row of bytes below block B -/
def ByteRow (w : World) (B : Nat) (A : Option Addr) (l : List Nat) : Prop :=
  l ≠ [] → ∃ b off, A = some ⟨b, off, none⟩ ∧ b < B ∧ ∀ (k x : Nat), l[k]? = some x → w.cell? ⟨b, off + k, none⟩ = some (.int .u8 (x : Int))

theorem sOf_nil : sOf [] = fun _ => false := by funext b; simp [sOf]

theorem sOf_take {l : List Nat} {k x : Nat} (h : l[k]? = some x) (b : Nat) : sOf (l.take (k + 1)) b = (sOf (l.take k) b || decide (b = x)) := by
  unfold sOf
  rw [List.take_add_one, h]
  simp [Bool.decide_or]

theorem or_bit {m m' : Nat → Bool} {x i : Nat} (h : ∀ b, m' b = (m b || decide (b = x))) (hi : x / 64 = i) : bits .or .u64 (wd m i : Nat) (IntKind.u64.wrap (2 ^ (x % 64))) = (wd m' i : Int) := by
  have hp : 2 ^ (x % 64) < 2 ^ 64 := Nat.pow_lt_pow_right (by decide) (by omega)
  have e : IntKind.u64.wrap ((2 : Int) ^ (x % 64)) = ((2 ^ (x % 64) : Nat) : Int) := by
    have e2 : ((2 : Int) ^ (x % 64)) = ((2 ^ (x % 64) : Nat) : Int) := by rw [Int.natCast_pow]; rfl
    rw [e2, IntKind.wrap_u64]
    generalize 2 ^ (x % 64) = p at *
    omega
  rw [e, u64_or_nat _ _ (wd_lt _ _) hp]
  refine congrArg (fun n : Nat => (n : Int)) (eq_wd (Nat.or_lt_two_pow (n := 64) (wd_lt _ _) hp) fun j hj => ?_)
  rw [Nat.testBit_or, wd_testBit, Nat.testBit_two_pow, h]
  have : decide (x % 64 = j) = decide (64 * i + j = x) := by rw [decide_eq_decide]; omega
  rw [this]; simp [hj]
theorem other_bit {m m' : Nat → Bool} {x i : Nat} (h : ∀ b, m' b = (m b || decide (b = x))) (hi : x / 64 ≠ i) : wd m i = wd m' i :=
  wd_congr fun j hj => by
    have : ¬ 64 * i + j = x := by omega
    rw [h]; simp [this]

theorem wd_none (i : Nat) : wd (sOf []) i = 0 := by
  have := lowBits 0 i 0 (by decide) (fun j hj => ⟨fun h => absurd h (by omega), fun h => by omega⟩)
  have h2 : wd (sOf []) i = wd (sBelow 0) i := wd_congr fun j _ => by simp [sOf, sBelow]; omega
  rw [h2, ← this]

set_option maxHeartbeats 400000 in
theorem of_any (A : Option Addr) (c : Nat) (l : List Nat) (w : World) (hr : ByteRow w w.heap.size A l) (hl : ∀ x ∈ l, x < 256) (hn : l.length ≤ 9223372036854775807) :
    Calls Try.prog 51 #[.slice A l.length c] w fun e w' => e = .returned (setV (sOf l)) ∧ Below w.heap.size w w' := by
  go_enter Try.func51, Try.ntmps51
  go_wp2
  go_loopw [8] (fun i wr => ∃ k, k ≤ l.length ∧ i = .int .i64 (k : Nat) ∧
      wr = (w.alloc (.cells #[.int .u64 0, .int .u64 0, .int .u64 0, .int .u64 0] 28)).alloc (.cells #[.int .u64 (wd (sOf (l.take k)) 0 : Nat), .int .u64 (wd (sOf (l.take k)) 1 : Nat), .int .u64 (wd (sOf (l.take k)) 2 : Nat), .int .u64 (wd (sOf (l.take k)) 3 : Nat)] 28))
    (fun i _ => l.length - (intOf i).toNat)
  case atStart =>
    refine ⟨0, Nat.zero_le _, rfl, ?_⟩
    simp only [List.take_zero, wd_none]
    rfl
  case round =>
    obtain ⟨k, hk, rfl, rfl⟩ := hrel
    by_cases hlt : k < l.length
    · obtain ⟨b, off, rfl, hb, hcell⟩ := hr (by intro h; subst h; simp at hlt)
      have hx := hl l[k] (List.getElem_mem hlt)
      have hg : l[k]? = some l[k] := List.getElem?_eq_getElem hlt
      have hc := hcell k l[k] hg
      have ht := sOf_take hg
      clear hg
      generalize l[k] = x at *
      have hne : b ≠ w.heap.size := by omega
      have hne2 : b ≠ w.heap.size + 1 := by omega
      have HT := Lib.hid ht
      clear hr hl hcell ht
      have hcase : x / 64 = 0 ∨ x / 64 = 1 ∨ x / 64 = 2 ∨ x / 64 = 3 := by omega
      rcases hcase with hq | hq | hq | hq
      · have hqi : (x : Int) / 64 = 0 := by omega
        have HQ := Lib.hid hq
        clear hq
        go_wp2
        refine ⟨⟨k + 1, by omega, by go_num, ?_⟩, by simp [intOf]; omega⟩
        rw [or_bit HT.out HQ.out, other_bit (i := 1) HT.out (by rw [HQ.out]; decide), other_bit (i := 2) HT.out (by rw [HQ.out]; decide), other_bit (i := 3) HT.out (by rw [HQ.out]; decide)]
      · have hqi : (x : Int) / 64 = 1 := by omega
        have HQ := Lib.hid hq
        clear hq
        go_wp2
        refine ⟨⟨k + 1, by omega, by go_num, ?_⟩, by simp [intOf]; omega⟩
        rw [or_bit HT.out HQ.out, other_bit (i := 0) HT.out (by rw [HQ.out]; decide), other_bit (i := 2) HT.out (by rw [HQ.out]; decide), other_bit (i := 3) HT.out (by rw [HQ.out]; decide)]
      · have hqi : (x : Int) / 64 = 2 := by omega
        have HQ := Lib.hid hq
        clear hq
        go_wp2
        refine ⟨⟨k + 1, by omega, by go_num, ?_⟩, by simp [intOf]; omega⟩
        rw [or_bit HT.out HQ.out, other_bit (i := 0) HT.out (by rw [HQ.out]; decide), other_bit (i := 1) HT.out (by rw [HQ.out]; decide), other_bit (i := 3) HT.out (by rw [HQ.out]; decide)]
      · have hqi : (x : Int) / 64 = 3 := by omega
        have HQ := Lib.hid hq
        clear hq
        go_wp2
        refine ⟨⟨k + 1, by omega, by go_num, ?_⟩, by simp [intOf]; omega⟩
        rw [or_bit HT.out HQ.out, other_bit (i := 0) HT.out (by rw [HQ.out]; decide), other_bit (i := 1) HT.out (by rw [HQ.out]; decide), other_bit (i := 2) HT.out (by rw [HQ.out]; decide)]
    · have he : l.take k = l := List.take_of_length_le (by omega)
      rw [he]
      clear hr hl
      go_wp2
      refine bodyPost_ret (v := setV (sOf l)) (by simp [results, Try.results51, go_sem]) rfl ⟨rfl, ?_⟩
      exact ((Below.refl _ _).alloc (Nat.le_refl _) _).alloc (by simp) _

theorem eqItems_step (d : Nat) (xs ys : Array Value) (j : Nat) (js : List Nat) (a b : Int) (w : World)
    (ha : (part 26 xs (j * 1)).run Try.prog w = .ok (.int .u64 a) w) (hb : (part 26 ys (j * 1)).run Try.prog w = .ok (.int .u64 b) w) :
    (Op.eqItems (d + 1) 26 1 xs ys (j :: js)).run Try.prog w = if a = b then (Op.eqItems (d + 1) 26 1 xs ys js).run Try.prog w else .ok false w := by
  have h64 := run_equalIn_int (P := Try.prog) w d 26 .u64 .u64 a b Try.underlying26
  simp only [Op.eqItems, Sem.run_bind, ha, hb, Result.andThen_ok, h64]
  by_cases h : a = b
  · simp [h]
  · have h2 : (a == b) = false := by simpa using h
    simp [h, h2]

theorem eql_set (m n : Nat → Bool) (w : World) : (binOp .eql 28 (setV m) (setV n)).run Try.prog w = .ok (.bool (setEq m n)) w := by
  have hp0 : ∀ (k : Nat → Bool), (part 26 #[.int .u64 (wd k 0 : Nat), .int .u64 (wd k 1 : Nat), .int .u64 (wd k 2 : Nat), .int .u64 (wd k 3 : Nat)] (0 * 1)).run Try.prog w = .ok (.int .u64 (wd k 0 : Nat)) w := fun k => by kernel_rfl
  have hp1 : ∀ (k : Nat → Bool), (part 26 #[.int .u64 (wd k 0 : Nat), .int .u64 (wd k 1 : Nat), .int .u64 (wd k 2 : Nat), .int .u64 (wd k 3 : Nat)] (1 * 1)).run Try.prog w = .ok (.int .u64 (wd k 1 : Nat)) w := fun k => by kernel_rfl
  have hp2 : ∀ (k : Nat → Bool), (part 26 #[.int .u64 (wd k 0 : Nat), .int .u64 (wd k 1 : Nat), .int .u64 (wd k 2 : Nat), .int .u64 (wd k 3 : Nat)] (2 * 1)).run Try.prog w = .ok (.int .u64 (wd k 2 : Nat)) w := fun k => by kernel_rfl
  have hp3 : ∀ (k : Nat → Bool), (part 26 #[.int .u64 (wd k 0 : Nat), .int .u64 (wd k 1 : Nat), .int .u64 (wd k 2 : Nat), .int .u64 (wd k 3 : Nat)] (3 * 1)).run Try.prog w = .ok (.int .u64 (wd k 3 : Nat)) w := fun k => by kernel_rfl
  have e : (Op.equalIn 10000 28 (setV m) (setV n)).run Try.prog w = .ok (setEq m n) w := by
    obtain ⟨i, hi⟩ : ∃ i, Try.prog.info? 26 = some i := Option.isSome_iff_exists.1 (by kernel_rfl)
    have hc : Try.prog.cellsOf 26 = 1 := by kernel_rfl
    have h := run_equalIn_array (P := Try.prog) w 9999 #[.int .u64 (wd m 0 : Nat), .int .u64 (wd m 1 : Nat), .int .u64 (wd m 2 : Nat), .int .u64 (wd m 3 : Nat)]
      #[.int .u64 (wd n 0 : Nat), .int .u64 (wd n 1 : Nat), .int .u64 (wd n 2 : Nat), .int .u64 (wd n 3 : Nat)] Try.underlying28 hi
    rw [hc, show List.range 4 = [0, 1, 2, 3] from rfl] at h
    rw [eqItems_step 9998 _ _ 0 _ _ _ w (hp0 m) (hp0 n), eqItems_step 9998 _ _ 1 _ _ _ w (hp1 m) (hp1 n), eqItems_step 9998 _ _ 2 _ _ _ w (hp2 m) (hp2 n), eqItems_step 9998 _ _ 3 _ _ _ w (hp3 m) (hp3 n)] at h
    refine h.trans ?_
    unfold setEq
    simp only [Int.natCast_inj]
    by_cases h0 : wd m 0 = wd n 0
    · by_cases h1 : wd m 1 = wd n 1
      · by_cases h2 : wd m 2 = wd n 2
        · by_cases h3 : wd m 3 = wd n 3
          · rw [if_pos h0, if_pos h1, if_pos h2, if_pos h3, h0, h1, h2, h3]; simp [Op.eqItems]
          · rw [if_pos h0, if_pos h1, if_pos h2, if_neg h3]; simp [h3]
        · rw [if_pos h0, if_pos h1, if_neg h2]; simp [h2]
      · rw [if_pos h0, if_neg h1]; simp [h1]
    · rw [if_neg h0]; simp [h0]
  have h2 := run_eql_struct (P := Try.prog) w 28 #[.int .u64 (wd m 0 : Nat), .int .u64 (wd m 1 : Nat), .int .u64 (wd m 2 : Nat), .int .u64 (wd m 3 : Nat)]
      #[.int .u64 (wd n 0 : Nat), .int .u64 (wd n 1 : Nat), .int .u64 (wd n 2 : Nat), .int .u64 (wd n 3 : Nat)]
  refine h2.trans ?_
  have e' : (Op.equalIn 10000 28 (.agg #[.int .u64 (wd m 0 : Nat), .int .u64 (wd m 1 : Nat), .int .u64 (wd m 2 : Nat), .int .u64 (wd m 3 : Nat)]) (.agg #[.int .u64 (wd n 0 : Nat), .int .u64 (wd n 1 : Nat), .int .u64 (wd n 2 : Nat), .int .u64 (wd n 3 : Nat)])).run Try.prog w = .ok (setEq m n) w := e
  rw [e']; rfl

/-- a set's four cells, in block g -/
def BoxIs (g : Nat) (m : Nat → Bool) (w : World) : Prop :=
  w.cell? ⟨g, 0, none⟩ = some (.int .u64 (wd m 0 : Nat)) ∧ w.cell? ⟨g, 1, none⟩ = some (.int .u64 (wd m 1 : Nat)) ∧
  w.cell? ⟨g, 2, none⟩ = some (.int .u64 (wd m 2 : Nat)) ∧ w.cell? ⟨g, 3, none⟩ = some (.int .u64 (wd m 3 : Nat))

theorem BoxIs.below {g : Nat} {m : Nat → Bool} {W W' : World} (h : BoxIs g m W) (hb : Below W.heap.size W W') (hg : g < W.heap.size) : BoxIs g m W' :=
  ⟨(hb.cell (p := ⟨g, 0, none⟩) hg).trans h.1, (hb.cell (p := ⟨g, 1, none⟩) hg).trans h.2.1, (hb.cell (p := ⟨g, 2, none⟩) hg).trans h.2.2.1, (hb.cell (p := ⟨g, 3, none⟩) hg).trans h.2.2.2⟩

/-- what is held of the world, in a region: it has grown; a set lies in block g -/
theorem held_step {w W W' : World} {g : Nat} {m : Nat → Bool} (h : Below w.heap.size w W ∧ g < W.heap.size ∧ W.cell? ⟨g, 0, none⟩ = some (.int .u64 (wd m 0 : Nat)) ∧ W.cell? ⟨g, 1, none⟩ = some (.int .u64 (wd m 1 : Nat)) ∧
      W.cell? ⟨g, 2, none⟩ = some (.int .u64 (wd m 2 : Nat)) ∧ W.cell? ⟨g, 3, none⟩ = some (.int .u64 (wd m 3 : Nat))) (hb : Below W.heap.size W W') :
    Below w.heap.size w W' ∧ g < W'.heap.size ∧ W'.cell? ⟨g, 0, none⟩ = some (.int .u64 (wd m 0 : Nat)) ∧ W'.cell? ⟨g, 1, none⟩ = some (.int .u64 (wd m 1 : Nat)) ∧
      W'.cell? ⟨g, 2, none⟩ = some (.int .u64 (wd m 2 : Nat)) ∧ W'.cell? ⟨g, 3, none⟩ = some (.int .u64 (wd m 3 : Nat)) :=
  ⟨h.1.trans (hb.mono h.1.size), Nat.lt_of_lt_of_le h.2.1 hb.size, BoxIs.below h.2.2 hb h.2.1⟩

/-- Of, of one byte and of two, that lie in a block of their own -/
theorem of_one (x b c : Nat) (w : World) (hx : x < 256) (hb : b < w.heap.size) (h0 : w.cell? ⟨b, 0, none⟩ = some (.int .u8 (x : Int))) :
    Calls Try.prog 51 #[.slice (some ⟨b, 0, none⟩) 1 c] w fun e w' => e = .returned (setV (sOf [x])) ∧ Below w.heap.size w w' :=
  of_any (some ⟨b, 0, none⟩) c [x] w (fun _ => ⟨b, 0, rfl, hb, fun k y hk => by
    obtain ⟨rfl, rfl⟩ : k = 0 ∧ x = y := by
      cases k with
      | zero => simpa using hk
      | succ k => simp at hk
    exact h0⟩) (by simpa using hx) (by simp)
theorem of_two (x y b c : Nat) (w : World) (hx : x < 256) (hy : y < 256) (hb : b < w.heap.size) (h0 : w.cell? ⟨b, 0, none⟩ = some (.int .u8 (x : Int))) (h1 : w.cell? ⟨b, 1, none⟩ = some (.int .u8 (y : Int))) :
    Calls Try.prog 51 #[.slice (some ⟨b, 0, none⟩) 2 c] w fun e w' => e = .returned (setV (sOf [x, y])) ∧ Below w.heap.size w w' :=
  of_any (some ⟨b, 0, none⟩) c [x, y] w (fun _ => ⟨b, 0, rfl, hb, fun k z hk => by
    match k, hk with
    | 0, hk => obtain rfl : x = z := by simpa using hk
               exact h0
    | 1, hk => obtain rfl : y = z := by simpa using hk
               exact h1
    | k + 2, hk => simp at hk⟩) (by simp [hx, hy]) (by simp)

end Go.Proofs.Ytngagijcdehjpaa

