/-
  TEXTS AS NUMBERS: what is said of no program; and what both Parse answer, at every text and every base. No condition.
-/
import Derived.Test.YtidnhpgodcdgiaaDoorDig
import Derived.LoopTactic
import Derived.Below
import Derived.Lib.RuneLoops
namespace Go.Proofs.YtidnhpgodcdgiaaDoor
open Go.RowKit

def numS (b a : Nat) (c : UInt8) : Nat := a * b + (dig c.toNat b).toNat
/-- the number that the bytes' digits are -/
def numL (b : Nat) (l : List UInt8) : Nat := l.foldl (numS b) 0
/-- all bytes are digits -/
def allD (b : Nat) (l : List UInt8) : Bool := l.all fun c => decide (0 ≤ dig c.toNat b)
/-- the number, and the error -/
def parseN (b : Nat) (l : List UInt8) : Nat × Nat :=
  if l = [] then (0, 9) else if allD b l = true then if numL b l ≤ 9223372036854775807 then (numL b l, 0) else (0, 10) else (0, 9)
def parseZ (x : Int) (l : List UInt8) : Nat × Nat := if isB x then parseN x.toNat l else (0, 1)

theorem numL_snoc (b : Nat) (l : List UInt8) (c : UInt8) : numL b (l ++ [c]) = numS b (numL b l) c := by simp [numL]
theorem numL_take {b : Nat} {l : List UInt8} {i : Nat} (h : i < l.length) : numL b (l.take (i + 1)) = numS b (numL b (l.take i)) l[i] := by
  rw [← List.take_append_getElem h, numL_snoc]
theorem allD_take {b : Nat} {l : List UInt8} {i : Nat} (h : i < l.length) (ha : allD b (l.take i) = true) (hd : 0 ≤ dig (l[i]).toNat b) : allD b (l.take (i + 1)) = true := by
  rw [← List.take_append_getElem h]
  unfold allD at ha ⊢
  rw [List.all_append, ha]; simp [hd]
theorem allD_bad {b : Nat} {l : List UInt8} {i : Nat} (h : i < l.length) (hd : ¬ 0 ≤ dig (l[i]).toNat b) : allD b l = false := by
  unfold allD
  rw [List.all_eq_false]
  exact ⟨l[i], List.getElem_mem h, by simpa using hd⟩
theorem numL_mono_take {b : Nat} (hb : 1 ≤ b) (l : List UInt8) : ∀ (k i : Nat), i + k = l.length → numL b (l.take i) ≤ numL b l
  | 0, i, h => by rw [List.take_of_length_le (by omega)]; exact Nat.le_refl _
  | k + 1, i, h => by
    refine Nat.le_trans ?_ (numL_mono_take hb l k (i + 1) (by omega))
    rw [numL_take (by omega)]
    unfold numS
    exact Nat.le_trans (Nat.le_mul_of_pos_right _ hb) (Nat.le_add_right _ _)

theorem parseN_bad {b : Nat} {l : List UInt8} {i : Nat} (h : i < l.length) (hd : ¬ 0 ≤ dig (l[i]).toNat b) : parseN b l = (0, 9) := by
  unfold parseN
  rw [if_neg (by intro e; subst e; simp at h), allD_bad h hd]; rfl
theorem parseN_all {b : Nat} {l : List UInt8} (h : l ≠ []) (ha : allD b l = true) : parseN b l = if numL b l ≤ 9223372036854775807 then (numL b l, 0) else (0, 10) := by
  unfold parseN; rw [if_neg h, if_pos ha]

/-- the test ahead of a step -/
theorem fits_step {n v b : Nat} (hb : 1 ≤ b) (hv : v ≤ 9223372036854775807) : decide ((n : Int) ≤ (9223372036854775807 - (v : Int)) / (b : Int)) = decide (n * b + v ≤ 9223372036854775807) := by
  have e : (9223372036854775807 - (v : Int)) / (b : Int) = (((9223372036854775807 - v) / b : Nat) : Int) := by
    rw [Int.natCast_ediv]; congr 1; omega
  rw [e]
  apply decide_eq_decide.2
  rw [Int.ofNat_le, Nat.le_div_iff_mul_le hb]
  omega

theorem iter_shrinks (w : World) (s : ByteArray) (i : Nat) (h : i < s.size) : s.size - (w.iter s (i + 1)).iterPos w.heap.size < s.size - (w.iter s i).iterPos w.heap.size := by
  simp only [World.iterPos, World.iter_heap]
  omega
theorem wrap_step (x v : Int) (h1 : 0 ≤ x) (hv : 0 ≤ v) (h2 : x + v ≤ 9223372036854775807) : IntKind.u64.wrap (IntKind.u64.wrap x + v) = x + v := by
  rw [IntKind.wrap_u64, IntKind.wrap_u64]; omega

set_option maxHeartbeats 4000000 in
theorem parse_base (b : Nat) (hb : b = 10 ∨ b = 16) (s : ByteArray) (w : World) :
    Calls Tryd.prog 7 #[.string s, .int .i64 b] w fun e w' => e = .returned (.tuple #[.int .u64 ((parseN b s.data.toList).1 : Nat), .int .i64 ((parseN b s.data.toList).2 : Nat)]) ∧ Below w.heap.size w w' := by
  have hlen : s.data.toList.length = s.size := rfl
  have hd : decide (isB (b : Int)) = true := by rcases hb with rfl | rfl <;> decide
  by_cases hne : s = ⟨#[]⟩
  · subst hne
    go_enter Tryd.func7, Tryd.ntmps7
    go_wp2_with (go_at_call 14; refine (isBase_any _ _).mono ?_; rw [hd]; rintro e w' ⟨rfl, rfl⟩)
    go_ret2
    exact ⟨rfl, Below.refl _ _⟩
  have hl0 : s.data.toList ≠ [] := by
    intro e; apply hne
    rw [← Lib.ofBytes s, e]
  have hse : decide (s = ⟨#[]⟩) = false := by simp [hne]
  have hse2 : s.toList.isEmpty = false := by
    rw [← decide_eq_emptyBytes]; exact hse
  have hv := fun r w => value_any r b w
  have hb1 : 1 ≤ b := by omega
  have hwb : IntKind.u64.wrap (b : Int) = (b : Int) := by rw [IntKind.wrap_u64]; omega
  have hb0 : ((b : Int) == 0) = false := by simp; omega
  have HV := Lib.hid hv
  have HL := Lib.hid hl0
  have HLen := Lib.hid hlen
  clear hv hl0 hlen
  go_enter Tryd.func7, Tryd.ntmps7
  go_wp2_with (go_at_call 14; refine (isBase_any _ _).mono ?_; rw [hd]; rintro e w' ⟨rfl, rfl⟩)
  go_loopw [6, 7] (fun y f wr => ∃ (i : Nat) (z : Int), y = .int .u64 z ∧ f = .bool (decide (numL b (s.data.toList.take i) ≤ 9223372036854775807)) ∧ Hid (wr = w'.iter s i ∧ i ≤ s.size ∧ allD b (s.data.toList.take i) = true ∧ (numL b (s.data.toList.take i) ≤ 9223372036854775807 → z = (numL b (s.data.toList.take i) : Nat)))) (fun _ _ wr => s.size - wr.iterPos w'.heap.size)
  case atStart =>
    exact ⟨0, 0, rfl, by simp [numL], Lib.hid ⟨rfl, Nat.zero_le _, rfl, fun _ => by simp [numL]⟩⟩
  case round =>
    obtain ⟨i, z, rfl, rfl, HH⟩ := hrel
    obtain ⟨rfl, hi, hall, hz⟩ := HH.out
    by_cases hp : i < s.size
    · have hg : s[i] = s.data.toList[i]'hp := by rw [Lib.getD_at s i hp]; rw [List.getD_eq_getElem?_getD, List.getElem?_eq_getElem hp]; rfl
      by_cases ha : (s[i]'hp).toNat < 128
      · have hnx := fun ty => run_next_ascii (P := Tryd.prog) w' s i ty hp ha
        by_cases hdg : 0 ≤ dig (s[i]'hp).toNat b
        · obtain ⟨v, hvn⟩ : ∃ v : Nat, dig (s[i]'hp).toNat b = (v : Int) := ⟨(dig (s[i]'hp).toNat b).toNat, by omega⟩
          have hvb := dig_lt (s[i]'hp).toNat b (by omega)
          have hcall := HV.out (s[i]'hp).toNat
          rw [hvn] at hcall hvb
          have hnum : numL b (s.data.toList.take (i + 1)) = numL b (s.data.toList.take i) * b + v := by
            rw [numL_take hp, ← hg]; unfold numS; rw [hvn]; rfl
          have hmono : numL b (s.data.toList.take i) ≤ numL b (s.data.toList.take i) * b + v := Nat.le_trans (Nat.le_mul_of_pos_right _ hb1) (Nat.le_add_right _ _)
          have hall2 := allD_take hp hall (by rw [← hg, hvn]; omega)
          have hneg : decide ((v : Int) < 0) = false := by simp
          have hwv : IntKind.u64.wrap (v : Int) = (v : Int) := by rw [IntKind.wrap_u64]; omega
          have hws : IntKind.u64.wrap (9223372036854775807 - (v : Int)) = 9223372036854775807 - (v : Int) := by rw [IntKind.wrap_u64]; omega
          have HA := Lib.hid hall2
          have HN := Lib.hid hnum
          have HM := Lib.hid hmono
          clear hall2 hnum hmono hall hg hdg hvn
          by_cases hf : numL b (s.data.toList.take i) ≤ 9223372036854775807
          · obtain rfl := hz hf
            have hft := fits_step (n := numL b (s.data.toList.take i)) hb1 (show v ≤ 9223372036854775807 by omega)
            rw [← HN.out] at hft
            have hdf : decide (numL b (s.data.toList.take i) ≤ 9223372036854775807) = true := by simp [hf]
            go_wp2_with (go_at_call 15; refine (hcall _).mono ?_; rintro e w1 ⟨rfl, rfl⟩)
            refine ⟨⟨i + 1, _, rfl, rfl, Lib.hid ⟨rfl, hp, HA.out, fun hle => ?_⟩⟩, iter_shrinks _ s i hp⟩
            rw [HN.out] at hle ⊢
            have e1 : (((numL b (s.data.toList.take i) * b + v : Nat)) : Int) = (numL b (s.data.toList.take i) : Int) * (b : Int) + (v : Int) := by rw [Int.natCast_add, Int.natCast_mul]
            rw [e1, wrap_step _ _ (by rw [← Int.natCast_mul]; omega) (by omega) (by rw [← e1]; omega)]
          · have hdf : decide (numL b (s.data.toList.take i) ≤ 9223372036854775807) = false := by simp [hf]
            have hdf2 : decide (numL b (s.data.toList.take (i + 1)) ≤ 9223372036854775807) = false := by
              have := HN.out; have := HM.out
              simp; omega
            go_wp2_with (go_at_call 15; refine (hcall _).mono ?_; rintro e w1 ⟨rfl, rfl⟩)
            refine ⟨⟨i + 1, _, rfl, by rw [hdf2], Lib.hid ⟨rfl, hp, HA.out, fun hle => ?_⟩⟩, iter_shrinks _ s i hp⟩
            simp at hdf2; omega
        · have hcall := HV.out (s[i]'hp).toNat
          have hm1 : dig (s[i]'hp).toNat b = -1 := by have := dig_ge (s[i]'hp).toNat b; omega
          have hbad := parseN_bad (b := b) hp (by rw [← hg]; exact hdg)
          rw [hm1] at hcall
          clear hm1 hdg hall hz hg
          have HB := Lib.hid hbad
          clear hbad
          go_wp2_with (go_at_call 15; refine (hcall _).mono ?_; rintro e w1 ⟨rfl, rfl⟩)
          go_ret2
          rw [HB.out]
          exact ⟨rfl, (Below.refl _ _).alloc (Nat.le_refl _) _⟩
      · have hnx := fun ty => run_next_any (P := Tryd.prog) w' s i ty hp
        have hcall := HV.out (Utf8.decode s i).1
        have hdh := (decode_high s i hp (by omega)).1
        have hbad := parseN_bad (b := b) hp (by rw [← hg, dig_high (by omega)]; decide)
        rw [dig_high hdh] at hcall
        clear hall hz hg hdh
        have HB := Lib.hid hbad
        clear hbad
        go_wp2_with (go_at_call 15; refine (hcall _).mono ?_; rintro e w1 ⟨rfl, rfl⟩)
        go_ret2
        rw [HB.out]
        exact ⟨rfl, (Below.refl _ _).alloc (Nat.le_refl _) _⟩
    · have hnx := fun ty => run_next_end (P := Tryd.prog) w' s i ty hp
      have hi2 : i = s.size := by omega
      subst hi2
      have htk : s.data.toList.take s.size = s.data.toList := List.take_of_length_le (Nat.le_of_eq HLen.out)
      rw [htk] at hall hz
      rw [htk]
      have hpn := parseN_all HL.out hall
      by_cases hf : numL b s.data.toList ≤ 9223372036854775807
      · obtain rfl := hz hf
        have hdf : decide (numL b s.data.toList ≤ 9223372036854775807) = true := by simp [hf]
        rw [if_pos hf] at hpn
        have HP := Lib.hid hpn
        clear hpn
        go_wp2
        go_ret2
        rw [HP.out]
        exact ⟨rfl, (Below.refl _ _).alloc (Nat.le_refl _) _⟩
      · have hdf : decide (numL b s.data.toList ≤ 9223372036854775807) = false := by simp [hf]
        rw [if_neg hf] at hpn
        have HP := Lib.hid hpn
        clear hpn
        go_wp2
        go_ret2
        rw [HP.out]
        exact ⟨rfl, (Below.refl _ _).alloc (Nat.le_refl _) _⟩

set_option maxHeartbeats 1000000 in
theorem parse_any (x : Int) (s : ByteArray) (w : World) :
    Calls Tryd.prog 7 #[.string s, .int .i64 x] w fun e w' => e = .returned (.tuple #[.int .u64 ((parseZ x s.data.toList).1 : Nat), .int .i64 ((parseZ x s.data.toList).2 : Nat)]) ∧ Below w.heap.size w w' := by
  unfold parseZ
  by_cases h : isB x
  · rw [if_pos h]
    have hx : ((x.toNat : Nat) : Int) = x := by unfold isB at h; omega
    have := parse_base x.toNat (by unfold isB at h; omega) s w
    rw [hx] at this
    exact this
  · rw [if_neg h]
    have hd : decide (isB x) = false := by simp [h]
    go_enter Tryd.func7, Tryd.ntmps7
    go_wp2_with (go_at_call 14; refine (isBase_any _ _).mono ?_; rw [hd]; rintro e w' ⟨rfl, rfl⟩)
    go_ret2
    exact ⟨rfl, Below.refl _ _⟩

set_option maxHeartbeats 1000000 in
theorem refDigit_any (c : Nat) (hc : c < 256) (x : Int) (w : World) : Calls Tryd.prog 10 #[.int .u8 c, .int .i64 x] w fun e w' => e = .returned (.int .i64 (digZ c x)) ∧ w' = w := by
  unfold digZ
  by_cases h : isB x
  · rw [if_pos h]
    have hx : ((x.toNat : Nat) : Int) = x := by unfold isB at h; omega
    have := refDigit_base c x.toNat hc (by unfold isB at h; omega) w
    rw [hx] at this
    exact this
  · rw [if_neg h]
    have h10 : (x == 10) = false := by unfold isB at h; simp; omega
    have h16 : (x == 16) = false := by unfold isB at h; simp; omega
    have g10 : (x != 10) = true := by unfold isB at h; simp; omega
    have g16 : (x != 16) = true := by unfold isB at h; simp; omega
    go_enter Tryd.func10, Tryd.ntmps10
    go_wp2
    all_goals (go_ret; exact ⟨rfl, rfl⟩)

theorem idx_str {P : Program} (t : TypeId) (ht : P.underlying t = some .string) (s : ByteArray) (i : Nat) (hi : i < s.size) (w : World) :
    (Instr.index t (.string s) (.int .i64 (i : Nat))).run P w = .ok (.int .u8 ((s[i]'hi).toNat : Nat)) w := by
  rw [run_index_string w t s .i64 _ ht, dif_pos ⟨by omega, by omega⟩]
  have e : ((i : Int)).toNat = i := by omega
  simp only [e]

theorem not_fits_div {n b : Nat} (hb : 1 ≤ b) (h : ¬ n * b ≤ 9223372036854775807) : decide ((n : Int) > 9223372036854775807 / (b : Int)) = true := by
  have e : (9223372036854775807 : Int) / (b : Int) = ((9223372036854775807 / b : Nat) : Int) := by rw [Int.natCast_ediv]; rfl
  rw [e]
  simp only [gt_iff_lt, Int.ofNat_lt, decide_eq_true_eq]
  rw [Nat.div_lt_iff_lt_mul hb]; omega
theorem fits_div {n b : Nat} (hb : 1 ≤ b) (h : n * b ≤ 9223372036854775807) : decide ((n : Int) > 9223372036854775807 / (b : Int)) = false := by
  have e : (9223372036854775807 : Int) / (b : Int) = ((9223372036854775807 / b : Nat) : Int) := by rw [Int.natCast_ediv]; rfl
  rw [e]
  simp only [gt_iff_lt, Int.ofNat_lt, decide_eq_false_iff_not]
  rw [Nat.div_lt_iff_lt_mul hb]; omega

set_option maxHeartbeats 4000000 in
theorem refParse_base (b : Nat) (hb : b = 10 ∨ b = 16) (s : ByteArray) (hs : s.size ≤ 9223372036854775807) (w : World) :
    Calls Tryd.prog 8 #[.string s, .int .i64 b] w fun e w' => e = .returned (.tuple #[.int .u64 ((parseN b s.data.toList).1 : Nat), .int .i64 ((parseN b s.data.toList).2 : Nat)]) ∧ w' = w := by
  have hlen : s.data.toList.length = s.size := rfl
  have hr := fun (c : Nat) (hc : c < 256) w => refDigit_base c b hc hb w
  have hb1 : 1 ≤ b := by omega
  have hwb : IntKind.u64.wrap (b : Int) = (b : Int) := by rw [IntKind.wrap_u64]; omega
  have hb0 : ((b : Int) == 0) = false := by simp; omega
  have hg : (((b : Int) != 10) = true ∧ ((b : Int) != 16) = false) ∨ ((b : Int) != 10) = false := by rcases hb with rfl | rfl <;> simp
  have HR := Lib.hid hr
  have HLen := Lib.hid hlen
  clear hr hlen
  by_cases hne : s.size = 0
  · have hz : s = ⟨#[]⟩ := by
      cases s with | mk d => congr 1; apply Array.eq_empty_of_size_eq_zero; exact hne
    subst hz
    rcases hg with ⟨g1, g2⟩ | g1
    all_goals (
      go_enter Tryd.func8, Tryd.ntmps8
      go_wp2
      go_ret2
      exact ⟨rfl, rfl⟩)
  have hsz : ((s.size : Int) == 0) = false := by rw [beq_eq_false_iff_ne]; omega
  have hl0 : s.data.toList ≠ [] := by
    intro e; have := HLen.out; rw [e] at this; exact hne this.symm
  have HL := Lib.hid hl0
  clear hl0
  rcases hg with ⟨g1, g2⟩ | g1
  all_goals (
    go_enter Tryd.func8, Tryd.ntmps8
    go_wp2
    go_loopw [6] (fun i wr => ∃ k : Nat, i = .int .i64 k ∧ k ≤ s.size ∧ Hid (w = wr ∧ allD b (s.data.toList.take k) = true)) (fun i _ => s.size - (intOf i).toNat)
    case atStart => exact ⟨0, rfl, Nat.zero_le _, Lib.hid ⟨rfl, rfl⟩⟩
    case round =>
      obtain ⟨k, rfl, hk, HH⟩ := hrel
      obtain ⟨rfl, hall⟩ := HH.out
      by_cases hp : k < s.size
      · have hgl : s[k] = s.data.toList[k]'hp := by rw [Lib.getD_at s k hp]; rw [List.getD_eq_getElem?_getD, List.getElem?_eq_getElem hp]; rfl
        have hdl : decide ((k : Int) < (s.size : Int)) = true := by simp; omega
        have hix := idx_str 9 Tryd.underlying9 s k hp (P := Tryd.prog)
        have hk1 : IntKind.i64.wrap ((k : Int) + 1) = ((k + 1 : Nat) : Int) := by rw [IntKind.wrap_i64]; omega
        have hcall := HR.out (s[k]'hp).toNat (by have := UInt8.toNat_lt (s[k]'hp); omega)
        by_cases hdg : 0 ≤ dig (s[k]'hp).toNat b
        · have hall2 := allD_take hp hall (by rw [← hgl]; exact hdg)
          have hneg : decide (dig (s[k]'hp).toNat b < 0) = false := by simp; omega
          have HA := Lib.hid hall2
          clear hall2 hall hgl hdg
          go_wp2_with (go_at_call 10; refine (hcall _).mono ?_; rintro e w1 ⟨rfl, rfl⟩)
          exact ⟨⟨k + 1, by first | rfl | rw [hk1], hp, Lib.hid ⟨by first | trivial | rfl, HA.out⟩⟩, by simp [intOf]; omega⟩
        · have hneg : decide (dig (s[k]'hp).toNat b < 0) = true := by simp; omega
          have hbad := parseN_bad (b := b) hp (by rw [← hgl]; exact hdg)
          have HB := Lib.hid hbad
          clear hbad hall hgl hdg
          go_wp2_with (go_at_call 10; refine (hcall _).mono ?_; rintro e w1 ⟨rfl, rfl⟩)
          go_ret2
          rw [HB.out]
          exact ⟨rfl, rfl⟩
      · have hdl : decide ((k : Int) < (s.size : Int)) = false := by simp; omega
        obtain rfl : k = s.size := by omega
        rw [List.take_of_length_le (Nat.le_of_eq HLen.out)] at hall
        have hpn := parseN_all HL.out hall
        have HP := Lib.hid hpn
        have HA := Lib.hid hall
        clear hpn hall
        go_wp2
        go_loopw [7, 8] (fun n i wr => ∃ k : Nat, n = .int .u64 (numL b (s.data.toList.take k) : Nat) ∧ i = .int .i64 k ∧ k ≤ s.size ∧ Hid (w = wr ∧ numL b (s.data.toList.take k) ≤ 9223372036854775807)) (fun _ i _ => s.size - (intOf i).toNat)
        case atStart => exact ⟨0, rfl, rfl, Nat.zero_le _, Lib.hid ⟨rfl, by simp [numL]⟩⟩
        case round =>
          obtain ⟨k, rfl, rfl, hk, HH⟩ := hrel
          obtain ⟨rfl, hm⟩ := HH.out
          by_cases hp : k < s.size
          · have hgl : s[k] = s.data.toList[k]'hp := by rw [Lib.getD_at s k hp]; rw [List.getD_eq_getElem?_getD, List.getElem?_eq_getElem hp]; rfl
            have hdl : decide ((k : Int) < (s.size : Int)) = true := by simp; omega
            have hix := idx_str 9 Tryd.underlying9 s k hp (P := Tryd.prog)
            have hk1 : IntKind.i64.wrap ((k : Int) + 1) = ((k + 1 : Nat) : Int) := by rw [IntKind.wrap_i64]; omega
            have hcall := HR.out (s[k]'hp).toNat (by have := UInt8.toNat_lt (s[k]'hp); omega)
            have hdg : 0 ≤ dig (s[k]'hp).toNat b := by
              have := HA.out
              unfold allD at this
              rw [List.all_eq_true] at this
              have := this _ (List.getElem_mem (l := s.data.toList) hp)
              rw [← hgl] at this
              simpa using this
            obtain ⟨v, hvn⟩ : ∃ v : Nat, dig (s[k]'hp).toNat b = (v : Int) := ⟨(dig (s[k]'hp).toNat b).toNat, by omega⟩
            have hvb := dig_lt (s[k]'hp).toNat b (by omega)
            have hnum : numL b (s.data.toList.take (k + 1)) = numL b (s.data.toList.take k) * b + v := by
              rw [numL_take hp, ← hgl]; unfold numS; rw [hvn]; rfl
            have hmono := numL_mono_take hb1 s.data.toList (s.size - (k + 1)) (k + 1) (by have := HLen.out; omega)
            rw [hvn] at hcall hvb
            have hwv : IntKind.u64.wrap (v : Int) = (v : Int) := by rw [IntKind.wrap_u64]; omega
            rw [hnum] at hmono
            have HN := Lib.hid hnum
            have HM := Lib.hid hmono
            clear hnum hmono hdg hgl hvn
            generalize hx : numL b (s.data.toList.take k) = x at *
            have HX := Lib.hid hx
            clear hx
            by_cases hm1 : x * b ≤ 9223372036854775807
            · have hd1 := fits_div hb1 hm1
              have hmul : IntKind.u64.wrap ((x : Int) * (b : Int)) = ((x * b : Nat) : Int) := by rw [← Int.natCast_mul, IntKind.wrap_u64]; omega
              have hsub : IntKind.u64.wrap (9223372036854775807 - ((x * b : Nat) : Int)) = 9223372036854775807 - ((x * b : Nat) : Int) := by rw [IntKind.wrap_u64]; omega
              generalize hy : x * b = y at *
              have HY := Lib.hid hy
              clear hy
              by_cases hm2 : y + v ≤ 9223372036854775807
              · have hd2 : decide ((v : Int) > 9223372036854775807 - (y : Int)) = false := by simp; omega
                have hadd : IntKind.u64.wrap ((y : Int) + (v : Int)) = ((y + v : Nat) : Int) := by rw [IntKind.wrap_u64]; omega
                go_wp2_with (go_at_call 10; refine (hcall _).mono ?_; rintro e w1 ⟨rfl, rfl⟩)
                refine ⟨⟨k + 1, ?_, by first | rfl | rw [hk1], hp, Lib.hid ⟨by first | trivial | rfl, by rw [HN.out]; exact hm2⟩⟩, by simp [intOf]; omega⟩
                rw [HN.out]; first | rfl | rw [hadd]
              · have hd2 : decide ((v : Int) > 9223372036854775807 - (y : Int)) = true := by simp; omega
                go_wp2_with (go_at_call 10; refine (hcall _).mono ?_; rintro e w1 ⟨rfl, rfl⟩)
                go_ret2
                rw [HP.out, if_neg (by have := HM.out; omega)]
                exact ⟨rfl, rfl⟩
            · have hd1 := not_fits_div hb1 hm1
              go_wp2_with (go_at_call 10; refine (hcall _).mono ?_; rintro e w1 ⟨rfl, rfl⟩)
              go_ret2
              rw [HP.out, if_neg (by have := HM.out; omega)]
              exact ⟨rfl, rfl⟩
          · have hdl : decide ((k : Int) < (s.size : Int)) = false := by simp; omega
            obtain rfl : k = s.size := by omega
            rw [List.take_of_length_le (Nat.le_of_eq HLen.out)] at hm
            rw [List.take_of_length_le (Nat.le_of_eq HLen.out)]
            go_wp2
            go_ret2
            rw [HP.out, if_pos hm]
            exact ⟨rfl, rfl⟩)

set_option maxHeartbeats 1000000 in
theorem refParse_any (x : Int) (s : ByteArray) (hs : s.size ≤ 9223372036854775807) (w : World) :
    Calls Tryd.prog 8 #[.string s, .int .i64 x] w fun e w' => e = .returned (.tuple #[.int .u64 ((parseZ x s.data.toList).1 : Nat), .int .i64 ((parseZ x s.data.toList).2 : Nat)]) ∧ w' = w := by
  unfold parseZ
  by_cases h : isB x
  · rw [if_pos h]
    have hx : ((x.toNat : Nat) : Int) = x := by unfold isB at h; omega
    have := refParse_base x.toNat (by unfold isB at h; omega) s hs w
    rw [hx] at this
    exact this
  · rw [if_neg h]
    have h10 : (x == 10) = false := by unfold isB at h; simp; omega
    have h16 : (x == 16) = false := by unfold isB at h; simp; omega
    have g10 : (x != 10) = true := by unfold isB at h; simp; omega
    have g16 : (x != 16) = true := by unfold isB at h; simp; omega
    go_enter Tryd.func8, Tryd.ntmps8
    go_wp2
    all_goals (go_ret2; exact ⟨rfl, rfl⟩)

end Go.Proofs.YtidnhpgodcdgiaaDoor
