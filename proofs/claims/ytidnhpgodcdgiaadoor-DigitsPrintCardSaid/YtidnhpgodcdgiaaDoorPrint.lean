/-
  NUMBERS AS TEXTS: what is said of no program; and what strconv.FormatUint answers, at base 10 and at base 16. Condition: the two tables of the library that it reads lie as they are laid.
-/
import Derived.Test.YtidnhpgodcdgiaaDoorParse
import Derived.Test.YtidnhpgodcdgiaaDoorShelf
import Derived.Lib.Walk
import Derived.Lib.ItoaMem
import Derived.WalkKit
import Derived.BigCall
import Derived.BigGuard
namespace Go.Proofs.YtidnhpgodcdgiaaDoor
open Go.RowKit Go.Sort

/-! ### the digits of a number -/
def chr (d : Nat) : UInt8 := UInt8.ofNat (if d < 10 then 48 + d else 87 + d)
def reprL (b n : Nat) : List UInt8 :=
  if _h : n < b ∨ b < 2 then [chr n] else reprL b (n / b) ++ [chr (n % b)]
termination_by n
decreasing_by exact Nat.div_lt_self (by omega) (by omega)

theorem reprL_small {b n : Nat} (h : n < b) : reprL b n = [chr n] := by rw [reprL, dif_pos (Or.inl h)]
theorem reprL_big {b n : Nat} (hb : 2 ≤ b) (h : ¬ n < b) : reprL b n = reprL b (n / b) ++ [chr (n % b)] := by rw [reprL, dif_neg (by omega)]
theorem reprL_ne (b n : Nat) : reprL b n ≠ [] := by
  rw [reprL]; split <;> simp

theorem decDigits_repr (u : Nat) : Lib.decDigits u = reprL 10 u := by
  induction u using Nat.strongRecOn with
  | _ u ih =>
    by_cases h : u < 10
    · rw [Lib.decDigits, dif_pos h, reprL_small h]; unfold chr; rw [if_pos h]
    · rw [Lib.decDigits, dif_neg h, reprL_big (by omega) h, ih (u / 10) (by omega)]
      unfold chr; rw [if_pos (by omega)]

theorem chr_digs : ∀ d : Fin 16, dig (chr d.val).toNat 16 = (d.val : Int) := by decide +kernel
theorem chr_digs10 : ∀ d : Fin 10, dig (chr d.val).toNat 10 = (d.val : Int) := by decide +kernel
theorem dig_chr {b d : Nat} (hb : b = 10 ∨ b = 16) (h : d < b) : dig (chr d).toNat b = (d : Int) := by
  rcases hb with rfl | rfl
  · exact chr_digs10 ⟨d, h⟩
  · exact chr_digs ⟨d, h⟩
theorem chr_nought {d : Nat} (h : d < 16) (hc : chr d = 48) : d = 0 := by
  have : ∀ d : Fin 16, chr d.val = 48 → d.val = 0 := by decide +kernel
  exact this ⟨d, h⟩ hc

theorem numS_chr {b d a : Nat} (hb : b = 10 ∨ b = 16) (h : d < b) : numS b a (chr d) = a * b + d := by
  unfold numS; rw [dig_chr hb h]; rfl
theorem num_repr {b : Nat} (hb : b = 10 ∨ b = 16) (n : Nat) : numL b (reprL b n) = n := by
  induction n using Nat.strongRecOn with
  | _ n ih =>
    by_cases h : n < b
    · rw [reprL_small h]
      show numS b 0 (chr n) = n
      rw [numS_chr hb h]; omega
    · rw [reprL_big (by omega) h, numL_snoc, ih _ (Nat.div_lt_self (by omega) (by omega)), numS_chr hb (Nat.mod_lt _ (by omega))]
      exact Nat.div_add_mod' n b
theorem allD_repr {b : Nat} (hb : b = 10 ∨ b = 16) (n : Nat) : allD b (reprL b n) = true := by
  induction n using Nat.strongRecOn with
  | _ n ih =>
    by_cases h : n < b
    · rw [reprL_small h]
      unfold allD
      simp only [List.all_cons, List.all_nil, Bool.and_true, decide_eq_true_eq]
      rw [dig_chr hb h]; omega
    · rw [reprL_big (by omega) h]
      have h1 := ih (n / b) (Nat.div_lt_self (by omega) (by omega))
      unfold allD at h1 ⊢
      rw [List.all_append, h1]
      simp only [List.all_cons, List.all_nil, Bool.and_true, Bool.true_and, decide_eq_true_eq]
      rw [dig_chr hb (Nat.mod_lt _ (by omega))]; omega
theorem parse_repr {b : Nat} (hb : b = 10 ∨ b = 16) {n : Nat} (hn : n ≤ 9223372036854775807) : parseN b (reprL b n) = (n, 0) := by
  rw [parseN_all (reprL_ne b n) (allD_repr hb n), num_repr hb n, if_pos hn]

/-- a nought ahead is the number nought alone -/
theorem repr_head {b : Nat} (hb : b = 10 ∨ b = 16) (n : Nat) (l : List UInt8) (h : reprL b n = 48 :: l) : l = [] := by
  induction n using Nat.strongRecOn generalizing l with
  | _ n ih =>
    by_cases hn : n < b
    · rw [reprL_small hn] at h
      simp at h; exact h.2
    · rw [reprL_big (by omega) hn] at h
      have hne := reprL_ne b (n / b)
      obtain ⟨c, r, hr⟩ : ∃ c r, reprL b (n / b) = c :: r := by
        cases hh : reprL b (n / b) with
        | nil => exact (hne hh).elim
        | cons c r => exact ⟨c, r, rfl⟩
      rw [hr] at h
      simp at h
      obtain ⟨rfl, h2⟩ := h
      have hlt : n / b < n := Nat.div_lt_self (by omega) (by omega)
      have hr0 := ih _ hlt _ hr
      subst hr0
      -- then n / b is one digit, and it is nought
      exfalso
      have h0 := num_repr hb (n / b)
      rw [hr] at h0
      have : numL b [48] = 0 := by rcases hb with rfl | rfl <;> decide
      rw [this] at h0
      have := Nat.div_eq_zero_iff.1 h0.symm
      omega
/-- a nought ahead changes no number -/
theorem num_nought (b : Nat) (hb : b = 10 ∨ b = 16) (l : List UInt8) : numL b (48 :: l) = numL b l := by
  have : numS b 0 48 = 0 := by rcases hb with rfl | rfl <;> decide
  unfold numL
  rw [List.foldl_cons, this]
theorem allD_nought (b : Nat) (hb : b = 10 ∨ b = 16) (l : List UInt8) : allD b (48 :: l) = allD b l := by
  unfold allD
  rw [List.all_cons]
  have : decide (0 ≤ dig (48 : UInt8).toNat b) = true := by rcases hb with rfl | rfl <;> decide
  rw [this, Bool.true_and]
theorem parse_nought (b : Nat) (hb : b = 10 ∨ b = 16) (l : List UInt8) (h : (parseN b l).2 = 0) : parseN b (48 :: l) = parseN b l := by
  have hl : l ≠ [] := by rintro rfl; simp [parseN] at h
  unfold parseN
  rw [if_neg (List.cons_ne_nil _ _), if_neg hl, num_nought b hb, allD_nought b hb]

/-! ### the two tables -/
def Tabs (w : World) : Prop := Lib.TabIs Tryd.prog w "internal/strconv.uint64pow10" .u64 Lib.pow10Tab ∧ w.cell? ⟨2, 15, none⟩ = some (.int .u8 4)
theorem Tabs.step {w w' : World} (h : Tabs w) (hb : Below w.heap.size w w') : Tabs w' := by
  refine ⟨?_, ?_⟩
  · have h1 := h.1
    unfold Lib.TabIs World.var? at *
    cases hg : (Tryd.prog).globalNamed "internal/strconv.uint64pow10" with
    | none => simp [hg] at h1
    | some g =>
      simp only [hg, Option.bind_some] at h1 ⊢
      have hlt : g < w.heap.size := by
        rcases Nat.lt_or_ge g w.heap.size with h' | h'
        · exact h'
        · rw [Array.getElem?_eq_none h'] at h1; simp at h1
      rw [hb.block g hlt]; exact h1
  · rw [hb.cell (p := ⟨_, 15, none⟩) (World.block_lt_of_cell? w _ h.2)]; exact h.2

/-! ### strconv.FormatUint, base 10 -/
abbrev encB : UInt8 → Value := fun b => Value.int .u8 (b.toNat : Int)
theorem below_put {B : Nat} {a w : World} {g off : Nat} {d : Array UInt8} (h : Below B a w) (hg : B ≤ g) : Below B a (putRow encB w g off d) :=
  ⟨h.os, h.tape, h.output, by simpa [putRow, mapBlock] using h.size, fun k hk => by
    rw [← h.block k hk]
    simp [putRow, mapBlock, Array.getElem?_modify, show g ≠ k by omega]⟩
theorem below_drewN {B : Nat} {a w : World} (h : Below B a w) (n : Nat) : Below B a (w.drewN n) := ⟨h.os, h.tape, h.output, h.size, h.block⟩
theorem holds_zero0 (w : World) (T : TypeId) (nd : Nat) (hs : nd ≤ 24) : Holds encB (w.alloc (.cells Lib.zeros24 T)) w.heap.size 0 (Array.replicate nd (0 : UInt8)) := fun j hj => by
  have hj' : j < nd := by simpa using hj
  refine ⟨?_, World.frozen?_alloc_new _ _ _ _⟩
  rw [World.cell?_alloc_new, Lib.zeros24_at _ (by omega), getElem!_pos _ j hj]
  simp

set_option maxHeartbeats 6400000 in
set_option maxRecDepth 100000 in
theorem fmt10 (u : Nat) (hu64 : u < 18446744073709551616) (w : World) (hT : Tabs w) :
    Calls Tryd.prog 17 #[.int .u64 u, .int .i64 10] w fun e w' => e = .returned (.string ⟨(reprL 10 u).toArray⟩) ∧ Below w.heap.size w w' := by
  rw [← decDigits_repr]
  by_cases hs : u < 100
  · have hd : decide ((u : Int) < 100) = true := by simp; omega
    have hk : IntKind.i64.wrap (u : Int) = (u : Int) := by rw [IntKind.wrap_i64]; omega
    go_enter Tryd.func17, Tryd.ntmps17
    go_wp2_with (go_at_call 18; refine (internal_strconv_small u hs _).mono ?_; rintro e w' ⟨rfl, rfl⟩)
    go_ret
    exact ⟨rfl, Below.refl _ _⟩
  · have hu1 : 1 ≤ u := by omega
    have hd : decide ((u : Int) < 100) = false := by simp; omega
    have hnd20 : Lib.nDigits u ≤ 20 := by have := Lib.numDigits_eq u hu1 hu64; split at this <;> omega
    have hal : Tryd.prog.arrayLen 37 = 24 := by kernel_rfl
    have hel : Tryd.prog.elem 37 = 5 := by kernel_rfl
    have hsl2 : ∀ W, (Instr.sliceAt 37 (.pointer (some ⟨w.heap.size, 0, none⟩)) none (some (.int .i64 (Lib.nDigits u : Int))) none).run Tryd.prog W = .ok (.slice (some ⟨w.heap.size, 0, none⟩) (Lib.nDigits u) 24) W := fun W => by
      rw [run_sliceAt_array_h W 37 ⟨w.heap.size, 0, none⟩ (by simp [Program.arrayLen, Program.elem, Tryd.underlying37]) .i64 (Lib.nDigits u : Int) (by omega) (by rw [hal]; omega)]
      go_simp
    have hH0 := holds_zero0 w 37 (Lib.nDigits u) (by omega)
    have hfmt := internal_strconv_formatBase10 w.heap.size 0 24 u (Array.replicate (Lib.nDigits u) 0) (w.alloc (.cells Lib.zeros24 37)) hH0 (by rw [Array.size_replicate]; exact Lib.lt_pow_nDigits u) hu64 (by rw [Array.size_replicate]; omega)
    rw [Array.size_replicate] at hfmt
    have HH0 := Lib.hid hH0
    have HT := Lib.hid hT
    clear hH0 hal hel hT
    go_enter Tryd.func17, Tryd.ntmps17
    go_wp2_with (first
      | (go_at_call 19; refine (internal_strconv_numDigits u hu1 hu64 _ (Lib.tabIs_alloc HT.out.1 _)).mono ?_; rintro e w' ⟨rfl, rfl⟩))
    go_at_call 20
    refine hfmt.mono ?_
    rintro e w' ⟨rfl, k, v', dk, rfl, hF⟩
    have hcv : (convert 40 9 (.slice (some ⟨w.heap.size, 0, none⟩) (Lib.nDigits u) 24)).run Tryd.prog ((putRow encB (w.alloc (.cells Lib.zeros24 37)) w.heap.size 0 dk).drewN k) = .ok (.string ⟨(Lib.decDigits u).toArray⟩) ((putRow encB (w.alloc (.cells Lib.zeros24 37)) w.heap.size 0 dk).drewN k) := by
      have h := run_convert_bytes_back (P := Tryd.prog) ((putRow encB (w.alloc (.cells Lib.zeros24 37)) w.heap.size 0 dk).drewN k) 40 9 5 ⟨w.heap.size, 0, none⟩ 24 (Lib.decDigits u) Tryd.underlying40 Tryd.underlying5 Tryd.underlying9 (fun j hj => by
        rw [Lib.row_is_numeral hF j hj, Lib.add_plain, World.cell?_drewN]
        exact cell?_putRow encB _ w.heap.size 0 _ dk HH0.out (by rw [hF.size, Array.size_replicate]) j (by rw [hF.size]; rw [Lib.decDigits_length] at hj; exact hj))
      rw [Lib.decDigits_length] at h
      exact h
    go_wp2
    go_ret
    exact ⟨rfl, below_drewN (below_put ((Below.refl _ _).alloc (Nat.le_refl _) _) (Nat.le_refl _)) _⟩

end Go.Proofs.YtidnhpgodcdgiaaDoor
