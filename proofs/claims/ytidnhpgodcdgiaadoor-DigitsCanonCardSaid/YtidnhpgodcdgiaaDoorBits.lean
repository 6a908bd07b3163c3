/-
  NUMBERS AS TEXTS: what internal/strconv.formatBits answers at base 16, and strconv.FormatUint at both. Condition: the two tables of the library that it reads lie as they are laid.
-/
import Derived.Test.YtidnhpgodcdgiaaDoorBools
import Derived.Test.YtidnhpgodcdgiaaDoorPrint
namespace Go.Proofs.YtidnhpgodcdgiaaDoor
open Go.RowKit Go.Sort

def digs36 : ByteArray := ⟨#[48, 49, 50, 51, 52, 53, 54, 55, 56, 57, 97, 98, 99, 100, 101, 102, 103, 104, 105, 106, 107, 108, 109, 110, 111, 112, 113, 114, 115, 116, 117, 118, 119, 120, 121, 122]⟩
theorem digs36_size : digs36.size = 36 := rfl
theorem digs36_fin : ∀ d : Fin 16, (digs36.data.toList.getD d.val 0) = chr d.val := by decide +kernel
theorem digs36_at (d : Nat) (h : d < 16) : digs36[d]'(by rw [digs36_size]; omega) = chr d := by
  rw [Lib.getD_at]; exact digs36_fin ⟨d, h⟩
theorem idx_digs {t : TypeId} (ht : (Tryd.prog).underlying t = some .string) (d : Nat) (h : d < 16) (w : World) :
    (Instr.index t (.string digs36) (.int .u64 (d : Nat))).run Tryd.prog w = .ok (.int .u8 ((chr d).toNat : Nat)) w := by
  rw [run_index_string w t digs36 .u64 _ ht, dif_pos ⟨by omega, by rw [digs36_size]; omega⟩]
  have e : ((d : Int)).toNat = d := by omega
  simp only [e]
  rw [digs36_at d h]

set_option maxHeartbeats 1000000 in
theorem pow2_16 (w : World) : Calls Tryd.prog 25 #[.int .i64 16] w fun e w' => e = .returned (.bool true) ∧ w = w' := by
  go_enter Tryd.func25, Tryd.ntmps25
  go_wp2
  go_ret
  exact ⟨rfl, rfl⟩

set_option maxHeartbeats 1000000 in
theorem tz16 (w : World) (hT : Tabs w) : Calls Tryd.prog 26 #[.int .u64 16] w fun e w' => e = .returned (.int .i64 4) ∧ w = w' := by
  have hc := hT.2
  have key : IntKind.u64.wrap (bits BinOp.and IntKind.u64 16 (IntKind.u64.wrap (-16)) * 285870213051353865) / 288230376151711744 = 15 := by decide +kernel
  clear hT
  go_enter Tryd.func26, Tryd.ntmps26
  go_wp2_with go_in
  go_ret
  exact ⟨rfl, rfl⟩

def zeros65 : Array Value := Array.replicate 65 (.int .u8 0)
theorem zero65 (w : World) : (zeroValue 47).run Tryd.prog w = .ok (.agg zeros65) w := by kernel_rfl

/-- of 65 bytes in block g the last hold suf -/
def Tail (w : World) (g j : Nat) (suf : List UInt8) : Prop := ∃ cs : Array Value, BlkIs w g 47 cs ∧ cs.size = 65 ∧ (∀ t, t < 65 → ∃ z, cs[t]? = some (.int .u8 z)) ∧ j + suf.length = 65 ∧ ∀ t (h : t < suf.length), cs[j + t]? = some (.int .u8 ((suf[t]'h).toNat : Nat))
theorem Tail.cell {w : World} {g j : Nat} {suf : List UInt8} (h : Tail w g j suf) (t : Nat) (ht : t < 65) : ∃ z, w.cell? ⟨g, t, none⟩ = some (.int .u8 z) := by
  obtain ⟨cs, h1, h2, h3, _⟩ := h
  rw [h1.cell t]; exact h3 t ht
theorem Tail.frozen {w : World} {g j : Nat} {suf : List UInt8} (h : Tail w g j suf) (t : Nat) : w.frozen? ⟨g, t, none⟩ = false := by
  obtain ⟨cs, h1, _⟩ := h
  exact h1.frozen t
theorem Tail.put {w : World} {g m : Nat} {suf : List UInt8} (h : Tail w g (m + 1) suf) (c : UInt8) : Tail (w.setCell ⟨g, m, none⟩ (.int .u8 (c.toNat : Nat))) g m (c :: suf) := by
  obtain ⟨cs, h1, h2, h3, h4, h5⟩ := h
  refine ⟨_, h1.put m _, by simpa using h2, fun t ht => ?_, by simp; omega, fun t ht => ?_⟩
  · rw [Array.getElem?_setIfInBounds]
    by_cases e : m = t
    · subst e; exact ⟨((c.toNat : Nat) : Int), by simp [h2, ht]⟩
    · rw [if_neg e]; exact h3 t ht
  · rw [Array.getElem?_setIfInBounds]
    cases t with
    | zero => simp [h2]; omega
    | succ k =>
      rw [if_neg (by omega)]
      have := h5 k (by simpa using ht)
      rw [show m + (k + 1) = m + 1 + k by omega, this]; simp
theorem Tail.drew {w : World} {g j : Nat} {suf : List UInt8} (h : Tail w g j suf) : Tail w.drew g j suf := h

theorem hex_big {v : Nat} (h : 16 ≤ v) (suf l : List UInt8) (hh : reprL 16 v ++ suf = l) : reprL 16 (v / 16) ++ (chr (v % 16) :: suf) = l := by
  rw [← hh, reprL_big (by omega) (show ¬ v < 16 by omega), List.append_assoc]; rfl
theorem hex_bound {v n k : Nat} (h : 16 ≤ v) (hb : v < 16 ^ (k + 1)) (hn : n + (k + 1) = 16) : ∃ k', k = k' + 1 ∧ v / 16 < 16 ^ (k' + 1) := by
  cases k with
  | zero => simp at hb; omega
  | succ k' => exact ⟨k', rfl, by rw [Nat.div_lt_iff_lt_mul (by omega)]; rwa [Nat.pow_succ] at hb⟩

set_option maxHeartbeats 6400000 in
set_option maxRecDepth 100000 in
theorem bits16 (u : Nat) (hu64 : u < 18446744073709551616) (w : World) (hT : Tabs w) :
    Calls Tryd.prog 21 #[.slice none 0 0, .int .u64 u, .int .i64 16, .bool false, .bool false] w fun e w' =>
      e = .returned (.tuple #[.slice none 0 0, .string ⟨(reprL 16 u).toArray⟩]) ∧ Below w.heap.size w w' := by
  have HT := Lib.hid hT
  have hz := zero65
  clear hT
  go_enter Tryd.func21, Tryd.ntmps21
  go_wp2_with (first
    | (go_at_call 25; refine (pow2_16 _).mono ?_; rintro e w' ⟨rfl, rfl⟩)
    | (go_at_call 26; refine (tz16 _ (HT.out.step ((Below.refl _ _).alloc (Nat.le_refl _) _))).mono ?_; rintro e w' ⟨rfl, rfl⟩))
  go_loopw [1, 13] (fun x i wr => ∃ (v j k : Nat) (suf : List UInt8), x = .int .u64 v ∧ i = .int .i64 (j : Nat) ∧ Hid (Below w.heap.size w wr ∧ Tail wr w.heap.size j suf ∧ suf.length + (k + 1) = 16 ∧ v < 16 ^ (k + 1) ∧ reprL 16 v ++ suf = reprL 16 u)) (fun x _ _ => (intOf x).toNat)
  case atStart =>
    refine ⟨u, 65, 15, [], rfl, rfl, Lib.hid ⟨(Below.refl _ _).alloc (Nat.le_refl _) _, ⟨zeros65, BlkIs.new _ _ _, by simp [zeros65], fun t ht => ⟨0, by unfold zeros65; rw [Array.getElem?_replicate, if_pos ht]⟩, rfl, fun t ht => by simp at ht⟩, rfl, hu64, by simp⟩⟩
  case round =>
    obtain ⟨v, j, k, suf, rfl, rfl, HH⟩ := hrel
    obtain ⟨hb, htl, hk, hv, hrep⟩ := HH.out
    have hj : j + suf.length = 65 := by obtain ⟨_, _, _, _, h, _⟩ := htl; exact h
    obtain ⟨m, rfl⟩ : ∃ m, j = m + 1 := ⟨j - 1, by omega⟩
    have hm : IntKind.i64.wrap (((m + 1 : Nat) : Int) - 1) = (m : Int) := by rw [IntKind.wrap_i64]; omega
    obtain ⟨z, hcell⟩ := htl.cell m (by omega)
    have hfr := htl.frozen m
    have hm65 : m < 65 := by omega
    have hidx := fun d h w => idx_digs (t := 9) Tryd.underlying9 d h w
    unfold digs36 at hidx
    by_cases h16 : 16 ≤ v
    · have hge : decide ((v : Int) ≥ 16) = true := by simp; omega
      have hand : bits BinOp.and IntKind.u64 (v : Int) 15 = ((v % 16 : Nat) : Int) := by
        have hv64 : v < 18446744073709551616 := Nat.lt_of_lt_of_le hv (by
          have := Nat.pow_le_pow_right (show 0 < 16 by decide) (show k + 1 ≤ 16 by omega)
          simpa using this)
        have := u64_and_nat v 15 hv64 (by omega)
        rw [show ((15 : Nat) : Int) = 15 from rfl] at this
        rw [this, show 15 = 2 ^ 4 - 1 from rfl, Nat.and_two_pow_sub_one_eq_mod]
      have hix := hidx (v % 16) (Nat.mod_lt _ (by omega))
      have HH2 := Lib.hid (And.intro hb (And.intro htl (And.intro hk (And.intro hv hrep))))
      clear hidx hb htl hk hv hrep HH
      go_wp2
      obtain ⟨hb, htl, hk, hv, hrep⟩ := HH2.out
      obtain ⟨k', rfl, hv'⟩ := hex_bound h16 hv hk
      have hd := digs36_at (v % 16) (Nat.mod_lt _ (by omega))
      unfold digs36 at hd
      rw [hd]
      exact ⟨⟨v / 16, m, k', chr (v % 16) :: suf, by first | rfl | (rw [Int.natCast_ediv]; rfl), rfl, Lib.hid ⟨hb.setCell (Nat.le_refl _) _, htl.put _, by simp; omega, hv', hex_big h16 _ _ hrep⟩⟩, by simp [intOf]; omega⟩
    · have hge : decide ((v : Int) ≥ 16) = false := by simp; omega
      have hix := hidx v (by omega)
      have hrep2 : reprL 16 u = chr v :: suf := by rw [← hrep, reprL_small (by omega)]; rfl
      have htl2 := htl.put (chr v)
      have hb2 := hb.setCell (p := ⟨w.heap.size, m, none⟩) (Nat.le_refl _) (.int .u8 ((chr v).toNat : Nat))
      have HR := Lib.hid hrep2
      have HT2 := Lib.hid htl2
      have HB2 := Lib.hid hb2
      clear hidx hb htl hk hv hrep HH hrep2 htl2 hb2
      obtain ⟨n, hn⟩ : ∃ n, n = (chr v :: suf).length := ⟨_, rfl⟩
      have hsl : ∀ W, (Instr.sliceAt 47 (.pointer (some ⟨w.heap.size, 0, none⟩)) (some (.int .i64 (m : Nat))) none none).run Tryd.prog W = .ok (.slice (some ⟨w.heap.size, m, none⟩) n n) W := fun W => by
        have hal : Tryd.prog.arrayLen 47 = 65 := by kernel_rfl
        rw [run_sliceAt_array_l W 47 ⟨w.heap.size, 0, none⟩ (by simp [Program.arrayLen, Program.elem, Tryd.underlying47]) .i64 (m : Int) (by omega) (by rw [hal]; omega)]
        have hle : (65 - m : Nat) = n := by rw [hn]; simp; omega
        rw [← hle]
        go_simp
        omega
      have hcv : (convert 40 9 (.slice (some ⟨w.heap.size, m, none⟩) n n)).run Tryd.prog (wr.setCell ⟨w.heap.size, m, none⟩ (.int .u8 ((chr v).toNat : Nat))) = .ok (.string ⟨(chr v :: suf).toArray⟩) (wr.setCell ⟨w.heap.size, m, none⟩ (.int .u8 ((chr v).toNat : Nat))) := by
        have h := run_convert_bytes_back (P := Tryd.prog) (wr.setCell ⟨w.heap.size, m, none⟩ (.int .u8 ((chr v).toNat : Nat))) 40 9 5 ⟨w.heap.size, m, none⟩ n (chr v :: suf) Tryd.underlying40 Tryd.underlying5 Tryd.underlying9 (fun t ht => by
          obtain ⟨cs, h1, h2, h3, h4, h5⟩ := HT2.out
          rw [Lib.add_plain, h1.cell]
          exact h5 t ht)
        rw [← hn] at h
        exact h
      clear hn
      go_wp2
      go_ret2
      rw [HR.out]
      exact ⟨rfl, HB2.out⟩

set_option maxHeartbeats 1000000 in
theorem fmt16 (u : Nat) (hu64 : u < 18446744073709551616) (w : World) (hT : Tabs w) :
    Calls Tryd.prog 17 #[.int .u64 u, .int .i64 16] w fun e w' => e = .returned (.string ⟨(reprL 16 u).toArray⟩) ∧ Below w.heap.size w w' := by
  have HT := Lib.hid hT
  clear hT
  go_enter Tryd.func17, Tryd.ntmps17
  go_wp2_with (go_at_call 21; refine (bits16 u hu64 _ HT.out).mono ?_; rintro e w' ⟨rfl, hb⟩)
  go_ret
  exact ⟨rfl, hb⟩

set_option maxHeartbeats 1000000 in
theorem fmt_any (b : Nat) (hb : b = 10 ∨ b = 16) (u : Nat) (hu64 : u < 18446744073709551616) (w : World) (hT : Tabs w) :
    Calls Tryd.prog 16 #[.int .u64 u, .int .i64 b] w fun e w' => e = .returned (.string ⟨(reprL b u).toArray⟩) ∧ Below w.heap.size w w' := by
  have h : ∀ W, Tabs W → Calls Tryd.prog 17 #[.int .u64 u, .int .i64 b] W fun e w' => e = .returned (.string ⟨(reprL b u).toArray⟩) ∧ Below W.heap.size W w' := by
    intro W hW
    rcases hb with rfl | rfl
    · exact fmt10 u hu64 W hW
    · exact fmt16 u hu64 W hW
  have H := Lib.hid h
  have HT := Lib.hid hT
  clear hT h
  go_enter Tryd.func16, Tryd.ntmps16
  go_wp2_with (go_at_call 17; refine (H.out _ HT.out).mono ?_; rintro e w' ⟨rfl, hb⟩)
  go_ret
  exact ⟨rfl, hb⟩

/-! ### Print -/
/-- the text, and the error -/
def printZ (x : Int) (n : Nat) : List UInt8 × Nat := if isB x then if n ≤ 9223372036854775807 then (reprL x.toNat n, 0) else ([], 10) else ([], 1)

set_option maxHeartbeats 1000000 in
theorem print_any (x : Int) (n : Nat) (hn : n < 18446744073709551616) (w : World) (hT : Tabs w) :
    Calls Tryd.prog 11 #[.int .u64 n, .int .i64 x] w fun e w' => e = .returned (.tuple #[.string ⟨(printZ x n).1.toArray⟩, .int .i64 ((printZ x n).2 : Nat)]) ∧ Below w.heap.size w w' := by
  have HT := Lib.hid hT
  clear hT
  unfold printZ
  by_cases h : isB x
  · have hd : decide (isB x) = true := by simp [h]
    rw [if_pos h]
    have hx : ((x.toNat : Nat) : Int) = x := by unfold isB at h; omega
    have hf := fmt_any x.toNat (by unfold isB at h; omega) n hn w HT.out
    rw [hx] at hf
    have HF := Lib.hid hf
    clear hf
    by_cases hm : n ≤ 9223372036854775807
    · have hg : decide ((n : Int) > 9223372036854775807) = false := by simp; omega
      rw [if_pos hm]
      go_enter Tryd.func11, Tryd.ntmps11
      go_wp2_with (first
        | (go_at_call 14; refine (isBase_any _ _).mono ?_; rw [hd]; rintro e w' ⟨rfl, hw⟩; subst hw)
        | (go_at_call 16; refine HF.out.mono ?_; rintro e w' ⟨rfl, hb⟩))
      go_ret2
      exact ⟨rfl, hb⟩
    · have hg : decide ((n : Int) > 9223372036854775807) = true := by simp; omega
      rw [if_neg hm]
      go_enter Tryd.func11, Tryd.ntmps11
      go_wp2_with (go_at_call 14; refine (isBase_any _ _).mono ?_; rw [hd]; rintro e w' ⟨rfl, rfl⟩)
      go_ret2
      exact ⟨rfl, Below.refl _ _⟩
  · have hd : decide (isB x) = false := by simp [h]
    rw [if_neg h]
    go_enter Tryd.func11, Tryd.ntmps11
    go_wp2_with (go_at_call 14; refine (isBase_any _ _).mono ?_; rw [hd]; rintro e w' ⟨rfl, rfl⟩)
    go_ret2
    exact ⟨rfl, Below.refl _ _⟩

end Go.Proofs.YtidnhpgodcdgiaaDoor
