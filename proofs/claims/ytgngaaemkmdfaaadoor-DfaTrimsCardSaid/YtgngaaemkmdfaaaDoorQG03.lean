/-
  WHAT EACH FUNCTION OF PACKAGE hackleref01 ANSWERS: contracts. No condition but those that a contract names.
-/
import Derived.Deep.WholeRow
import Derived.Test.YtgngaaemkmdfaaaDoorQG02
namespace Go.Proofs.YtgngaaemkmdfaaaDoor
open Go.RowKit

theorem half_div (x k : Nat) : x / 2 ^ k / 2 = x / 2 ^ (k + 1) := by rw [Nat.div_div_eq_div_mul, Nat.pow_succ]

def shW (f : Nat → Bool) (c i : Nat) : Nat := wd f i / 2 ^ (min 64 (c - 64 * i))
theorem shW_other {f : Nat → Bool} {b i : Nat} (h : b / 64 ≠ i) : shW f b i = shW f (b + 1) i := by
  unfold shW
  have : min 64 (b - 64 * i) = min 64 (b + 1 - 64 * i) := by omega
  rw [this]
theorem shW_step {f : Nat → Bool} {b q : Nat} (h : b / 64 = q) : shW f b q = 2 * shW f (b + 1) q + (if f b then 1 else 0) := by
  unfold shW
  have e1 : min 64 (b - 64 * q) = b % 64 := by omega
  have e2 : min 64 (b + 1 - 64 * q) = b % 64 + 1 := by omega
  rw [e1, e2]
  have ht := wd_testBit f q (b % 64)
  rw [show 64 * q + b % 64 = b by omega, Nat.testBit_eq_decide_div_mod_eq] at ht
  have h64 : b % 64 < 64 := by omega
  simp only [h64, decide_true, Bool.true_and] at ht
  rw [← half_div]
  generalize wd f q / 2 ^ (b % 64) = y at *
  cases hf : f b
  · rw [hf] at ht; have : ¬ y % 2 = 1 := of_decide_eq_false ht; simp; omega
  · rw [hf] at ht; have : y % 2 = 1 := of_decide_eq_true ht; simp; omega
theorem shW_small {f : Nat → Bool} {b q : Nat} (h : b / 64 = q) : shW f (b + 1) q < 9223372036854775808 := by
  unfold shW
  have e2 : min 64 (b + 1 - 64 * q) = b % 64 + 1 := by omega
  rw [e2, ← half_div]
  have h1 : wd f q / 2 ^ (b % 64) ≤ wd f q := Nat.div_le_self _ _
  have h2 := wd_lt f q
  omega
theorem shW_zero (f : Nat → Bool) (i : Nat) : shW f 0 i = wd f i := by simp [shW]
theorem shW_all (f : Nat → Bool) {i : Nat} (hi : i < 4) : shW f 256 i = 0 := by
  unfold shW
  rw [show min 64 (256 - 64 * i) = 64 by omega]
  exact Nat.div_eq_of_lt (wd_lt _ _)

set_option maxHeartbeats 1000000 in
theorem made_any (f : Nat → Bool) (w : World) :
    Calls Tryd.prog 44 #[.agg (bools f)] w fun e w' => e = .returned (setV f) ∧ Below w.heap.size w w' := by
  go_enter Tryd.func44, Tryd.ntmps44
  go_wp2
  go_loopw [4] (fun s wr => ∃ (z : Int) (y0 y1 y2 y3 : Nat), -1 ≤ z ∧ z < 256 ∧ s = .int .i64 z ∧ y0 < 18446744073709551616 ∧ y1 < 18446744073709551616 ∧ y2 < 18446744073709551616 ∧ y3 < 18446744073709551616 ∧
      Hid (y0 = shW f (z + 1).toNat 0 ∧ y1 = shW f (z + 1).toNat 1 ∧ y2 = shW f (z + 1).toNat 2 ∧ y3 = shW f (z + 1).toNat 3) ∧
      wr = ((w.alloc (.cells (bools f) 95)).alloc (.cells #[.int .u64 0, .int .u64 0, .int .u64 0, .int .u64 0] 51)).alloc (.cells #[.int .u64 (y0 : Nat), .int .u64 (y1 : Nat), .int .u64 (y2 : Nat), .int .u64 (y3 : Nat)] 51))
    (fun s _ => (intOf s + 1).toNat)
  case atStart =>
    exact ⟨255, 0, 0, 0, 0, by omega, by omega, rfl, by omega, by omega, by omega, by omega, Lib.hid ⟨(shW_all f (by omega)).symm, (shW_all f (by omega)).symm, (shW_all f (by omega)).symm, (shW_all f (by omega)).symm⟩, rfl⟩
  case round =>
    obtain ⟨z, y0, y1, y2, y3, hz0, hz1, rfl, h0, h1, h2, h3, HY, rfl⟩ := hrel
    by_cases hz : 0 ≤ z
    · obtain ⟨b, rfl⟩ := Int.eq_ofNat_of_zero_le hz
      have hb : b < 256 := by omega
      have hbg := bools_get f hb
      have hcase : b / 64 = 0 ∨ b / 64 = 1 ∨ b / 64 = 2 ∨ b / 64 = 3 := by omega
      rw [show ((b : Int) + 1).toNat = b + 1 by omega] at HY
      cases hfb : f b
      · rw [hfb] at hbg
        rcases hcase with hq | hq | hq | hq
        · have hqi : (b : Int) / 64 = 0 := by omega
          have hsm : y0 < 9223372036854775808 := by rw [HY.out.1]; exact shW_small hq
          have hnew : shW f b 0 = 2 * y0 + 0 := by rw [shW_step hq, ← HY.out.1, hfb]; rfl
          have HN := Lib.hid hnew
          have HQ := Lib.hid hq
          clear hnew hq hfb
          go_wp2
          refine ⟨⟨(b : Int) - 1, (2 * y0), y1, y2, y3, by omega, by omega, rfl, by omega, by omega, by omega, by omega, ?_, ?_⟩, by simp [intOf]⟩
          · rw [show ((b : Int) - 1 + 1).toNat = b by omega]
            exact Lib.hid ⟨HN.out.symm, (HY.out.2.1.trans (shW_other (by rw [HQ.out]; decide)).symm), (HY.out.2.2.1.trans (shW_other (by rw [HQ.out]; decide)).symm), (HY.out.2.2.2.trans (shW_other (by rw [HQ.out]; decide)).symm)⟩
          · have e : (y0 : Int) * 2 = ((2 * y0 : Nat) : Int) := by omega
            rw [e]
        · have hqi : (b : Int) / 64 = 1 := by omega
          have hsm : y1 < 9223372036854775808 := by rw [HY.out.2.1]; exact shW_small hq
          have hnew : shW f b 1 = 2 * y1 + 0 := by rw [shW_step hq, ← HY.out.2.1, hfb]; rfl
          have HN := Lib.hid hnew
          have HQ := Lib.hid hq
          clear hnew hq hfb
          go_wp2
          refine ⟨⟨(b : Int) - 1, y0, (2 * y1), y2, y3, by omega, by omega, rfl, by omega, by omega, by omega, by omega, ?_, ?_⟩, by simp [intOf]⟩
          · rw [show ((b : Int) - 1 + 1).toNat = b by omega]
            exact Lib.hid ⟨(HY.out.1.trans (shW_other (by rw [HQ.out]; decide)).symm), HN.out.symm, (HY.out.2.2.1.trans (shW_other (by rw [HQ.out]; decide)).symm), (HY.out.2.2.2.trans (shW_other (by rw [HQ.out]; decide)).symm)⟩
          · have e : (y1 : Int) * 2 = ((2 * y1 : Nat) : Int) := by omega
            rw [e]
        · have hqi : (b : Int) / 64 = 2 := by omega
          have hsm : y2 < 9223372036854775808 := by rw [HY.out.2.2.1]; exact shW_small hq
          have hnew : shW f b 2 = 2 * y2 + 0 := by rw [shW_step hq, ← HY.out.2.2.1, hfb]; rfl
          have HN := Lib.hid hnew
          have HQ := Lib.hid hq
          clear hnew hq hfb
          go_wp2
          refine ⟨⟨(b : Int) - 1, y0, y1, (2 * y2), y3, by omega, by omega, rfl, by omega, by omega, by omega, by omega, ?_, ?_⟩, by simp [intOf]⟩
          · rw [show ((b : Int) - 1 + 1).toNat = b by omega]
            exact Lib.hid ⟨(HY.out.1.trans (shW_other (by rw [HQ.out]; decide)).symm), (HY.out.2.1.trans (shW_other (by rw [HQ.out]; decide)).symm), HN.out.symm, (HY.out.2.2.2.trans (shW_other (by rw [HQ.out]; decide)).symm)⟩
          · have e : (y2 : Int) * 2 = ((2 * y2 : Nat) : Int) := by omega
            rw [e]
        · have hqi : (b : Int) / 64 = 3 := by omega
          have hsm : y3 < 9223372036854775808 := by rw [HY.out.2.2.2]; exact shW_small hq
          have hnew : shW f b 3 = 2 * y3 + 0 := by rw [shW_step hq, ← HY.out.2.2.2, hfb]; rfl
          have HN := Lib.hid hnew
          have HQ := Lib.hid hq
          clear hnew hq hfb
          go_wp2
          refine ⟨⟨(b : Int) - 1, y0, y1, y2, (2 * y3), by omega, by omega, rfl, by omega, by omega, by omega, by omega, ?_, ?_⟩, by simp [intOf]⟩
          · rw [show ((b : Int) - 1 + 1).toNat = b by omega]
            exact Lib.hid ⟨(HY.out.1.trans (shW_other (by rw [HQ.out]; decide)).symm), (HY.out.2.1.trans (shW_other (by rw [HQ.out]; decide)).symm), (HY.out.2.2.1.trans (shW_other (by rw [HQ.out]; decide)).symm), HN.out.symm⟩
          · have e : (y3 : Int) * 2 = ((2 * y3 : Nat) : Int) := by omega
            rw [e]
      · rw [hfb] at hbg
        rcases hcase with hq | hq | hq | hq
        · have hqi : (b : Int) / 64 = 0 := by omega
          have hsm : y0 < 9223372036854775808 := by rw [HY.out.1]; exact shW_small hq
          have hnew : shW f b 0 = 2 * y0 + 1 := by rw [shW_step hq, ← HY.out.1, hfb]; rfl
          have HN := Lib.hid hnew
          have HQ := Lib.hid hq
          clear hnew hq hfb
          go_wp2
          refine ⟨⟨(b : Int) - 1, (2 * y0 + 1), y1, y2, y3, by omega, by omega, rfl, by omega, by omega, by omega, by omega, ?_, ?_⟩, by simp [intOf]⟩
          · rw [show ((b : Int) - 1 + 1).toNat = b by omega]
            exact Lib.hid ⟨HN.out.symm, (HY.out.2.1.trans (shW_other (by rw [HQ.out]; decide)).symm), (HY.out.2.2.1.trans (shW_other (by rw [HQ.out]; decide)).symm), (HY.out.2.2.2.trans (shW_other (by rw [HQ.out]; decide)).symm)⟩
          · have e : (y0 : Int) * 2 + 1 = ((2 * y0 + 1 : Nat) : Int) := by omega
            rw [e]
        · have hqi : (b : Int) / 64 = 1 := by omega
          have hsm : y1 < 9223372036854775808 := by rw [HY.out.2.1]; exact shW_small hq
          have hnew : shW f b 1 = 2 * y1 + 1 := by rw [shW_step hq, ← HY.out.2.1, hfb]; rfl
          have HN := Lib.hid hnew
          have HQ := Lib.hid hq
          clear hnew hq hfb
          go_wp2
          refine ⟨⟨(b : Int) - 1, y0, (2 * y1 + 1), y2, y3, by omega, by omega, rfl, by omega, by omega, by omega, by omega, ?_, ?_⟩, by simp [intOf]⟩
          · rw [show ((b : Int) - 1 + 1).toNat = b by omega]
            exact Lib.hid ⟨(HY.out.1.trans (shW_other (by rw [HQ.out]; decide)).symm), HN.out.symm, (HY.out.2.2.1.trans (shW_other (by rw [HQ.out]; decide)).symm), (HY.out.2.2.2.trans (shW_other (by rw [HQ.out]; decide)).symm)⟩
          · have e : (y1 : Int) * 2 + 1 = ((2 * y1 + 1 : Nat) : Int) := by omega
            rw [e]
        · have hqi : (b : Int) / 64 = 2 := by omega
          have hsm : y2 < 9223372036854775808 := by rw [HY.out.2.2.1]; exact shW_small hq
          have hnew : shW f b 2 = 2 * y2 + 1 := by rw [shW_step hq, ← HY.out.2.2.1, hfb]; rfl
          have HN := Lib.hid hnew
          have HQ := Lib.hid hq
          clear hnew hq hfb
          go_wp2
          refine ⟨⟨(b : Int) - 1, y0, y1, (2 * y2 + 1), y3, by omega, by omega, rfl, by omega, by omega, by omega, by omega, ?_, ?_⟩, by simp [intOf]⟩
          · rw [show ((b : Int) - 1 + 1).toNat = b by omega]
            exact Lib.hid ⟨(HY.out.1.trans (shW_other (by rw [HQ.out]; decide)).symm), (HY.out.2.1.trans (shW_other (by rw [HQ.out]; decide)).symm), HN.out.symm, (HY.out.2.2.2.trans (shW_other (by rw [HQ.out]; decide)).symm)⟩
          · have e : (y2 : Int) * 2 + 1 = ((2 * y2 + 1 : Nat) : Int) := by omega
            rw [e]
        · have hqi : (b : Int) / 64 = 3 := by omega
          have hsm : y3 < 9223372036854775808 := by rw [HY.out.2.2.2]; exact shW_small hq
          have hnew : shW f b 3 = 2 * y3 + 1 := by rw [shW_step hq, ← HY.out.2.2.2, hfb]; rfl
          have HN := Lib.hid hnew
          have HQ := Lib.hid hq
          clear hnew hq hfb
          go_wp2
          refine ⟨⟨(b : Int) - 1, y0, y1, y2, (2 * y3 + 1), by omega, by omega, rfl, by omega, by omega, by omega, by omega, ?_, ?_⟩, by simp [intOf]⟩
          · rw [show ((b : Int) - 1 + 1).toNat = b by omega]
            exact Lib.hid ⟨(HY.out.1.trans (shW_other (by rw [HQ.out]; decide)).symm), (HY.out.2.1.trans (shW_other (by rw [HQ.out]; decide)).symm), (HY.out.2.2.1.trans (shW_other (by rw [HQ.out]; decide)).symm), HN.out.symm⟩
          · have e : (y3 : Int) * 2 + 1 = ((2 * y3 + 1 : Nat) : Int) := by omega
            rw [e]
    · have hz' : z = -1 := by omega
      subst hz'
      obtain ⟨rfl, rfl, rfl, rfl⟩ := HY.out
      clear HY
      simp only [show (-1 + 1 : Int).toNat = 0 from rfl, shW_zero] at *
      go_wp2
      refine bodyPost_ret (v := setV f) (by simp [results, Tryd.results44, go_sem]) rfl ⟨rfl, ?_⟩
      exact (((Below.refl _ _).alloc (Nat.le_refl _) _).alloc (by simp) _).alloc (by simp; omega) _

def sRng (lo b : Nat) : Nat → Bool := fun j => decide (lo ≤ j) && decide (j < b)
theorem zero24 (w : World) : (zeroValue 95).run Tryd.prog w = .ok (.agg (bools fun _ => false)) w :=
  (zero_of_info (P := Tryd.prog) (t := 95) (v := .agg (bools fun _ => false)) (n := 256) (by kernel_rfl)).1 w
theorem info24 : (Tryd.prog.info? 95).map (·.size) = some 256 := by kernel_rfl
set_option maxHeartbeats 400000 in
theorem refRange_any (lo hi : Nat) (hhi : hi < 256) (w : World) :
    Calls Tryd.prog 28 #[.int .i64 lo, .int .i64 hi] w fun e w' => e = .returned (setV (sRange lo hi)) ∧ Below w.heap.size w w' := by
  have z24 := zero24
  go_enter Tryd.func28, Tryd.ntmps28
  go_wp2
  go_loopw [6] (fun s wr => ∃ b : Nat, lo ≤ b ∧ (b ≤ hi + 1 ∨ b = lo) ∧ s = .int .i64 b ∧
      wr = (w.alloc (.cells #[.int .u64 0, .int .u64 0, .int .u64 0, .int .u64 0] 51)).alloc (.cells (bools (sRng lo b)) 95))
    (fun s _ => 256 - (intOf s).toNat)
  case atStart =>
    refine ⟨lo, Nat.le_refl _, .inr rfl, rfl, ?_⟩
    rw [bools_congr (f := sRng lo lo) (g := fun _ => false) (fun i _ => by unfold sRng; rw [Bool.eq_false_iff]; simp)]
  case round =>
    obtain ⟨b, hb0, hb1, rfl, rfl⟩ := hrel
    by_cases hlt : b ≤ hi
    · have hb : b < 256 := by omega
      have hbg := bools_get (sRng lo b) hb
      have hsz := bools_size (sRng lo b)
      go_wp2
      refine ⟨⟨b + 1, by omega, by omega, by go_num, ?_⟩, by simp [intOf]; omega⟩
      rw [bools_set, bools_congr (f := updS (sRng lo b) b true) (g := sRng lo (b + 1)) (fun i _ => by
        unfold updS sRng
        by_cases e : i = b
        · subst e; simp [hb0]
        · rw [if_neg e, Bool.eq_iff_iff]; simp; omega)]
    · have hset : setV (sRange lo hi) = setV (sRng lo b) := setV_congr fun j _ => by
        unfold sRange sRng; rw [Bool.eq_iff_iff]; simp; omega
      have HS := Lib.hid hset
      clear hset
      have hblk : BlkIs ((w.alloc (.cells #[.int .u64 0, .int .u64 0, .int .u64 0, .int .u64 0] 51)).alloc (.cells (bools (sRng lo b)) 95)) (w.heap.size + 1) 95 (bools (sRng lo b)) := by
        have := BlkIs.new (w.alloc (.cells #[.int .u64 0, .int .u64 0, .int .u64 0, .int .u64 0] 51)) 95 (bools (sRng lo b))
        simpa using this
      have hR := hblk.range
      have hI : (Tryd.prog.info? 95).map (·.size) = some (bools (sRng lo b)).toList.length := by rw [info24, Array.length_toList, bools_size]
      clear hblk
      have HI := Lib.hid hI
      have HR := Lib.hid hR
      clear hI hR
      go_wp2_with (first
        | (refine wpList_load_mid rfl 95 (.tmp 5) rfl (w.heap.size + 1) 0 rfl (bools (sRng lo b)).toList _ HR.out Tryd.underlying95 rfl HI.out ?_; rw [bools_agg])
        | (go_at_call 44; refine (made_any _ _).mono ?_; rintro e w1 ⟨rfl, hb1⟩; obtain ⟨hc1, hf1, hz1⟩ := belowStep (g := w.heap.size) hb1 (by simp; omega)))
      have hB1 : Below w.heap.size w w1 := (((Below.refl _ _).alloc (Nat.le_refl _) _).alloc (by simp) _).trans (hb1.mono (by simp; omega))
      refine bodyPost_ret (v := setV (sRng lo b)) (by simp [results, Tryd.results28, go_sem, hc1]) rfl ⟨congrArg Ending.returned HS.out.symm, ?_⟩
      exact (((hB1.setCell (p := ⟨w.heap.size, 0, none⟩) (Nat.le_refl _) _).setCell (p := ⟨w.heap.size, 1, none⟩) (Nat.le_refl _) _).setCell (p := ⟨w.heap.size, 2, none⟩) (Nat.le_refl _) _).setCell (p := ⟨w.heap.size, 3, none⟩) (Nat.le_refl _) _

end Go.Proofs.YtgngaaemkmdfaaaDoor

