/-
  WHAT Part AND Whole OF THE REFERENCE ANSWER: contracts. Condition: the sets lie in memory; classes are bytes.
-/
import Derived.Test.YtebhnfdgjbhhfaaDoorRef2
namespace Go.Proofs.YtebhnfdgjbhhfaaDoor
open Go.RowKit

/-- the first t places are numbered, the others are in class 0 -/
def numT {α : Type} [DecidableEq α] (g : Nat → α) (t i : Nat) : Nat := if i < t then num g i else 0
theorem numT_set {α : Type} [DecidableEq α] (g : Nat → α) (n : Int) {t : Nat} (ht : t < 256) : (clsC (numT g t) n).setIfInBounds t (.int .u8 (num g t : Nat)) = clsC (numT g (t + 1)) n := by
  rw [clsC_set _ _ ht]
  refine clsC_congr n fun i _ => ?_
  unfold updN numT
  by_cases e : i = t
  · subst e; simp
  · rw [if_neg e]
    by_cases h : i < t
    · rw [if_pos h, if_pos (by omega)]
    · rw [if_neg h, if_neg (by omega)]

set_option maxRecDepth 100000 in
set_option maxHeartbeats 2000000 in
theorem refPart_any (ms : List (Nat → Bool)) (hms : ms.length ≤ 64) (A : Option Addr) (c : Nat) (w : World) (hr : SetRow w w.heap.size A ms) :
    Calls Tryd.prog 9 #[.slice A ms.length c] w fun e w' => e = .returned (.agg (clsC (num (saysG ms)) (cnt (saysG ms) 256 : Nat))) ∧ Below w.heap.size w w' := by
  have z := zeroR
  have HAL := Lib.hid (alike_any ms hms A c)
  have HR := Lib.hid hr
  clear hr
  generalize hgk : saysG ms = g at *
  have hz0 := (BlkIs.new w 28 (clsC (fun _ => 0) 0)).alloc (.cells (clsC (fun _ => 0) 0) 28)
  have hg0 := BlkIs.new (w.alloc (.cells (clsC (fun _ => 0) 0) 28)) 28 (clsC (fun _ => 0) 0)
  rw [World.size_alloc] at hg0
  have hB0 := ((Below.refl w.heap.size w).alloc (Nat.le_refl _) (.cells (clsC (fun _ => 0) 0) 28)).alloc (by simp) (.cells (clsC (fun _ => 0) 0) 28)
  have H0 := Lib.hid (And.intro hz0 (And.intro hg0 hB0))
  clear hz0 hg0 hB0
  go_enter Tryd.func9, Tryd.ntmps9
  go_wp2
  go_loopw [4] (fun s wr => ∃ t : Nat, t ≤ 256 ∧ s = .int .i64 t ∧ Hid (BlkIs wr w.heap.size 28 (clsC (fun _ => 0) 0) ∧ BlkIs wr (w.heap.size + 1) 28 (clsC (numT g t) (cnt g t : Nat)) ∧ Below w.heap.size w wr)) (fun s _ => 256 - (intOf s).toNat)
  case atStart =>
    refine ⟨0, by omega, rfl, Lib.hid ⟨H0.out.1, ?_, H0.out.2.2⟩⟩
    have e : clsC (numT g 0) (cnt g 0 : Nat) = clsC (fun _ => 0) 0 := clsC_congr _ fun b _ => by
      unfold numT
      rw [if_neg (by omega)]
    rw [e]
    exact H0.out.2.1
  case round =>
    clear H0
    obtain ⟨t, ht, rfl, HH⟩ := hrel
    by_cases hlt : t < 256
    · have hct := cnt_le g t
      have hd8 : decide (((t : Nat) : Int) < 256) = true := decide_eq_true (by omega)
      go_wp2
      go_loopw [5, 6] (fun sf s wr => ∃ (a : Nat) (fd : Bool), a ≤ t ∧ s = .int .i64 a ∧ sf = .bool fd ∧ Hid (BlkIs wr w.heap.size 28 (clsC (fun _ => 0) 0) ∧ Below w.heap.size w wr ∧
          (fd = false → (∀ j, j < a → g j ≠ g t) ∧ BlkIs wr (w.heap.size + 1) 28 (clsC (numT g t) (cnt g t : Nat))) ∧
          (fd = true → old g t = true ∧ BlkIs wr (w.heap.size + 1) 28 (clsC (numT g (t + 1)) (cnt g t : Nat))))) (fun _ s _ => 256 - (intOf s).toNat)
      case atStart => exact ⟨0, false, by omega, rfl, rfl, Lib.hid ⟨HH.out.1, HH.out.2.2, fun _ => ⟨fun j hj => absurd hj (by omega), HH.out.2.1⟩, fun h => by cases h⟩⟩
      case round =>
        clear HH
        obtain ⟨a, fd, ha, rfl, rfl, HI⟩ := hrel
        cases fd
        · obtain ⟨h1, h2, h3, _⟩ := HI.out
          obtain ⟨h3, h4⟩ := h3 rfl
          by_cases hat : a < t
          · have HC := Lib.hid (HAL.out a t (by omega) hlt wr ((HR.out.below h2).wide h2.size))
            have H1 := Lib.hid (And.intro h1 (And.intro h2 (And.intro h3 h4)))
            clear h1 h2 h3 h4 HI
            cases hd : decide (g a = g t)
            · rw [hd] at HC
              have hne := of_decide_eq_false hd
              go_wp2_with (go_at_call 22; refine HC.out.mono ?_; rintro e w2 ⟨rfl, hb2⟩)
              refine ⟨⟨a + 1, false, by omega, by go_num, rfl, Lib.hid ⟨H1.out.1.step hb2, H1.out.2.1.trans (hb2.mono H1.out.2.1.size), fun _ => ⟨fun j hj => ?_, H1.out.2.2.2.step hb2⟩, fun h => by cases h⟩⟩, by simp [intOf]; omega⟩
              rcases Nat.lt_or_ge j a with h | h
              · exact H1.out.2.2.1 j h
              · obtain rfl : j = a := by omega
                exact hne
            · rw [hd] at HC
              have heq := of_decide_eq_true hd
              have hnum : numT g t a = num g t := by unfold numT; rw [if_pos hat]; exact num_same heq
              have hold : old g t = true := old_iff.2 ⟨a, hat, heq⟩
              go_wp2_with (go_at_call 22; refine HC.out.mono ?_; rintro e w2 ⟨rfl, hb2⟩; have k4 := H1.out.2.2.2.step hb2; have c1 := clsBy k4 (Nat.lt_trans hat hlt); rw [hnum] at c1; have c2 := clsBy k4 hlt; have c3 := k4.frozen t)
              have k5 := k4.put t (.int .u8 (num g t : Nat))
              rw [numT_set g _ hlt] at k5
              exact ⟨⟨a + 1, true, by omega, by go_num, rfl, Lib.hid ⟨(H1.out.1.step hb2).far (p := ⟨w.heap.size + 1, t, none⟩) (by simp) _, (H1.out.2.1.trans (hb2.mono H1.out.2.1.size)).setCell (p := ⟨w.heap.size + 1, t, none⟩) (Nat.le_succ _) _, (fun h => by cases h), fun _ => ⟨hold, k5⟩⟩⟩, by simp [intOf]; omega⟩
          · obtain rfl : a = t := by omega
            have hold : old g a = false := old_not.2 h3
            have c1 := (h4.cell 256).trans (clsC_n _ _)
            have c2 := clsBy h4 hlt
            have c3 := h4.frozen a
            have c4 := h4.frozen 256
            have hwb : IntKind.u8.wrap ((cnt g a : Nat) : Int) = (cnt g a : Nat) := by rw [IntKind.wrap_u8]; omega
            have k5 := h4.put a (.int .u8 (num g a : Nat))
            rw [numT_set g _ hlt, num_new hold] at k5
            have k6 := k5.put 256 (.int .i64 (cnt g (a + 1) : Nat))
            rw [clsC_setN] at k6
            have c5 := (k5.cell 256).trans (clsC_n _ _)
            have hcs : cnt g (a + 1) = cnt g a + 1 := by rw [cnt_succ, hold]; rfl
            have k1 := (h1.far (p := ⟨w.heap.size + 1, a, none⟩) (by simp) (.int .u8 (cnt g a : Nat))).far (p := ⟨w.heap.size + 1, 256, none⟩) (by simp) (.int .i64 (cnt g (a + 1) : Nat))
            have k2 := (h2.setCell (p := ⟨w.heap.size + 1, a, none⟩) (Nat.le_succ _) (.int .u8 (cnt g a : Nat))).setCell (p := ⟨w.heap.size + 1, 256, none⟩) (Nat.le_succ _) (.int .i64 (cnt g (a + 1) : Nat))
            have H6 := Lib.hid (And.intro k1 (And.intro k6 k2))
            clear h1 h2 h3 h4 k5 k6 k1 k2 HI
            have e : ((cnt g (a + 1) : Nat) : Int) = (cnt g a : Nat) + 1 := by rw [hcs]; rfl
            go_wp2
            rw [← e]
            exact ⟨⟨a + 1, by omega, by go_num, H6⟩, by simp [intOf]; omega⟩
        · obtain ⟨h1, h2, _, h3⟩ := HI.out
          obtain ⟨hold, h4⟩ := h3 rfl
          have hcs : cnt g (t + 1) = cnt g t := by rw [cnt_succ, hold]; rfl
          rw [← hcs] at h4
          have H6 := Lib.hid (And.intro h1 (And.intro h4 h2))
          clear h1 h2 h3 h4 HI
          by_cases hat : a < t
          · go_wp2
            exact ⟨⟨t + 1, by omega, by go_num, H6⟩, by simp [intOf]; omega⟩
          · go_wp2
            exact ⟨⟨t + 1, by omega, by go_num, H6⟩, by simp [intOf]; omega⟩
    · obtain rfl : t = 256 := by omega
      have hfin := HH.out
      have e : clsC (numT g 256) (cnt g 256 : Nat) = clsC (num g) (cnt g 256 : Nat) := clsC_congr _ fun b hb => by
        unfold numT
        rw [if_pos hb]
      rw [e] at hfin
      have HF := Lib.hid hfin
      clear hfin e HH
      go_wp2_with (first
        | refine wpList_loadR rfl (.tmp 3) rfl rfl HF.out.2.1 ?_
        | (refine wpList_store_all rfl 28 (.tmp 2) (.tmp 43) rfl rfl (new := clsC (num g) (cnt g 256 : Nat)) rfl HF.out.1 (by rw [clsC_size, clsC_size]) (by rw [clsC_size]; exact infoR) (clsC_one _ _) ?_; intro w5 hw5 hwr5))
      exact bodyPost_ret (results_cell1 rfl (by simp [Act.put]) (loadVarR hw5)) rfl ⟨rfl, hwr5.2.1 _ _ (Nat.le_refl _) HF.out.2.2⟩

end Go.Proofs.YtebhnfdgjbhhfaaDoor
