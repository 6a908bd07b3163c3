/-
  WHAT hacklelaw02's OWN EXAMPLE ANSWERS: true. Condition: the table of math/bits lies as it is laid.
-/
import Derived.Test.YtebhnfdgjbhhfaaDoorPart
import Derived.Test.YtebhnfdgjbhhfaaDoorRef1
namespace Go.Proofs.YtebhnfdgjbhhfaaDoor
open Go.RowKit

abbrev exMs : List (Nat → Bool) := [sRange 97 99, sRange 98 98]
theorem ex_cnt : cnt (saysG exMs) 256 = 3 := by decide +kernel
theorem ex_97 : num (saysG exMs) 97 = 1 := by decide +kernel
theorem ex_98 : num (saysG exMs) 98 = 2 := by decide +kernel
theorem ex_99 : num (saysG exMs) 99 = 1 := by decide +kernel
theorem ex_100 : num (saysG exMs) 100 = 0 := by decide +kernel

theorem setRow_two {w : World} {g : Nat} {t : TypeId} {m m' : Nat → Bool} (h : BlkIs w g t #[.int .u64 (wd m 0 : Nat), .int .u64 (wd m 1 : Nat), .int .u64 (wd m 2 : Nat), .int .u64 (wd m 3 : Nat), .int .u64 (wd m' 0 : Nat), .int .u64 (wd m' 1 : Nat), .int .u64 (wd m' 2 : Nat), .int .u64 (wd m' 3 : Nat)]) :
    SetRow w w.heap.size (some ⟨g, 0, none⟩) [m, m'] := fun _ => ⟨g, 0, rfl, h.lt, fun k mk hk => by
  rcases k with _ | _ | k
  · simp only [List.getElem?_cons_zero, Option.some.injEq] at hk
    subst hk
    intro j v hv
    have hj : j < 4 := (List.getElem?_eq_some_iff.1 hv).1
    rw [h.cell]
    rcases (by omega : j = 0 ∨ j = 1 ∨ j = 2 ∨ j = 3) with rfl | rfl | rfl | rfl <;> simpa [setL] using hv
  · simp only [List.getElem?_cons_succ, List.getElem?_cons_zero, Option.some.injEq] at hk
    subst hk
    intro j v hv
    have hj : j < 4 := (List.getElem?_eq_some_iff.1 hv).1
    rw [h.cell]
    rcases (by omega : j = 0 ∨ j = 1 ∨ j = 2 ∨ j = 3) with rfl | rfl | rfl | rfl <;> simpa [setL] using hv
  · simp at hk⟩

set_option maxRecDepth 100000 in
set_option maxHeartbeats 2000000 in
theorem alive2_any (w : World) (hT : Tab w) : Calls Tryd.prog 6 #[] w fun e w' => e = .returned (.bool true) ∧ Below w.heap.size w w' := by
  have z := zeroC
  have HT := Lib.hid hT
  have HP := Lib.hid (fun A => part_any exMs (by simp) A 2 (by simp))
  have e0 := ex_cnt
  have e1 := ex_97
  have e2 := ex_98
  have e3 := ex_99
  have e4 := ex_100
  have r1 : ∀ u : World, Calls Tryd.prog 19 #[.int .i64 97, .int .i64 99] u fun e w' => e = .returned (setV (sRange 97 99)) ∧ Below u.heap.size u w' := refRange_any 97 99 (by omega)
  have r2 : ∀ u : World, Calls Tryd.prog 19 #[.int .i64 98, .int .i64 98] u fun e w' => e = .returned (setV (sRange 98 98)) ∧ Below u.heap.size u w' := refRange_any 98 98 (by omega)
  have R1 := Lib.hid r1
  have R2 := Lib.hid r2
  have hf : ∀ b : Nat, num (saysG exMs) b < 256 ∨ True := fun _ => .inr trivial
  clear hT r1 r2 hf
  unfold exMs at *
  generalize sRange 97 99 = m1 at *
  generalize sRange 98 98 = m2 at *
  generalize hG : num (saysG [m1, m2]) = gN at *
  rw [e0] at HP
  go_enter Tryd.func6, Tryd.ntmps6
  go_wp2_with (first
    | (go_at_call 19; first
      | (with_reducible refine (R1.out _).mono ?_; rintro e w2 ⟨rfl, hb2⟩)
      | (with_reducible refine (R2.out _).mono ?_; rintro e w3 ⟨rfl, hb3⟩; have hB3 := hb2.trans (hb3.mono hb2.size)))
    | (go_at_call 7; refine (HP.out (some ⟨w3.heap.size, 0, none⟩) _ (HT.out.step (hB3.alloc hB3.size _)) (setRow_two (BlkIs.new _ _ _))).mono ?_; rintro e w4 ⟨rfl, hb4⟩)
    | (refine wpList_store_all rfl 26 (.tmp 1) (.tmp 5) rfl rfl (new := clsC gN (3 : Nat)) rfl (BlkIs.new _ _ _) (by rw [clsC_size, clsC_size]) (by rw [clsC_size]; exact infoC) (clsC_one _ _) ?_; intro w5 hw5 hwr5
       have c0 := (hw5.cell 256).trans (clsC_n _ _)
       have c1 := clsBy hw5 (k := 97) (by omega)
       have c2 := clsBy hw5 (k := 98) (by omega)
       have c3 := clsBy hw5 (k := 99) (by omega)
       have c4 := clsBy hw5 (k := 100) (by omega)
       rw [e1] at c1
       rw [e2] at c2
       rw [e3] at c3
       rw [e4] at c4
       have hB4 := (hB3.alloc hB3.size _).trans (hb4.mono (Nat.le_trans hB3.size (by simp)))))
  go_ret
  exact ⟨rfl, hwr5.2.1 _ _ hB4.size (hB4.alloc hB4.size _)⟩

end Go.Proofs.YtebhnfdgjbhhfaaDoor
