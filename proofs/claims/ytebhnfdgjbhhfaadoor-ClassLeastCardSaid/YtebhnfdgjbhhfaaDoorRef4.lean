/-
  WHAT Whole OF THE REFERENCE ANSWERS: a contract. Condition: classes are bytes.
-/
import Derived.Test.YtebhnfdgjbhhfaaDoorWhole
namespace Go.Proofs.YtebhnfdgjbhhfaaDoor
open Go.RowKit

set_option maxRecDepth 100000 in
set_option maxHeartbeats 4000000 in
theorem refWhole_any (f : Nat → Nat) (n : Int) (hf : ∀ b, b < 256 → f b < 256) (s : Nat → Bool) (w : World) :
    Calls Tryd.prog 16 #[.agg (clsC f n), setV s] w fun e w' => e = .returned (.bool (wholeB f n s)) ∧ Below w.heap.size w w' := by
  have HM := Lib.hid (refMay_any f n hf)
  have hb := (BlkIs.new w 28 (clsC f n)).alloc (.cells (setA s) 35)
  have hs := BlkIs.new (w.alloc (.cells (clsC f n) 28)) 35 (setA s)
  rw [World.size_alloc] at hs
  have hBe := ((Below.refl w.heap.size w).alloc (Nat.le_refl _) (.cells (clsC f n) 28)).alloc (by simp) (.cells (setA s) 35)
  have H0 := Lib.hid (And.intro hb (And.intro hs hBe))
  clear hb hs hBe hf
  go_enter Tryd.func16, Tryd.ntmps16
  go_wp2
  go_loopw [5] (fun sa wr => ∃ a : Nat, a ≤ 256 ∧ sa = .int .i64 a ∧ Hid ((∀ i j, i < a → j < i → f i = f j → s i = s j) ∧ BlkIs wr w.heap.size 28 (clsC f n) ∧ BlkIs wr (w.heap.size + 1) 35 (setA s) ∧ Below w.heap.size w wr)) (fun sa _ => 256 - (intOf sa).toNat)
  case atStart => exact ⟨0, by omega, rfl, Lib.hid ⟨fun i j h => absurd h (by omega), H0.out⟩⟩
  case round =>
    clear H0
    obtain ⟨a, ha, rfl, HH⟩ := hrel
    by_cases hlt : a < 256
    · have hd8 : decide (((a : Nat) : Int) < 256) = true := decide_eq_true (by omega)
      go_wp2
      go_loopw [6] (fun sb wr => ∃ b : Nat, b ≤ a ∧ sb = .int .i64 b ∧ Hid ((∀ i j, i < a → j < i → f i = f j → s i = s j) ∧ (∀ j, j < b → f a = f j → s a = s j) ∧ BlkIs wr w.heap.size 28 (clsC f n) ∧ BlkIs wr (w.heap.size + 1) 35 (setA s) ∧ Below w.heap.size w wr)) (fun sb _ => a - (intOf sb).toNat)
      case atStart => exact ⟨0, by omega, rfl, Lib.hid ⟨HH.out.1, fun j h => absurd h (by omega), HH.out.2⟩⟩
      case round =>
        clear HH
        obtain ⟨b, hb, rfl, HI⟩ := hrel
        by_cases hba : b < a
        · have hd9 : decide (((b : Nat) : Int) < ((a : Nat) : Int)) = true := decide_eq_true (by omega)
          have hb256 : b < 256 := by omega
          have hia : ((a : Nat) : Int) < 256 := by omega
          have hib : ((b : Nat) : Int) < 256 := by omega
          have hC : ∀ u : World, BlkIs u w.heap.size 28 (clsC f n) → u.cell? ⟨w.heap.size, a, none⟩ = some (.int .u8 (f a)) ∧ u.cell? ⟨w.heap.size, b, none⟩ = some (.int .u8 (f b)) := fun u hu => ⟨clsBy hu hlt, clsBy hu hb256⟩
          have HC := Lib.hid hC
          have HHA := Lib.hid (refHas_any s a hlt)
          have HHB := Lib.hid (refHas_any s b hb256)
          clear hC
          cases hfe : (((f a : Nat) : Int) == ((f b : Nat) : Int))
          · have hne : f a ≠ f b := fun e => by rw [e] at hfe; simp at hfe
            have hfin : ∀ j, j < b + 1 → f a = f j → s a = s j := fun j hj e => by
              rcases Nat.lt_or_ge j b with h | h
              · exact HI.out.2.1 j h e
              · obtain rfl : j = b := by omega
                exact absurd e hne
            have HF := Lib.hid hfin
            clear hfin
            go_wp2_with fail
            refine wp_region_reads 36 (fun u => BlkIs u w.heap.size 28 (clsC f n) ∧ BlkIs u (w.heap.size + 1) 35 (setA s)) (by kernel_rfl) (by kernel_rfl) rfl ⟨HI.out.2.2.1.drew, HI.out.2.2.2.1.drew⟩ (fun u u' h hb => ⟨h.1.step hb, h.2.step hb⟩) ?_
            repeat
              refine freeW_step fun K hK => ?_
              go_simp
              first
                | (refine hK _ ?_; clear hK K)
                | (apply Exists.intro
                   refine ⟨fun v g1 g2 => ?_, hK _ ?_⟩
                   (unfold freeAt
                    obtain ⟨c1, c2⟩ := HC.out v g1
                    go_simp
                    exact free_val)
                   clear hK K)
            refine freeW_nil ?_
            intro u hu hbu
            have HU := Lib.hid (And.intro hu (HI.out.2.2.2.2.trans (hbu.mono HI.out.2.2.2.2.size)))
            clear hu hbu
            go_wp2
            exact ⟨⟨b + 1, by omega, by go_num, Lib.hid ⟨HI.out.1, HF.out, HU.out.1.1, HU.out.1.2, HU.out.2⟩⟩, by simp [intOf]; omega⟩
          · have heq : f a = f b := by
              have := eq_of_beq hfe
              omega
            cases hse : (s a == s b)
            · have hse2 : (s a != s b) = true := by simp at hse ⊢; exact hse
              have hfin : wholeB f n s = false := by
                rw [← Bool.not_eq_true, wholeB_iff]
                exact fun h => by
                  have := h.2 a b hlt hb256 heq
                  simp [this] at hse
              have HF := Lib.hid hfin
              clear hfin
              go_wp2_with fail
              refine wp_region_reads 36 (fun u => BlkIs u w.heap.size 28 (clsC f n) ∧ BlkIs u (w.heap.size + 1) 35 (setA s)) (by kernel_rfl) (by kernel_rfl) rfl ⟨HI.out.2.2.1.drew, HI.out.2.2.2.1.drew⟩ (fun u u' h hb => ⟨h.1.step hb, h.2.step hb⟩) ?_
              repeat
                refine freeW_step fun K hK => ?_
                go_simp
                first
                  | (refine hK _ ?_; clear hK K)
                  | (apply Exists.intro
                     refine ⟨fun v g1 g2 => ?_, hK _ ?_⟩
                     first
                       | exact free_load 35 (.tmp 3) _ rfl rfl (loadS g2)
                       | (unfold freeAt
                          obtain ⟨c1, c2⟩ := HC.out v g1
                          go_simp
                          first
                          | exact free_val
                          | (apply free_call
                             go_at_call 17
                             first
                             | with_reducible exact HHA.out _
                             | with_reducible exact HHB.out _))
                     clear hK K)
              refine freeW_nil ?_
              intro u hu hbu
              have HU := Lib.hid (HI.out.2.2.2.2.trans (hbu.mono HI.out.2.2.2.2.size))
              clear hu hbu
              go_wp2
              go_ret
              exact ⟨ret_bool HF.out.symm, HU.out⟩
            · have hse2 : (s a != s b) = false := by simp at hse ⊢; exact hse
              have hfin : ∀ j, j < b + 1 → f a = f j → s a = s j := fun j hj e => by
                rcases Nat.lt_or_ge j b with h | h
                · exact HI.out.2.1 j h e
                · obtain rfl : j = b := by omega
                  simpa using hse
              have HF := Lib.hid hfin
              clear hfin
              go_wp2_with fail
              refine wp_region_reads 36 (fun u => BlkIs u w.heap.size 28 (clsC f n) ∧ BlkIs u (w.heap.size + 1) 35 (setA s)) (by kernel_rfl) (by kernel_rfl) rfl ⟨HI.out.2.2.1.drew, HI.out.2.2.2.1.drew⟩ (fun u u' h hb => ⟨h.1.step hb, h.2.step hb⟩) ?_
              repeat
                refine freeW_step fun K hK => ?_
                go_simp
                first
                  | (refine hK _ ?_; clear hK K)
                  | (apply Exists.intro
                     refine ⟨fun v g1 g2 => ?_, hK _ ?_⟩
                     first
                       | exact free_load 35 (.tmp 3) _ rfl rfl (loadS g2)
                       | (unfold freeAt
                          obtain ⟨c1, c2⟩ := HC.out v g1
                          go_simp
                          first
                          | exact free_val
                          | (apply free_call
                             go_at_call 17
                             first
                             | with_reducible exact HHA.out _
                             | with_reducible exact HHB.out _))
                     clear hK K)
              refine freeW_nil ?_
              intro u hu hbu
              have HU := Lib.hid (And.intro hu (HI.out.2.2.2.2.trans (hbu.mono HI.out.2.2.2.2.size)))
              clear hu hbu
              go_wp2
              exact ⟨⟨b + 1, by omega, by go_num, Lib.hid ⟨HI.out.1, HF.out, HU.out.1.1, HU.out.1.2, HU.out.2⟩⟩, by simp [intOf]; omega⟩
        · obtain rfl : b = a := by omega
          obtain ⟨h1, h2, h3⟩ := HI.out
          have h4 : ∀ i j, i < b + 1 → j < i → f i = f j → s i = s j := fun i j hi hj e => by
            rcases Nat.lt_or_ge i b with h | h
            · exact h1 i j h hj e
            · obtain rfl : i = b := by omega
              exact h2 j hj e
          have HF := Lib.hid (And.intro h4 h3)
          clear h1 h2 h3 h4 HI
          go_wp2
          exact ⟨⟨b + 1, by omega, by go_num, HF⟩, by simp [intOf]; omega⟩
    · obtain rfl : a = 256 := by omega
      have hfin : wholeB f n s = mayB f n := by
        unfold wholeB
        have : (List.range 256).all (fun a => (List.range a).all fun b => decide (f a = f b → s a = s b)) = true := List.all_eq_true.2 fun a ha => List.all_eq_true.2 fun b hb => decide_eq_true (HH.out.1 a b (List.mem_range.1 ha) (List.mem_range.1 hb))
        rw [this, Bool.and_true]
      have HF := Lib.hid hfin
      have HB := Lib.hid HH.out.2
      clear hfin HH
      go_wp2_with (first
        | refine wpList_loadR rfl (.tmp 2) rfl rfl HB.out.1 ?_
        | (go_at_call 14; refine (HM.out _).mono ?_; rintro e w2 ⟨rfl, hb2⟩))
      go_ret
      exact ⟨ret_bool HF.out.symm, HB.out.2.2.trans (hb2.mono HB.out.2.2.size)⟩

end Go.Proofs.YtebhnfdgjbhhfaaDoor
