/-
  WHAT hacklelaw02's ClassLeast ANSWERS: true. Condition: the table of math/bits lies as it is laid; the sets lie in memory; classes are bytes.
-/
import Derived.Test.YtebhnfdgjbhhfaaDoorLaw1a
import Derived.Test.YtebhnfdgjbhhfaaDoorAlive2
import Derived.Test.YtebhnfdgjbhhfaaDoorRef2
import Derived.Test.YtebhnfdgjbhhfaaDoorRef4
namespace Go.Proofs.YtebhnfdgjbhhfaaDoor
open Go.RowKit

/-- no partition of which each set is whole has fewer classes than the partition of the sets -/
theorem least_says {ms : List (Nat → Bool)} {f : Nat → Nat} {n : Int} (hm : mayB f n = true) (h : ∀ m ∈ ms, wholeB f n m = true) : ((cnt (saysG ms) 256 : Nat) : Int) ≤ n := by
  have h1 := (mayB_iff.1 hm).2
  have h2 := cnt_finer (g := f) (g' := saysG ms) (n := 256) (fun a b ha hb e => (says_eq ms a b).2 fun m hmm => (wholeB_iff.1 (h m hmm)).2 a b ha hb e) 256 (Nat.le_refl _)
  omega

set_option maxRecDepth 100000 in
set_option maxHeartbeats 4000000 in
theorem classLeast_any (ms : List (Nat → Bool)) (A : Option Addr) (c : Nat) (hcap : ms.length ≤ c) (f : Nat → Nat) (n : Int) (hf : ∀ b, b < 256 → f b < 256) (w : World) (hT : Tab w) (hr : SetRow w w.heap.size A ms) :
    Calls Tryd.prog 5 #[.slice A ms.length c, .agg (clsC f n)] w (TrueIs w) := by
  have z := zeroC
  have HT := Lib.hid hT
  have HR := Lib.hid hr
  have HA := Lib.hid alive2_any
  have HRA := Lib.hid (refMay_any f n hf)
  have HRW := Lib.hid (fun m => refWhole_any f n hf m)
  have hb := BlkIs.new w 28 (clsC f n)
  have hBe := (Below.refl w.heap.size w).alloc (Nat.le_refl _) (.cells (clsC f n) 28)
  have H0 := Lib.hid (And.intro hb hBe)
  clear hT hr hf hb hBe
  by_cases hlen : 6 < ms.length
  · have hd : decide ((6 : Int) < (ms.length : Nat)) = true := decide_eq_true (by omega)
    go_enter Tryd.func5, Tryd.ntmps5
    go_wp2_with fail
    refine (HA.out _ (HT.out.step H0.out.2)).mono ?_
    rintro e w2 ⟨rfl, hb2⟩
    go_wp2
    go_ret
    exact ⟨rfl, H0.out.2.trans (hb2.mono H0.out.2.size)⟩
  · have hd : decide ((6 : Int) < (ms.length : Nat)) = false := decide_eq_false (by omega)
    have hms : ms.length ≤ 64 := by omega
    have HP := Lib.hid (part_any ms hms A c hcap)
    have HLE := Lib.hid (fun (h1 : mayB f n = true) (h2 : ∀ m ∈ ms, wholeB f n m = true) => least_says h1 h2)
    generalize num (saysG ms) = fN at *
    generalize ((cnt (saysG ms) 256 : Nat) : Int) = nN at *
    go_enter Tryd.func5, Tryd.ntmps5
    go_wp2_with fail
    refine (HA.out _ (HT.out.step H0.out.2)).mono ?_
    rintro e w2 ⟨rfl, hb2⟩
    have H2 := Lib.hid (And.intro (H0.out.1.step hb2) (H0.out.2.trans (hb2.mono H0.out.2.size)))
    clear hb2 HA H0
    cases hm : mayB f n
    · rw [hm] at HRA
      go_wp2_with (first
        | (go_at_call 7; refine (HP.out _ (HT.out.step H2.out.2) ((HR.out.below H2.out.2).wide H2.out.2.size)).mono ?_; rintro e w3 ⟨rfl, hb3⟩
           have H3 := Lib.hid (And.intro ((H2.out.1.step hb3).alloc (.cells (clsC (fun _ => 0) 0) 26)) ((H2.out.2.trans (hb3.mono H2.out.2.size)).alloc (Nat.le_trans H2.out.2.size hb3.size) (.cells (clsC (fun _ => 0) 0) 26))); have hne3 := Nat.ne_of_lt (H2.out.1.step hb3).lt; have hle3 := Nat.le_trans H2.out.2.size hb3.size; clear hb3)
        | (go_at_call 14; refine (HRA.out _).mono ?_; rintro e w5 ⟨rfl, hb5⟩)
        | (refine wpList_store_all rfl 26 (.tmp 5) (.tmp 13) rfl rfl (new := clsC fN nN) rfl (BlkIs.new _ _ _) (by rw [clsC_size, clsC_size]) (by rw [clsC_size]; exact infoC) (clsC_one _ _) ?_; intro w4 hw4 hwr4
           have H4 := Lib.hid (And.intro hw4 (And.intro (hwr4.blk hne3 H3.out.1) (hwr4.2.1 w.heap.size w hle3 H3.out.2))); clear hw4 hwr4)
        | refine wpList_loadR rfl (.tmp 3) rfl rfl H4.out.2.1 ?_)
      go_ret
      exact ⟨rfl, H4.out.2.2.trans (hb5.mono H4.out.2.2.size)⟩
    · rw [hm] at HRA
      cases hge : decide (nN ≤ n)
      · have hlt : ¬ nN ≤ n := of_decide_eq_false hge
        go_wp2_with (first
          | (go_at_call 7; refine (HP.out _ (HT.out.step H2.out.2) ((HR.out.below H2.out.2).wide H2.out.2.size)).mono ?_; rintro e w3 ⟨rfl, hb3⟩
             have H3 := Lib.hid (And.intro ((H2.out.1.step hb3).alloc (.cells (clsC (fun _ => 0) 0) 26)) ((H2.out.2.trans (hb3.mono H2.out.2.size)).alloc (Nat.le_trans H2.out.2.size hb3.size) (.cells (clsC (fun _ => 0) 0) 26))); have hne3 := Nat.ne_of_lt (H2.out.1.step hb3).lt; have hle3 := Nat.le_trans H2.out.2.size hb3.size; clear hb3)
          | (go_at_call 14; refine (HRA.out _).mono ?_; rintro e w5 ⟨rfl, hb5⟩; have H5 := Lib.hid (And.intro (H4.out.2.1.step hb5) (H4.out.2.2.trans (hb5.mono H4.out.2.2.size))); have q1 := ((H4.out.2.1.step hb5).cell 256).trans (clsC_n f n); have q2 := ((H4.out.1.step hb5).cell 256).trans (clsC_n fN nN); clear hb5)
          | (refine wpList_store_all rfl 26 (.tmp 5) (.tmp 13) rfl rfl (new := clsC fN nN) rfl (BlkIs.new _ _ _) (by rw [clsC_size, clsC_size]) (by rw [clsC_size]; exact infoC) (clsC_one _ _) ?_; intro w4 hw4 hwr4
             have H4 := Lib.hid (And.intro hw4 (And.intro (hwr4.blk hne3 H3.out.1) (hwr4.2.1 w.heap.size w hle3 H3.out.2))); clear hw4 hwr4)
          | refine wpList_loadR rfl (.tmp 3) rfl rfl H4.out.2.1 ?_)
        have hHL : (∀ m ∈ ms, wholeB f n m = true) → False := fun hall => absurd (HLE.out hm hall) (by omega)
        have HHL := Lib.hid hHL
        clear hHL q1 q2 H4 H3 H2 HP HRA HLE hne3 hle3
        go_loopw [6] (fun s wr => ∃ i : Nat, i ≤ ms.length ∧ s = .int .i64 i ∧ Hid ((∀ j m, j < i → ms[j]? = some m → wholeB f n m = true) ∧ BlkIs wr w.heap.size 28 (clsC f n) ∧ Below w.heap.size w wr)) (fun s _ => ms.length - (intOf s).toNat)
        case atStart => exact ⟨0, by omega, rfl, Lib.hid ⟨fun j m h => absurd h (by omega), H5.out⟩⟩
        case round =>
          clear H5
          obtain ⟨i, hi, rfl, HI⟩ := hrel
          by_cases hli : i < ms.length
          · obtain ⟨m, hmi⟩ : ∃ m, ms[i]? = some m := ⟨ms[i], List.getElem?_eq_getElem hli⟩
            obtain ⟨b, off, hA, hbl, hcell⟩ := HR.out (fun e => by rw [e] at hli; simp at hli)
            have hrng := rangeAt_below HI.out.2.2 hbl (hcell i m hmi)
            have hbw : b < wr.heap.size := Nat.lt_of_lt_of_le hbl HI.out.2.2.size
            have HW := Lib.hid (HRW.out m)
            subst hA
            clear hcell
            cases hwm : wholeB f n m
            · rw [hwm] at HW
              go_wp2_with fail
              refine wp_region_reads 37 (fun u => BlkIs u w.heap.size 28 (clsC f n) ∧ u.rangeAt b (off + i * 4) (setL m) ∧ b < u.heap.size) (by kernel_rfl) (by kernel_rfl) rfl ⟨HI.out.2.1.drew, hrng, hbw⟩
                (fun u u' h hb => ⟨h.1.step hb, rangeAt_below hb h.2.2 h.2.1, Nat.lt_of_lt_of_le h.2.2 hb.size⟩) ?_
              repeat
                refine freeW_step fun K hK => ?_
                go_simp
                apply Exists.intro
                refine ⟨fun v g1 g2 g3 => ?_, hK _ ?_⟩
                first
                  | exact free_load 28 (.tmp 3) _ rfl rfl (loadR g1)
                  | exact free_load 35 (.tmp 33) _ rfl rfl (loadSAt g2)
                  | (unfold freeAt
                     go_simp
                     first
                     | exact free_val
                     | (apply free_call
                        go_at_call 16
                        exact HW.out _))
                clear hK K
              refine freeW_nil ?_
              intro u hu hbu
              have HU := Lib.hid (HI.out.2.2.trans (hbu.mono HI.out.2.2.size))
              clear hu hbu hrng hbw
              go_wp2
              go_ret
              exact ⟨rfl, HU.out⟩
            · rw [hwm] at HW
              go_wp2_with fail
              refine wp_region_reads 37 (fun u => BlkIs u w.heap.size 28 (clsC f n) ∧ u.rangeAt b (off + i * 4) (setL m) ∧ b < u.heap.size) (by kernel_rfl) (by kernel_rfl) rfl ⟨HI.out.2.1.drew, hrng, hbw⟩
                (fun u u' h hb => ⟨h.1.step hb, rangeAt_below hb h.2.2 h.2.1, Nat.lt_of_lt_of_le h.2.2 hb.size⟩) ?_
              repeat
                refine freeW_step fun K hK => ?_
                go_simp
                apply Exists.intro
                refine ⟨fun v g1 g2 g3 => ?_, hK _ ?_⟩
                first
                  | exact free_load 28 (.tmp 3) _ rfl rfl (loadR g1)
                  | exact free_load 35 (.tmp 33) _ rfl rfl (loadSAt g2)
                  | (unfold freeAt
                     go_simp
                     first
                     | exact free_val
                     | (apply free_call
                        go_at_call 16
                        exact HW.out _))
                clear hK K
              refine freeW_nil ?_
              intro u hu hbu
              have hnext : ∀ j m', j < i + 1 → ms[j]? = some m' → wholeB f n m' = true := fun j m' hj hjm => by
                rcases Nat.lt_or_ge j i with h | h
                · exact HI.out.1 j m' h hjm
                · obtain rfl : j = i := by omega
                  rw [hmi] at hjm
                  cases hjm
                  exact hwm
              have HU := Lib.hid (And.intro hnext (And.intro hu.1 (HI.out.2.2.trans (hbu.mono HI.out.2.2.size))))
              clear hu hbu hrng hbw hnext
              go_wp2
              exact ⟨⟨i + 1, by omega, by go_num, HU⟩, by simp [intOf]; omega⟩
          · exfalso
            refine HHL.out fun m hmm => ?_
            obtain ⟨j, hj, e⟩ := List.mem_iff_getElem.1 hmm
            exact HI.out.1 j m (by omega) (by rw [List.getElem?_eq_getElem hj, e])
      · have hle : nN ≤ n := of_decide_eq_true hge
        go_wp2_with (first
          | (go_at_call 7; refine (HP.out _ (HT.out.step H2.out.2) ((HR.out.below H2.out.2).wide H2.out.2.size)).mono ?_; rintro e w3 ⟨rfl, hb3⟩
             have H3 := Lib.hid (And.intro ((H2.out.1.step hb3).alloc (.cells (clsC (fun _ => 0) 0) 26)) ((H2.out.2.trans (hb3.mono H2.out.2.size)).alloc (Nat.le_trans H2.out.2.size hb3.size) (.cells (clsC (fun _ => 0) 0) 26))); have hne3 := Nat.ne_of_lt (H2.out.1.step hb3).lt; have hle3 := Nat.le_trans H2.out.2.size hb3.size; clear hb3)
          | (go_at_call 14; refine (HRA.out _).mono ?_; rintro e w5 ⟨rfl, hb5⟩; have H5 := Lib.hid (And.intro (H4.out.2.1.step hb5) (H4.out.2.2.trans (hb5.mono H4.out.2.2.size))); have q1 := ((H4.out.2.1.step hb5).cell 256).trans (clsC_n f n); have q2 := ((H4.out.1.step hb5).cell 256).trans (clsC_n fN nN); clear hb5)
          | (refine wpList_store_all rfl 26 (.tmp 5) (.tmp 13) rfl rfl (new := clsC fN nN) rfl (BlkIs.new _ _ _) (by rw [clsC_size, clsC_size]) (by rw [clsC_size]; exact infoC) (clsC_one _ _) ?_; intro w4 hw4 hwr4
             have H4 := Lib.hid (And.intro hw4 (And.intro (hwr4.blk hne3 H3.out.1) (hwr4.2.1 w.heap.size w hle3 H3.out.2))); clear hw4 hwr4)
          | refine wpList_loadR rfl (.tmp 3) rfl rfl H4.out.2.1 ?_)
        go_ret
        exact ⟨rfl, H5.out.2⟩

end Go.Proofs.YtebhnfdgjbhhfaaDoor
