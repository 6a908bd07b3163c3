/-
  WHAT hacklelaw02's ClassAsk ANSWERS: true. Condition: the table of math/bits lies as it is laid; classes are bytes.
-/
import Derived.Test.YtebhnfdgjbhhfaaDoorLaw1a
import Derived.Test.YtebhnfdgjbhhfaaDoorAlive2
import Derived.Test.YtebhnfdgjbhhfaaDoorRef4
namespace Go.Proofs.YtebhnfdgjbhhfaaDoor
open Go.RowKit

theorem nextS_end (m : Nat → Bool) : nextS m 256 = -1 := by
  have h : mems (sLess m (sBelow 256)) 256 = [] := by
    unfold mems
    rw [List.filter_eq_nil_iff]
    intro b hb
    have := List.mem_range.1 hb
    have h2 : (b : Int) < 256 := by omega
    simp [sLess, sBelow, h2]
  unfold nextS
  rw [h]
theorem nextS_no {m : Nat → Bool} {z : Nat} (h : m z = false) : nextS m (z : Nat) = nextS m ((z : Nat) + 1) := by
  have e : sLess m (sBelow (z : Nat)) = sLess m (sBelow ((z : Nat) + 1)) := by
    funext b
    unfold sLess sBelow
    by_cases hb : b = z
    · subst hb; simp [h]
    · have e2 : decide ((b : Int) < (z : Nat)) = decide ((b : Int) < (z : Nat) + 1) := decide_eq_decide.2 (by omega)
      rw [e2]
  unfold nextS
  rw [e]
theorem nextS_yes {m : Nat → Bool} {z : Nat} (hz : z < 256) (h : m z = true) : nextS m (z : Nat) = (z : Nat) := by
  have h0 : mems (sLess m (sBelow (z : Nat))) z = [] := by
    unfold mems
    rw [List.filter_eq_nil_iff]
    intro b hb
    have := List.mem_range.1 hb
    have h2 : (b : Int) < (z : Nat) := by omega
    simp [sLess, sBelow, h2]
  have h1 : mems (sLess m (sBelow (z : Nat))) (z + 1) = [z] := by
    rw [mems_take (by simp [sLess, sBelow, h]), h0]; rfl
  obtain ⟨t, ht⟩ := mems_prefix (m := sLess m (sBelow (z : Nat))) (t := z + 1) (t' := 256) (by omega)
  rw [h1] at ht
  unfold nextS
  rw [← ht]
  rfl

theorem free_exec {P : Program} {o : Oper} {a : Act} {w : World} {v : Value} (h : (execOp a.eval o).run P w = .ok (.value v) w) : freeAt P o a w v := by
  unfold freeAt
  rw [h]
  exact free_val
theorem exec_neq {P : Program} {o : Oper} {a : Act} {w : World} {r : Bool} (t : TypeId) (x y : Operand) (p q : Array Value) (ho : o.op = .binOp .neq t x y t) (hx : a.eval x = .agg p) (hy : a.eval y = .agg q) (hg : P.eqGuardType P.depth t = false)
    (h : (binOp .neq t (.agg p) (.agg q)).run P w = .ok (.bool r) w) : (execOp a.eval o).run P w = .ok (.value (.bool r)) w := by
  have hq := run_eqGuard_agg (P := P) w .neq t x y p q hg
  unfold execOp
  simp only [ho, hx, hy, Sem.run_bind, Sem.run_pure, hq, h, Result.andThen_ok]

set_option maxRecDepth 100000 in
set_option maxHeartbeats 4000000 in
theorem classAsk_any (f : Nat → Nat) (n : Int) (hf : ∀ b, b < 256 → f b < 256) (k : Int) (s : Nat → Bool) (w : World) (hT : Tab w) :
    Calls Tryd.prog 4 #[.agg (clsC f n), .int .i64 k, setV s] w (TrueIs w) := by
  have HT := Lib.hid hT
  have HA := Lib.hid alive2_any
  have HOF := Lib.hid (of2_any f n)
  have HME := Lib.hid (members_any f n k hf)
  have HRM := Lib.hid (refMembers_any f n k hf)
  have HMA := Lib.hid (may_any f n hf)
  have HRA := Lib.hid (refMay_any f n hf)
  have HWH := Lib.hid (whole_any f n hf s)
  have HRW := Lib.hid (refWhole_any f n hf s)
  have HFI := Lib.hid (first_any f n k hf)
  have hq := fun (u : World) => neq_set (memC f n k) (memC f n k) u
  simp only [setEq_refl, Bool.not_true] at hq
  have HQ := Lib.hid hq
  have hb := (BlkIs.new w 28 (clsC f n)).alloc (.cells (setA s) 35)
  have hs := BlkIs.new (w.alloc (.cells (clsC f n) 28)) 35 (setA s)
  rw [World.size_alloc] at hs
  have hBe := ((Below.refl w.heap.size w).alloc (Nat.le_refl _) (.cells (clsC f n) 28)).alloc (by simp) (.cells (setA s) 35)
  have H0 := Lib.hid (And.intro hb (And.intro hs hBe))
  clear hT hf hq hb hs hBe
  generalize memC f n k = m at *
  go_enter Tryd.func4, Tryd.ntmps4
  go_wp2_with fail
  refine (HA.out _ (HT.out.step H0.out.2.2)).mono ?_
  rintro e w2 ⟨rfl, hb2⟩
  have H2 := Lib.hid (And.intro (H0.out.1.step hb2) (And.intro (H0.out.2.1.step hb2) (H0.out.2.2.trans (hb2.mono H0.out.2.2.size))))
  clear hb2
  go_wp2_with (first
    | (go_at_call 13; refine (HOF.out _).mono ?_; rintro e w3 ⟨rfl, hb3⟩)
    | (go_at_call 12; refine (HME.out _).mono ?_; rintro e w4 ⟨rfl, hb4⟩)
    | refine wpList_loadR rfl (.tmp 3) rfl rfl H2.out.1 ?_)
  have hb24 := hb3.trans (hb4.mono hb3.size)
  have H4 := Lib.hid (And.intro ((H2.out.1.step hb24).alloc (.cells (setA m) 35)) (And.intro ((H2.out.2.1.step hb24).alloc (.cells (setA m) 35)) (And.intro (BlkIs.new w4 35 (setA m)) ((H2.out.2.2.trans (hb24.mono H2.out.2.2.size)).alloc (Nat.le_trans H2.out.2.2.size hb24.size) (.cells (setA m) 35)))))
  clear hb24 hb3 hb4 H2 H0 HA HME
  generalize w4.heap.size = G at *
  refine wp_region_reads 53 (fun u => BlkIs u w.heap.size 28 (clsC f n) ∧ BlkIs u (w.heap.size + 1) 35 (setA s) ∧ BlkIs u G 35 (setA m) ∧ Tab u) (by kernel_rfl) (by kernel_rfl) rfl
    ⟨H4.out.1.drew, H4.out.2.1.drew, H4.out.2.2.1.drew, HT.out.step H4.out.2.2.2.drew⟩ (fun u u' h hb => ⟨h.1.step hb, h.2.1.step hb, h.2.2.1.step hb, h.2.2.2.step hb⟩) ?_
  repeat
    refine freeW_step fun K hK => ?_
    go_simp
    apply Exists.intro
    refine ⟨fun v g1 g2 g3 g4 => ?_, hK _ ?_⟩
    first
      | exact free_load 28 (.tmp 3) _ rfl rfl (loadR g1)
      | exact free_load 35 (.tmp 5) _ rfl rfl (loadS g2)
      | exact free_load 35 (.tmp 7) _ rfl rfl (loadS g3)
      | exact free_exec (exec_neq 35 (.tmp 23) (.tmp 26) _ _ rfl rfl rfl (by kernel_rfl) (HQ.out _))
      | (unfold freeAt
         go_simp
         first
         | exact free_val
         | (apply free_call
            first
            | (go_at_call 13; exact HOF.out _)
            | (go_at_call 10; exact HMA.out _)
            | (go_at_call 14; exact HRA.out _)
            | (go_at_call 15; exact HRM.out _)
            | (go_at_call 11; exact HWH.out _ g4)
            | (go_at_call 16; exact HRW.out _)))
    clear hK K
  refine freeW_nil ?_
  intro u hu hbu
  have HU := Lib.hid (And.intro hu.1 (And.intro hu.2.2.1 (H4.out.2.2.2.trans (hbu.mono H4.out.2.2.2.size))))
  clear hu hbu H4 HRM HMA HRA HWH HRW HQ
  go_wp2
  go_loopw [8, 9] (fun sf sb wr => ∃ z : Int, -1 ≤ z ∧ z ≤ 255 ∧ sb = .int .i64 z ∧ sf = .int .i64 (nextS m (z + 1)) ∧ Hid (BlkIs wr w.heap.size 28 (clsC f n) ∧ BlkIs wr G 35 (setA m) ∧ Below w.heap.size w wr)) (fun _ sb _ => (intOf sb + 1).toNat)
  case atStart => exact ⟨255, by omega, by omega, rfl, by rw [show (255 : Int) + 1 = 256 from rfl, nextS_end], HU⟩
  case round =>
    clear HU
    obtain ⟨z, hz0, hz1, rfl, rfl, HI⟩ := hrel
    by_cases hz : 0 ≤ z
    · obtain ⟨b, rfl⟩ := Int.eq_ofNat_of_zero_le hz
      have hb : b < 256 := by omega
      obtain ⟨c0, c1, c2, c3, _⟩ := HI.out.2.1.four
      have HH := Lib.hid (refHas_any m b hb)
      cases hmb : m b
      · rw [hmb] at HH
        have hno := nextS_no hmb
        go_wp2_with (go_at_call 17; refine (HH.out _).mono ?_; rintro e w6 ⟨rfl, hb6⟩)
        refine ⟨⟨(b : Int) - 1, by omega, by omega, rfl, ?_, Lib.hid ⟨HI.out.1.step hb6, HI.out.2.1.step hb6, HI.out.2.2.trans (hb6.mono HI.out.2.2.size)⟩⟩, by simp [intOf]⟩
        rw [show (b : Int) - 1 + 1 = (b : Nat) by omega, hno]
      · rw [hmb] at HH
        have hyes := nextS_yes hb hmb
        go_wp2_with (go_at_call 17; refine (HH.out _).mono ?_; rintro e w6 ⟨rfl, hb6⟩)
        refine ⟨⟨(b : Int) - 1, by omega, by omega, rfl, ?_, Lib.hid ⟨HI.out.1.step hb6, HI.out.2.1.step hb6, HI.out.2.2.trans (hb6.mono HI.out.2.2.size)⟩⟩, by simp [intOf]⟩
        rw [show (b : Int) - 1 + 1 = (b : Nat) by omega, hyes]
    · obtain rfl : z = -1 := by omega
      rw [show (-1 : Int) + 1 = 0 from rfl]
      go_wp2_with (first
        | (go_at_call 13; refine (HOF.out _).mono ?_; rintro e w7 ⟨rfl, hb7⟩; have HB7 := Lib.hid (HI.out.2.2.trans (hb7.mono HI.out.2.2.size)))
        | (go_at_call 18; refine (HFI.out _ (HT.out.step HB7.out)).mono ?_; rintro e w8 ⟨rfl, hb8⟩)
        | refine wpList_loadR rfl (.tmp 3) rfl rfl HI.out.1 ?_)
      go_ret
      exact ⟨ret_bool (by simp), HB7.out.trans (hb8.mono HB7.out.size)⟩

end Go.Proofs.YtebhnfdgjbhhfaaDoor
