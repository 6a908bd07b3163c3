/-
  WHAT hacklelaw02's ClassParts ANSWERS: true. Condition: the table of math/bits lies as it is laid; the sets lie in memory.
-/
import Derived.Test.YtebhnfdgjbhhfaaDoorLaw1a
import Derived.Test.YtebhnfdgjbhhfaaDoorAlive2
import Derived.Test.YtebhnfdgjbhhfaaDoorRef3
namespace Go.Proofs.YtebhnfdgjbhhfaaDoor
open Go.RowKit

theorem sameB_refl (f : Nat → Nat) (n : Int) : sameB f f n n = true := sameB_iff.2 ⟨fun _ _ => rfl, rfl⟩
theorem whole_says {ms : List (Nat → Bool)} {m : Nat → Bool} (hm : m ∈ ms) : wholeB (num (saysG ms)) (cnt (saysG ms) 256 : Nat) m = true :=
  wholeB_iff.2 ⟨mayB_num _, fun a b _ _ e => (says_eq ms a b).1 (num_inj e) m hm⟩
theorem num_says_lt (ms : List (Nat → Bool)) (b : Nat) (hb : b < 256) : num (saysG ms) b < 256 := Nat.lt_of_le_of_lt (num_le _ _) hb

section
variable {ops : Array Oper} {rest : List Oper} {op : Oper} {a : Act} {w : World} {K : Act → World → Prop} {Q : Exit → Act → World → Prop} {g : Nat} {t : TypeId} {f : Nat → Nat} {n : Int}
theorem wp_loadC (x : Operand) (ho : op.op = .load 26 x) (hx : a.eval x = .pointer (some ⟨g, 0, none⟩)) (h : BlkIs w g t (clsC f n))
    (hK : K (a.put op.dst (.agg (clsC f n))) w) : op.wp Tryd.prog a w K Q :=
  wp_load_mid 26 x ho g 0 hx (clsC f n).toList _ h.range Tryd.underlying26 rfl (by rw [infoC, Array.length_toList, clsC_size]) (by rw [Array.toArray_toList]; exact hK)
theorem wpList_neqR (hgd : op.guard = none) (x y : Operand) (ho : op.op = .binOp .neq 28 x y 28) {f' : Nat → Nat} {n' : Int} (hx : a.eval x = .agg (clsC f n)) (hy : a.eval y = .agg (clsC f' n'))
    (hK : wpList Tryd.prog ops Q rest (a.put op.dst (.bool (!sameB f f' n n'))) w) : wpList Tryd.prog ops Q (op :: rest) a w := by
  refine wpList_plain hgd fun K' hK' => ?_
  have hq := run_eqGuard_agg (P := Tryd.prog) w .neq 28 x y (clsC f n) (clsC f' n') (by kernel_rfl)
  unfold Oper.wp execOp
  simp only [ho, hx, hy, Sem.run_bind, Sem.run_pure, hq, neq_ref, Result.andThen_ok]
  exact hK' _ _ hK
end

set_option maxRecDepth 100000 in
set_option maxHeartbeats 4000000 in
theorem classParts_any (ms : List (Nat → Bool)) (A : Option Addr) (c : Nat) (hcap : ms.length ≤ c) (w : World) (hT : Tab w) (hr : SetRow w w.heap.size A ms) :
    Calls Tryd.prog 3 #[.slice A ms.length c] w (TrueIs w) := by
  have z := zeroC
  have HT := Lib.hid hT
  have HR := Lib.hid hr
  have HA := Lib.hid alive2_any
  clear hT hr
  by_cases hlen : 12 < ms.length
  · have hd : decide ((12 : Int) < (ms.length : Nat)) = true := decide_eq_true (by omega)
    go_enter Tryd.func3, Tryd.ntmps3
    go_wp2_with fail
    refine (HA.out _ HT.out).mono ?_
    rintro e w2 ⟨rfl, hb2⟩
    go_wp2
    go_ret
    exact ⟨rfl, hb2⟩
  · have hd : decide ((12 : Int) < (ms.length : Nat)) = false := decide_eq_false (by omega)
    have hms : ms.length ≤ 64 := by omega
    have HP := Lib.hid (part_any ms hms A c hcap)
    have HRP := Lib.hid (refPart_any ms hms A c)
    have HPL := Lib.hid (plain_any (num (saysG ms)) (cnt (saysG ms) 256 : Nat))
    have HMA := Lib.hid (may_any (num (saysG ms)) (cnt (saysG ms) 256 : Nat) (num_says_lt ms))
    rw [mayB_num] at HMA
    have HWH := Lib.hid (fun m (hm : m ∈ ms) => whole_any (num (saysG ms)) (cnt (saysG ms) 256 : Nat) (num_says_lt ms) m)
    have HWT := Lib.hid (fun m (hm : m ∈ ms) => whole_says hm)
    have hsame := sameB_refl (num (saysG ms)) (cnt (saysG ms) 256 : Nat)
    generalize num (saysG ms) = fN at *
    generalize ((cnt (saysG ms) 256 : Nat) : Int) = nN at *
    go_enter Tryd.func3, Tryd.ntmps3
    go_wp2_with fail
    refine (HA.out _ HT.out).mono ?_
    rintro e w2 ⟨rfl, hb2⟩
    have HB2 := Lib.hid hb2
    clear hb2 HA
    go_wp2_with (first
      | (go_at_call 7; refine (HP.out _ (HT.out.step HB2.out) ((HR.out.below HB2.out).wide HB2.out.size)).mono ?_; rintro e w3 ⟨rfl, hb3⟩; have HB3 := Lib.hid (HB2.out.trans (hb3.mono HB2.out.size)); clear hb3)
      | (refine wpList_store_all rfl 26 (.tmp 3) (.tmp 11) rfl rfl (new := clsC fN nN) rfl (BlkIs.new _ _ _) (by rw [clsC_size, clsC_size]) (by rw [clsC_size]; exact infoC) (clsC_one _ _) ?_; intro w4 hw4 hwr4
         have HB4 := Lib.hid (And.intro hw4 (hwr4.2.1 w.heap.size w HB3.out.size (HB3.out.alloc HB3.out.size _)))
         clear hw4 hwr4)
      | refine wpList_loadC rfl (.tmp 3) rfl rfl HB4.out.1 ?_
      | (go_at_call 8; refine (HPL.out _).mono ?_; rintro e w5 ⟨rfl, hb5⟩; have HB5 := Lib.hid (And.intro (HB4.out.1.step hb5) (HB4.out.2.trans (hb5.mono HB4.out.2.size))); clear hb5)
      | (go_at_call 9; refine (HRP.out _ ((HR.out.below HB5.out.2).wide HB5.out.2.size)).mono ?_; rintro e w6 ⟨rfl, hb6⟩; have HB6 := Lib.hid (And.intro (HB5.out.1.step hb6) (HB5.out.2.trans (hb6.mono HB5.out.2.size))); clear hb6)
      | (refine wpList_neqR rfl (.tmp 13) (.tmp 15) rfl rfl rfl ?_; rw [hsame]))
    refine wp_loadC (.tmp 3) rfl rfl HB6.out.1 ?_
    go_wp2_with (go_at_call 10; refine (HMA.out _).mono ?_; rintro e w7 ⟨rfl, hb7⟩; have HB7 := Lib.hid (And.intro (HB6.out.1.step hb7) (HB6.out.2.trans (hb7.mono HB6.out.2.size))); clear hb7)
    have HB8 := Lib.hid HB7.out
    clear HB7 HB6 HB5 HB4 HB3 HB2 HP HRP HPL HMA
    generalize w3.heap.size = G at *
    go_loopw [4] (fun s wr => ∃ i : Nat, i ≤ ms.length ∧ s = .int .i64 i ∧ Hid (BlkIs wr G 26 (clsC fN nN) ∧ Below w.heap.size w wr)) (fun s _ => ms.length - (intOf s).toNat)
    case atStart => exact ⟨0, by omega, rfl, HB8⟩
    case round =>
      clear HB8
      obtain ⟨i, hi, rfl, HI⟩ := hrel
      by_cases hlt : i < ms.length
      · obtain ⟨m, hm⟩ : ∃ m, ms[i]? = some m := ⟨ms[i], List.getElem?_eq_getElem hlt⟩
        obtain ⟨b, off, hA, hbl, hcell⟩ := HR.out (fun e => by rw [e] at hlt; simp at hlt)
        have hrng := rangeAt_below HI.out.2 hbl (hcell i m hm)
        have hbw : b < wr.heap.size := Nat.lt_of_lt_of_le hbl HI.out.2.size
        have hTw := HT.out.step HI.out.2
        have hw := HWH.out m (List.mem_of_getElem? hm)
        rw [HWT.out m (List.mem_of_getElem? hm)] at hw
        have HW := Lib.hid hw
        subst hA
        clear hcell hw hm
        go_wp2_with fail
        refine wp_region_reads 35 (fun u => BlkIs u G 26 (clsC fN nN) ∧ u.rangeAt b (off + i * 4) (setL m) ∧ b < u.heap.size ∧ Tab u) (by kernel_rfl) (by kernel_rfl) rfl ⟨HI.out.1.drew, hrng, hbw, hTw⟩
          (fun u u' h hb => ⟨h.1.step hb, rangeAt_below hb h.2.2.1 h.2.1, Nat.lt_of_lt_of_le h.2.2.1 hb.size, h.2.2.2.step hb⟩) ?_
        repeat
          refine freeW_step fun K hK => ?_
          go_simp
          apply Exists.intro
          refine ⟨fun v g1 g2 g3 g4 => ?_, hK _ ?_⟩
          first
            | exact free_load 26 (.tmp 3) _ rfl rfl (loadC g1)
            | exact free_load 35 (.tmp 31) _ rfl rfl (loadSAt g2)
            | (unfold freeAt
               go_simp
               first
               | exact free_val
               | (apply free_call
                  go_at_call 11
                  exact HW.out _ g4))
          clear hK K
        refine freeW_nil ?_
        intro u hu hbu
        have HU := Lib.hid (And.intro hu.1 (HI.out.2.trans (hbu.mono HI.out.2.size)))
        clear hu hbu hrng hbw hTw
        go_wp2
        exact ⟨⟨i + 1, by omega, by go_num, HU⟩, by simp [intOf]; omega⟩
      · obtain rfl : i = ms.length := by omega
        go_wp2
        go_ret
        exact ⟨rfl, HI.out.2⟩

end Go.Proofs.YtebhnfdgjbhhfaaDoor
