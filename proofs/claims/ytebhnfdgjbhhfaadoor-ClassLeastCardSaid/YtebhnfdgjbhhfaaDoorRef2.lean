/-
  WHAT alike, Part AND Whole OF THE REFERENCE ANSWER: contracts. Condition: the sets lie in memory; classes are bytes.
-/
import Derived.Test.YtebhnfdgjbhhfaaDoorWhole
import Derived.Test.YtebhnfdgjbhhfaaDoorPart
namespace Go.Proofs.YtebhnfdgjbhhfaaDoor
open Go.RowKit

theorem loadSAt {w : World} {b o : Nat} {m : Nat → Bool} (h : w.rangeAt b o (setL m)) : (Instr.loadAt 35 (.pointer (some ⟨b, o, none⟩))).run Tryd.prog w = .ok (setV m) w :=
  run_loadAt_mid (P := Tryd.prog) w b o 35 (setL m) _ h Tryd.underlying35 rfl (by rw [infoS]; rfl)

theorem says_take {ms : List (Nat → Bool)} {k : Nat} {m : Nat → Bool} (hm : ms[k]? = some m) {a b : Nat} (h : saysG (ms.take k) a = saysG (ms.take k) b) (hab : m a = m b) : saysG (ms.take (k + 1)) a = saysG (ms.take (k + 1)) b := by
  have e : ms.take (k + 1) = ms.take k ++ [m] := by rw [List.take_add_one, hm]; rfl
  unfold saysG at h ⊢
  rw [e, List.map_append, List.map_append, h]
  simp [hab]

set_option maxRecDepth 100000 in
set_option maxHeartbeats 2000000 in
theorem alike_any (ms : List (Nat → Bool)) (hms : ms.length ≤ 64) (A : Option Addr) (c a b : Nat) (ha : a < 256) (hb : b < 256) (w : World) (hr : SetRow w w.heap.size A ms) :
    Calls Tryd.prog 22 #[.slice A ms.length c, .int .i64 a, .int .i64 b] w fun e w' => e = .returned (.bool (decide (saysG ms a = saysG ms b))) ∧ Below w.heap.size w w' := by
  have HR := Lib.hid hr
  have HH := Lib.hid (And.intro ha hb)
  clear hr ha hb
  go_enter Tryd.func22, Tryd.ntmps22
  go_wp2
  go_loopw [7] (fun s wr => ∃ k : Nat, k ≤ ms.length ∧ s = .int .i64 k ∧ Hid (saysG (ms.take k) a = saysG (ms.take k) b ∧ Below w.heap.size w wr)) (fun s _ => ms.length - (intOf s).toNat)
  case atStart => exact ⟨0, by omega, rfl, Lib.hid ⟨rfl, Below.refl _ _⟩⟩
  case round =>
    obtain ⟨k, hk, rfl, HI⟩ := hrel
    by_cases hlt : k < ms.length
    · obtain ⟨m, hm⟩ : ∃ m, ms[k]? = some m := ⟨ms[k], List.getElem?_eq_getElem hlt⟩
      obtain ⟨b0, off, hA, hbl, hcell⟩ := HR.out (fun e => by rw [e] at hlt; simp at hlt)
      have hrng := rangeAt_below HI.out.2 hbl (hcell k m hm)
      have hbw : b0 < wr.heap.size := Nat.lt_of_lt_of_le hbl HI.out.2.size
      subst hA
      have hstep := fun (h : m a = m b) => says_take hm HI.out.1 h
      have hdiff : m a ≠ m b → decide (saysG ms a = saysG ms b) = false := fun h => decide_eq_false fun e => h ((says_eq ms a b).1 e m (List.mem_of_getElem? hm))
      have HS := Lib.hid (And.intro hstep hdiff)
      have HB := Lib.hid HI.out.2
      clear hcell hstep hdiff HI hm
      cases hd : (m a != m b)
      · have hab : m a = m b := by simpa using hd
        go_wp2_with fail
        refine wp_region_reads 27 (fun u => u.rangeAt b0 (off + k * 4) (setL m) ∧ b0 < u.heap.size) (by kernel_rfl) (by kernel_rfl) rfl ⟨hrng, hbw⟩ (fun u u' h hb => ⟨rangeAt_below hb h.2 h.1, Nat.lt_of_lt_of_le h.2 hb.size⟩) ?_
        repeat
          refine freeW_step fun K hK => ?_
          go_simp
          apply Exists.intro
          refine ⟨fun v g1 g2 => ?_, hK _ ?_⟩
          first
            | exact free_load 35 (.tmp 16) _ rfl rfl (loadSAt g1)
            | exact free_load 35 (.tmp 22) _ rfl rfl (loadSAt g1)
            | (unfold freeAt
               go_simp
               first
               | exact free_val
               | (apply free_call
                  go_at_call 17
                  first
                  | with_reducible exact refHas_any m a HH.out.1 _
                  | with_reducible exact refHas_any m b HH.out.2 _))
          clear hK K
        refine freeW_nil ?_
        intro u _ hb
        have hB := HB.out.trans (hb.mono HB.out.size)
        clear hb
        go_wp2
        exact ⟨⟨k + 1, by omega, by go_num, Lib.hid ⟨HS.out.1 hab, hB⟩⟩, by simp [intOf]; omega⟩
      · have hab : m a ≠ m b := by simpa using hd
        have hd2 : (m a == m b) = false := by simpa using hd
        go_wp2_with fail
        refine wp_region_reads 27 (fun u => u.rangeAt b0 (off + k * 4) (setL m) ∧ b0 < u.heap.size) (by kernel_rfl) (by kernel_rfl) rfl ⟨hrng, hbw⟩ (fun u u' h hb => ⟨rangeAt_below hb h.2 h.1, Nat.lt_of_lt_of_le h.2 hb.size⟩) ?_
        repeat
          refine freeW_step fun K hK => ?_
          go_simp
          apply Exists.intro
          refine ⟨fun v g1 g2 => ?_, hK _ ?_⟩
          first
            | exact free_load 35 (.tmp 16) _ rfl rfl (loadSAt g1)
            | exact free_load 35 (.tmp 22) _ rfl rfl (loadSAt g1)
            | (unfold freeAt
               go_simp
               first
               | exact free_val
               | (apply free_call
                  go_at_call 17
                  first
                  | with_reducible exact refHas_any m a HH.out.1 _
                  | with_reducible exact refHas_any m b HH.out.2 _))
          clear hK K
        refine freeW_nil ?_
        intro u _ hb
        have hB := HB.out.trans (hb.mono HB.out.size)
        clear hb
        go_wp2
        go_ret
        exact ⟨ret_bool (HS.out.2 hab).symm, hB⟩
    · obtain rfl : k = ms.length := by omega
      have hi := HI.out
      rw [List.take_length] at hi
      have HI2 := Lib.hid hi
      clear hi HI
      go_wp2
      go_ret
      exact ⟨ret_bool (decide_eq_true HI2.out.1).symm, HI2.out.2⟩

end Go.Proofs.YtebhnfdgjbhhfaaDoor
