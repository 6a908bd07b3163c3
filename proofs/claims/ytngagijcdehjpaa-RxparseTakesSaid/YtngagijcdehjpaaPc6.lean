/-
  THE READERS OF NAMES, OF NUMBERS BETWEEN { AND } AND OF FRAGMENTS of package rxparse: contracts. Condition: a text has at most 400 bytes.
-/
import Derived.Test.YtngagijcdehjpaaPc5
import Derived.Test.YtngagijcdehjpaaFreeG
namespace Go.Proofs.Ytngagijcdehjpaa
open Go.RowKit
attribute [local irreducible] FreeW
section
variable {pb : Nat} {s : ByteArray} {F : Value} {W0 W : World} {i o : Nat}

def encStr (s : ByteArray) (i : Nat) (_ : World) (j : Nat) (v : Value) : Prop := v = .string (s.extract i j)
theorem nameF_no {first k : Nat} (h : ¬ (i < s.size ∧ nameB (cutL s first (i + 1)) = true)) : nameF s first k i = i := by
  cases k with
  | zero => rfl
  | succ k => rw [nameF, if_neg h]
theorem nameF_ge (first : Nat) : ∀ (k i : Nat), i ≤ nameF s first k i
  | 0, i => Nat.le_refl _
  | k + 1, i => by
    rw [nameF]
    split
    · exact Nat.le_trans (Nat.le_succ i) (nameF_ge first k (i + 1))
    · exact Nat.le_refl _
set_option maxHeartbeats 2000000 in
theorem name_any (h : St pb s F W0 W i o) : Calls Try.prog 64 #[ptrP pb] W (EndsAs pb s F W0 (encStr s i) o (nameP s i)) := by
  obtain ⟨c0, c1, c2, c3, f0, f1, f2, f3⟩ := h.cells
  have his := h.2.2.1
  have hs4 := h.2.2.2
  unfold nameP
  generalize hR : nameF s i (s.size - i) i = R
  generalize hRR : (if R = i then bad i 2 else .ok (R, R) : Res Nat) = RR
  have HRR := Lib.hid hRR
  have HS := Lib.hid h
  clear h hRR
  go_enter Try.func64, Try.ntmps64
  go_wp2
  clear c0 c1 c2 c3 f0 f1 f2 f3
  go_loopw [] (fun wr => ∃ (j k : Nat), Hid (nameF s i k j = R ∧ s.size ≤ k + j ∧ i ≤ j ∧ St pb s F W0 wr j o)) (fun wr => s.size - plc pb wr)
  case atStart => exact ⟨_, _, Lib.hid ⟨hR, by omega, Nat.le_refl _, HS.out⟩⟩
  case round =>
    obtain ⟨j, k, HH⟩ := hrel
    obtain ⟨hF, hk, hij, hS⟩ := HH.out
    have hjs := hS.2.2.1
    obtain ⟨c0, c1, c2, c3, f0, f1, f2, f3⟩ := hS.cells
    have e1 : wrap64 ((j : Int) + 1) = (j : Int) + 1 := by unfold wrap64; omega
    have HST := Lib.hid hS
    have HF := Lib.hid hF
    clear hS hF HH
    by_cases hl : j < s.size
    · have e2 : decide ((j : Int) < (s.size : Int)) = true := by simp; omega
      have q1 : IntKind.i64.wrap ((j : Int) + 1) = (j : Int) + 1 := by rw [IntKind.wrap_i64]; omega
      have q2 : (0 : Int) ≤ (j : Int) + 1 := by omega
      have q3 : (j : Int) + 1 ≤ (s.size : Int) := by omega
      have q4 : (i : Int) ≤ (j : Int) + 1 := by omega
      have q5 : ((j : Int) + 1).toNat = j + 1 := by omega
      have hmn := fun w => mayName_any (s.extract i (j + 1)) w
      have hcut : (s.extract i (j + 1)).data.toList = cutL s i (j + 1) := Lib.extract_data s i (j + 1)
      rw [hcut] at hmn
      clear hcut
      cases hnb : nameB (cutL s i (j + 1))
      · rw [hnb] at hmn
        have HMN := Lib.hid hmn
        clear hmn c0 c1 c2 c3 f0 f1 f2 f3
        have HR : R = j := by
          rw [← HF.out]; exact nameF_no (by rw [hnb]; simp)
        go_wp2_with fail
        refine wp_region_reads 58 (fun u => Below wr.heap.size wr u) (by kernel_rfl) (by kernel_rfl) rfl (Below.refl _ _).drew (fun u u' h hb => h.trans (hb.mono h.size)) ?_
        repeat
          refine freeW_step fun K hK => ?_
          (first
            | (refine freeW_yes 10 18 true rfl rfl ?_ ?_; (focus (go_simp; done)))
            | skip)
          go_simp
          apply Exists.intro
          refine ⟨fun u h1 => ?_, hK _ ?_⟩
          · obtain ⟨c0, c1, c2, c3, f0, f1, f2, f3⟩ := (HST.out.step h1).cells
            clear h1
            unfold freeAt
            go_simp
            first
              | exact free_val
              | (apply free_call
                 first
                   | exact HMN.out u
                 )
          clear hK K
        refine freeW_nil ?_
        intro u h1 _
        have hSu := HST.out.step h1
        clear h1 HMN q1 q2 q3 q4 q5
        obtain ⟨c0, c1, c2, c3, f0, f1, f2, f3⟩ := hSu.cells
        have HSU := Lib.hid hSu
        clear hSu
        by_cases hji : j = i
        · have e3 : ((j : Int) == (i : Int)) = true := by simp; omega
          have fin : ∀ W7, Kept pb W0 W7 → EndsAs pb s F W0 (encStr s i) o RR (.panicked [{ v := fltV (i, 2), recovered := false }]) W7 := fun W7 hk => by
            rw [← HRR.out, HR, hji, if_pos rfl]; exact ⟨rfl, hk⟩
          subst hji
          go_wp2_with (go_at_call 28; refine (wrongS HSU.out).mono ?_; rintro e W7 ⟨rfl, hk7⟩)
          exact ⟨rfl, fin _ hk7⟩
        · have e3 : ((j : Int) == (i : Int)) = false := by simp; omega
          have fin : ∀ W7, St pb s F W0 W7 j o → EndsAs pb s F W0 (encStr s i) o RR (.returned (.string (s.extract i j))) W7 := fun W7 hk => by
            rw [← HRR.out, HR, if_neg hji]; exact ⟨⟨_, rfl, rfl⟩, hk⟩
          have hsl : ∀ w, (Instr.slice 9 (.string s) (some (.int .i64 (i : Nat))) (some (.int .i64 (j : Nat))) none).run Try.prog w = .ok (.string (s.extract i j)) w := fun w =>
            run_slice_string w 9 s .i64 .i64 (i : Nat) (j : Nat) Try.underlying9 (by omega) (by omega) (by omega)
          go_wp2_with (go_quiet (fail))
          go_ret
          exact fin _ (HSU.out.draw _)
      · rw [hnb] at hmn
        have HMN := Lib.hid hmn
        clear hmn c0 c1 c2 c3 f0 f1 f2 f3
        obtain ⟨k, rfl⟩ : ∃ k', k = k' + 1 := ⟨k - 1, by omega⟩
        have HR : nameF s i k (j + 1) = R := by
          rw [← HF.out, nameF, if_pos ⟨hl, hnb⟩]
        go_wp2_with fail
        refine wp_region_reads 58 (fun u => Below wr.heap.size wr u) (by kernel_rfl) (by kernel_rfl) rfl (Below.refl _ _).drew (fun u u' h hb => h.trans (hb.mono h.size)) ?_
        repeat
          refine freeW_step fun K hK => ?_
          (first
            | (refine freeW_yes 10 18 true rfl rfl ?_ ?_; (focus (go_simp; done)))
            | skip)
          go_simp
          apply Exists.intro
          refine ⟨fun u h1 => ?_, hK _ ?_⟩
          · obtain ⟨c0, c1, c2, c3, f0, f1, f2, f3⟩ := (HST.out.step h1).cells
            clear h1
            unfold freeAt
            go_simp
            first
              | exact free_val
              | (apply free_call
                 first
                   | exact HMN.out u
                 )
          clear hK K
        refine freeW_nil ?_
        intro u h1 _
        have hSu := HST.out.step h1
        obtain ⟨c0, c1, c2, c3, f0, f1, f2, f3⟩ := hSu.cells
        have HSU := Lib.hid hSu
        clear h1 HMN hSu
        go_wp2
        have g2 := HSU.out.to1 hl
        refine ⟨⟨j + 1, k, Lib.hid ⟨HR, by omega, by omega, g2⟩⟩, ?_⟩
        have p1 := g2.plc
        have p2 := HST.out.plc
        rw [p2]
        refine Nat.lt_of_le_of_lt (Nat.sub_le_sub_left (Nat.le_of_eq p1.symm) _) ?_
        omega
    · have e2 : decide ((j : Int) < (s.size : Int)) = false := by simp; omega
      have HR : R = j := by
        rw [← HF.out]; exact nameF_no fun hh => hl hh.1
      clear c0 c1 c2 c3 f0 f1 f2 f3
      go_wp2_with fail
      refine wp_region_reads 58 (fun u => Below wr.heap.size wr u) (by kernel_rfl) (by kernel_rfl) rfl (Below.refl _ _).drew (fun u u' h hb => h.trans (hb.mono h.size)) ?_
      repeat
        refine freeW_step fun K hK => ?_
        first
          | ((first
                | (refine freeW_no 10 18 true rfl rfl ?_ ?_; (focus (go_simp; done))))
             have HK := Go.Lib.hid hK
             clear hK
             go_simp
             have hK := HK.out
             clear HK
             refine hK _ ?_
             clear hK K)
          | (skip
             (first
               | skip)
             go_simp
             apply Exists.intro
             refine ⟨fun u h1 => ?_, hK _ ?_⟩
             · obtain ⟨c0, c1, c2, c3, f0, f1, f2, f3⟩ := (HST.out.step h1).cells
               clear h1
               unfold freeAt
               go_simp
               first
                 | exact free_val
                 | (apply free_call
                    first
                      | fail
                    )
             clear hK K)
      refine freeW_nil ?_
      intro u h1 _
      have hSu := HST.out.step h1
      clear h1
      obtain ⟨c0, c1, c2, c3, f0, f1, f2, f3⟩ := hSu.cells
      have HSU := Lib.hid hSu
      clear hSu
      by_cases hji : j = i
      · have e3 : ((j : Int) == (i : Int)) = true := by simp; omega
        have fin : ∀ W7, Kept pb W0 W7 → EndsAs pb s F W0 (encStr s i) o RR (.panicked [{ v := fltV (i, 2), recovered := false }]) W7 := fun W7 hk => by
          rw [← HRR.out, HR, hji, if_pos rfl]; exact ⟨rfl, hk⟩
        subst hji
        go_wp2_with (go_at_call 28; refine (wrongS HSU.out).mono ?_; rintro e W7 ⟨rfl, hk7⟩)
        exact ⟨rfl, fin _ hk7⟩
      · have e3 : ((j : Int) == (i : Int)) = false := by simp; omega
        have fin : ∀ W7, St pb s F W0 W7 j o → EndsAs pb s F W0 (encStr s i) o RR (.returned (.string (s.extract i j))) W7 := fun W7 hk => by
          rw [← HRR.out, HR, if_neg hji]; exact ⟨⟨_, rfl, rfl⟩, hk⟩
        have hsl : ∀ w, (Instr.slice 9 (.string s) (some (.int .i64 (i : Nat))) (some (.int .i64 (j : Nat))) none).run Try.prog w = .ok (.string (s.extract i j)) w := fun w =>
          run_slice_string w 9 s .i64 .i64 (i : Nat) (j : Nat) Try.underlying9 (by omega) (by omega) (by omega)
        go_wp2_with (go_quiet (fail))
        go_ret
        exact fin _ (HSU.out.draw _)
end
end Go.Proofs.Ytngagijcdehjpaa

