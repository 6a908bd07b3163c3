/-
  hacklelaw08.NfaRuns ANSWERS true WHERE THE AUTOMATON MAY NOT BE. Condition: alive answers true.
-/
import Derived.Test.YtojejnjjenmfaaaQG07
import Derived.Test.YtojejnjjenmfaaaQNf4
import Derived.Test.YtojejnjjenmfaaaQNf5
namespace Go.Proofs.Ytojejnjjenmfaaa
open Go.RowKit

attribute [local irreducible] FreeW

set_option maxRecDepth 20000 in
set_option maxHeartbeats 16000000 in
theorem runs_not (hal : ∀ u : World, Calls Try.prog 6 #[] u fun e w' => e = .returned (.bool true) ∧ Below u.heap.size u w') (N : Nf) (at' : List Int) (s : ByteArray) (v va : Value) (w : World) (h : NfaAt w N v) (ha : IntsV w at' va) (hshort : ¬ (60 < N.sets.length ∨ 100 < at'.length ∨ 60 < s.size ∨ 80 < N.follow.length ∨ 100 < N.first.length ∨ 100 < N.rules.length ∨ 100 < N.ends.length)) (hm : N.may = false) :
    Calls Try.prog 5 #[v, va, .string s] w fun e w' => e = .returned (.bool true) ∧ Below w.heap.size w w' := by
  obtain ⟨A0, A1, A2, A3, A4, c0, c1, c2, c3, c4, rfl⟩ := h.form
  have hia := ha
  obtain ⟨Aa, ca, rfl⟩ := ha.len0
  have hb0 : Below w.heap.size w (w.alloc (.cells #[.slice A0 N.sets.length c0, .slice A1 N.rules.length c1, .slice A2 N.first.length c2, .slice A3 N.follow.length c3, .slice A4 N.ends.length c4, .int .i64 N.empty] 42)) := (Below.refl _ _).alloc (Nat.le_refl _) _
  have hbx := BlkIs.new w 42 #[.slice A0 N.sets.length c0, .slice A1 N.rules.length c1, .slice A2 N.first.length c2, .slice A3 N.follow.length c3, .slice A4 N.ends.length c4, .int .i64 N.empty]
  obtain ⟨W1, hW1⟩ : ∃ W1, w.alloc (.cells #[.slice A0 N.sets.length c0, .slice A1 N.rules.length c1, .slice A2 N.first.length c2, .slice A3 N.follow.length c3, .slice A4 N.ends.length c4, .int .i64 N.empty] 42) = W1 := ⟨_, rfl⟩
  rw [hW1] at hb0 hbx
  have H0 := Lib.hid (And.intro hb0 hbx)
  have HAL := Lib.hid (hal W1)
  have q0 : ¬ 60 < N.sets.length := fun q => hshort (by omega)
  have q1 : ¬ 100 < at'.length := fun q => hshort (by omega)
  have q2 : ¬ 60 < s.size := fun q => hshort (by omega)
  have q3 : ¬ 80 < N.follow.length := fun q => hshort (by omega)
  have q4 : ¬ 100 < N.first.length := fun q => hshort (by omega)
  have q5 : ¬ 100 < N.rules.length := fun q => hshort (by omega)
  have q6 : ¬ 100 < N.ends.length := fun q => hshort (by omega)
  have e0 : decide ((N.sets.length : Int) > 60) = false := by simp; omega
  have e0b : decide ((60 : Int) < (N.sets.length : Int)) = false := by simp; omega
  have e1 : decide ((at'.length : Int) > 100) = false := by simp; omega
  have e1b : decide ((100 : Int) < (at'.length : Int)) = false := by simp; omega
  have e2 : decide ((s.size : Int) > 60) = false := by simp; omega
  have e2b : decide ((60 : Int) < (s.size : Int)) = false := by simp; omega
  have e3 : decide ((N.follow.length : Int) > 80) = false := by simp; omega
  have e3b : decide ((80 : Int) < (N.follow.length : Int)) = false := by simp; omega
  have e4 : decide ((N.first.length : Int) > 100) = false := by simp; omega
  have e4b : decide ((100 : Int) < (N.first.length : Int)) = false := by simp; omega
  have e5 : decide ((N.rules.length : Int) > 100) = false := by simp; omega
  have e5b : decide ((100 : Int) < (N.rules.length : Int)) = false := by simp; omega
  have e6 : decide ((N.ends.length : Int) > 100) = false := by simp; omega
  have e6b : decide ((100 : Int) < (N.ends.length : Int)) = false := by simp; omega
  have HFO := Lib.hid (fun (j : Nat) (hj : j < N.follow.length) => (show ∃ b o Ar cr, A3 = some ⟨b, o, none⟩ ∧ ∀ u : World, Below w.heap.size w u → u.cell? ⟨b, o + j, none⟩ = some (.slice Ar (N.follow[j]).length cr) by
    obtain ⟨v0, v1, v2, v3, v4, e, _, _, _, hs3, _⟩ := h
    injection e with e
    injection e with e
    simp only [List.cons.injEq] at e
    obtain ⟨_, _, _, rfl, _⟩ := e
    obtain ⟨A, c, e, _, hg⟩ := hs3
    cases e
    obtain ⟨b, o, e1, l1, g1⟩ := hg (by intro e; rw [e] at hj; simp at hj)
    obtain ⟨u0, hu0, Ar, cr, rfl, _, _⟩ := g1 j hj
    exact ⟨b, o, Ar, cr, e1, fun u hu => (hu.cell (p := ⟨b, o + j, none⟩) l1).trans hu0⟩))
  have HMN := Lib.hid (fun (u : World) (hu : Below w.heap.size w u) => mayN_any N _ u (h.step hu))
  have HMR := Lib.hid (fun (u : World) (hu : Below w.heap.size w u) => refMay8_any N _ u (h.step hu))
  rw [hm] at HMN HMR
  have hrun := fun (u : World) (hu : Below w.heap.size w u) => Run_any N s (by omega) _ u (h.step hu)
  have hL : ranL N s = [] := by unfold ranL; rw [hm]; rfl
  have hTg : ranT N s = -1 := by unfold ranT; rw [hm]; rfl
  rw [hL, hTg] at hrun
  have HRUN := Lib.hid hrun
  have hbeg := fun (u : World) (hu : Below w.heap.size w u) => Begin_any N 97 (by decide) _ u (h.step hu)
  have hgo := fun (u : World) (hu : Below w.heap.size w u) => Go_any N at' 97 (by decide) _ _ u (h.step hu) (hia.step hu)
  have htag := fun (u : World) (hu : Below w.heap.size w u) => Tag_any N at' _ _ u (h.step hu) (hia.step hu)
  simp only [hm, Bool.and_false, Bool.false_eq_true, if_false] at hbeg hgo htag
  have HBG := Lib.hid hbeg
  have HGO := Lib.hid hgo
  have HTG := Lib.hid htag
  clear hrun hL hTg hbeg hgo htag hm
  clear hshort h ha hia hal hb0 hbx q0 q1 q2 q4 q5 q6
  go_enter Try.func5, Try.ntmps5
  go_wp2_with (go_at_call 6; go_must (refine HAL.out.mono ?_); rintro e w1 ⟨rfl, hb⟩; have HX := Lib.hid (And.intro (H0.out.1.trans (hb.mono H0.out.1.size)) (H0.out.2.step hb)); clear hb; obtain ⟨d0, d1, d2, d3, d4, d5⟩ := six HX.out.2)
  clear d0 d1 d2 d3 d4 d5
  go_loopw [7] (fun i wr => ∃ j : Nat, i = .int .i64 j ∧ j ≤ N.follow.length ∧ Hid (Below w.heap.size w wr ∧ BlkIs wr w.heap.size 42 #[.slice A0 N.sets.length c0, .slice A1 N.rules.length c1, .slice A2 N.first.length c2, .slice A3 N.follow.length c3, .slice A4 N.ends.length c4, .int .i64 N.empty])) (fun i _ => N.follow.length - (intOf i).toNat)
  case atStart => exact ⟨0, rfl, Nat.zero_le _, HX⟩
  case round =>
    obtain ⟨j, rfl, hj, HH⟩ := hrel
    obtain ⟨d0, d1, d2, d3, d4, d5⟩ := six HH.out.2
    by_cases hp : j < N.follow.length
    · have hk1 : IntKind.i64.wrap ((j : Int) + 1) = ((j + 1 : Nat) : Int) := by rw [IntKind.wrap_i64]; omega
      have hdl : decide ((j : Int) < (N.follow.length : Int)) = true := by simp; omega
      obtain ⟨b, o, Ar, cr, rfl, hcl⟩ := HFO.out j hp
      have hcj := hcl wr HH.out.1
      by_cases hr : 100 < (N.follow[j]).length
      · have f0 : decide (((N.follow[j]).length : Int) > 100) = true := by simp; omega
        have f1 : decide ((100 : Int) < ((N.follow[j]).length : Int)) = true := by simp; omega
        clear hcl hr
        generalize (N.follow[j]).length = nr at *
        go_wp2
        go_ret
        exact ⟨rfl, HH.out.1⟩
      · have f0 : decide (((N.follow[j]).length : Int) > 100) = false := by simp; omega
        have f1 : decide ((100 : Int) < ((N.follow[j]).length : Int)) = false := by simp; omega
        clear hcl hr
        generalize (N.follow[j]).length = nr at *
        go_wp2
        exact ⟨⟨j + 1, rfl, hp, HH⟩, by simp [intOf]; omega⟩
    · have hdl : decide ((j : Int) < (N.follow.length : Int)) = false := by simp; omega
      have HX := HH
      have hj' : j = N.follow.length := by omega
      clear hp HH HFO
      go_wp2_with fail
      go_at_call 21
      refine (of8_any A0 A1 A2 A3 A4 _ _ _ _ _ c0 c1 c2 c3 c4 N.empty wr).mono ?_
      rintro e u8 ⟨rfl, hb8⟩
      have HX := Lib.hid (And.intro (HX.out.1.trans (hb8.mono HX.out.1.size)) (HX.out.2.step hb8))
      clear hb8 d0 d1 d2 d3 d4 d5
      obtain ⟨W8, hW8⟩ : ∃ W8, u8.alloc (.cells #[.slice A0 N.sets.length c0, .slice A1 N.rules.length c1, .slice A2 N.first.length c2, .slice A3 N.follow.length c3, .slice A4 N.ends.length c4, .int .i64 N.empty] 30) = W8 := ⟨_, rfl⟩
      have hb9 : Below u8.heap.size u8 W8 := by rw [← hW8]; exact (Below.refl _ _).alloc (Nat.le_refl _) _
      have hx9 : BlkIs W8 u8.heap.size 30 #[.slice A0 N.sets.length c0, .slice A1 N.rules.length c1, .slice A2 N.first.length c2, .slice A3 N.follow.length c3, .slice A4 N.ends.length c4, .int .i64 N.empty] := by rw [← hW8]; exact BlkIs.new _ _ _
      generalize hg8 : u8.heap.size = g8 at hb9 hx9
      have HX := Lib.hid (show (Below w.heap.size w W8 ∧ BlkIs W8 w.heap.size 42 #[.slice A0 N.sets.length c0, .slice A1 N.rules.length c1, .slice A2 N.first.length c2, .slice A3 N.follow.length c3, .slice A4 N.ends.length c4, .int .i64 N.empty]) ∧ BlkIs W8 g8 30 #[.slice A0 N.sets.length c0, .slice A1 N.rules.length c1, .slice A2 N.first.length c2, .slice A3 N.follow.length c3, .slice A4 N.ends.length c4, .int .i64 N.empty] from ⟨⟨HX.out.1.trans (by rw [← hg8] at hb9; exact hb9.mono HX.out.1.size), HX.out.2.step (by rw [hg8]; exact hb9)⟩, hx9⟩)
      clear hb9 hx9
      have hz := BlkIs.new u8 30 #[.slice none 0 0, .slice none 0 0, .slice none 0 0, .slice none 0 0, .slice none 0 0, .int .i64 0]
      go_wp2_with fail
      clear hW8 hg8
      refine wp_region_reads 183 (fun u => Hid ((Below w.heap.size w u ∧ BlkIs u w.heap.size 42 #[.slice A0 N.sets.length c0, .slice A1 N.rules.length c1, .slice A2 N.first.length c2, .slice A3 N.follow.length c3, .slice A4 N.ends.length c4, .int .i64 N.empty]) ∧ BlkIs u g8 30 #[.slice A0 N.sets.length c0, .slice A1 N.rules.length c1, .slice A2 N.first.length c2, .slice A3 N.follow.length c3, .slice A4 N.ends.length c4, .int .i64 N.empty])) (by kernel_rfl) (by kernel_rfl) rfl (Lib.hid ⟨⟨HX.out.1.1.drew, HX.out.1.2.drew⟩, HX.out.2.drew⟩) (fun u u' h hb => Lib.hid ⟨⟨h.out.1.1.trans (hb.mono h.out.1.1.size), h.out.1.2.step hb⟩, h.out.2.step hb⟩) ?_
      repeat
        refine freeW_step fun K hK => ?_
        go_simp
        apply Exists.intro
        refine ⟨fun u h1 => ?_, hK _ ?_⟩
        · obtain ⟨d0, d1, d2, d3, d4, d5⟩ := six h1.out.1.2
          obtain ⟨k0, k1, k2, k3, k4, k5⟩ := six h1.out.2
          unfold freeAt
          go_simp
          first
            | exact free_val
            | (apply free_call
               first
                 | (go_at_call 16; exact HMN.out _ h1.out.1.1)
                 | (go_at_call 22; exact HMR.out _ h1.out.1.1)
               )
        clear hK K
      refine freeW_nil ?_
      intro u8 hC hb2
      have HX := Lib.hid hC.out
      clear hC hb2
      obtain ⟨d0, d1, d2, d3, d4, d5⟩ := six HX.out.1.2; obtain ⟨k0, k1, k2, k3, k4, k5⟩ := six HX.out.2
      go_wp2_with (first
        | (go_at_call 18; go_must (refine (HRUN.out _ HX.out.1.1).mono ?_); rintro e u9 ⟨v9, rfl, hv9, hb⟩; obtain ⟨A9, c9, rfl⟩ := hv9.len0; clear hv9; have HX := Lib.hid (show (Below w.heap.size w u9 ∧ BlkIs u9 w.heap.size 42 #[.slice A0 N.sets.length c0, .slice A1 N.rules.length c1, .slice A2 N.first.length c2, .slice A3 N.follow.length c3, .slice A4 N.ends.length c4, .int .i64 N.empty]) ∧ BlkIs u9 g8 30 #[.slice A0 N.sets.length c0, .slice A1 N.rules.length c1, .slice A2 N.first.length c2, .slice A3 N.follow.length c3, .slice A4 N.ends.length c4, .int .i64 N.empty] from ⟨⟨HX.out.1.1.trans (hb.mono HX.out.1.1.size), HX.out.1.2.step hb⟩, HX.out.2.step hb⟩); clear hb; clear d0 d1 d2 d3 d4 d5 k0 k1 k2 k3 k4 k5; obtain ⟨d0, d1, d2, d3, d4, d5⟩ := six HX.out.1.2; obtain ⟨k0, k1, k2, k3, k4, k5⟩ := six HX.out.2)
        | (go_at_call 22; go_must (refine (HMR.out _ HX.out.1.1).mono ?_); rintro e u10 ⟨rfl, hb⟩; have HX := Lib.hid (show (Below w.heap.size w u10 ∧ BlkIs u10 w.heap.size 42 #[.slice A0 N.sets.length c0, .slice A1 N.rules.length c1, .slice A2 N.first.length c2, .slice A3 N.follow.length c3, .slice A4 N.ends.length c4, .int .i64 N.empty]) ∧ BlkIs u10 g8 30 #[.slice A0 N.sets.length c0, .slice A1 N.rules.length c1, .slice A2 N.first.length c2, .slice A3 N.follow.length c3, .slice A4 N.ends.length c4, .int .i64 N.empty] from ⟨⟨HX.out.1.1.trans (hb.mono HX.out.1.1.size), HX.out.1.2.step hb⟩, HX.out.2.step hb⟩); clear hb; clear d0 d1 d2 d3 d4 d5 k0 k1 k2 k3 k4 k5; obtain ⟨d0, d1, d2, d3, d4, d5⟩ := six HX.out.1.2; obtain ⟨k0, k1, k2, k3, k4, k5⟩ := six HX.out.2)
        | (go_at_call 23; go_must (refine (HBG.out _ HX.out.1.1).mono ?_); rintro e u11 ⟨v11, rfl, hv11, hb⟩; obtain ⟨A11, c11, rfl⟩ := hv11.len0; clear hv11; have HX := Lib.hid (show (Below w.heap.size w u11 ∧ BlkIs u11 w.heap.size 42 #[.slice A0 N.sets.length c0, .slice A1 N.rules.length c1, .slice A2 N.first.length c2, .slice A3 N.follow.length c3, .slice A4 N.ends.length c4, .int .i64 N.empty]) ∧ BlkIs u11 g8 30 #[.slice A0 N.sets.length c0, .slice A1 N.rules.length c1, .slice A2 N.first.length c2, .slice A3 N.follow.length c3, .slice A4 N.ends.length c4, .int .i64 N.empty] from ⟨⟨HX.out.1.1.trans (hb.mono HX.out.1.1.size), HX.out.1.2.step hb⟩, HX.out.2.step hb⟩); clear hb; clear d0 d1 d2 d3 d4 d5 k0 k1 k2 k3 k4 k5; obtain ⟨d0, d1, d2, d3, d4, d5⟩ := six HX.out.1.2; obtain ⟨k0, k1, k2, k3, k4, k5⟩ := six HX.out.2)
        | (go_at_call 24; go_must (refine (HGO.out _ HX.out.1.1).mono ?_); rintro e u12 ⟨v12, rfl, hv12, hb⟩; obtain ⟨A12, c12, rfl⟩ := hv12.len0; clear hv12; have HX := Lib.hid (show (Below w.heap.size w u12 ∧ BlkIs u12 w.heap.size 42 #[.slice A0 N.sets.length c0, .slice A1 N.rules.length c1, .slice A2 N.first.length c2, .slice A3 N.follow.length c3, .slice A4 N.ends.length c4, .int .i64 N.empty]) ∧ BlkIs u12 g8 30 #[.slice A0 N.sets.length c0, .slice A1 N.rules.length c1, .slice A2 N.first.length c2, .slice A3 N.follow.length c3, .slice A4 N.ends.length c4, .int .i64 N.empty] from ⟨⟨HX.out.1.1.trans (hb.mono HX.out.1.1.size), HX.out.1.2.step hb⟩, HX.out.2.step hb⟩); clear hb; clear d0 d1 d2 d3 d4 d5 k0 k1 k2 k3 k4 k5; obtain ⟨d0, d1, d2, d3, d4, d5⟩ := six HX.out.1.2; obtain ⟨k0, k1, k2, k3, k4, k5⟩ := six HX.out.2)
        | (go_at_call 25; go_must (refine (HTG.out _ HX.out.1.1).mono ?_); rintro e u13 ⟨rfl, hb⟩; have HX := Lib.hid (show (Below w.heap.size w u13 ∧ BlkIs u13 w.heap.size 42 #[.slice A0 N.sets.length c0, .slice A1 N.rules.length c1, .slice A2 N.first.length c2, .slice A3 N.follow.length c3, .slice A4 N.ends.length c4, .int .i64 N.empty]) ∧ BlkIs u13 g8 30 #[.slice A0 N.sets.length c0, .slice A1 N.rules.length c1, .slice A2 N.first.length c2, .slice A3 N.follow.length c3, .slice A4 N.ends.length c4, .int .i64 N.empty] from ⟨⟨HX.out.1.1.trans (hb.mono HX.out.1.1.size), HX.out.1.2.step hb⟩, HX.out.2.step hb⟩); clear hb; clear d0 d1 d2 d3 d4 d5 k0 k1 k2 k3 k4 k5; obtain ⟨d0, d1, d2, d3, d4, d5⟩ := six HX.out.1.2; obtain ⟨k0, k1, k2, k3, k4, k5⟩ := six HX.out.2))
      go_ret
      exact ⟨rfl, HX.out.1.1⟩
end Go.Proofs.Ytojejnjjenmfaaa

