/-
  hacklelaw08.NfaRuns ANSWERS true WHERE THE AUTOMATON MAY BE, ITS PLACES NOT RISING. Condition: alive answers true.
-/
import Derived.Test.YtojejnjjenmfaaaQG07
import Derived.Test.YtojejnjjenmfaaaQNf4
import Derived.Test.YtojejnjjenmfaaaQNf5
namespace Go.Proofs.Ytojejnjjenmfaaa
open Go.RowKit

attribute [local irreducible] FreeW

set_option maxRecDepth 20000 in
set_option maxHeartbeats 16000000 in
theorem runs_no (hal : ∀ u : World, Calls Try.prog 6 #[] u fun e w' => e = .returned (.bool true) ∧ Below u.heap.size u w') (N : Nf) (at' : List Int) (s : ByteArray) (v va : Value) (w : World) (h : NfaAt w N v) (ha : IntsV w at' va) (hshort : ¬ (60 < N.sets.length ∨ 100 < at'.length ∨ 60 < s.size ∨ 80 < N.follow.length ∨ 100 < N.first.length ∨ 100 < N.rules.length ∨ 100 < N.ends.length)) (hm : N.may = true) (hri : risesB N.sets.length (-1) at' = false) :
    Calls Try.prog 5 #[v, va, .string s] w fun e w' => e = .returned (.bool true) ∧ Below w.heap.size w w' := by
  obtain ⟨A0, A1, A2, A3, A4, c0, c1, c2, c3, c4, rfl⟩ := h.form
  have hia := ha
  obtain ⟨Aa, ca, rfl⟩ := ha.len0
  have hb0 : Below w.heap.size w (w.alloc (.cells #[.slice A0 N.sets.length c0, .slice A1 N.rules.length c1, .slice A2 N.first.length c2, .slice A3 N.follow.length c3, .slice A4 N.ends.length c4, .int .i64 N.empty] 42)) := (Below.refl _ _).alloc (Nat.le_refl _) _
  have hbx := BlkIs.new w 42 #[.slice A0 N.sets.length c0, .slice A1 N.rules.length c1, .slice A2 N.first.length c2, .slice A3 N.follow.length c3, .slice A4 N.ends.length c4, .int .i64 N.empty]
  obtain ⟨W1, hW1⟩ : ∃ W1, w.alloc (.cells #[.slice A0 N.sets.length c0, .slice A1 N.rules.length c1, .slice A2 N.first.length c2, .slice A3 N.follow.length c3, .slice A4 N.ends.length c4, .int .i64 N.empty] 42) = W1 := ⟨_, rfl⟩
  rw [hW1] at hb0 hbx
  have H0 := Lib.hid (And.intro hb0 hbx)
  have HAL := Lib.hid (hal W1)
  have q0 : ¬ 60 < N.sets.length := fun q => hshort (by omega)
  have q1 : ¬ 100 < at'.length := fun q => hshort (by omega)
  have q2 : ¬ 60 < s.size := fun q => hshort (by omega)
  have q3 : ¬ 80 < N.follow.length := fun q => hshort (by omega)
  have q4 : ¬ 100 < N.first.length := fun q => hshort (by omega)
  have q5 : ¬ 100 < N.rules.length := fun q => hshort (by omega)
  have q6 : ¬ 100 < N.ends.length := fun q => hshort (by omega)
  have e0 : decide ((N.sets.length : Int) > 60) = false := by simp; omega
  have e0b : decide ((60 : Int) < (N.sets.length : Int)) = false := by simp; omega
  have e1 : decide ((at'.length : Int) > 100) = false := by simp; omega
  have e1b : decide ((100 : Int) < (at'.length : Int)) = false := by simp; omega
  have e2 : decide ((s.size : Int) > 60) = false := by simp; omega
  have e2b : decide ((60 : Int) < (s.size : Int)) = false := by simp; omega
  have e3 : decide ((N.follow.length : Int) > 80) = false := by simp; omega
  have e3b : decide ((80 : Int) < (N.follow.length : Int)) = false := by simp; omega
  have e4 : decide ((N.first.length : Int) > 100) = false := by simp; omega
  have e4b : decide ((100 : Int) < (N.first.length : Int)) = false := by simp; omega
  have e5 : decide ((N.rules.length : Int) > 100) = false := by simp; omega
  have e5b : decide ((100 : Int) < (N.rules.length : Int)) = false := by simp; omega
  have e6 : decide ((N.ends.length : Int) > 100) = false := by simp; omega
  have e6b : decide ((100 : Int) < (N.ends.length : Int)) = false := by simp; omega
  have HFO := Lib.hid (fun (j : Nat) (hj : j < N.follow.length) => (show ∃ b o Ar cr, A3 = some ⟨b, o, none⟩ ∧ ∀ u : World, Below w.heap.size w u → u.cell? ⟨b, o + j, none⟩ = some (.slice Ar (N.follow[j]).length cr) by
    obtain ⟨v0, v1, v2, v3, v4, e, _, _, _, hs3, _⟩ := h
    injection e with e
    injection e with e
    simp only [List.cons.injEq] at e
    obtain ⟨_, _, _, rfl, _⟩ := e
    obtain ⟨A, c, e, _, hg⟩ := hs3
    cases e
    obtain ⟨b, o, e1, l1, g1⟩ := hg (by intro e; rw [e] at hj; simp at hj)
    obtain ⟨u0, hu0, Ar, cr, rfl, _, _⟩ := g1 j hj
    exact ⟨b, o, Ar, cr, e1, fun u hu => (hu.cell (p := ⟨b, o + j, none⟩) l1).trans hu0⟩))
  have HMN := Lib.hid (fun (u : World) (hu : Below w.heap.size w u) => mayN_any N _ u (h.step hu))
  have HMR := Lib.hid (fun (u : World) (hu : Below w.heap.size w u) => refMay8_any N _ u (h.step hu))
  rw [hm] at HMN HMR
  have hmi := may_is hm
  have hrun := fun (u : World) (hu : Below w.heap.size w u) => Run_any N s (by omega) _ u (h.step hu)
  have hL : ranL N s = atTo N s s.size := by unfold ranL; rw [hm]; rfl
  rw [hL] at hrun
  have HRUN := Lib.hid hrun
  have HRT := Lib.hid (show ranT N s = if s.size = 0 then N.empty else tagL N (atTo N s s.size) by unfold ranT; rw [hm]; rfl)
  have HBG := Lib.hid (fun (u : World) (hu : Below w.heap.size w u) => Begin_any N (b8 s 0) (b8_lt s 0) _ u (h.step hu))
  rw [hm] at HBG
  simp only [if_true] at HBG
  have hst0 := fun (u : World) (hu : Below w.heap.size w u) => refStep_any N [] true (b8 s 0) (b8_lt s 0) _ (.slice none 0 0) u (h.step hu) (IntsV.nil u) (fun p hp => by cases hp) hmi.firsts.1 hmi.follow hmi.rows (by have := hmi.small; omega)
  rw [marks_begin, ← begin_marks N (b8 s 0) hmi.first] at hst0
  have HST0 := Lib.hid hst0
  have HST := Lib.hid (fun (j : Nat) (vx : Value) (u : World) (hu : Below w.heap.size w u) (hx : IntsV u (atTo N s j) vx) => refStep_any N (atTo N s j) (decide (j = 0)) (b8 s j) (b8_lt s j) _ vx u (h.step hu) hx (atTo_in hmi s j) hmi.firsts.1 hmi.follow hmi.rows (by have := hmi.small; omega))
  simp only [ref_at N hmi s] at HST
  have HTA := Lib.hid (fun (j : Nat) (vx : Value) (u : World) (hu : Below w.heap.size w u) (hx : IntsV u (atTo N s j) vx) => refTag8_any N (atTo N s j) _ vx u (h.step hu) hx (fun p hp => by have := atTo_in hmi s j p hp; have := hmi.rules; omega) (by rw [hmi.ends, hmi.rules]))
  simp only [tag_same N hmi.ruleAt] at HTA
  have HRR := Lib.hid (fun (u : World) (hu : Below w.heap.size w u) => refRising8_any at' _ A0 A1 A2 A3 A4 N.sets.length N.rules.length N.first.length N.follow.length N.ends.length c0 c1 c2 c3 c4 N.empty u (hia.step hu))
  have HGO := Lib.hid (fun (u : World) (hu : Below w.heap.size w u) => Go_any N at' 97 (by decide) _ _ u (h.step hu) (hia.step hu))
  have HTG := Lib.hid (fun (u : World) (hu : Below w.heap.size w u) => Tag_any N at' _ _ u (h.step hu) (hia.step hu))
  rw [hm, hri] at HGO HTG
  rw [hri] at HRR
  simp only [Bool.and_true, Bool.false_eq_true, if_false] at HGO HTG
  have hix : ∀ (j : Nat), j < s.size → ∀ u : World, (Instr.index 9 (.string s) (.int .i64 (j : Nat))).run Try.prog u = .ok (.int .u8 (b8 s j : Nat)) u := fun j hj u => by
    have := idx_byte 9 Try.underlying9 s j hj u (P := Try.prog)
    rw [this]; unfold b8; rw [dif_pos hj]
  have HIX := Lib.hid hix
  clear hrun hL hst0 hix hm hmi hri
  obtain ⟨Q, hQ⟩ : ∃ Q, Q = ranT N s := ⟨_, rfl⟩
  rw [← hQ] at HRT HRUN
  clear hQ
  clear hshort h ha hia hal hb0 hbx q0 q1 q4 q5 q6
  go_enter Try.func5, Try.ntmps5
  go_wp2_with (go_at_call 6; go_must (refine HAL.out.mono ?_); rintro e w1 ⟨rfl, hb⟩; have HX := Lib.hid (And.intro (H0.out.1.trans (hb.mono H0.out.1.size)) (H0.out.2.step hb)); clear hb; obtain ⟨d0, d1, d2, d3, d4, d5⟩ := six HX.out.2)
  clear d0 d1 d2 d3 d4 d5
  go_loopw [7] (fun i wr => ∃ j : Nat, i = .int .i64 j ∧ j ≤ N.follow.length ∧ Hid (Below w.heap.size w wr ∧ BlkIs wr w.heap.size 42 #[.slice A0 N.sets.length c0, .slice A1 N.rules.length c1, .slice A2 N.first.length c2, .slice A3 N.follow.length c3, .slice A4 N.ends.length c4, .int .i64 N.empty])) (fun i _ => N.follow.length - (intOf i).toNat)
  case atStart => exact ⟨0, rfl, Nat.zero_le _, HX⟩
  case round =>
    obtain ⟨j, rfl, hj, HH⟩ := hrel
    obtain ⟨d0, d1, d2, d3, d4, d5⟩ := six HH.out.2
    by_cases hp : j < N.follow.length
    · have hk1 : IntKind.i64.wrap ((j : Int) + 1) = ((j + 1 : Nat) : Int) := by rw [IntKind.wrap_i64]; omega
      have hdl : decide ((j : Int) < (N.follow.length : Int)) = true := by simp; omega
      obtain ⟨b, o, Ar, cr, rfl, hcl⟩ := HFO.out j hp
      have hcj := hcl wr HH.out.1
      by_cases hr : 100 < (N.follow[j]).length
      · have f0 : decide (((N.follow[j]).length : Int) > 100) = true := by simp; omega
        have f1 : decide ((100 : Int) < ((N.follow[j]).length : Int)) = true := by simp; omega
        clear hcl hr
        generalize (N.follow[j]).length = nr at *
        go_wp2
        go_ret
        exact ⟨rfl, HH.out.1⟩
      · have f0 : decide (((N.follow[j]).length : Int) > 100) = false := by simp; omega
        have f1 : decide ((100 : Int) < ((N.follow[j]).length : Int)) = false := by simp; omega
        clear hcl hr
        generalize (N.follow[j]).length = nr at *
        go_wp2
        exact ⟨⟨j + 1, rfl, hp, HH⟩, by simp [intOf]; omega⟩
    · have hdl : decide ((j : Int) < (N.follow.length : Int)) = false := by simp; omega
      have HX := HH
      have hj' : j = N.follow.length := by omega
      clear hp HH HFO
      go_wp2_with fail
      go_at_call 21
      refine (of8_any A0 A1 A2 A3 A4 _ _ _ _ _ c0 c1 c2 c3 c4 N.empty wr).mono ?_
      rintro e u8 ⟨rfl, hb8⟩
      have HX := Lib.hid (And.intro (HX.out.1.trans (hb8.mono HX.out.1.size)) (HX.out.2.step hb8))
      clear hb8 d0 d1 d2 d3 d4 d5
      obtain ⟨W8, hW8⟩ : ∃ W8, u8.alloc (.cells #[.slice A0 N.sets.length c0, .slice A1 N.rules.length c1, .slice A2 N.first.length c2, .slice A3 N.follow.length c3, .slice A4 N.ends.length c4, .int .i64 N.empty] 30) = W8 := ⟨_, rfl⟩
      have hb9 : Below u8.heap.size u8 W8 := by rw [← hW8]; exact (Below.refl _ _).alloc (Nat.le_refl _) _
      have hx9 : BlkIs W8 u8.heap.size 30 #[.slice A0 N.sets.length c0, .slice A1 N.rules.length c1, .slice A2 N.first.length c2, .slice A3 N.follow.length c3, .slice A4 N.ends.length c4, .int .i64 N.empty] := by rw [← hW8]; exact BlkIs.new _ _ _
      generalize hg8 : u8.heap.size = g8 at hb9 hx9
      have HX := Lib.hid (show (Below w.heap.size w W8 ∧ BlkIs W8 w.heap.size 42 #[.slice A0 N.sets.length c0, .slice A1 N.rules.length c1, .slice A2 N.first.length c2, .slice A3 N.follow.length c3, .slice A4 N.ends.length c4, .int .i64 N.empty]) ∧ BlkIs W8 g8 30 #[.slice A0 N.sets.length c0, .slice A1 N.rules.length c1, .slice A2 N.first.length c2, .slice A3 N.follow.length c3, .slice A4 N.ends.length c4, .int .i64 N.empty] from ⟨⟨HX.out.1.trans (by rw [← hg8] at hb9; exact hb9.mono HX.out.1.size), HX.out.2.step (by rw [hg8]; exact hb9)⟩, hx9⟩)
      clear hb9 hx9
      have hz := BlkIs.new u8 30 #[.slice none 0 0, .slice none 0 0, .slice none 0 0, .slice none 0 0, .slice none 0 0, .int .i64 0]
      go_wp2_with fail
      clear hW8 hg8
      refine wp_region_reads 183 (fun u => Hid ((Below w.heap.size w u ∧ BlkIs u w.heap.size 42 #[.slice A0 N.sets.length c0, .slice A1 N.rules.length c1, .slice A2 N.first.length c2, .slice A3 N.follow.length c3, .slice A4 N.ends.length c4, .int .i64 N.empty]) ∧ BlkIs u g8 30 #[.slice A0 N.sets.length c0, .slice A1 N.rules.length c1, .slice A2 N.first.length c2, .slice A3 N.follow.length c3, .slice A4 N.ends.length c4, .int .i64 N.empty])) (by kernel_rfl) (by kernel_rfl) rfl (Lib.hid ⟨⟨HX.out.1.1.drew, HX.out.1.2.drew⟩, HX.out.2.drew⟩) (fun u u' h hb => Lib.hid ⟨⟨h.out.1.1.trans (hb.mono h.out.1.1.size), h.out.1.2.step hb⟩, h.out.2.step hb⟩) ?_
      repeat
        refine freeW_step fun K hK => ?_
        go_simp
        apply Exists.intro
        refine ⟨fun u h1 => ?_, hK _ ?_⟩
        · obtain ⟨d0, d1, d2, d3, d4, d5⟩ := six h1.out.1.2
          obtain ⟨k0, k1, k2, k3, k4, k5⟩ := six h1.out.2
          unfold freeAt
          go_simp
          first
            | exact free_val
            | (apply free_call
               first
                 | (go_at_call 16; exact HMN.out _ h1.out.1.1)
                 | (go_at_call 22; exact HMR.out _ h1.out.1.1)
               )
        clear hK K
      refine freeW_nil ?_
      intro u8 hC hb2
      have HX := Lib.hid hC.out
      clear hC hb2
      obtain ⟨d0, d1, d2, d3, d4, d5⟩ := six HX.out.1.2; obtain ⟨k0, k1, k2, k3, k4, k5⟩ := six HX.out.2
      go_wp2_with (first
        | (go_at_call 18; go_must (refine (HRUN.out _ HX.out.1.1).mono ?_); rintro e u9 ⟨v9, rfl, hv9, hb⟩; obtain ⟨A9, c9, rfl⟩ := hv9.len0; have HX := Lib.hid (show (Below w.heap.size w u9 ∧ BlkIs u9 w.heap.size 42 #[.slice A0 N.sets.length c0, .slice A1 N.rules.length c1, .slice A2 N.first.length c2, .slice A3 N.follow.length c3, .slice A4 N.ends.length c4, .int .i64 N.empty]) ∧ BlkIs u9 g8 30 #[.slice A0 N.sets.length c0, .slice A1 N.rules.length c1, .slice A2 N.first.length c2, .slice A3 N.follow.length c3, .slice A4 N.ends.length c4, .int .i64 N.empty] from ⟨⟨HX.out.1.1.trans (hb.mono HX.out.1.1.size), HX.out.1.2.step hb⟩, HX.out.2.step hb⟩); clear hb; clear d0 d1 d2 d3 d4 d5 k0 k1 k2 k3 k4 k5; have HV := Lib.hid hv9; clear hv9; obtain ⟨d0, d1, d2, d3, d4, d5⟩ := six HX.out.1.2; obtain ⟨k0, k1, k2, k3, k4, k5⟩ := six HX.out.2)
        | (go_at_call 22; go_must (refine (HMR.out _ HX.out.1.1).mono ?_); rintro e u10 ⟨rfl, hb⟩; have HV := Lib.hid (HV.out.step hb); have HX := Lib.hid (show (Below w.heap.size w u10 ∧ BlkIs u10 w.heap.size 42 #[.slice A0 N.sets.length c0, .slice A1 N.rules.length c1, .slice A2 N.first.length c2, .slice A3 N.follow.length c3, .slice A4 N.ends.length c4, .int .i64 N.empty]) ∧ BlkIs u10 g8 30 #[.slice A0 N.sets.length c0, .slice A1 N.rules.length c1, .slice A2 N.first.length c2, .slice A3 N.follow.length c3, .slice A4 N.ends.length c4, .int .i64 N.empty] from ⟨⟨HX.out.1.1.trans (hb.mono HX.out.1.1.size), HX.out.1.2.step hb⟩, HX.out.2.step hb⟩); clear hb; clear d0 d1 d2 d3 d4 d5 k0 k1 k2 k3 k4 k5; obtain ⟨d0, d1, d2, d3, d4, d5⟩ := six HX.out.1.2; obtain ⟨k0, k1, k2, k3, k4, k5⟩ := six HX.out.2))
      clear d0 d1 d2 d3 d4 d5 k0 k1 k2 k3 k4 k5
      go_loopw [11, 12, 13] (fun nw wt i wr => ∃ j : Nat, i = .int .i64 j ∧ j ≤ s.size ∧ wt = .int .i64 (if j = 0 then N.empty else tagL N (atTo N s j)) ∧ Hid (((Below w.heap.size w wr ∧ BlkIs wr w.heap.size 42 #[.slice A0 N.sets.length c0, .slice A1 N.rules.length c1, .slice A2 N.first.length c2, .slice A3 N.follow.length c3, .slice A4 N.ends.length c4, .int .i64 N.empty]) ∧ BlkIs wr g8 30 #[.slice A0 N.sets.length c0, .slice A1 N.rules.length c1, .slice A2 N.first.length c2, .slice A3 N.follow.length c3, .slice A4 N.ends.length c4, .int .i64 N.empty]) ∧ IntsV wr (atTo N s j) nw ∧ IntsV wr (atTo N s s.size) (.slice A9 (atTo N s s.size).length c9))) (fun _ _ i _ => s.size - (intOf i).toNat)
      case atStart => exact ⟨0, rfl, Nat.zero_le _, rfl, Lib.hid ⟨HX.out, IntsV.nil _, HV.out⟩⟩
      case round =>
        obtain ⟨j, rfl, hjs, rfl, HH⟩ := hrel
        obtain ⟨An, cn, rfl⟩ := HH.out.2.1.len0
        by_cases hp : j < s.size
        · have hk1 : IntKind.i64.wrap ((j : Int) + 1) = ((j + 1 : Nat) : Int) := by rw [IntKind.wrap_i64]; omega
          have hdl : decide ((j : Int) < (s.size : Int)) = true := by simp; omega
          have hixj := HIX.out j hp
          have hix0 : ∀ u : World, (Instr.index 9 (.string s) (.int .i64 0)).run Try.prog u = .ok (.int .u8 (b8 s 0 : Nat)) u := fun u => HIX.out 0 (by omega) u
          have HCS := Lib.hid (fun (u : World) (hu : Below w.heap.size w u) (ha : IntsV u (atTo N s j) (.slice An (atTo N s j).length cn)) => HST.out j _ u hu ha)
          have HCT := Lib.hid (fun (vx : Value) (u : World) (hu : Below w.heap.size w u) (ha : IntsV u (atTo N s (j + 1)) vx) => HTA.out (j + 1) _ u hu ha)
          have hrow : IntsV wr (atTo N s j) (.slice An (atTo N s j).length cn) := HH.out.2.1
          have HX := Lib.hid HH.out.1
          have HV := Lib.hid HH.out.2.2
          have HW := Lib.hid hrow
          clear HH hrow
          obtain ⟨qn, hqn⟩ : ∃ qn, qn = (if j = 0 then N.empty else tagL N (atTo N s j)) := ⟨_, rfl⟩
          rw [← hqn]
          clear hqn
          have HBZ := Lib.hid (show j = 0 → b8 s j = b8 s 0 from fun e => by rw [e])
          generalize (atTo N s j).length = nx at *
          generalize b8 s j = bj at *
          by_cases hj0 : j = 0
          · obtain rfl := HBZ.out hj0
            subst hj0
            rw [show decide ((0 : Nat) = 0) = true from rfl] at HCS
            have HIN := Lib.hid (fun (l : List Int) (v1 v2 : Value) (u : World) (h1 : IntsV u l v1) (h2 : IntsV u l v2) => ints_any l l v1 v2 u h1 h2)
            simp only [decide_true] at HIN
            go_wp2_with fail
            refine wp_region_held_drew (S := (fun u => (Below wr.heap.size wr u) ∧ ((Below w.heap.size w u ∧ BlkIs u w.heap.size 42 #[.slice A0 N.sets.length c0, .slice A1 N.rules.length c1, .slice A2 N.first.length c2, .slice A3 N.follow.length c3, .slice A4 N.ends.length c4, .int .i64 N.empty]) ∧ BlkIs u g8 30 #[.slice A0 N.sets.length c0, .slice A1 N.rules.length c1, .slice A2 N.first.length c2, .slice A3 N.follow.length c3, .slice A4 N.ends.length c4, .int .i64 N.empty]))) (by kernel_rfl) ⟨Below.refl _ _ |>.drew, ⟨HX.out.1.1.drew, HX.out.1.2.drew⟩, HX.out.2.drew⟩ ?_
            intro hS0
            refine wpAnyH_take (i := 0) (v := .int .i64 0) rfl (by kernel_rfl) (by kernel_rfl) (by kernel_rfl) (fun _ _ _ h => h) (.inl ⟨rfl, fun u hu => by go_simp⟩) hS0 ?_
            refine wpAnyH_take (i := 1) (v := .bool true) rfl (by kernel_rfl) (by kernel_rfl) (by kernel_rfl) (fun _ _ _ h => h) (.inl ⟨rfl, fun u hu => by go_simp⟩) hS0 ?_
            refine wpAnyH_take (i := 2) (v := .bool true) rfl (by kernel_rfl) (by kernel_rfl) (by kernel_rfl) (fun _ _ _ h => h) (.inl ⟨rfl, fun u hu => by go_simp⟩) hS0 ?_
            refine wpAnyH_take (i := 3) (v := (.agg #[.slice A0 N.sets.length c0, .slice A1 N.rules.length c1, .slice A2 N.first.length c2, .slice A3 N.follow.length c3, .slice A4 N.ends.length c4, .int .i64 N.empty])) rfl (by kernel_rfl) (by kernel_rfl) (by kernel_rfl) (fun _ _ _ h => h) (.inl ⟨(wanted_guard (i := 2) (d := 120) (b := true) (b' := true) rfl (by kernel_rfl) (by kernel_rfl)).trans (by decide), fun u hu => by (obtain ⟨k0, k1, k2, k3, k4, k5⟩ := six hu.2.2; go_simp)⟩) hS0 ?_
            refine wpAnyH_take (i := 4) (v := .string s) rfl (by kernel_rfl) (by kernel_rfl) (by kernel_rfl) (fun _ _ _ h => h) (.inl ⟨(wanted_guard (i := 2) (d := 120) (b := true) (b' := true) rfl (by kernel_rfl) (by kernel_rfl)).trans (by decide), fun u hu => by go_simp⟩) hS0 ?_
            refine wpAnyH_take (i := 5) (v := .int .u8 (b8 s 0 : Nat)) rfl (by kernel_rfl) (by kernel_rfl) (by kernel_rfl) (fun _ _ _ h => h) (.inl ⟨(wanted_guard (i := 2) (d := 120) (b := true) (b' := true) rfl (by kernel_rfl) (by kernel_rfl)).trans (by decide), fun u hu => by go_simp⟩) hS0 ?_
            refine wpAnyH_take (i := 7) (v := (.agg #[.slice A0 N.sets.length c0, .slice A1 N.rules.length c1, .slice A2 N.first.length c2, .slice A3 N.follow.length c3, .slice A4 N.ends.length c4, .int .i64 N.empty])) rfl (by kernel_rfl) (by kernel_rfl) (by kernel_rfl) (fun _ _ _ h => h) (.inl ⟨(wanted_guard (i := 2) (d := 120) (b := true) (b' := true) rfl (by kernel_rfl) (by kernel_rfl)).trans (by decide), fun u hu => by (obtain ⟨d0, d1, d2, d3, d4, d5⟩ := six hu.2.1.2; go_simp)⟩) hS0 ?_
            refine wpAnyH_take (i := 8) (v := .string s) rfl (by kernel_rfl) (by kernel_rfl) (by kernel_rfl) (fun _ _ _ h => h) (.inl ⟨(wanted_guard (i := 2) (d := 120) (b := true) (b' := true) rfl (by kernel_rfl) (by kernel_rfl)).trans (by decide), fun u hu => by go_simp⟩) hS0 ?_
            refine wpAnyH_take (i := 9) (v := .int .u8 (b8 s 0 : Nat)) rfl (by kernel_rfl) (by kernel_rfl) (by kernel_rfl) (fun _ _ _ h => h) (.inl ⟨(wanted_guard (i := 2) (d := 120) (b := true) (b' := true) rfl (by kernel_rfl) (by kernel_rfl)).trans (by decide), fun u hu => by go_simp⟩) hS0 ?_
            refine wpAnyH_ready (rs := [6]) (by kernel_rfl) (by simp) ?_
            refine AllReadyH.cons rfl (fun K hK => ?_) AllReadyH.nil
            go_simp
            go_at_call 23
            refine (HBG.out _ hS0.2.1.1).mono ?_
            rintro e u5 ⟨v5, rfl, hri5, hb5⟩
            refine hK.out _ _ ⟨hS0.1.trans (hb5.mono hS0.1.size), ⟨hS0.2.1.1.trans (hb5.mono hS0.2.1.1.size), hS0.2.1.2.step hb5⟩, hS0.2.2.step hb5⟩ (fun hS1 => ?_)
            obtain ⟨A5, c5, rfl⟩ := hri5.len0
            have HW5 := Lib.hid hri5
            clear hK K hS0 hb5 hri5
            refine wpAnyH_ready (rs := [10]) (by kernel_rfl) (by simp) ?_
            refine AllReadyH.cons rfl (fun K hK => ?_) AllReadyH.nil
            go_simp
            go_at_call 27
            refine (HST0.out _ hS1.2.1.1).mono ?_
            rintro e u6 ⟨v6, rfl, hri6, hb6⟩
            refine hK.out _ _ ⟨hS1.1.trans (hb6.mono hS1.1.size), ⟨hS1.2.1.1.trans (hb6.mono hS1.2.1.1.size), hS1.2.1.2.step hb6⟩, hS1.2.2.step hb6⟩ (fun hS2 => ?_)
            obtain ⟨A6, c6, rfl⟩ := hri6.len0
            have HI6 := Lib.hid (HIN.out _ _ _ _ (HW5.out.step hb6) hri6)
            clear hK K hS1 hb6 hri6 HW5
            refine wpAnyH_ready (rs := [11]) (by kernel_rfl) (by simp) ?_
            refine AllReadyH.cons rfl (fun K hK => ?_) AllReadyH.nil
            go_simp
            go_at_call 26
            refine HI6.out.mono ?_
            rintro e u7 ⟨rfl, hb7⟩
            refine hK.out _ _ ⟨hS2.1.trans (hb7.mono hS2.1.size), ⟨hS2.2.1.1.trans (hb7.mono hS2.2.1.1.size), hS2.2.1.2.step hb7⟩, hS2.2.2.step hb7⟩ (fun hS3 => ?_)
            clear hK K hS2 hb7 HI6
            refine wpAnyH_take (i := 12) (v := .bool false) rfl (by kernel_rfl) (by kernel_rfl) (by kernel_rfl) (fun _ _ _ h => h) (.inl ⟨(wanted_guard (i := 2) (d := 120) (b := true) (b' := true) rfl (by kernel_rfl) (by kernel_rfl)).trans (by decide), fun u hu => by go_simp⟩) hS3 ?_
            refine wpAnyH_take (i := 13) (v := .bool false) rfl (by kernel_rfl) (by kernel_rfl) (by kernel_rfl) (fun _ _ _ h => h) (.inl ⟨rfl, fun u hu => by go_simp⟩) hS3 ?_
            refine wpAnyH_done (by kernel_rfl) ?_ _
            have HX := Lib.hid hS3.2
            have HV := Lib.hid (HV.out.step hS3.1)
            have HW := Lib.hid (HW.out.step hS3.1)
            clear hS3 HIN
            go_wp2_with fail
            refine wp_region_held_drew (S := (fun u => (Below u7.heap.size u7 u) ∧ ((Below w.heap.size w u ∧ BlkIs u w.heap.size 42 #[.slice A0 N.sets.length c0, .slice A1 N.rules.length c1, .slice A2 N.first.length c2, .slice A3 N.follow.length c3, .slice A4 N.ends.length c4, .int .i64 N.empty]) ∧ BlkIs u g8 30 #[.slice A0 N.sets.length c0, .slice A1 N.rules.length c1, .slice A2 N.first.length c2, .slice A3 N.follow.length c3, .slice A4 N.ends.length c4, .int .i64 N.empty]))) (by kernel_rfl) ⟨Below.refl _ _ |>.drew, ⟨HX.out.1.1.drew, HX.out.1.2.drew⟩, HX.out.2.drew⟩ ?_
            intro hS0
            refine wpAnyH_take (i := 0) (v := (.agg #[.slice A0 N.sets.length c0, .slice A1 N.rules.length c1, .slice A2 N.first.length c2, .slice A3 N.follow.length c3, .slice A4 N.ends.length c4, .int .i64 N.empty])) rfl (by kernel_rfl) (by kernel_rfl) (by kernel_rfl) (fun _ _ _ h => h) (.inl ⟨rfl, fun u hu => by (obtain ⟨d0, d1, d2, d3, d4, d5⟩ := six hu.2.1.2; go_simp)⟩) hS0 ?_
            refine wpAnyH_take (i := 1) (v := .slice An nx cn) rfl (by kernel_rfl) (by kernel_rfl) (by kernel_rfl) (fun _ _ _ h => h) (.inl ⟨rfl, fun u hu => by go_simp⟩) hS0 ?_
            refine wpAnyH_take (i := 2) (v := .int .i64 (0 : Int)) rfl (by kernel_rfl) (by kernel_rfl) (by kernel_rfl) (fun _ _ _ h => h) (.inl ⟨rfl, fun u hu => by go_simp⟩) hS0 ?_
            refine wpAnyH_take (i := 3) (v := .bool true) rfl (by kernel_rfl) (by kernel_rfl) (by kernel_rfl) (fun _ _ _ h => h) (.inl ⟨rfl, fun u hu => by go_simp⟩) hS0 ?_
            refine wpAnyH_take (i := 4) (v := .string s) rfl (by kernel_rfl) (by kernel_rfl) (by kernel_rfl) (fun _ _ _ h => h) (.inl ⟨rfl, fun u hu => by go_simp⟩) hS0 ?_
            refine wpAnyH_take (i := 5) (v := .int .i64 (0 : Int)) rfl (by kernel_rfl) (by kernel_rfl) (by kernel_rfl) (fun _ _ _ h => h) (.inl ⟨rfl, fun u hu => by go_simp⟩) hS0 ?_
            refine wpAnyH_take (i := 6) (v := .int .u8 (b8 s 0 : Nat)) rfl (by kernel_rfl) (by kernel_rfl) (by kernel_rfl) (fun _ _ _ h => h) (.inl ⟨rfl, fun u hu => by go_simp⟩) hS0 ?_
            refine wpAnyH_ready (rs := [7]) (by kernel_rfl) (by simp) ?_
            refine AllReadyH.cons rfl (fun K hK => ?_) AllReadyH.nil
            go_simp
            go_at_call 27
            refine (HCS.out _ hS0.2.1.1 (HW.out.step hS0.1)).mono ?_
            rintro e u5 ⟨v5, rfl, hri5, hb5⟩
            refine hK.out _ _ ⟨hS0.1.trans (hb5.mono hS0.1.size), ⟨hS0.2.1.1.trans (hb5.mono hS0.2.1.1.size), hS0.2.1.2.step hb5⟩, hS0.2.2.step hb5⟩ (fun hS1 => ?_)
            obtain ⟨A5, c5, rfl⟩ := hri5.len0
            have HW5 := Lib.hid hri5
            clear hK K hS0 hb5 hri5
            refine wpAnyH_ready (rs := [8]) (by kernel_rfl) (by simp) ?_
            refine AllReadyH.cons rfl (fun K hK => ?_) AllReadyH.nil
            go_simp
            refine hK.out _ _ hS1 (fun hS2 => ?_)
            clear hK K
            refine wpAnyH_done (by kernel_rfl) ?_ _
            have HX := Lib.hid hS2.2
            have HV := Lib.hid (HV.out.step hS2.1)
            clear hS1 hS2 HW HCS
            obtain ⟨d0, d1, d2, d3, d4, d5⟩ := six HX.out.1.2
            go_wp2_with fail
            go_at_call 28
            refine (HCT.out _ _ HX.out.1.1 HW5.out).mono ?_
            rintro e u6 ⟨rfl, hb⟩
            have HV := Lib.hid (HV.out.step hb)
            have HW5 := Lib.hid (HW5.out.step hb)
            have HX := Lib.hid (show (Below w.heap.size w u6 ∧ BlkIs u6 w.heap.size 42 #[.slice A0 N.sets.length c0, .slice A1 N.rules.length c1, .slice A2 N.first.length c2, .slice A3 N.follow.length c3, .slice A4 N.ends.length c4, .int .i64 N.empty]) ∧ BlkIs u6 g8 30 #[.slice A0 N.sets.length c0, .slice A1 N.rules.length c1, .slice A2 N.first.length c2, .slice A3 N.follow.length c3, .slice A4 N.ends.length c4, .int .i64 N.empty] from ⟨⟨HX.out.1.1.trans (hb.mono HX.out.1.1.size), HX.out.1.2.step hb⟩, HX.out.2.step hb⟩); clear hb
            clear d0 d1 d2 d3 d4 d5
            go_wp2
            exact ⟨⟨1, rfl, hp, by rw [if_neg (by omega)], Lib.hid ⟨HX.out, HW5.out, HV.out⟩⟩, by simp [intOf]; omega⟩
          · have hz1 : decide ((j : Int) = 0) = false := decide_eq_false (by omega)
            have hz2 : ((j : Int) == 0) = false := by simpa using hj0
            have hz3 : decide (j = 0) = false := decide_eq_false hj0
            have hz4 : (j == 0) = false := by simpa using hj0
            rw [hz3] at HCS
            go_wp2_with fail
            refine wp_region_reads 183 (fun u => Hid ((Below wr.heap.size wr u) ∧ ((Below w.heap.size w u ∧ BlkIs u w.heap.size 42 #[.slice A0 N.sets.length c0, .slice A1 N.rules.length c1, .slice A2 N.first.length c2, .slice A3 N.follow.length c3, .slice A4 N.ends.length c4, .int .i64 N.empty]) ∧ BlkIs u g8 30 #[.slice A0 N.sets.length c0, .slice A1 N.rules.length c1, .slice A2 N.first.length c2, .slice A3 N.follow.length c3, .slice A4 N.ends.length c4, .int .i64 N.empty]))) (by kernel_rfl) (by kernel_rfl) rfl (Lib.hid ⟨Below.refl _ _ |>.drew, ⟨HX.out.1.1.drew, HX.out.1.2.drew⟩, HX.out.2.drew⟩) (fun u u' h hb => Lib.hid ⟨h.out.1.trans (hb.mono h.out.1.size), ⟨h.out.2.1.1.trans (hb.mono h.out.2.1.1.size), h.out.2.1.2.step hb⟩, h.out.2.2.step hb⟩) ?_
            repeat
              refine freeW_step fun K hK => ?_
              first
                | (refine freeW_no 2 120 true rfl rfl ?_ ?_; (focus (go_simp; done))
                   have HK := Go.Lib.hid hK
                   clear hK
                   go_simp
                   have hK := HK.out
                   clear HK
                   refine hK _ ?_
                   clear hK K)
                | (go_simp
                   apply Exists.intro
                   refine ⟨fun u h1 => ?_, hK _ ?_⟩
                   · unfold freeAt
                     go_simp
                     exact free_val
                   clear hK K)
            refine freeW_nil ?_
            intro u8 hC hb2
            have HX := Lib.hid hC.out.2
            have HV := Lib.hid (HV.out.step hC.out.1)
            have HW := Lib.hid (HW.out.step hC.out.1)
            clear hC hb2
            go_wp2_with fail
            refine wp_region_held_drew (S := (fun u => (Below u8.heap.size u8 u) ∧ ((Below w.heap.size w u ∧ BlkIs u w.heap.size 42 #[.slice A0 N.sets.length c0, .slice A1 N.rules.length c1, .slice A2 N.first.length c2, .slice A3 N.follow.length c3, .slice A4 N.ends.length c4, .int .i64 N.empty]) ∧ BlkIs u g8 30 #[.slice A0 N.sets.length c0, .slice A1 N.rules.length c1, .slice A2 N.first.length c2, .slice A3 N.follow.length c3, .slice A4 N.ends.length c4, .int .i64 N.empty]))) (by kernel_rfl) ⟨Below.refl _ _ |>.drew, ⟨HX.out.1.1.drew, HX.out.1.2.drew⟩, HX.out.2.drew⟩ ?_
            intro hS0
            refine wpAnyH_take (i := 0) (v := (.agg #[.slice A0 N.sets.length c0, .slice A1 N.rules.length c1, .slice A2 N.first.length c2, .slice A3 N.follow.length c3, .slice A4 N.ends.length c4, .int .i64 N.empty])) rfl (by kernel_rfl) (by kernel_rfl) (by kernel_rfl) (fun _ _ _ h => h) (.inl ⟨rfl, fun u hu => by (obtain ⟨d0, d1, d2, d3, d4, d5⟩ := six hu.2.1.2; go_simp)⟩) hS0 ?_
            refine wpAnyH_take (i := 1) (v := .slice An nx cn) rfl (by kernel_rfl) (by kernel_rfl) (by kernel_rfl) (fun _ _ _ h => h) (.inl ⟨rfl, fun u hu => by go_simp⟩) hS0 ?_
            refine wpAnyH_take (i := 2) (v := .int .i64 (j : Int)) rfl (by kernel_rfl) (by kernel_rfl) (by kernel_rfl) (fun _ _ _ h => h) (.inl ⟨rfl, fun u hu => by go_simp⟩) hS0 ?_
            refine wpAnyH_take (i := 3) (v := .bool false) rfl (by kernel_rfl) (by kernel_rfl) (by kernel_rfl) (fun _ _ _ h => h) (.inl ⟨rfl, fun u hu => by go_simp⟩) hS0 ?_
            refine wpAnyH_take (i := 4) (v := .string s) rfl (by kernel_rfl) (by kernel_rfl) (by kernel_rfl) (fun _ _ _ h => h) (.inl ⟨rfl, fun u hu => by go_simp⟩) hS0 ?_
            refine wpAnyH_take (i := 5) (v := .int .i64 (j : Int)) rfl (by kernel_rfl) (by kernel_rfl) (by kernel_rfl) (fun _ _ _ h => h) (.inl ⟨rfl, fun u hu => by go_simp⟩) hS0 ?_
            refine wpAnyH_take (i := 6) (v := .int .u8 (bj : Nat)) rfl (by kernel_rfl) (by kernel_rfl) (by kernel_rfl) (fun _ _ _ h => h) (.inl ⟨rfl, fun u hu => by go_simp⟩) hS0 ?_
            refine wpAnyH_ready (rs := [7]) (by kernel_rfl) (by simp) ?_
            refine AllReadyH.cons rfl (fun K hK => ?_) AllReadyH.nil
            go_simp
            go_at_call 27
            refine (HCS.out _ hS0.2.1.1 (HW.out.step hS0.1)).mono ?_
            rintro e u5 ⟨v5, rfl, hri5, hb5⟩
            refine hK.out _ _ ⟨hS0.1.trans (hb5.mono hS0.1.size), ⟨hS0.2.1.1.trans (hb5.mono hS0.2.1.1.size), hS0.2.1.2.step hb5⟩, hS0.2.2.step hb5⟩ (fun hS1 => ?_)
            obtain ⟨A5, c5, rfl⟩ := hri5.len0
            have HW5 := Lib.hid hri5
            clear hK K hS0 hb5 hri5
            refine wpAnyH_ready (rs := [8]) (by kernel_rfl) (by simp) ?_
            refine AllReadyH.cons rfl (fun K hK => ?_) AllReadyH.nil
            go_simp
            refine hK.out _ _ hS1 (fun hS2 => ?_)
            clear hK K
            refine wpAnyH_done (by kernel_rfl) ?_ _
            have HX := Lib.hid hS2.2
            have HV := Lib.hid (HV.out.step hS2.1)
            clear hS1 hS2 HW HCS
            obtain ⟨d0, d1, d2, d3, d4, d5⟩ := six HX.out.1.2
            go_wp2_with fail
            go_at_call 28
            refine (HCT.out _ _ HX.out.1.1 HW5.out).mono ?_
            rintro e u6 ⟨rfl, hb⟩
            have HV := Lib.hid (HV.out.step hb)
            have HW5 := Lib.hid (HW5.out.step hb)
            have HX := Lib.hid (show (Below w.heap.size w u6 ∧ BlkIs u6 w.heap.size 42 #[.slice A0 N.sets.length c0, .slice A1 N.rules.length c1, .slice A2 N.first.length c2, .slice A3 N.follow.length c3, .slice A4 N.ends.length c4, .int .i64 N.empty]) ∧ BlkIs u6 g8 30 #[.slice A0 N.sets.length c0, .slice A1 N.rules.length c1, .slice A2 N.first.length c2, .slice A3 N.follow.length c3, .slice A4 N.ends.length c4, .int .i64 N.empty] from ⟨⟨HX.out.1.1.trans (hb.mono HX.out.1.1.size), HX.out.1.2.step hb⟩, HX.out.2.step hb⟩); clear hb
            clear d0 d1 d2 d3 d4 d5
            go_wp2
            exact ⟨⟨j + 1, rfl, hp, by rw [if_neg (by omega)], Lib.hid ⟨HX.out, HW5.out, HV.out⟩⟩, by simp [intOf]; omega⟩
        · have hje : j = s.size := by omega
          subst hje
          have hdl : decide ((s.size : Int) < (s.size : Int)) = false := by simp
          have HX := Lib.hid HH.out.1
          have HV := Lib.hid HH.out.2.2
          have HW := Lib.hid HH.out.2.1
          clear HH hp
          have HI := Lib.hid (ints_any (atTo N s s.size) (atTo N s s.size) _ _ wr HV.out HW.out)
          simp only [decide_true] at HI
          rw [← HRT.out]
          clear HV HW
          generalize (atTo N s s.size).length = nl at *
          obtain ⟨d0, d1, d2, d3, d4, d5⟩ := six HX.out.1.2
          obtain ⟨k0, k1, k2, k3, k4, k5⟩ := six HX.out.2
          go_wp2_with fail
          go_at_call 26
          refine HI.out.mono ?_
          rintro e u3 ⟨rfl, hb⟩
          have HX := Lib.hid (show (Below w.heap.size w u3 ∧ BlkIs u3 w.heap.size 42 #[.slice A0 N.sets.length c0, .slice A1 N.rules.length c1, .slice A2 N.first.length c2, .slice A3 N.follow.length c3, .slice A4 N.ends.length c4, .int .i64 N.empty]) ∧ BlkIs u3 g8 30 #[.slice A0 N.sets.length c0, .slice A1 N.rules.length c1, .slice A2 N.first.length c2, .slice A3 N.follow.length c3, .slice A4 N.ends.length c4, .int .i64 N.empty] from ⟨⟨HX.out.1.1.trans (hb.mono HX.out.1.1.size), HX.out.1.2.step hb⟩, HX.out.2.step hb⟩); clear hb
          clear d0 d1 d2 d3 d4 d5 k0 k1 k2 k3 k4 k5
          obtain ⟨d0, d1, d2, d3, d4, d5⟩ := six HX.out.1.2; obtain ⟨k0, k1, k2, k3, k4, k5⟩ := six HX.out.2
          go_wp2_with fail
          go_at_call 29
          refine (HRR.out _ HX.out.1.1).mono ?_
          rintro e u4 ⟨rfl, hb⟩
          have HX := Lib.hid (show (Below w.heap.size w u4 ∧ BlkIs u4 w.heap.size 42 #[.slice A0 N.sets.length c0, .slice A1 N.rules.length c1, .slice A2 N.first.length c2, .slice A3 N.follow.length c3, .slice A4 N.ends.length c4, .int .i64 N.empty]) ∧ BlkIs u4 g8 30 #[.slice A0 N.sets.length c0, .slice A1 N.rules.length c1, .slice A2 N.first.length c2, .slice A3 N.follow.length c3, .slice A4 N.ends.length c4, .int .i64 N.empty] from ⟨⟨HX.out.1.1.trans (hb.mono HX.out.1.1.size), HX.out.1.2.step hb⟩, HX.out.2.step hb⟩); clear hb
          clear d0 d1 d2 d3 d4 d5 k0 k1 k2 k3 k4 k5
          obtain ⟨d0, d1, d2, d3, d4, d5⟩ := six HX.out.1.2; obtain ⟨k0, k1, k2, k3, k4, k5⟩ := six HX.out.2
          go_wp2_with fail
          go_at_call 24
          refine (HGO.out _ HX.out.1.1).mono ?_
          rintro e u5 ⟨v5, rfl, hv5, hb⟩
          obtain ⟨A5, c5, rfl⟩ := hv5.len0
          have HX := Lib.hid (show (Below w.heap.size w u5 ∧ BlkIs u5 w.heap.size 42 #[.slice A0 N.sets.length c0, .slice A1 N.rules.length c1, .slice A2 N.first.length c2, .slice A3 N.follow.length c3, .slice A4 N.ends.length c4, .int .i64 N.empty]) ∧ BlkIs u5 g8 30 #[.slice A0 N.sets.length c0, .slice A1 N.rules.length c1, .slice A2 N.first.length c2, .slice A3 N.follow.length c3, .slice A4 N.ends.length c4, .int .i64 N.empty] from ⟨⟨HX.out.1.1.trans (hb.mono HX.out.1.1.size), HX.out.1.2.step hb⟩, HX.out.2.step hb⟩); clear hb
          clear hv5
          clear d0 d1 d2 d3 d4 d5 k0 k1 k2 k3 k4 k5
          obtain ⟨d0, d1, d2, d3, d4, d5⟩ := six HX.out.1.2; obtain ⟨k0, k1, k2, k3, k4, k5⟩ := six HX.out.2
          go_wp2_with fail
          go_at_call 25
          refine (HTG.out _ HX.out.1.1).mono ?_
          rintro e u6 ⟨rfl, hb⟩
          have HX := Lib.hid (show (Below w.heap.size w u6 ∧ BlkIs u6 w.heap.size 42 #[.slice A0 N.sets.length c0, .slice A1 N.rules.length c1, .slice A2 N.first.length c2, .slice A3 N.follow.length c3, .slice A4 N.ends.length c4, .int .i64 N.empty]) ∧ BlkIs u6 g8 30 #[.slice A0 N.sets.length c0, .slice A1 N.rules.length c1, .slice A2 N.first.length c2, .slice A3 N.follow.length c3, .slice A4 N.ends.length c4, .int .i64 N.empty] from ⟨⟨HX.out.1.1.trans (hb.mono HX.out.1.1.size), HX.out.1.2.step hb⟩, HX.out.2.step hb⟩); clear hb
          clear d0 d1 d2 d3 d4 d5 k0 k1 k2 k3 k4 k5
          go_wp2
          go_ret
          exact ⟨rfl, HX.out.1.1⟩
end Go.Proofs.Ytojejnjjenmfaaa

