/-
  WHAT alike, Part AND Whole OF THE REFERENCE ANSWER: contracts. Condition: the sets lie in memory; classes are bytes.
-/
import Derived.Test.YtkcnknhhabbomaaDoorQG18
import Derived.Test.YtkcnknhhabbomaaDoorQG14
import Derived.Test.YtkcnknhhabbomaaDoorQG07
namespace Go.Proofs.YtkcnknhhabbomaaDoor
open Go.RowKit

theorem loadSAt {w : World} {b o : Nat} {m : Nat → Bool} (h : w.rangeAt b o (setL m)) : (Instr.loadAt 61 (.pointer (some ⟨b, o, none⟩))).run Tryd.prog w = .ok (setV m) w :=
  run_loadAt_mid (P := Tryd.prog) w b o 61 (setL m) _ h Tryd.underlying61 rfl (by rw [infoS]; rfl)

theorem says_take {ms : List (Nat → Bool)} {k : Nat} {m : Nat → Bool} (hm : ms[k]? = some m) {a b : Nat} (h : saysG (ms.take k) a = saysG (ms.take k) b) (hab : m a = m b) : saysG (ms.take (k + 1)) a = saysG (ms.take (k + 1)) b := by
  have e : ms.take (k + 1) = ms.take k ++ [m] := by rw [List.take_add_one, hm]; rfl
  unfold saysG at h ⊢
  rw [e, List.map_append, List.map_append, h]
  simp [hab]

set_option maxRecDepth 100000 in
set_option maxHeartbeats 2000000 in
theorem alike_any (ms : List (Nat → Bool)) (hms : ms.length ≤ 64) (A : Option Addr) (c a b : Nat) (ha : a < 256) (hb : b < 256) (w : World) (hr : SetRow w w.heap.size A ms) :
    Calls Tryd.prog 26 #[.slice A ms.length c, .int .i64 a, .int .i64 b] w fun e w' => e = .returned (.bool (decide (saysG ms a = saysG ms b))) ∧ Below w.heap.size w w' := by
  have HR := Lib.hid hr
  have HH := Lib.hid (And.intro ha hb)
  clear hr ha hb
  go_enter Tryd.func26, Tryd.ntmps26
  go_wp2
  go_loopw [7] (fun s wr => ∃ k : Nat, k ≤ ms.length ∧ s = .int .i64 k ∧ Hid (saysG (ms.take k) a = saysG (ms.take k) b ∧ Below w.heap.size w wr)) (fun s _ => ms.length - (intOf s).toNat)
  case atStart => exact ⟨0, by omega, rfl, Lib.hid ⟨rfl, Below.refl _ _⟩⟩
  case round =>
    obtain ⟨k, hk, rfl, HI⟩ := hrel
    by_cases hlt : k < ms.length
    · obtain ⟨m, hm⟩ : ∃ m, ms[k]? = some m := ⟨ms[k], List.getElem?_eq_getElem hlt⟩
      obtain ⟨b0, off, hA, hbl, hcell⟩ := HR.out (fun e => by rw [e] at hlt; simp at hlt)
      have hrng := rangeAt_below HI.out.2 hbl (hcell k m hm)
      have hbw : b0 < wr.heap.size := Nat.lt_of_lt_of_le hbl HI.out.2.size
      subst hA
      have hstep := fun (h : m a = m b) => says_take hm HI.out.1 h
      have hdiff : m a ≠ m b → decide (saysG ms a = saysG ms b) = false := fun h => decide_eq_false fun e => h ((says_eq ms a b).1 e m (List.mem_of_getElem? hm))
      have HS := Lib.hid (And.intro hstep hdiff)
      have HB := Lib.hid HI.out.2
      clear hcell hstep hdiff HI hm
      cases hd : (m a != m b)
      · have hab : m a = m b := by simpa using hd
        go_wp2_with fail
        refine wp_region_reads 27 (fun u => u.rangeAt b0 (off + k * 4) (setL m) ∧ b0 < u.heap.size) (by kernel_rfl) (by kernel_rfl) rfl ⟨hrng, hbw⟩ (fun u u' h hb => ⟨rangeAt_below hb h.2 h.1, Nat.lt_of_lt_of_le h.2 hb.size⟩) ?_
        repeat
          refine freeW_step fun K hK => ?_
          go_simp
          apply Exists.intro
          refine ⟨fun v g1 g2 => ?_, hK _ ?_⟩
          first
            | exact free_load 61 (.tmp 16) _ rfl rfl (loadSAt g1)
            | exact free_load 61 (.tmp 22) _ rfl rfl (loadSAt g1)
            | (unfold freeAt
               go_simp
               first
               | exact free_val
               | (apply free_call
                  go_at_call 46
                  first
                  | with_reducible exact refHas_any m a HH.out.1 _
                  | with_reducible exact refHas_any m b HH.out.2 _))
          clear hK K
        refine freeW_nil ?_
        intro u _ hb
        have hB := HB.out.trans (hb.mono HB.out.size)
        clear hb
        go_wp2
        exact ⟨⟨k + 1, by omega, by go_num, Lib.hid ⟨HS.out.1 hab, hB⟩⟩, by simp [intOf]; omega⟩
      · have hab : m a ≠ m b := by simpa using hd
        have hd2 : (m a == m b) = false := by simpa using hd
        go_wp2_with fail
        refine wp_region_reads 27 (fun u => u.rangeAt b0 (off + k * 4) (setL m) ∧ b0 < u.heap.size) (by kernel_rfl) (by kernel_rfl) rfl ⟨hrng, hbw⟩ (fun u u' h hb => ⟨rangeAt_below hb h.2 h.1, Nat.lt_of_lt_of_le h.2 hb.size⟩) ?_
        repeat
          refine freeW_step fun K hK => ?_
          go_simp
          apply Exists.intro
          refine ⟨fun v g1 g2 => ?_, hK _ ?_⟩
          first
            | exact free_load 61 (.tmp 16) _ rfl rfl (loadSAt g1)
            | exact free_load 61 (.tmp 22) _ rfl rfl (loadSAt g1)
            | (unfold freeAt
               go_simp
               first
               | exact free_val
               | (apply free_call
                  go_at_call 46
                  first
                  | with_reducible exact refHas_any m a HH.out.1 _
                  | with_reducible exact refHas_any m b HH.out.2 _))
          clear hK K
        refine freeW_nil ?_
        intro u _ hb
        have hB := HB.out.trans (hb.mono HB.out.size)
        clear hb
        go_wp2
        go_ret
        exact ⟨ret_bool (HS.out.2 hab).symm, hB⟩
    · obtain rfl : k = ms.length := by omega
      have hi := HI.out
      rw [List.take_length] at hi
      have HI2 := Lib.hid hi
      clear hi HI
      go_wp2
      go_ret
      exact ⟨ret_bool (decide_eq_true HI2.out.1).symm, HI2.out.2⟩

end Go.Proofs.YtkcnknhhabbomaaDoor

namespace Go.Proofs.YtkcnknhhabbomaaDoor
open Go.RowKit

def numT {α : Type} [DecidableEq α] (g : Nat → α) (t i : Nat) : Nat := if i < t then num g i else 0
theorem numT_set {α : Type} [DecidableEq α] (g : Nat → α) (n : Int) {t : Nat} (ht : t < 256) : (clsC (numT g t) n).setIfInBounds t (.int .u8 (num g t : Nat)) = clsC (numT g (t + 1)) n := by
  rw [clsC_set _ _ ht]
  refine clsC_congr n fun i _ => ?_
  unfold updN numT
  by_cases e : i = t
  · subst e; simp
  · rw [if_neg e]
    by_cases h : i < t
    · rw [if_pos h, if_pos (by omega)]
    · rw [if_neg h, if_neg (by omega)]

set_option maxRecDepth 100000 in
set_option maxHeartbeats 2000000 in
theorem refPart_any (ms : List (Nat → Bool)) (hms : ms.length ≤ 64) (A : Option Addr) (c : Nat) (w : World) (hr : SetRow w w.heap.size A ms) :
    Calls Tryd.prog 6 #[.slice A ms.length c] w fun e w' => e = .returned (.agg (clsC (num (saysG ms)) (cnt (saysG ms) 256 : Nat))) ∧ Below w.heap.size w w' := by
  have z := zeroR
  have HAL := Lib.hid (alike_any ms hms A c)
  have HR := Lib.hid hr
  clear hr
  generalize hgk : saysG ms = g at *
  have hz0 := (BlkIs.new w 31 (clsC (fun _ => 0) 0)).alloc (.cells (clsC (fun _ => 0) 0) 31)
  have hg0 := BlkIs.new (w.alloc (.cells (clsC (fun _ => 0) 0) 31)) 31 (clsC (fun _ => 0) 0)
  rw [World.size_alloc] at hg0
  have hB0 := ((Below.refl w.heap.size w).alloc (Nat.le_refl _) (.cells (clsC (fun _ => 0) 0) 31)).alloc (by simp) (.cells (clsC (fun _ => 0) 0) 31)
  have H0 := Lib.hid (And.intro hz0 (And.intro hg0 hB0))
  clear hz0 hg0 hB0
  go_enter Tryd.func6, Tryd.ntmps6
  go_wp2
  go_loopw [4] (fun s wr => ∃ t : Nat, t ≤ 256 ∧ s = .int .i64 t ∧ Hid (BlkIs wr w.heap.size 31 (clsC (fun _ => 0) 0) ∧ BlkIs wr (w.heap.size + 1) 31 (clsC (numT g t) (cnt g t : Nat)) ∧ Below w.heap.size w wr)) (fun s _ => 256 - (intOf s).toNat)
  case atStart =>
    refine ⟨0, by omega, rfl, Lib.hid ⟨H0.out.1, ?_, H0.out.2.2⟩⟩
    have e : clsC (numT g 0) (cnt g 0 : Nat) = clsC (fun _ => 0) 0 := clsC_congr _ fun b _ => by
      unfold numT
      rw [if_neg (by omega)]
    rw [e]
    exact H0.out.2.1
  case round =>
    clear H0
    obtain ⟨t, ht, rfl, HH⟩ := hrel
    by_cases hlt : t < 256
    · have hct := cnt_le g t
      have hd8 : decide (((t : Nat) : Int) < 256) = true := decide_eq_true (by omega)
      go_wp2
      go_loopw [5, 6] (fun sf s wr => ∃ (a : Nat) (fd : Bool), a ≤ t ∧ s = .int .i64 a ∧ sf = .bool fd ∧ Hid (BlkIs wr w.heap.size 31 (clsC (fun _ => 0) 0) ∧ Below w.heap.size w wr ∧
          (fd = false → (∀ j, j < a → g j ≠ g t) ∧ BlkIs wr (w.heap.size + 1) 31 (clsC (numT g t) (cnt g t : Nat))) ∧
          (fd = true → old g t = true ∧ BlkIs wr (w.heap.size + 1) 31 (clsC (numT g (t + 1)) (cnt g t : Nat))))) (fun _ s _ => 256 - (intOf s).toNat)
      case atStart => exact ⟨0, false, by omega, rfl, rfl, Lib.hid ⟨HH.out.1, HH.out.2.2, fun _ => ⟨fun j hj => absurd hj (by omega), HH.out.2.1⟩, fun h => by cases h⟩⟩
      case round =>
        clear HH
        obtain ⟨a, fd, ha, rfl, rfl, HI⟩ := hrel
        cases fd
        · obtain ⟨h1, h2, h3, _⟩ := HI.out
          obtain ⟨h3, h4⟩ := h3 rfl
          by_cases hat : a < t
          · have HC := Lib.hid (HAL.out a t (by omega) hlt wr ((HR.out.below h2).wide h2.size))
            have H1 := Lib.hid (And.intro h1 (And.intro h2 (And.intro h3 h4)))
            clear h1 h2 h3 h4 HI
            cases hd : decide (g a = g t)
            · rw [hd] at HC
              have hne := of_decide_eq_false hd
              go_wp2_with (go_at_call 26; refine HC.out.mono ?_; rintro e w2 ⟨rfl, hb2⟩)
              refine ⟨⟨a + 1, false, by omega, by go_num, rfl, Lib.hid ⟨H1.out.1.step hb2, H1.out.2.1.trans (hb2.mono H1.out.2.1.size), fun _ => ⟨fun j hj => ?_, H1.out.2.2.2.step hb2⟩, fun h => by cases h⟩⟩, by simp [intOf]; omega⟩
              rcases Nat.lt_or_ge j a with h | h
              · exact H1.out.2.2.1 j h
              · obtain rfl : j = a := by omega
                exact hne
            · rw [hd] at HC
              have heq := of_decide_eq_true hd
              have hnum : numT g t a = num g t := by unfold numT; rw [if_pos hat]; exact num_same heq
              have hold : old g t = true := old_iff.2 ⟨a, hat, heq⟩
              go_wp2_with (go_at_call 26; refine HC.out.mono ?_; rintro e w2 ⟨rfl, hb2⟩; have k4 := H1.out.2.2.2.step hb2; have c1 := clsBy k4 (Nat.lt_trans hat hlt); rw [hnum] at c1; have c2 := clsBy k4 hlt; have c3 := k4.frozen t)
              have k5 := k4.put t (.int .u8 (num g t : Nat))
              rw [numT_set g _ hlt] at k5
              exact ⟨⟨a + 1, true, by omega, by go_num, rfl, Lib.hid ⟨(H1.out.1.step hb2).far (p := ⟨w.heap.size + 1, t, none⟩) (by simp) _, (H1.out.2.1.trans (hb2.mono H1.out.2.1.size)).setCell (p := ⟨w.heap.size + 1, t, none⟩) (Nat.le_succ _) _, (fun h => by cases h), fun _ => ⟨hold, k5⟩⟩⟩, by simp [intOf]; omega⟩
          · obtain rfl : a = t := by omega
            have hold : old g a = false := old_not.2 h3
            have c1 := (h4.cell 256).trans (clsC_n _ _)
            have c2 := clsBy h4 hlt
            have c3 := h4.frozen a
            have c4 := h4.frozen 256
            have hwb : IntKind.u8.wrap ((cnt g a : Nat) : Int) = (cnt g a : Nat) := by rw [IntKind.wrap_u8]; omega
            have k5 := h4.put a (.int .u8 (num g a : Nat))
            rw [numT_set g _ hlt, num_new hold] at k5
            have k6 := k5.put 256 (.int .i64 (cnt g (a + 1) : Nat))
            rw [clsC_setN] at k6
            have c5 := (k5.cell 256).trans (clsC_n _ _)
            have hcs : cnt g (a + 1) = cnt g a + 1 := by rw [cnt_succ, hold]; rfl
            have k1 := (h1.far (p := ⟨w.heap.size + 1, a, none⟩) (by simp) (.int .u8 (cnt g a : Nat))).far (p := ⟨w.heap.size + 1, 256, none⟩) (by simp) (.int .i64 (cnt g (a + 1) : Nat))
            have k2 := (h2.setCell (p := ⟨w.heap.size + 1, a, none⟩) (Nat.le_succ _) (.int .u8 (cnt g a : Nat))).setCell (p := ⟨w.heap.size + 1, 256, none⟩) (Nat.le_succ _) (.int .i64 (cnt g (a + 1) : Nat))
            have H6 := Lib.hid (And.intro k1 (And.intro k6 k2))
            clear h1 h2 h3 h4 k5 k6 k1 k2 HI
            have e : ((cnt g (a + 1) : Nat) : Int) = (cnt g a : Nat) + 1 := by rw [hcs]; rfl
            go_wp2
            rw [← e]
            exact ⟨⟨a + 1, by omega, by go_num, H6⟩, by simp [intOf]; omega⟩
        · obtain ⟨h1, h2, _, h3⟩ := HI.out
          obtain ⟨hold, h4⟩ := h3 rfl
          have hcs : cnt g (t + 1) = cnt g t := by rw [cnt_succ, hold]; rfl
          rw [← hcs] at h4
          have H6 := Lib.hid (And.intro h1 (And.intro h4 h2))
          clear h1 h2 h3 h4 HI
          by_cases hat : a < t
          · go_wp2
            exact ⟨⟨t + 1, by omega, by go_num, H6⟩, by simp [intOf]; omega⟩
          · go_wp2
            exact ⟨⟨t + 1, by omega, by go_num, H6⟩, by simp [intOf]; omega⟩
    · obtain rfl : t = 256 := by omega
      have hfin := HH.out
      have e : clsC (numT g 256) (cnt g 256 : Nat) = clsC (num g) (cnt g 256 : Nat) := clsC_congr _ fun b hb => by
        unfold numT
        rw [if_pos hb]
      rw [e] at hfin
      have HF := Lib.hid hfin
      clear hfin e HH
      go_wp2_with (first
        | refine wpList_loadR rfl (.tmp 3) rfl rfl HF.out.2.1 ?_
        | (refine wpList_store_all rfl 31 (.tmp 2) (.tmp 43) rfl rfl (new := clsC (num g) (cnt g 256 : Nat)) rfl HF.out.1 (by rw [clsC_size, clsC_size]) (by rw [clsC_size]; exact infoR) (clsC_one _ _) ?_; intro w5 hw5 hwr5))
      exact bodyPost_ret (results_cell1 rfl (by simp [Act.put]) (loadVarR hw5)) rfl ⟨rfl, hwr5.2.1 _ _ (Nat.le_refl _) HF.out.2.2⟩

end Go.Proofs.YtkcnknhhabbomaaDoor

namespace Go.Proofs.YtkcnknhhabbomaaDoor
open Go.RowKit

attribute [local irreducible] FreeW

set_option maxRecDepth 20000 in
set_option maxHeartbeats 8000000 in
theorem refTag8_any (N : Nf) (at' : List Int) (v va : Value) (w : World) (h : NfaAt w N v) (ha : IntsV w at' va) (hin : ∀ p ∈ at', 0 ≤ p ∧ p < N.rules.length) (hle : N.ends.length = N.rules.length) :
    Calls Tryd.prog 33 #[v, va] w fun e w' => e = .returned (.int .i64 (firstR N at' 40 0)) ∧ Below w.heap.size w w' := by
  obtain ⟨v0, v1, v2, v3, v4, rfl, hs0, hs1, hs2, hs3, hs4⟩ := h
  obtain ⟨A0, c0, rfl, hc0, hx0⟩ := hs0
  obtain ⟨A2, c2, rfl, hc2, hx2⟩ := hs2
  obtain ⟨A3, c3, rfl, hc3, hx3⟩ := hs3
  obtain ⟨A1, c1, rfl, hc1, hg1⟩ := hs1
  obtain ⟨A4, c4, rfl, hc4, hg4⟩ := hs4
  obtain ⟨Aa, ca, rfl, hca, hga⟩ := ha
  have hb0 : Below w.heap.size w (w.alloc (.cells #[.slice A0 N.sets.length c0, .slice A1 N.rules.length c1, .slice A2 N.first.length c2, .slice A3 N.follow.length c3, .slice A4 N.ends.length c4, .int .i64 N.empty] 27)) := (Below.refl _ _).alloc (Nat.le_refl _) _
  have H0 := Lib.hid (And.intro hb0 (BlkIs.new w 27 #[.slice A0 N.sets.length c0, .slice A1 N.rules.length c1, .slice A2 N.first.length c2, .slice A3 N.follow.length c3, .slice A4 N.ends.length c4, .int .i64 N.empty]))
  have HGA := Lib.hid hga
  have HIN := Lib.hid (fun (j : Nat) (h : j < at'.length) => hin _ (List.getElem_mem h))
  have HCELL := Lib.hid (fun (pn : Nat) (h : pn < N.rules.length) => (show ∃ b o b' o', A1 = some ⟨b, o, none⟩ ∧ A4 = some ⟨b', o', none⟩ ∧ ∀ u : World, Below w.heap.size w u → u.cell? ⟨b, o + pn, none⟩ = some (.int .i64 (N.ruleAt pn)) ∧ u.cell? ⟨b', o' + pn, none⟩ = some (.bool (N.endAt pn)) by
    obtain ⟨b, o, e1, l1, g1⟩ := hg1 (by intro e; rw [e] at h; simp at h)
    have h' : pn < N.ends.length := by rw [hle]; exact h
    obtain ⟨b', o', e2, l2, g2⟩ := hg4 (by intro e; rw [e] at h'; simp at h')
    refine ⟨b, o, b', o', e1, e2, fun u hu => ⟨?_, ?_⟩⟩
    · refine (hu.cell (p := ⟨b, o + pn, none⟩) l1).trans ?_
      rw [g1 pn h]; unfold Nf.ruleAt; simp [h]
    · refine (hu.cell (p := ⟨b', o' + pn, none⟩) l2).trans ?_
      rw [g2 pn h']; unfold Nf.endAt; simp [h']))
  obtain ⟨R, hR⟩ : ∃ R, R = firstR N at' 40 0 := ⟨_, rfl⟩
  rw [← hR]
  have HR := Lib.hid hR
  have HLE := Lib.hid hle
  clear hb0 hg1 hg4 hga hx0 hx2 hx3 hin hR hle
  go_enter Tryd.func33, Tryd.ntmps33
  go_wp2
  go_loopw [5] (fun i wr => ∃ j : Nat, i = .int .i64 j ∧ j ≤ 40 ∧ Hid ((Below w.heap.size w wr ∧ BlkIs wr w.heap.size 27 #[.slice A0 N.sets.length c0, .slice A1 N.rules.length c1, .slice A2 N.first.length c2, .slice A3 N.follow.length c3, .slice A4 N.ends.length c4, .int .i64 N.empty]) ∧ R = firstR N at' (40 - j) (j : Int))) (fun i _ => 40 - (intOf i).toNat)
  case atStart => exact ⟨0, rfl, by decide, Lib.hid ⟨H0.out, HR.out⟩⟩
  case round =>
    obtain ⟨j, rfl, hj, HH⟩ := hrel
    by_cases hp : j < 40
    · have hk1 : IntKind.i64.wrap ((j : Int) + 1) = ((j + 1 : Nat) : Int) := by rw [IntKind.wrap_i64]; omega
      have hdl : decide ((j : Int) < 40) = true := by simp; omega
      obtain ⟨S, hS⟩ : ∃ S, S = firstR N at' (39 - j) ((j : Int) + 1) := ⟨_, rfl⟩
      have hun : R = if (at'.drop 0).any (fun p => (N.ruleAt p == (j : Int)) && N.endAt p) then (j : Int) else S := by
        rw [HH.out.2, show 40 - j = (39 - j) + 1 by omega, hS]; rfl
      have HUN := Lib.hid hun
      have HSS := Lib.hid hS
      clear hun hS
      go_wp2
      go_loopw [6] (fun i wz => ∃ q : Nat, i = .int .i64 q ∧ q ≤ at'.length ∧ Hid ((Below w.heap.size w wz ∧ BlkIs wz w.heap.size 27 #[.slice A0 N.sets.length c0, .slice A1 N.rules.length c1, .slice A2 N.first.length c2, .slice A3 N.follow.length c3, .slice A4 N.ends.length c4, .int .i64 N.empty]) ∧ R = if (at'.drop q).any (fun p => (N.ruleAt p == (j : Int)) && N.endAt p) then (j : Int) else S)) (fun i _ => at'.length - (intOf i).toNat)
      case atStart => exact ⟨0, rfl, Nat.zero_le _, Lib.hid ⟨HH.out.1, HUN.out⟩⟩
      case round =>
        obtain ⟨q, rfl, hq, HK⟩ := hrel
        by_cases hpq : q < at'.length
        · have hk2 : IntKind.i64.wrap ((q : Int) + 1) = ((q + 1 : Nat) : Int) := by rw [IntKind.wrap_i64]; omega
          have hdq : decide ((q : Int) < (at'.length : Int)) = true := by simp; omega
          have hqI : (q : Int) < (at'.length : Int) := by omega
          obtain ⟨b, o, rfl, hlt, hg⟩ := HGA.out (by intro e; subst e; simp at hpq)
          have hcell := hg q hpq
          have hpin := HIN.out q hpq
          have hd := HK.out.2
          rw [List.drop_eq_getElem_cons hpq, List.any_cons] at hd
          clear hg
          generalize at'[q] = p at *
          obtain ⟨pn, rfl⟩ := Int.eq_ofNat_of_zero_le hpin.1
          have hpn : pn < N.rules.length := by omega
          obtain ⟨b1, o1, b4, o4, rfl, rfl, hyy⟩ := HCELL.out pn hpn
          have hi1 : (pn : Int) < (N.rules.length : Int) := by omega
          have hi4 : (pn : Int) < (N.ends.length : Int) := by rw [HLE.out]; omega
          have HCL := Lib.hid (fun (u : World) (hu : Below w.heap.size w u) => And.intro ((hu.cell (p := ⟨b, o + q, none⟩) hlt).trans hcell) (hyy u hu))
          clear hcell hyy hpin
          generalize N.ruleAt (pn : Int) = r at *
          generalize N.endAt (pn : Int) = en at *
          have HD := Lib.hid hd
          clear hd
          by_cases hr : r = (j : Int)
          · have q1 : (r == (j : Int)) = true := by simp [hr]
            cases en with
            | true =>
              have HF := Lib.hid (show R = (j : Int) by rw [HD.out, q1]; simp)
              clear hr
              go_wp2_with fail
              refine wp_region_reads 38 (fun u => Hid (Below w.heap.size w u ∧ BlkIs u w.heap.size 27 #[.slice A0 N.sets.length c0, .slice (some ⟨b1, o1, none⟩) N.rules.length c1, .slice A2 N.first.length c2, .slice A3 N.follow.length c3, .slice (some ⟨b4, o4, none⟩) N.ends.length c4, .int .i64 N.empty])) (by kernel_rfl) (by kernel_rfl) rfl (Lib.hid ⟨HK.out.1.1.drew, HK.out.1.2.drew⟩) (fun u u' h hb => Lib.hid ⟨h.out.1.trans (hb.mono h.out.1.size), h.out.2.step hb⟩) ?_
              repeat
                refine freeW_step fun K hK => ?_
                (first
                  | (refine freeW_yes 10 27 true rfl rfl ?_ ?_; (focus (go_simp; done)))
                  | skip)
                go_simp
                apply Exists.intro
                refine ⟨fun u h1 => ?_, hK _ ?_⟩
                · obtain ⟨y0, y1, y4⟩ := HCL.out u h1.out.1
                  obtain ⟨k0, k1, k2, k3, k4, k5⟩ := six h1.out.2
                  unfold freeAt
                  go_simp
                  first
                    | exact free_val
                    | (apply free_call
                       first
                         | fail
                       )
                clear hK K
              refine freeW_nil ?_
              intro u hC hb2
              have HC := Lib.hid hC.out
              clear hC hb2
              go_wp2
              go_ret
              exact ⟨by rw [HF.out]; rfl, HC.out.1⟩
            | false =>
              have HF := Lib.hid (show R = if (at'.drop (q + 1)).any (fun p => (N.ruleAt p == (j : Int)) && N.endAt p) then (j : Int) else S by rw [HD.out]; simp)
              clear hr
              go_wp2_with fail
              refine wp_region_reads 38 (fun u => Hid (Below w.heap.size w u ∧ BlkIs u w.heap.size 27 #[.slice A0 N.sets.length c0, .slice (some ⟨b1, o1, none⟩) N.rules.length c1, .slice A2 N.first.length c2, .slice A3 N.follow.length c3, .slice (some ⟨b4, o4, none⟩) N.ends.length c4, .int .i64 N.empty])) (by kernel_rfl) (by kernel_rfl) rfl (Lib.hid ⟨HK.out.1.1.drew, HK.out.1.2.drew⟩) (fun u u' h hb => Lib.hid ⟨h.out.1.trans (hb.mono h.out.1.size), h.out.2.step hb⟩) ?_
              repeat
                refine freeW_step fun K hK => ?_
                (first
                  | (refine freeW_yes 10 27 true rfl rfl ?_ ?_; (focus (go_simp; done)))
                  | skip)
                go_simp
                apply Exists.intro
                refine ⟨fun u h1 => ?_, hK _ ?_⟩
                · obtain ⟨y0, y1, y4⟩ := HCL.out u h1.out.1
                  obtain ⟨k0, k1, k2, k3, k4, k5⟩ := six h1.out.2
                  unfold freeAt
                  go_simp
                  first
                    | exact free_val
                    | (apply free_call
                       first
                         | fail
                       )
                clear hK K
              refine freeW_nil ?_
              intro u hC hb2
              have HC := Lib.hid hC.out
              clear hC hb2
              go_wp2
              exact ⟨⟨q + 1, rfl, hpq, Lib.hid ⟨HC.out, HF.out⟩⟩, by simp [intOf]; omega⟩
          · have q1 : (r == (j : Int)) = false := by simp [hr]
            have HF := Lib.hid (show R = if (at'.drop (q + 1)).any (fun p => (N.ruleAt p == (j : Int)) && N.endAt p) then (j : Int) else S by rw [HD.out, q1]; simp)
            clear hr
            go_wp2_with fail
            refine wp_region_reads 38 (fun u => Hid (Below w.heap.size w u ∧ BlkIs u w.heap.size 27 #[.slice A0 N.sets.length c0, .slice (some ⟨b1, o1, none⟩) N.rules.length c1, .slice A2 N.first.length c2, .slice A3 N.follow.length c3, .slice (some ⟨b4, o4, none⟩) N.ends.length c4, .int .i64 N.empty])) (by kernel_rfl) (by kernel_rfl) rfl (Lib.hid ⟨HK.out.1.1.drew, HK.out.1.2.drew⟩) (fun u u' h hb => Lib.hid ⟨h.out.1.trans (hb.mono h.out.1.size), h.out.2.step hb⟩) ?_
            repeat
              refine freeW_step fun K hK => ?_
              first
                | ((first
                      | (refine freeW_no 10 27 true rfl rfl ?_ ?_; (focus (go_simp; done))))
                   have HK := Go.Lib.hid hK
                   clear hK
                   go_simp
                   have hK := HK.out
                   clear HK
                   refine hK _ ?_
                   clear hK K)
                | (skip
                   (first
                     | skip)
                   go_simp
                   apply Exists.intro
                   refine ⟨fun u h1 => ?_, hK _ ?_⟩
                   · obtain ⟨y0, y1, y4⟩ := HCL.out u h1.out.1
                     obtain ⟨k0, k1, k2, k3, k4, k5⟩ := six h1.out.2
                     unfold freeAt
                     go_simp
                     first
                       | exact free_val
                       | (apply free_call
                          first
                            | fail
                          )
                   clear hK K)
            refine freeW_nil ?_
            intro u hC hb2
            have HC := Lib.hid hC.out
            clear hC hb2
            go_wp2
            exact ⟨⟨q + 1, rfl, hpq, Lib.hid ⟨HC.out, HF.out⟩⟩, by simp [intOf]; omega⟩
        · have hdq : decide ((q : Int) < (at'.length : Int)) = false := by simp; omega
          have HF := Lib.hid (show R = firstR N at' (40 - (j + 1)) ((j + 1 : Nat) : Int) by
            rw [HK.out.2, List.drop_eq_nil_of_le (by omega), HSS.out, show 40 - (j + 1) = 39 - j by omega]; rfl)
          go_wp2
          exact ⟨⟨j + 1, rfl, hp, Lib.hid ⟨HK.out.1, HF.out⟩⟩, by simp [intOf]; omega⟩
    · have hdl : decide ((j : Int) < 40) = false := by simp; omega
      obtain rfl : j = 40 := by omega
      have HF := Lib.hid (show R = -1 from HH.out.2)
      go_wp2
      go_ret
      exact ⟨by rw [HF.out]; rfl, HH.out.1.1⟩
end Go.Proofs.YtkcnknhhabbomaaDoor

