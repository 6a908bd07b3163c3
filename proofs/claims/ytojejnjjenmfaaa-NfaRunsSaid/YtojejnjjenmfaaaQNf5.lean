/-
  WHAT hackleref08's Tag ANSWERS: the first rule that is hit: a contract. Condition: the places are places of the automaton.
-/
import Derived.Test.YtojejnjjenmfaaaQG06
namespace Go.Proofs.Ytojejnjjenmfaaa
open Go.RowKit

attribute [local irreducible] FreeW

set_option maxRecDepth 20000 in
set_option maxHeartbeats 8000000 in
theorem refTag8_any (N : Nf) (at' : List Int) (v va : Value) (w : World) (h : NfaAt w N v) (ha : IntsV w at' va) (hin : ∀ p ∈ at', 0 ≤ p ∧ p < N.rules.length) (hle : N.ends.length = N.rules.length) :
    Calls Try.prog 28 #[v, va] w fun e w' => e = .returned (.int .i64 (firstR N at' 40 0)) ∧ Below w.heap.size w w' := by
  obtain ⟨v0, v1, v2, v3, v4, rfl, hs0, hs1, hs2, hs3, hs4⟩ := h
  obtain ⟨A0, c0, rfl, hc0, hx0⟩ := hs0
  obtain ⟨A2, c2, rfl, hc2, hx2⟩ := hs2
  obtain ⟨A3, c3, rfl, hc3, hx3⟩ := hs3
  obtain ⟨A1, c1, rfl, hc1, hg1⟩ := hs1
  obtain ⟨A4, c4, rfl, hc4, hg4⟩ := hs4
  obtain ⟨Aa, ca, rfl, hca, hga⟩ := ha
  have hb0 : Below w.heap.size w (w.alloc (.cells #[.slice A0 N.sets.length c0, .slice A1 N.rules.length c1, .slice A2 N.first.length c2, .slice A3 N.follow.length c3, .slice A4 N.ends.length c4, .int .i64 N.empty] 42)) := (Below.refl _ _).alloc (Nat.le_refl _) _
  have H0 := Lib.hid (And.intro hb0 (BlkIs.new w 42 #[.slice A0 N.sets.length c0, .slice A1 N.rules.length c1, .slice A2 N.first.length c2, .slice A3 N.follow.length c3, .slice A4 N.ends.length c4, .int .i64 N.empty]))
  have HGA := Lib.hid hga
  have HIN := Lib.hid (fun (j : Nat) (h : j < at'.length) => hin _ (List.getElem_mem h))
  have HCELL := Lib.hid (fun (pn : Nat) (h : pn < N.rules.length) => (show ∃ b o b' o', A1 = some ⟨b, o, none⟩ ∧ A4 = some ⟨b', o', none⟩ ∧ ∀ u : World, Below w.heap.size w u → u.cell? ⟨b, o + pn, none⟩ = some (.int .i64 (N.ruleAt pn)) ∧ u.cell? ⟨b', o' + pn, none⟩ = some (.bool (N.endAt pn)) by
    obtain ⟨b, o, e1, l1, g1⟩ := hg1 (by intro e; rw [e] at h; simp at h)
    have h' : pn < N.ends.length := by rw [hle]; exact h
    obtain ⟨b', o', e2, l2, g2⟩ := hg4 (by intro e; rw [e] at h'; simp at h')
    refine ⟨b, o, b', o', e1, e2, fun u hu => ⟨?_, ?_⟩⟩
    · refine (hu.cell (p := ⟨b, o + pn, none⟩) l1).trans ?_
      rw [g1 pn h]; unfold Nf.ruleAt; simp [h]
    · refine (hu.cell (p := ⟨b', o' + pn, none⟩) l2).trans ?_
      rw [g2 pn h']; unfold Nf.endAt; simp [h']))
  obtain ⟨R, hR⟩ : ∃ R, R = firstR N at' 40 0 := ⟨_, rfl⟩
  rw [← hR]
  have HR := Lib.hid hR
  have HLE := Lib.hid hle
  clear hb0 hg1 hg4 hga hx0 hx2 hx3 hin hR hle
  go_enter Try.func28, Try.ntmps28
  go_wp2
  go_loopw [5] (fun i wr => ∃ j : Nat, i = .int .i64 j ∧ j ≤ 40 ∧ Hid ((Below w.heap.size w wr ∧ BlkIs wr w.heap.size 42 #[.slice A0 N.sets.length c0, .slice A1 N.rules.length c1, .slice A2 N.first.length c2, .slice A3 N.follow.length c3, .slice A4 N.ends.length c4, .int .i64 N.empty]) ∧ R = firstR N at' (40 - j) (j : Int))) (fun i _ => 40 - (intOf i).toNat)
  case atStart => exact ⟨0, rfl, by decide, Lib.hid ⟨H0.out, HR.out⟩⟩
  case round =>
    obtain ⟨j, rfl, hj, HH⟩ := hrel
    by_cases hp : j < 40
    · have hk1 : IntKind.i64.wrap ((j : Int) + 1) = ((j + 1 : Nat) : Int) := by rw [IntKind.wrap_i64]; omega
      have hdl : decide ((j : Int) < 40) = true := by simp; omega
      obtain ⟨S, hS⟩ : ∃ S, S = firstR N at' (39 - j) ((j : Int) + 1) := ⟨_, rfl⟩
      have hun : R = if (at'.drop 0).any (fun p => (N.ruleAt p == (j : Int)) && N.endAt p) then (j : Int) else S := by
        rw [HH.out.2, show 40 - j = (39 - j) + 1 by omega, hS]; rfl
      have HUN := Lib.hid hun
      have HSS := Lib.hid hS
      clear hun hS
      go_wp2
      go_loopw [6] (fun i wz => ∃ q : Nat, i = .int .i64 q ∧ q ≤ at'.length ∧ Hid ((Below w.heap.size w wz ∧ BlkIs wz w.heap.size 42 #[.slice A0 N.sets.length c0, .slice A1 N.rules.length c1, .slice A2 N.first.length c2, .slice A3 N.follow.length c3, .slice A4 N.ends.length c4, .int .i64 N.empty]) ∧ R = if (at'.drop q).any (fun p => (N.ruleAt p == (j : Int)) && N.endAt p) then (j : Int) else S)) (fun i _ => at'.length - (intOf i).toNat)
      case atStart => exact ⟨0, rfl, Nat.zero_le _, Lib.hid ⟨HH.out.1, HUN.out⟩⟩
      case round =>
        obtain ⟨q, rfl, hq, HK⟩ := hrel
        by_cases hpq : q < at'.length
        · have hk2 : IntKind.i64.wrap ((q : Int) + 1) = ((q + 1 : Nat) : Int) := by rw [IntKind.wrap_i64]; omega
          have hdq : decide ((q : Int) < (at'.length : Int)) = true := by simp; omega
          have hqI : (q : Int) < (at'.length : Int) := by omega
          obtain ⟨b, o, rfl, hlt, hg⟩ := HGA.out (by intro e; subst e; simp at hpq)
          have hcell := hg q hpq
          have hpin := HIN.out q hpq
          have hd := HK.out.2
          rw [List.drop_eq_getElem_cons hpq, List.any_cons] at hd
          clear hg
          generalize at'[q] = p at *
          obtain ⟨pn, rfl⟩ := Int.eq_ofNat_of_zero_le hpin.1
          have hpn : pn < N.rules.length := by omega
          obtain ⟨b1, o1, b4, o4, rfl, rfl, hyy⟩ := HCELL.out pn hpn
          have hi1 : (pn : Int) < (N.rules.length : Int) := by omega
          have hi4 : (pn : Int) < (N.ends.length : Int) := by rw [HLE.out]; omega
          have HCL := Lib.hid (fun (u : World) (hu : Below w.heap.size w u) => And.intro ((hu.cell (p := ⟨b, o + q, none⟩) hlt).trans hcell) (hyy u hu))
          clear hcell hyy hpin
          generalize N.ruleAt (pn : Int) = r at *
          generalize N.endAt (pn : Int) = en at *
          have HD := Lib.hid hd
          clear hd
          by_cases hr : r = (j : Int)
          · have q1 : (r == (j : Int)) = true := by simp [hr]
            cases en with
            | true =>
              have HF := Lib.hid (show R = (j : Int) by rw [HD.out, q1]; simp)
              clear hr
              go_wp2_with fail
              refine wp_region_reads 38 (fun u => Hid (Below w.heap.size w u ∧ BlkIs u w.heap.size 42 #[.slice A0 N.sets.length c0, .slice (some ⟨b1, o1, none⟩) N.rules.length c1, .slice A2 N.first.length c2, .slice A3 N.follow.length c3, .slice (some ⟨b4, o4, none⟩) N.ends.length c4, .int .i64 N.empty])) (by kernel_rfl) (by kernel_rfl) rfl (Lib.hid ⟨HK.out.1.1.drew, HK.out.1.2.drew⟩) (fun u u' h hb => Lib.hid ⟨h.out.1.trans (hb.mono h.out.1.size), h.out.2.step hb⟩) ?_
              repeat
                refine freeW_step fun K hK => ?_
                (first
                  | (refine freeW_yes 10 27 true rfl rfl ?_ ?_; (focus (go_simp; done)))
                  | skip)
                go_simp
                apply Exists.intro
                refine ⟨fun u h1 => ?_, hK _ ?_⟩
                · obtain ⟨y0, y1, y4⟩ := HCL.out u h1.out.1
                  obtain ⟨k0, k1, k2, k3, k4, k5⟩ := six h1.out.2
                  unfold freeAt
                  go_simp
                  first
                    | exact free_val
                    | (apply free_call
                       first
                         | fail
                       )
                clear hK K
              refine freeW_nil ?_
              intro u hC hb2
              have HC := Lib.hid hC.out
              clear hC hb2
              go_wp2
              go_ret
              exact ⟨by rw [HF.out]; rfl, HC.out.1⟩
            | false =>
              have HF := Lib.hid (show R = if (at'.drop (q + 1)).any (fun p => (N.ruleAt p == (j : Int)) && N.endAt p) then (j : Int) else S by rw [HD.out]; simp)
              clear hr
              go_wp2_with fail
              refine wp_region_reads 38 (fun u => Hid (Below w.heap.size w u ∧ BlkIs u w.heap.size 42 #[.slice A0 N.sets.length c0, .slice (some ⟨b1, o1, none⟩) N.rules.length c1, .slice A2 N.first.length c2, .slice A3 N.follow.length c3, .slice (some ⟨b4, o4, none⟩) N.ends.length c4, .int .i64 N.empty])) (by kernel_rfl) (by kernel_rfl) rfl (Lib.hid ⟨HK.out.1.1.drew, HK.out.1.2.drew⟩) (fun u u' h hb => Lib.hid ⟨h.out.1.trans (hb.mono h.out.1.size), h.out.2.step hb⟩) ?_
              repeat
                refine freeW_step fun K hK => ?_
                (first
                  | (refine freeW_yes 10 27 true rfl rfl ?_ ?_; (focus (go_simp; done)))
                  | skip)
                go_simp
                apply Exists.intro
                refine ⟨fun u h1 => ?_, hK _ ?_⟩
                · obtain ⟨y0, y1, y4⟩ := HCL.out u h1.out.1
                  obtain ⟨k0, k1, k2, k3, k4, k5⟩ := six h1.out.2
                  unfold freeAt
                  go_simp
                  first
                    | exact free_val
                    | (apply free_call
                       first
                         | fail
                       )
                clear hK K
              refine freeW_nil ?_
              intro u hC hb2
              have HC := Lib.hid hC.out
              clear hC hb2
              go_wp2
              exact ⟨⟨q + 1, rfl, hpq, Lib.hid ⟨HC.out, HF.out⟩⟩, by simp [intOf]; omega⟩
          · have q1 : (r == (j : Int)) = false := by simp [hr]
            have HF := Lib.hid (show R = if (at'.drop (q + 1)).any (fun p => (N.ruleAt p == (j : Int)) && N.endAt p) then (j : Int) else S by rw [HD.out, q1]; simp)
            clear hr
            go_wp2_with fail
            refine wp_region_reads 38 (fun u => Hid (Below w.heap.size w u ∧ BlkIs u w.heap.size 42 #[.slice A0 N.sets.length c0, .slice (some ⟨b1, o1, none⟩) N.rules.length c1, .slice A2 N.first.length c2, .slice A3 N.follow.length c3, .slice (some ⟨b4, o4, none⟩) N.ends.length c4, .int .i64 N.empty])) (by kernel_rfl) (by kernel_rfl) rfl (Lib.hid ⟨HK.out.1.1.drew, HK.out.1.2.drew⟩) (fun u u' h hb => Lib.hid ⟨h.out.1.trans (hb.mono h.out.1.size), h.out.2.step hb⟩) ?_
            repeat
              refine freeW_step fun K hK => ?_
              first
                | ((first
                      | (refine freeW_no 10 27 true rfl rfl ?_ ?_; (focus (go_simp; done))))
                   have HK := Go.Lib.hid hK
                   clear hK
                   go_simp
                   have hK := HK.out
                   clear HK
                   refine hK _ ?_
                   clear hK K)
                | (skip
                   (first
                     | skip)
                   go_simp
                   apply Exists.intro
                   refine ⟨fun u h1 => ?_, hK _ ?_⟩
                   · obtain ⟨y0, y1, y4⟩ := HCL.out u h1.out.1
                     obtain ⟨k0, k1, k2, k3, k4, k5⟩ := six h1.out.2
                     unfold freeAt
                     go_simp
                     first
                       | exact free_val
                       | (apply free_call
                          first
                            | fail
                          )
                   clear hK K)
            refine freeW_nil ?_
            intro u hC hb2
            have HC := Lib.hid hC.out
            clear hC hb2
            go_wp2
            exact ⟨⟨q + 1, rfl, hpq, Lib.hid ⟨HC.out, HF.out⟩⟩, by simp [intOf]; omega⟩
        · have hdq : decide ((q : Int) < (at'.length : Int)) = false := by simp; omega
          have HF := Lib.hid (show R = firstR N at' (40 - (j + 1)) ((j + 1 : Nat) : Int) by
            rw [HK.out.2, List.drop_eq_nil_of_le (by omega), HSS.out, show 40 - (j + 1) = 39 - j by omega]; rfl)
          go_wp2
          exact ⟨⟨j + 1, rfl, hp, Lib.hid ⟨HK.out.1, HF.out⟩⟩, by simp [intOf]; omega⟩
    · have hdl : decide ((j : Int) < 40) = false := by simp; omega
      obtain rfl : j = 40 := by omega
      have HF := Lib.hid (show R = -1 from HH.out.2)
      go_wp2
      go_ret
      exact ⟨by rw [HF.out]; rfl, HH.out.1.1⟩
end Go.Proofs.Ytojejnjjenmfaaa

