/-
  WHAT hackleref08.May ANSWERS: a contract: what nfa.May does. No condition but that the automaton lies there.
-/
import Derived.Test.YtkcnknhhabbomaaDoorQG07
import Derived.Test.YtkcnknhhabbomaaDoorQG20
import Derived.Test.YtkcnknhhabbomaaDoorQG33
import Derived.Test.YtkcnknhhabbomaaDoorQG04
import Derived.Test.YtkcnknhhabbomaaDoorQG06
namespace Go.Proofs.YtkcnknhhabbomaaDoor
open Go.RowKit

attribute [local irreducible] FreeW

set_option maxRecDepth 20000 in
set_option maxHeartbeats 8000000 in
theorem refMay8_any (N : Nf) (v : Value) (w : World) (h : NfaAt w N v) : Calls Tryd.prog 9 #[v] w fun e w' => e = .returned (.bool N.may) ∧ Below w.heap.size w w' := by
  obtain ⟨v0, v1, v2, v3, v4, rfl, hs0, hs1, hs2, hs3, hs4⟩ := h
  have hcr := fun (l : List Int) (x : Value) (u : World) (hx : IntsV u l x) => refRising_any l x
  obtain ⟨A0, c0, rfl, hc0, hx0⟩ := hs0
  obtain ⟨A4, c4, rfl, hc4, hx4⟩ := hs4
  obtain ⟨A1, c1, rfl, hc1, hg1⟩ := hs1
  have hv2 := hs2
  obtain ⟨A2, c2, rfl, hc2, hg2⟩ := hs2
  obtain ⟨A3, c3, rfl, hc3, hg3⟩ := hs3
  have hb0 : Below w.heap.size w (w.alloc (.cells #[.slice A0 N.sets.length c0, .slice A1 N.rules.length c1, .slice A2 N.first.length c2, .slice A3 N.follow.length c3, .slice A4 N.ends.length c4, .int .i64 N.empty] 27)) := (Below.refl _ _).alloc (Nat.le_refl _) _
  have H0 := Lib.hid (And.intro hb0 (BlkIs.new w 27 #[.slice A0 N.sets.length c0, .slice A1 N.rules.length c1, .slice A2 N.first.length c2, .slice A3 N.follow.length c3, .slice A4 N.ends.length c4, .int .i64 N.empty]))
  have HR2 := Lib.hid (fun (u : World) (hu : Below w.heap.size w u) => refRising_any N.first (.slice A2 N.first.length c2) A0 A1 A2 A3 A4 N.sets.length N.rules.length N.first.length N.follow.length N.ends.length c0 c1 c2 c3 c4 N.empty u (hv2.step hu))
  have HRI := Lib.hid (fun (l : List Int) (x : Value) (u : World) (hx : IntsV u l x) => refRising_any l x A0 A1 A2 A3 A4 N.sets.length N.rules.length N.first.length N.follow.length N.ends.length c0 c1 c2 c3 c4 N.empty u hx)
  have HG1 := Lib.hid hg1
  have HG3 := Lib.hid hg3
  obtain ⟨R, hR⟩ : ∃ R, R = N.may := ⟨_, rfl⟩
  rw [← hR]
  unfold Nf.may Nf.sized Nf.rest at hR
  clear hcr hb0 hv2 hg1 hg2 hg3 hx0 hx4
  obtain ⟨d0, d1, d2, d3, d4, d5⟩ := six H0.out.2
  generalize N.empty = em at *
  generalize risesB (↑N.sets.length) (-1) N.first = rf at *
  generalize N.first.length = n2 at *
  generalize N.rules = ru at *
  generalize N.follow = fo at *
  generalize N.ends.length = n4 at *
  generalize N.sets.length = n0 at *
  by_cases hk : n0 ≤ 2000
  case neg =>
    have e0 : decide ((n0 : Int) > 2000) = true := by simp; omega
    have e0b : decide ((2000 : Int) < (n0 : Int)) = true := by simp; omega
    have HF := Lib.hid (show R = false by rw [hR]; simp [hk])
    clear hR hk
    go_enter Tryd.func9, Tryd.ntmps9
    go_wp2
    go_ret
    exact ⟨by rw [HF.out]; rfl, H0.out.1⟩
  have e0 : decide ((n0 : Int) > 2000) = false := by simp; omega
  have e0b : decide ((2000 : Int) < (n0 : Int)) = false := by simp; omega
  by_cases h1 : ru.length = n0
  case neg =>
    have e1 : ((ru.length : Int) != (n0 : Int)) = true := by simp; omega
    have HF := Lib.hid (show R = false by rw [hR]; simp [h1])
    clear hR hk h1
    go_enter Tryd.func9, Tryd.ntmps9
    go_wp2
    go_ret
    exact ⟨by rw [HF.out]; rfl, H0.out.1⟩
  have e1 : ((ru.length : Int) != (n0 : Int)) = false := by simp; omega
  by_cases h3 : fo.length = n0
  case neg =>
    have e3 : ((fo.length : Int) != (n0 : Int)) = true := by simp; omega
    have HF := Lib.hid (show R = false by rw [hR]; simp [h3])
    clear hR hk h1 h3
    go_enter Tryd.func9, Tryd.ntmps9
    go_wp2
    go_ret
    exact ⟨by rw [HF.out]; rfl, H0.out.1⟩
  have e3 : ((fo.length : Int) != (n0 : Int)) = false := by simp; omega
  by_cases h4 : n4 = n0
  case neg =>
    have e4 : ((n4 : Int) != (n0 : Int)) = true := by simp; omega
    have HF := Lib.hid (show R = false by rw [hR]; simp [h4])
    clear hR hk h1 h3 h4
    go_enter Tryd.func9, Tryd.ntmps9
    go_wp2
    go_ret
    exact ⟨by rw [HF.out]; rfl, H0.out.1⟩
  have e4 : ((n4 : Int) != (n0 : Int)) = false := by simp; omega
  by_cases h5 : -1 ≤ em
  case neg =>
    have e5 : decide (em < -1) = true := by simp; omega
    have HF := Lib.hid (show R = false by rw [hR]; simp [h5])
    clear hR hk h1 h3 h4 h5
    go_enter Tryd.func9, Tryd.ntmps9
    go_wp2
    go_ret
    exact ⟨by rw [HF.out]; rfl, H0.out.1⟩
  have e5 : decide (em < -1) = false := by simp; omega
  by_cases h6 : em < 40
  case neg =>
    have e6 : decide (em > 39) = true := by simp; omega
    have e6b : decide (39 < em) = true := by simp; omega
    have HF := Lib.hid (show R = false by rw [hR]; simp [h6])
    clear hR hk h1 h3 h4 h5 h6
    go_enter Tryd.func9, Tryd.ntmps9
    go_wp2
    go_ret
    exact ⟨by rw [HF.out]; rfl, H0.out.1⟩
  have e6 : decide (em > 39) = false := by simp; omega
  have e6b : decide (39 < em) = false := by simp; omega
  have HEQ := Lib.hid (And.intro h1 h3)
  cases rf with
  | false =>
    have HF := Lib.hid (show R = false by rw [hR]; simp)
    clear hR hk h1 h3 h4 h5 h6
    go_enter Tryd.func9, Tryd.ntmps9
    go_wp2_with fail
    go_at_call 30
    refine (HR2.out _ H0.out.1).mono ?_
    rintro e u ⟨rfl, hbu⟩
    have HU := Lib.hid (H0.out.1.trans (hbu.mono H0.out.1.size))
    clear hbu
    go_wp2
    go_ret
    exact ⟨by rw [HF.out]; rfl, HU.out⟩
  | true =>
    have HN := Lib.hid (show R = (ru.all okR && fo.all (risesB n0 (-1))) by rw [hR]; simp [h1, h3, h4, hk, h5, h6])
    have hn0 : n0 ≤ 2000 := hk
    clear hR hk h1 h3 h4 h5 h6
    go_enter Tryd.func9, Tryd.ntmps9
    go_wp2_with fail
    go_at_call 30
    refine (HR2.out _ H0.out.1).mono ?_
    rintro e u ⟨rfl, hbu⟩
    have HU := Lib.hid (And.intro (H0.out.1.trans (hbu.mono H0.out.1.size)) (H0.out.2.step hbu))
    clear hbu d0 d1 d2 d3 d4 d5
    go_wp2
    go_loopw [4] (fun i wr => ∃ j : Nat, i = .int .i64 j ∧ j ≤ n0 ∧ Hid ((Below w.heap.size w wr ∧ BlkIs wr w.heap.size 27 #[.slice A0 n0 c0, .slice A1 ru.length c1, .slice A2 n2 c2, .slice A3 fo.length c3, .slice A4 n4 c4, .int .i64 em]) ∧ R = ((ru.drop j).all okR && (fo.drop j).all (risesB n0 (-1))))) (fun i _ => n0 - (intOf i).toNat)
    case atStart => exact ⟨0, rfl, Nat.zero_le _, Lib.hid ⟨HU.out, HN.out⟩⟩
    case round =>
      obtain ⟨j, rfl, hj, HH⟩ := hrel
      by_cases hp : j < n0
      · have hk1 : IntKind.i64.wrap ((j : Int) + 1) = ((j + 1 : Nat) : Int) := by rw [IntKind.wrap_i64]; omega
        have hdl : decide ((j : Int) < (n0 : Int)) = true := by simp; omega
        have hp1 : j < ru.length := by rw [HEQ.out.1]; exact hp
        have hp3 : j < fo.length := by rw [HEQ.out.2]; exact hp
        have hj1 : (j : Int) < (ru.length : Int) := by omega
        have hj3 : (j : Int) < (fo.length : Int) := by omega
        obtain ⟨b1, o1, rfl, hlt1, hg1⟩ := HG1.out (by intro e; rw [e] at hp1; simp at hp1)
        obtain ⟨b3, o3, rfl, hlt3, hg3⟩ := HG3.out (by intro e; rw [e] at hp3; simp at hp3)
        have hcell1 := hg1 j hp1
        obtain ⟨x3, hcell3, hrow⟩ := hg3 j hp3
        have hd := HH.out.2
        rw [List.drop_eq_getElem_cons hp1, List.drop_eq_getElem_cons hp3, List.all_cons, List.all_cons] at hd
        have HCALL := Lib.hid (fun (u : World) (hu : Below w.heap.size w u) => HRI.out _ x3 u (hrow.step hu))
        have HCL := Lib.hid (fun (u : World) (hu : Below w.heap.size w u) => And.intro ((hu.cell (p := ⟨b1, o1 + j, none⟩) hlt1).trans hcell1) ((hu.cell (p := ⟨b3, o3 + j, none⟩) hlt3).trans hcell3))
        obtain ⟨Ar, cr, rfl, _, _⟩ := hrow
        clear hg1 hg3 hcell1 hcell3
        generalize ru[j] = p at *
        generalize fo[j] = row at *
        generalize risesB (↑n0) (-1) row = rb at *
        have HD := Lib.hid hd
        clear hd hp1 hp3
        by_cases g1 : p < 0
        · have q1 : decide (p < 0) = true := by simp; omega
          have HF := Lib.hid (show R = false by rw [HD.out, show okR p = false by unfold okR; rw [show decide (0 ≤ p) = false by simp; omega]; rfl]; simp)
          clear g1
          go_wp2_with fail
          refine wp_region_reads 77 (fun u => Hid (Below w.heap.size w u ∧ BlkIs u w.heap.size 27 #[.slice A0 n0 c0, .slice (some ⟨b1, o1, none⟩) ru.length c1, .slice A2 n2 c2, .slice (some ⟨b3, o3, none⟩) fo.length c3, .slice A4 n4 c4, .int .i64 em])) (by kernel_rfl) (by kernel_rfl) rfl (Lib.hid ⟨HH.out.1.1.drew, HH.out.1.2.drew⟩) (fun u u' h hb => Lib.hid ⟨h.out.1.trans (hb.mono h.out.1.size), h.out.2.step hb⟩) ?_
          repeat
            refine freeW_step fun K hK => ?_
            first
              | ((first
                    | (refine freeW_no 6 59 false rfl rfl ?_ ?_; (focus (go_simp; done)))
                    | (refine freeW_no 14 67 false rfl rfl ?_ ?_; (focus (go_simp; done))))
                 have HK := Go.Lib.hid hK
                 clear hK
                 go_simp
                 have hK := HK.out
                 clear HK
                 refine hK _ ?_
                 clear hK K)
              | (skip
                 (first
                   | skip)
                 go_simp
                 apply Exists.intro
                 refine ⟨fun u h1 => ?_, hK _ ?_⟩
                 · obtain ⟨y0, y1⟩ := HCL.out u h1.out.1
                   obtain ⟨k0, k1, k2, k3, k4, k5⟩ := six h1.out.2
                   unfold freeAt
                   go_simp
                   first
                     | exact free_val
                     | (apply free_call
                        first
                          | (go_at_call 30; with_reducible exact HCALL.out u h1.out.1)
                        )
                 clear hK K)
          refine freeW_nil ?_
          intro u hC hb2
          have HC := Lib.hid hC.out
          clear hC hb2
          go_wp2
          go_ret
          exact ⟨by rw [HF.out]; rfl, HC.out.1⟩
        · have q1 : decide (p < 0) = false := by simp; omega
          by_cases g2 : 39 < p
          · have q2 : decide (p > 39) = true := by simp; omega
            have q2b : decide (39 < p) = true := by simp; omega
            have HF := Lib.hid (show R = false by rw [HD.out, show okR p = false by unfold okR; rw [show decide (p < 40) = false by simp; omega]; simp]; simp)
            clear g1 g2
            go_wp2_with fail
            refine wp_region_reads 77 (fun u => Hid (Below w.heap.size w u ∧ BlkIs u w.heap.size 27 #[.slice A0 n0 c0, .slice (some ⟨b1, o1, none⟩) ru.length c1, .slice A2 n2 c2, .slice (some ⟨b3, o3, none⟩) fo.length c3, .slice A4 n4 c4, .int .i64 em])) (by kernel_rfl) (by kernel_rfl) rfl (Lib.hid ⟨HH.out.1.1.drew, HH.out.1.2.drew⟩) (fun u u' h hb => Lib.hid ⟨h.out.1.trans (hb.mono h.out.1.size), h.out.2.step hb⟩) ?_
            repeat
              refine freeW_step fun K hK => ?_
              first
                | ((first
                      | (refine freeW_no 14 67 false rfl rfl ?_ ?_; (focus (go_simp; done))))
                   have HK := Go.Lib.hid hK
                   clear hK
                   go_simp
                   have hK := HK.out
                   clear HK
                   refine hK _ ?_
                   clear hK K)
                | (skip
                   (first
                     | (refine freeW_yes 6 59 false rfl rfl ?_ ?_; (focus (go_simp; done)))
                     | skip)
                   go_simp
                   apply Exists.intro
                   refine ⟨fun u h1 => ?_, hK _ ?_⟩
                   · obtain ⟨y0, y1⟩ := HCL.out u h1.out.1
                     obtain ⟨k0, k1, k2, k3, k4, k5⟩ := six h1.out.2
                     unfold freeAt
                     go_simp
                     first
                       | exact free_val
                       | (apply free_call
                          first
                            | (go_at_call 30; with_reducible exact HCALL.out u h1.out.1)
                          )
                   clear hK K)
            refine freeW_nil ?_
            intro u hC hb2
            have HC := Lib.hid hC.out
            clear hC hb2
            go_wp2
            go_ret
            exact ⟨by rw [HF.out]; rfl, HC.out.1⟩
          · have q2 : decide (p > 39) = false := by simp; omega
            have q2b : decide (39 < p) = false := by simp; omega
            have HP := Lib.hid (show okR p = true by unfold okR; simp; omega)
            clear g1 g2
            cases rb with
            | false =>
              have HF := Lib.hid (show R = false by rw [HD.out]; simp)
              go_wp2_with fail
              refine wp_region_reads 77 (fun u => Hid (Below w.heap.size w u ∧ BlkIs u w.heap.size 27 #[.slice A0 n0 c0, .slice (some ⟨b1, o1, none⟩) ru.length c1, .slice A2 n2 c2, .slice (some ⟨b3, o3, none⟩) fo.length c3, .slice A4 n4 c4, .int .i64 em])) (by kernel_rfl) (by kernel_rfl) rfl (Lib.hid ⟨HH.out.1.1.drew, HH.out.1.2.drew⟩) (fun u u' h hb => Lib.hid ⟨h.out.1.trans (hb.mono h.out.1.size), h.out.2.step hb⟩) ?_
              repeat
                refine freeW_step fun K hK => ?_
                (first
                  | (refine freeW_yes 6 59 false rfl rfl ?_ ?_; (focus (go_simp; done)))
                  | (refine freeW_yes 14 67 false rfl rfl ?_ ?_; (focus (go_simp; done)))
                  | skip)
                go_simp
                apply Exists.intro
                refine ⟨fun u h1 => ?_, hK _ ?_⟩
                · obtain ⟨y0, y1⟩ := HCL.out u h1.out.1
                  obtain ⟨k0, k1, k2, k3, k4, k5⟩ := six h1.out.2
                  unfold freeAt
                  go_simp
                  first
                    | exact free_val
                    | (apply free_call
                       first
                         | (go_at_call 30; with_reducible exact HCALL.out u h1.out.1)
                       )
                clear hK K
              refine freeW_nil ?_
              intro u hC hb2
              have HC := Lib.hid hC.out
              clear hC hb2
              go_wp2
              go_ret
              exact ⟨by rw [HF.out]; rfl, HC.out.1⟩
            | true =>
              have HF := Lib.hid (show R = ((ru.drop (j + 1)).all okR && (fo.drop (j + 1)).all (risesB n0 (-1))) by rw [HD.out, HP.out]; simp only [Bool.true_and])
              go_wp2_with fail
              refine wp_region_reads 77 (fun u => Hid (Below w.heap.size w u ∧ BlkIs u w.heap.size 27 #[.slice A0 n0 c0, .slice (some ⟨b1, o1, none⟩) ru.length c1, .slice A2 n2 c2, .slice (some ⟨b3, o3, none⟩) fo.length c3, .slice A4 n4 c4, .int .i64 em])) (by kernel_rfl) (by kernel_rfl) rfl (Lib.hid ⟨HH.out.1.1.drew, HH.out.1.2.drew⟩) (fun u u' h hb => Lib.hid ⟨h.out.1.trans (hb.mono h.out.1.size), h.out.2.step hb⟩) ?_
              repeat
                refine freeW_step fun K hK => ?_
                (first
                  | (refine freeW_yes 6 59 false rfl rfl ?_ ?_; (focus (go_simp; done)))
                  | (refine freeW_yes 14 67 false rfl rfl ?_ ?_; (focus (go_simp; done)))
                  | skip)
                go_simp
                apply Exists.intro
                refine ⟨fun u h1 => ?_, hK _ ?_⟩
                · obtain ⟨y0, y1⟩ := HCL.out u h1.out.1
                  obtain ⟨k0, k1, k2, k3, k4, k5⟩ := six h1.out.2
                  unfold freeAt
                  go_simp
                  first
                    | exact free_val
                    | (apply free_call
                       first
                         | (go_at_call 30; with_reducible exact HCALL.out u h1.out.1)
                       )
                clear hK K
              refine freeW_nil ?_
              intro u hC hb2
              have HC := Lib.hid hC.out
              clear hC hb2
              go_wp2
              exact ⟨⟨j + 1, rfl, hp, Lib.hid ⟨HC.out, HF.out⟩⟩, by simp [intOf]; omega⟩
      · have hdl : decide ((j : Int) < (n0 : Int)) = false := by simp; omega
        have HF := Lib.hid (show R = true by rw [HH.out.2, List.drop_eq_nil_of_le (by rw [HEQ.out.1]; omega), List.drop_eq_nil_of_le (by rw [HEQ.out.2]; omega)]; rfl)
        go_wp2
        go_ret
        exact ⟨by rw [HF.out]; rfl, HH.out.1.1⟩
end Go.Proofs.YtkcnknhhabbomaaDoor

namespace Go.Proofs.YtkcnknhhabbomaaDoor
open Go.RowKit

attribute [local irreducible] FreeW textFrame

theorem field_cl (f : Nat → Nat) (n : Int) (u : World) : (Instr.field 31 (.agg (clsC f n)) 1).run Tryd.prog u = .ok (.int .i64 n) u := by
  kernel_rfl
theorem df_form {W : World} {D : Df} {v : Value} (h : DfAt W D v) : ∃ A c B c', v = .agg (dfC D.of D.n (.slice A D.next.length c) (.slice B D.tag.length c')) := by
  obtain ⟨vn, vt, rfl, ⟨A, c, rfl, _⟩, ⟨B, c', rfl, _⟩⟩ := h
  exact ⟨A, c, B, c', rfl⟩
set_option maxRecDepth 20000 in
set_option maxHeartbeats 32000000 in
theorem dfaSubsets_any (N : Nf) (v : Value) (w : World) (h : NfaAt w N v) (hT : Tab w) : Calls Tryd.prog 3 #[v] w fun e w' => e = .returned (.bool true) ∧ Below w.heap.size w w' := by
  obtain ⟨A0, A1, A2, A3, A4, c0, c1, c2, c3, c4, rfl⟩ := h.form
  obtain ⟨W1, hW1⟩ : ∃ W1, w.alloc (.cells #[.slice A0 N.sets.length c0, .slice A1 N.rules.length c1, .slice A2 N.first.length c2, .slice A3 N.follow.length c3, .slice A4 N.ends.length c4, .int .i64 N.empty] 27) = W1 := ⟨_, rfl⟩
  have hs1 : W1.heap.size = w.heap.size + 1 := by rw [← hW1]; simp
  have hb1 : Below w.heap.size w W1 := by rw [← hW1]; exact (Below.refl _ _).alloc (Nat.le_refl _) _
  have hx1 : BlkIs W1 w.heap.size 27 #[.slice A0 N.sets.length c0, .slice A1 N.rules.length c1, .slice A2 N.first.length c2, .slice A3 N.follow.length c3, .slice A4 N.ends.length c4, .int .i64 N.empty] := by rw [← hW1]; exact BlkIs.new _ _ _
  have HAL := Lib.hid (alive9_any W1 (hT.step hb1))
  have HX := Lib.hid (And.intro hb1 hx1)
  have HNF := Lib.hid h
  have HTT := Lib.hid hT
  have hset : SetsV w N.sets (.slice A0 N.sets.length c0) := by
    obtain ⟨_, _, _, _, _, e, h0, _⟩ := h
    injection e with e
    injection e with e
    simp only [List.cons.injEq] at e
    obtain ⟨rfl, _⟩ := e
    exact h0
  have HFO := Lib.hid (show N.follow ≠ [] → ∃ b o, A3 = some ⟨b, o, none⟩ ∧ b < w.heap.size ∧ ∀ (i : Nat) (h : i < N.follow.length), ∃ u, w.cell? ⟨b, o + i, none⟩ = some u ∧ IntsV w N.follow[i] u by
    obtain ⟨_, _, _, _, _, e, _, _, _, h3, _⟩ := h
    injection e with e
    injection e with e
    simp only [List.cons.injEq] at e
    obtain ⟨_, _, _, rfl, _⟩ := e
    obtain ⟨A, c, e, _, hs⟩ := h3
    injection e with e _ _
    subst e
    exact hs)
  have HSET := Lib.hid hset
  clear h hT hb1 hx1 hset
  go_enter Tryd.func3, Tryd.ntmps3
  go_wp2_with fail
  go_at_call 5
  refine HAL.out.mono ?_
  rintro e u1 ⟨rfl, hbu⟩
  have HU := Lib.hid (And.intro (HX.out.1.trans (hbu.mono HX.out.1.size)) (HX.out.2.step hbu))
  obtain ⟨d0, d1, d2, d3, d4, d5⟩ := six HU.out.2
  clear hbu HAL HX hW1 hs1
  by_cases k1 : 25 < N.sets.length
  · have e1 : decide ((N.sets.length : Int) > 25) = true := by simp; omega
    have e1b : decide ((25 : Int) < (N.sets.length : Int)) = true := by simp; omega
    have e1n : decide (25 < N.sets.length) = true := by simp; omega
    clear k1
    go_wp2
    go_ret
    exact ⟨rfl, HU.out.1⟩
  have e1 : decide ((N.sets.length : Int) > 25) = false := by simp; omega
  have e1b : decide ((25 : Int) < (N.sets.length : Int)) = false := by simp; omega
  have e1n : decide (25 < N.sets.length) = false := by simp; omega
  by_cases k2 : 80 < N.follow.length
  · have e2 : decide ((N.follow.length : Int) > 80) = true := by simp; omega
    have e2b : decide ((80 : Int) < (N.follow.length : Int)) = true := by simp; omega
    have e2n : decide (80 < N.follow.length) = true := by simp; omega
    clear k1 k2
    go_wp2
    go_ret
    exact ⟨rfl, HU.out.1⟩
  have e2 : decide ((N.follow.length : Int) > 80) = false := by simp; omega
  have e2b : decide ((80 : Int) < (N.follow.length : Int)) = false := by simp; omega
  have e2n : decide (80 < N.follow.length) = false := by simp; omega
  by_cases k3 : 100 < N.first.length
  · have e3 : decide ((N.first.length : Int) > 100) = true := by simp; omega
    have e3b : decide ((100 : Int) < (N.first.length : Int)) = true := by simp; omega
    have e3n : decide (100 < N.first.length) = true := by simp; omega
    clear k1 k2 k3
    go_wp2
    go_ret
    exact ⟨rfl, HU.out.1⟩
  have e3 : decide ((N.first.length : Int) > 100) = false := by simp; omega
  have e3b : decide ((100 : Int) < (N.first.length : Int)) = false := by simp; omega
  have e3n : decide (100 < N.first.length) = false := by simp; omega
  have HPT := Lib.hid (refPart_any N.sets (by omega) A0 c0 u1 (sets_row (HSET.out.step HU.out.1)))
  have hfd := field_cl (ofN N) (clN N : Nat)
  rw [show clsC (num (saysG N.sets)) (cnt (saysG N.sets) 256 : Nat) = clsC (ofN N) (clN N : Nat) from rfl] at HPT
  obtain ⟨cl, hcl⟩ : ∃ cl, clsC (ofN N) (clN N : Nat) = cl := ⟨_, rfl⟩
  rw [hcl] at HPT hfd
  have hms : N.sets.length ≤ 25 := by omega
  have hfo8 : N.follow.length ≤ 80 := by omega
  clear hcl k1 k2 k3
  by_cases k4 : 20 < clN N
  · have e4 : decide ((clN N : Int) > 20) = true := by simp; omega
    have e4b : decide ((20 : Int) < (clN N : Int)) = true := by simp; omega
    have e4n : decide (20 < clN N) = true := by simp; omega
    clear k4
    go_wp2_with (go_at_call 6; refine HPT.out.mono ?_; rintro e wz ⟨rfl, hbu⟩; have HU2 := Lib.hid (HU.out.1.trans (hbu.mono HU.out.1.size)); clear hbu)
    go_ret
    exact ⟨rfl, HU2.out⟩
  have e4 : decide ((clN N : Int) > 20) = false := by simp; omega
  have e4b : decide ((20 : Int) < (clN N : Int)) = false := by simp; omega
  have e4n : decide (20 < clN N) = false := by simp; omega
  clear k4
  go_wp2_with (go_at_call 6; refine HPT.out.mono ?_; rintro e wz ⟨rfl, hbu⟩; have HU2 := Lib.hid (And.intro (HU.out.1.trans (hbu.mono HU.out.1.size)) (HU.out.2.step hbu)); obtain ⟨f0, f1, f2, f3, f4, f5⟩ := six HU2.out.2; clear hbu)
  have hsz2 : w.heap.size < wz.heap.size := BlkIs.lt HU2.out.2
  clear HPT hfd e1 e1b e1n e2 e2b e2n e3 e3b e3n e4 e4b e4n d0 d1 d2 d3 d4 d5 HU
  go_loopw [3] (fun i wr => ∃ j : Nat, i = .int .i64 j ∧ j ≤ N.follow.length ∧ Hid (wz = wr)) (fun i _ => N.follow.length - (intOf i).toNat)
  case atStart => exact ⟨0, rfl, Nat.zero_le _, Lib.hid (by trivial)⟩
  case round =>
    obtain ⟨j, rfl, hj, HH⟩ := hrel
    obtain rfl := HH.out
    by_cases hp : j < N.follow.length
    · have hk1 : IntKind.i64.wrap ((j : Int) + 1) = ((j + 1 : Nat) : Int) := by rw [IntKind.wrap_i64]; omega
      have hdl : decide ((j : Int) < (N.follow.length : Int)) = true := by simp; omega
      obtain ⟨b, o, rfl, hlt, hg⟩ := HFO.out (by intro e; rw [e] at hp; simp at hp)
      obtain ⟨vr, hcell, hvr⟩ := hg j hp
      have hcell' := (HU2.out.1.cell (p := ⟨b, o + j, none⟩) hlt).trans hcell
      obtain ⟨Ar, cr, rfl⟩ : ∃ (A : Option Addr) (c : Nat), vr = .slice A N.follow[j].length c := by
        obtain ⟨A, c, e, _⟩ := hvr
        exact ⟨A, c, e⟩
      clear hvr
      generalize N.follow[j].length = nr at *
      by_cases k6 : 60 < nr
      · have e6 : decide ((nr : Int) > 60) = true := by simp; omega
        have e6b : decide ((60 : Int) < (nr : Int)) = true := by simp; omega
        have e6n : decide (60 < nr) = true := by simp; omega
        clear k6 hcell hg
        go_wp2
        go_ret
        exact ⟨rfl, HU2.out.1⟩
      · have e6 : decide ((nr : Int) > 60) = false := by simp; omega
        have e6b : decide ((60 : Int) < (nr : Int)) = false := by simp; omega
        have e6n : decide (60 < nr) = false := by simp; omega
        clear k6 hcell hg
        go_wp2
        exact ⟨⟨j + 1, rfl, hp, Lib.hid (by trivial)⟩, by simp [intOf]; omega⟩
    · have hdl : decide ((j : Int) < (N.follow.length : Int)) = false := by simp; omega
      obtain rfl : j = N.follow.length := by omega
      have HOF := Lib.hid (of8_any A0 A1 A2 A3 A4 N.sets.length N.rules.length N.first.length N.follow.length N.ends.length c0 c1 c2 c3 c4 N.empty wz)
      go_wp2_with fail
      go_at_call 8
      refine HOF.out.mono ?_
      rintro e u3 ⟨rfl, hbu⟩
      have HU3 := Lib.hid (And.intro (HU2.out.1.trans (hbu.mono HU2.out.1.size)) (HU2.out.2.step hbu))
      have HSU := Lib.hid (subset_any N _ u3 (HNF.out.step HU3.out.1) (by omega) (HTT.out.step HU3.out.1))
      clear hbu HOF
      go_wp2_with fail
      go_at_call 7
      refine HSU.out.mono ?_
      rintro e u4 ⟨vd, rfl, hd4, hb4⟩
      have HU4 := Lib.hid (And.intro (HU3.out.1.trans (hb4.mono HU3.out.1.size)) (HU3.out.2.step hb4))
      obtain ⟨An, cn, At, ct, rfl⟩ := df_form hd4
      obtain ⟨er, her⟩ : ∃ er, (subAns N).2 = er := ⟨_, rfl⟩
      obtain ⟨Da, hDa⟩ : ∃ Da, (subAns N).1 = Da := ⟨_, rfl⟩
      rw [her]
      rw [hDa] at hd4
      rw [hDa]
      -- the answer in a variable of its own
      obtain ⟨d0, hd0⟩ : ∃ d0, df0 = d0 := ⟨_, rfl⟩
      obtain ⟨U6, hU6⟩ : ∃ U6, u4.alloc (.cells df0 35) = U6 := ⟨_, rfl⟩
      have hs6 : U6.heap.size = u4.heap.size + 1 := by rw [← hU6]; simp
      have hb6 : Below u4.heap.size u4 U6 := by rw [← hU6]; exact (Below.refl _ _).alloc (Nat.le_refl _) _
      have hx6 : BlkIs U6 u4.heap.size 35 df0 := by rw [← hU6]; exact BlkIs.new _ _ _
      obtain ⟨W9, hsc, hb9, hw9⟩ := store_blk (P := Tryd.prog) hx6 (new := dfC Da.of Da.n (.slice An Da.next.length cn) (.slice At Da.tag.length ct)) (by rw [dfC_size]; exact (dfC_size _ _ _ _).symm) (dfC_one _ _ _ _ rfl rfl)
      have hds : (dfC Da.of Da.n (.slice An Da.next.length cn) (.slice At Da.tag.length ct)).size = 259 := dfC_size _ _ _ _
      have hb49 : Below u4.heap.size u4 W9 := hw9.2.1 _ _ (Nat.le_refl _) hb6
      have HPL := Lib.hid (fun (u : World) => plain9_any Da.of Da.n An Da.next.length cn At Da.tag.length ct u)
      obtain ⟨d9, hd9⟩ : ∃ d9, dfC Da.of Da.n (.slice An Da.next.length cn) (.slice At Da.tag.length ct) = d9 := ⟨_, rfl⟩
      have HD9 := Lib.hid (And.intro (DfB.of hb9) (And.intro (hd4.step hb49) (And.intro (HU4.out.1.trans (hb49.mono HU4.out.1.size)) (HU4.out.2.step hb49))))
      have z := zeroDf
      rw [hd9] at hds hsc HPL HD9
      rw [hd0] at z hU6
      rw [hd9]
      obtain ⟨g0, g1, g2, g3, g4, g5⟩ := six HD9.out.2.2.2
      have HMY := Lib.hid (refMay8_any N _ W9 (HNF.out.step HD9.out.2.2.1))
      have HDR := Lib.hid hd0
      clear hd4 hb4 hb6 hx6 hb9 hw9 hb49 HSU HU3
      go_wp2_with fail
      go_at_call 9
      refine HMY.out.mono ?_
      rintro e v1 ⟨rfl, hbu⟩
      have HV1 := Lib.hid (And.intro (HD9.out.1.step hbu) (And.intro (HD9.out.2.1.step hbu) (And.intro (HD9.out.2.2.1.trans (hbu.mono HD9.out.2.2.1.size)) (HD9.out.2.2.2.step hbu))))
      clear hbu HMY z hsc hU6 g0 g1 g2 g3 g4 g5 f0 f1 f2 f3 f4 f5
      cases hmay : N.may with
      | false =>
        have hans : subAns N = (dfNone, 1) := by unfold subAns; rw [hmay]; rfl
        rw [hans] at her hDa
        subst her
        subst hDa
        have HSM := Lib.hid (fun (u : World) (hu : Below v1.heap.size v1 u) => sameR_any dfNone dfNone (.agg d9) (.agg df0) u (HV1.out.2.1.step hu) (dfNone_at u))
        rw [sameD_refl, hd0] at HSM
        have z := zeroDr
        rw [hd0] at z
        go_wp2_with (first
          | ((with_reducible refine wpList_gDf (.tmp 4) ?_ ?_ HV1.out.1 ?_ ?_); exact rfl; exact rfl; kernel_rfl; rw [hd9])
          | (go_at_call 11; refine (HPL.out _).mono ?_; rintro e v2 ⟨rfl, hb2⟩; have HB2 := Lib.hid hb2; clear hb2)
          | (go_at_call 10; refine (HSM.out _ HB2.out).mono ?_; rintro e v3 ⟨rfl, hb3⟩; have HB3 := Lib.hid (HV1.out.2.2.1.trans ((HB2.out.trans (hb3.mono HB2.out.size)).mono HV1.out.2.2.1.size)); clear hb3))
        go_ret
        exact ⟨rfl, HB3.out⟩
      | true =>
        have HMI := Lib.hid (may_is hmay)
        have HRS := Lib.hid (refSubset_any N _ v1 (HNF.out.step HV1.out.2.2.1) (by omega) HMI.out)
        obtain ⟨g0, g1, g2, g3, g4, g5⟩ := six HV1.out.2.2.2
        go_wp2_with fail
        go_at_call 12
        refine HRS.out.mono ?_
        rintro e v2 ⟨hrs1, hrs2, hb2⟩
        have HV2 := Lib.hid (And.intro (HV1.out.1.step hb2) (And.intro (HV1.out.2.1.step hb2) (HV1.out.2.2.1.trans (hb2.mono HV1.out.2.2.1.size))))
        clear hb2 HRS g0 g1 g2 g3 g4 g5
        obtain ⟨U7, hU7⟩ : ∃ U7, v2.alloc (.cells df0 44) = U7 := ⟨_, rfl⟩
        have hs7 : U7.heap.size = v2.heap.size + 1 := by rw [← hU7]; simp
        have hb7 : Below v2.heap.size v2 U7 := by rw [← hU7]; exact (Below.refl _ _).alloc (Nat.le_refl _) _
        have hx7 : BlkIs U7 v2.heap.size 44 df0 := by rw [← hU7]; exact BlkIs.new _ _ _
        have z := zeroDr
        rw [hd0] at z hU7
        cases hz : subZ N (lbN N) (clN N) with
        | none =>
          obtain rfl := hrs2 hz
          have hans : subAns N = (dfNone, 4) := by unfold subAns; rw [hmay, hz]; rfl
          rw [hans] at her hDa
          subst her
          subst hDa
          obtain ⟨W8, hsc, hb8, hw8⟩ := store_blk (P := Tryd.prog) hx7 (new := df0) rfl (dfC_one _ _ _ _ rfl rfl)
          have hs8 : df0.size = 259 := dfC_size _ _ _ _
          have hbb : Below v2.heap.size v2 W8 := hw8.2.1 _ _ (Nat.le_refl _) hb7
          have HV8 := Lib.hid (And.intro (HV2.out.1.step hbb) (And.intro (HV2.out.2.1.step hbb) (HV2.out.2.2.trans (hbb.mono HV2.out.2.2.size))))
          have HSM := Lib.hid (fun (u : World) (hu : Below W8.heap.size W8 u) => sameR_any dfNone dfNone (.agg d9) (.agg df0) u (HV8.out.2.1.step hu) (dfNone_at u))
          rw [sameD_refl, hd0] at HSM
          rw [hd0] at hsc hs8
          rw [hd0]
          clear hrs1 hrs2 hb8 hw8 hbb hb7 hx7 hz
          go_wp2_with (first
            | ((with_reducible refine wpList_gDf (.tmp 4) ?_ ?_ HV8.out.1 ?_ ?_); exact rfl; exact rfl; kernel_rfl; rw [hd9])
            | (go_at_call 11; refine (HPL.out _).mono ?_; rintro e v3 ⟨rfl, hb2⟩; have HB2 := Lib.hid hb2; clear hb2)
            | (go_at_call 10; refine (HSM.out _ HB2.out).mono ?_; rintro e v4 ⟨rfl, hb3⟩; have HB3 := Lib.hid (HV8.out.2.2.trans ((HB2.out.trans (hb3.mono HB2.out.size)).mono HV8.out.2.2.size)); clear hb3))
          go_ret
          exact ⟨rfl, HB3.out⟩
        | some LR =>
          obtain ⟨L, R⟩ := LR
          obtain ⟨vx, rfl, hxd⟩ := hrs1 L R hz
          have hans : subAns N = (⟨ofN N, (clN N : Nat), R, tagsL N L⟩, 0) := by unfold subAns; rw [hmay, hz]; rfl
          rw [hans] at her hDa
          subst her
          have HDM := Lib.hid (show Da.may = true by rw [← hDa]; exact sub_may HMI.out hz)
          have HOF := Lib.hid (show ∀ b, b < 256 → Da.of b < 256 by rw [← hDa]; exact ofN_lt N)
          rw [show (⟨ofN N, (clN N : Nat), R, tagsL N L⟩ : Df) = Da from hDa] at hxd
          obtain ⟨Ax, cx, Bx, cx', rfl⟩ := df_form hxd
          obtain ⟨W8, hsc, hb8, hw8⟩ := store_blk (P := Tryd.prog) hx7 (new := dfC Da.of Da.n (.slice Ax Da.next.length cx) (.slice Bx Da.tag.length cx')) (by rw [dfC_size]; exact (dfC_size _ _ _ _).symm) (dfC_one _ _ _ _ rfl rfl)
          have hs8 : (dfC Da.of Da.n (.slice Ax Da.next.length cx) (.slice Bx Da.tag.length cx')).size = 259 := dfC_size _ _ _ _
          have hbb : Below v2.heap.size v2 W8 := hw8.2.1 _ _ (Nat.le_refl _) hb7
          obtain ⟨x9, hx9⟩ : ∃ x9, dfC Da.of Da.n (.slice Ax Da.next.length cx) (.slice Bx Da.tag.length cx') = x9 := ⟨_, rfl⟩
          rw [hx9] at hsc hs8 hxd
          rw [hx9]
          have HV8 := Lib.hid (And.intro (HV2.out.1.step hbb) (And.intro (HV2.out.2.1.step hbb) (And.intro (HV2.out.2.2.trans (hbb.mono HV2.out.2.2.size)) (And.intro (DfB.of hb8) (hxd.step hbb)))))
          have HSM := Lib.hid (fun (u : World) (hu : Below W8.heap.size W8 u) => sameR_any Da Da (.agg d9) (.agg x9) u (HV8.out.2.1.step hu) (HV8.out.2.2.2.2.step hu))
          rw [sameD_refl] at HSM
          have HMD := Lib.hid (fun (u : World) (hu : Below W8.heap.size W8 u) => mayD_any Da (.agg d9) u (HV8.out.2.1.step hu) HOF.out)
          rw [HDM.out] at HMD
          have HL4 := Lib.hid (fun (u : World) (hu : Below W8.heap.size W8 u) => show (Instr.loadAt 35 (.pointer (some ⟨u4.heap.size, 0, none⟩))).run Tryd.prog u = .ok (.agg d9) u by
            have := loadDf (HV8.out.1.step hu)
            rw [hd9] at this; exact this)
          have HL6 := Lib.hid (fun (u : World) (hu : Below W8.heap.size W8 u) => show (Instr.loadAt 44 (.pointer (some ⟨v2.heap.size, 0, none⟩))).run Tryd.prog u = .ok (.agg x9) u by
            have := loadDr (HV8.out.2.2.2.1.step hu)
            rw [hx9] at this; exact this)
          clear hrs1 hrs2 hb8 hw8 hbb hb7 hx7 hz hxd
          go_wp2_with fail
          refine wp_region_free 12 12 91 (fun u => Hid (Below W8.heap.size W8 u)) (fun _ => #[]) (fun _ => 0) (by kernel_rfl) (by kernel_rfl) rfl (Lib.hid (Below.refl _ _).drew) (fun u u' h hb => Lib.hid (h.out.trans (hb.mono h.out.size))) (fun i o h1 h2 => absurd h1 (by omega)) ?_
          simp only [List.take_succ_cons, List.take_zero, List.drop_succ_cons, List.drop_zero]
          repeat
            refine freeW_step fun K hK => ?_
            (first
              | (refine freeW_yes 2 81 true rfl rfl ?_ ?_; (focus (go_simp; done)))
              | (refine freeW_yes 8 87 true rfl rfl ?_ ?_; (focus (go_simp; done)))
              | skip)
            go_simp
            apply Exists.intro
            refine ⟨fun u g1 => ?_, hK _ ?_⟩
            (first
              | exact free_load 35 (.tmp 4) _ rfl rfl (HL4.out u g1.out)
              | exact free_load 44 (.tmp 6) _ rfl rfl (HL6.out u g1.out)
              | (unfold freeAt
                 go_simp
                 first
                 | exact free_val
                 | (apply free_call
                    first
                      | (go_at_call 11; exact HPL.out _)
                      | (go_at_call 10; exact HSM.out _ g1.out)
                      | (go_at_call 13; exact HMD.out _ g1.out))))
            clear hK K
          refine freeW_nil ?_
          intro g u hu hbu _ _
          have HBE := Lib.hid (HV8.out.2.2.1.trans (hu.out.mono HV8.out.2.2.1.size))
          clear hu hbu
          go_simp
          go_wp2
          go_ret
          exact ⟨rfl, HBE.out⟩
end Go.Proofs.YtkcnknhhabbomaaDoor

