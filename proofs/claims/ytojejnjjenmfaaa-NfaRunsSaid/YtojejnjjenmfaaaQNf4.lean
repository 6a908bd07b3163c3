/-
  WHAT hackleref08.May ANSWERS: a contract: what nfa.May does. No condition but that the automaton lies there.
-/
import Derived.Test.YtojejnjjenmfaaaQG06
namespace Go.Proofs.Ytojejnjjenmfaaa
open Go.RowKit

attribute [local irreducible] FreeW

set_option maxRecDepth 20000 in
set_option maxHeartbeats 8000000 in
theorem refMay8_any (N : Nf) (v : Value) (w : World) (h : NfaAt w N v) : Calls Try.prog 22 #[v] w fun e w' => e = .returned (.bool N.may) ∧ Below w.heap.size w w' := by
  obtain ⟨v0, v1, v2, v3, v4, rfl, hs0, hs1, hs2, hs3, hs4⟩ := h
  have hcr := fun (l : List Int) (x : Value) (u : World) (hx : IntsV u l x) => refRising_any l x
  obtain ⟨A0, c0, rfl, hc0, hx0⟩ := hs0
  obtain ⟨A4, c4, rfl, hc4, hx4⟩ := hs4
  obtain ⟨A1, c1, rfl, hc1, hg1⟩ := hs1
  have hv2 := hs2
  obtain ⟨A2, c2, rfl, hc2, hg2⟩ := hs2
  obtain ⟨A3, c3, rfl, hc3, hg3⟩ := hs3
  have hb0 : Below w.heap.size w (w.alloc (.cells #[.slice A0 N.sets.length c0, .slice A1 N.rules.length c1, .slice A2 N.first.length c2, .slice A3 N.follow.length c3, .slice A4 N.ends.length c4, .int .i64 N.empty] 42)) := (Below.refl _ _).alloc (Nat.le_refl _) _
  have H0 := Lib.hid (And.intro hb0 (BlkIs.new w 42 #[.slice A0 N.sets.length c0, .slice A1 N.rules.length c1, .slice A2 N.first.length c2, .slice A3 N.follow.length c3, .slice A4 N.ends.length c4, .int .i64 N.empty]))
  have HR2 := Lib.hid (fun (u : World) (hu : Below w.heap.size w u) => refRising_any N.first (.slice A2 N.first.length c2) A0 A1 A2 A3 A4 N.sets.length N.rules.length N.first.length N.follow.length N.ends.length c0 c1 c2 c3 c4 N.empty u (hv2.step hu))
  have HRI := Lib.hid (fun (l : List Int) (x : Value) (u : World) (hx : IntsV u l x) => refRising_any l x A0 A1 A2 A3 A4 N.sets.length N.rules.length N.first.length N.follow.length N.ends.length c0 c1 c2 c3 c4 N.empty u hx)
  have HG1 := Lib.hid hg1
  have HG3 := Lib.hid hg3
  obtain ⟨R, hR⟩ : ∃ R, R = N.may := ⟨_, rfl⟩
  rw [← hR]
  unfold Nf.may Nf.sized Nf.rest at hR
  clear hcr hb0 hv2 hg1 hg2 hg3 hx0 hx4
  obtain ⟨d0, d1, d2, d3, d4, d5⟩ := six H0.out.2
  generalize N.empty = em at *
  generalize risesB (↑N.sets.length) (-1) N.first = rf at *
  generalize N.first.length = n2 at *
  generalize N.rules = ru at *
  generalize N.follow = fo at *
  generalize N.ends.length = n4 at *
  generalize N.sets.length = n0 at *
  by_cases hk : n0 ≤ 2000
  case neg =>
    have e0 : decide ((n0 : Int) > 2000) = true := by simp; omega
    have e0b : decide ((2000 : Int) < (n0 : Int)) = true := by simp; omega
    have HF := Lib.hid (show R = false by rw [hR]; simp [hk])
    clear hR hk
    go_enter Try.func22, Try.ntmps22
    go_wp2
    go_ret
    exact ⟨by rw [HF.out]; rfl, H0.out.1⟩
  have e0 : decide ((n0 : Int) > 2000) = false := by simp; omega
  have e0b : decide ((2000 : Int) < (n0 : Int)) = false := by simp; omega
  by_cases h1 : ru.length = n0
  case neg =>
    have e1 : ((ru.length : Int) != (n0 : Int)) = true := by simp; omega
    have HF := Lib.hid (show R = false by rw [hR]; simp [h1])
    clear hR hk h1
    go_enter Try.func22, Try.ntmps22
    go_wp2
    go_ret
    exact ⟨by rw [HF.out]; rfl, H0.out.1⟩
  have e1 : ((ru.length : Int) != (n0 : Int)) = false := by simp; omega
  by_cases h3 : fo.length = n0
  case neg =>
    have e3 : ((fo.length : Int) != (n0 : Int)) = true := by simp; omega
    have HF := Lib.hid (show R = false by rw [hR]; simp [h3])
    clear hR hk h1 h3
    go_enter Try.func22, Try.ntmps22
    go_wp2
    go_ret
    exact ⟨by rw [HF.out]; rfl, H0.out.1⟩
  have e3 : ((fo.length : Int) != (n0 : Int)) = false := by simp; omega
  by_cases h4 : n4 = n0
  case neg =>
    have e4 : ((n4 : Int) != (n0 : Int)) = true := by simp; omega
    have HF := Lib.hid (show R = false by rw [hR]; simp [h4])
    clear hR hk h1 h3 h4
    go_enter Try.func22, Try.ntmps22
    go_wp2
    go_ret
    exact ⟨by rw [HF.out]; rfl, H0.out.1⟩
  have e4 : ((n4 : Int) != (n0 : Int)) = false := by simp; omega
  by_cases h5 : -1 ≤ em
  case neg =>
    have e5 : decide (em < -1) = true := by simp; omega
    have HF := Lib.hid (show R = false by rw [hR]; simp [h5])
    clear hR hk h1 h3 h4 h5
    go_enter Try.func22, Try.ntmps22
    go_wp2
    go_ret
    exact ⟨by rw [HF.out]; rfl, H0.out.1⟩
  have e5 : decide (em < -1) = false := by simp; omega
  by_cases h6 : em < 40
  case neg =>
    have e6 : decide (em > 39) = true := by simp; omega
    have e6b : decide (39 < em) = true := by simp; omega
    have HF := Lib.hid (show R = false by rw [hR]; simp [h6])
    clear hR hk h1 h3 h4 h5 h6
    go_enter Try.func22, Try.ntmps22
    go_wp2
    go_ret
    exact ⟨by rw [HF.out]; rfl, H0.out.1⟩
  have e6 : decide (em > 39) = false := by simp; omega
  have e6b : decide (39 < em) = false := by simp; omega
  have HEQ := Lib.hid (And.intro h1 h3)
  cases rf with
  | false =>
    have HF := Lib.hid (show R = false by rw [hR]; simp)
    clear hR hk h1 h3 h4 h5 h6
    go_enter Try.func22, Try.ntmps22
    go_wp2_with fail
    go_at_call 53
    refine (HR2.out _ H0.out.1).mono ?_
    rintro e u ⟨rfl, hbu⟩
    have HU := Lib.hid (H0.out.1.trans (hbu.mono H0.out.1.size))
    clear hbu
    go_wp2
    go_ret
    exact ⟨by rw [HF.out]; rfl, HU.out⟩
  | true =>
    have HN := Lib.hid (show R = (ru.all okR && fo.all (risesB n0 (-1))) by rw [hR]; simp [h1, h3, h4, hk, h5, h6])
    have hn0 : n0 ≤ 2000 := hk
    clear hR hk h1 h3 h4 h5 h6
    go_enter Try.func22, Try.ntmps22
    go_wp2_with fail
    go_at_call 53
    refine (HR2.out _ H0.out.1).mono ?_
    rintro e u ⟨rfl, hbu⟩
    have HU := Lib.hid (And.intro (H0.out.1.trans (hbu.mono H0.out.1.size)) (H0.out.2.step hbu))
    clear hbu d0 d1 d2 d3 d4 d5
    go_wp2
    go_loopw [4] (fun i wr => ∃ j : Nat, i = .int .i64 j ∧ j ≤ n0 ∧ Hid ((Below w.heap.size w wr ∧ BlkIs wr w.heap.size 42 #[.slice A0 n0 c0, .slice A1 ru.length c1, .slice A2 n2 c2, .slice A3 fo.length c3, .slice A4 n4 c4, .int .i64 em]) ∧ R = ((ru.drop j).all okR && (fo.drop j).all (risesB n0 (-1))))) (fun i _ => n0 - (intOf i).toNat)
    case atStart => exact ⟨0, rfl, Nat.zero_le _, Lib.hid ⟨HU.out, HN.out⟩⟩
    case round =>
      obtain ⟨j, rfl, hj, HH⟩ := hrel
      by_cases hp : j < n0
      · have hk1 : IntKind.i64.wrap ((j : Int) + 1) = ((j + 1 : Nat) : Int) := by rw [IntKind.wrap_i64]; omega
        have hdl : decide ((j : Int) < (n0 : Int)) = true := by simp; omega
        have hp1 : j < ru.length := by rw [HEQ.out.1]; exact hp
        have hp3 : j < fo.length := by rw [HEQ.out.2]; exact hp
        have hj1 : (j : Int) < (ru.length : Int) := by omega
        have hj3 : (j : Int) < (fo.length : Int) := by omega
        obtain ⟨b1, o1, rfl, hlt1, hg1⟩ := HG1.out (by intro e; rw [e] at hp1; simp at hp1)
        obtain ⟨b3, o3, rfl, hlt3, hg3⟩ := HG3.out (by intro e; rw [e] at hp3; simp at hp3)
        have hcell1 := hg1 j hp1
        obtain ⟨x3, hcell3, hrow⟩ := hg3 j hp3
        have hd := HH.out.2
        rw [List.drop_eq_getElem_cons hp1, List.drop_eq_getElem_cons hp3, List.all_cons, List.all_cons] at hd
        have HCALL := Lib.hid (fun (u : World) (hu : Below w.heap.size w u) => HRI.out _ x3 u (hrow.step hu))
        have HCL := Lib.hid (fun (u : World) (hu : Below w.heap.size w u) => And.intro ((hu.cell (p := ⟨b1, o1 + j, none⟩) hlt1).trans hcell1) ((hu.cell (p := ⟨b3, o3 + j, none⟩) hlt3).trans hcell3))
        obtain ⟨Ar, cr, rfl, _, _⟩ := hrow
        clear hg1 hg3 hcell1 hcell3
        generalize ru[j] = p at *
        generalize fo[j] = row at *
        generalize risesB (↑n0) (-1) row = rb at *
        have HD := Lib.hid hd
        clear hd hp1 hp3
        by_cases g1 : p < 0
        · have q1 : decide (p < 0) = true := by simp; omega
          have HF := Lib.hid (show R = false by rw [HD.out, show okR p = false by unfold okR; rw [show decide (0 ≤ p) = false by simp; omega]; rfl]; simp)
          clear g1
          go_wp2_with fail
          refine wp_region_reads 77 (fun u => Hid (Below w.heap.size w u ∧ BlkIs u w.heap.size 42 #[.slice A0 n0 c0, .slice (some ⟨b1, o1, none⟩) ru.length c1, .slice A2 n2 c2, .slice (some ⟨b3, o3, none⟩) fo.length c3, .slice A4 n4 c4, .int .i64 em])) (by kernel_rfl) (by kernel_rfl) rfl (Lib.hid ⟨HH.out.1.1.drew, HH.out.1.2.drew⟩) (fun u u' h hb => Lib.hid ⟨h.out.1.trans (hb.mono h.out.1.size), h.out.2.step hb⟩) ?_
          repeat
            refine freeW_step fun K hK => ?_
            first
              | ((first
                    | (refine freeW_no 6 59 false rfl rfl ?_ ?_; (focus (go_simp; done)))
                    | (refine freeW_no 14 67 false rfl rfl ?_ ?_; (focus (go_simp; done))))
                 have HK := Go.Lib.hid hK
                 clear hK
                 go_simp
                 have hK := HK.out
                 clear HK
                 refine hK _ ?_
                 clear hK K)
              | (skip
                 (first
                   | skip)
                 go_simp
                 apply Exists.intro
                 refine ⟨fun u h1 => ?_, hK _ ?_⟩
                 · obtain ⟨y0, y1⟩ := HCL.out u h1.out.1
                   obtain ⟨k0, k1, k2, k3, k4, k5⟩ := six h1.out.2
                   unfold freeAt
                   go_simp
                   first
                     | exact free_val
                     | (apply free_call
                        first
                          | (go_at_call 53; with_reducible exact HCALL.out u h1.out.1)
                        )
                 clear hK K)
          refine freeW_nil ?_
          intro u hC hb2
          have HC := Lib.hid hC.out
          clear hC hb2
          go_wp2
          go_ret
          exact ⟨by rw [HF.out]; rfl, HC.out.1⟩
        · have q1 : decide (p < 0) = false := by simp; omega
          by_cases g2 : 39 < p
          · have q2 : decide (p > 39) = true := by simp; omega
            have q2b : decide (39 < p) = true := by simp; omega
            have HF := Lib.hid (show R = false by rw [HD.out, show okR p = false by unfold okR; rw [show decide (p < 40) = false by simp; omega]; simp]; simp)
            clear g1 g2
            go_wp2_with fail
            refine wp_region_reads 77 (fun u => Hid (Below w.heap.size w u ∧ BlkIs u w.heap.size 42 #[.slice A0 n0 c0, .slice (some ⟨b1, o1, none⟩) ru.length c1, .slice A2 n2 c2, .slice (some ⟨b3, o3, none⟩) fo.length c3, .slice A4 n4 c4, .int .i64 em])) (by kernel_rfl) (by kernel_rfl) rfl (Lib.hid ⟨HH.out.1.1.drew, HH.out.1.2.drew⟩) (fun u u' h hb => Lib.hid ⟨h.out.1.trans (hb.mono h.out.1.size), h.out.2.step hb⟩) ?_
            repeat
              refine freeW_step fun K hK => ?_
              first
                | ((first
                      | (refine freeW_no 14 67 false rfl rfl ?_ ?_; (focus (go_simp; done))))
                   have HK := Go.Lib.hid hK
                   clear hK
                   go_simp
                   have hK := HK.out
                   clear HK
                   refine hK _ ?_
                   clear hK K)
                | (skip
                   (first
                     | (refine freeW_yes 6 59 false rfl rfl ?_ ?_; (focus (go_simp; done)))
                     | skip)
                   go_simp
                   apply Exists.intro
                   refine ⟨fun u h1 => ?_, hK _ ?_⟩
                   · obtain ⟨y0, y1⟩ := HCL.out u h1.out.1
                     obtain ⟨k0, k1, k2, k3, k4, k5⟩ := six h1.out.2
                     unfold freeAt
                     go_simp
                     first
                       | exact free_val
                       | (apply free_call
                          first
                            | (go_at_call 53; with_reducible exact HCALL.out u h1.out.1)
                          )
                   clear hK K)
            refine freeW_nil ?_
            intro u hC hb2
            have HC := Lib.hid hC.out
            clear hC hb2
            go_wp2
            go_ret
            exact ⟨by rw [HF.out]; rfl, HC.out.1⟩
          · have q2 : decide (p > 39) = false := by simp; omega
            have q2b : decide (39 < p) = false := by simp; omega
            have HP := Lib.hid (show okR p = true by unfold okR; simp; omega)
            clear g1 g2
            cases rb with
            | false =>
              have HF := Lib.hid (show R = false by rw [HD.out]; simp)
              go_wp2_with fail
              refine wp_region_reads 77 (fun u => Hid (Below w.heap.size w u ∧ BlkIs u w.heap.size 42 #[.slice A0 n0 c0, .slice (some ⟨b1, o1, none⟩) ru.length c1, .slice A2 n2 c2, .slice (some ⟨b3, o3, none⟩) fo.length c3, .slice A4 n4 c4, .int .i64 em])) (by kernel_rfl) (by kernel_rfl) rfl (Lib.hid ⟨HH.out.1.1.drew, HH.out.1.2.drew⟩) (fun u u' h hb => Lib.hid ⟨h.out.1.trans (hb.mono h.out.1.size), h.out.2.step hb⟩) ?_
              repeat
                refine freeW_step fun K hK => ?_
                (first
                  | (refine freeW_yes 6 59 false rfl rfl ?_ ?_; (focus (go_simp; done)))
                  | (refine freeW_yes 14 67 false rfl rfl ?_ ?_; (focus (go_simp; done)))
                  | skip)
                go_simp
                apply Exists.intro
                refine ⟨fun u h1 => ?_, hK _ ?_⟩
                · obtain ⟨y0, y1⟩ := HCL.out u h1.out.1
                  obtain ⟨k0, k1, k2, k3, k4, k5⟩ := six h1.out.2
                  unfold freeAt
                  go_simp
                  first
                    | exact free_val
                    | (apply free_call
                       first
                         | (go_at_call 53; with_reducible exact HCALL.out u h1.out.1)
                       )
                clear hK K
              refine freeW_nil ?_
              intro u hC hb2
              have HC := Lib.hid hC.out
              clear hC hb2
              go_wp2
              go_ret
              exact ⟨by rw [HF.out]; rfl, HC.out.1⟩
            | true =>
              have HF := Lib.hid (show R = ((ru.drop (j + 1)).all okR && (fo.drop (j + 1)).all (risesB n0 (-1))) by rw [HD.out, HP.out]; simp only [Bool.true_and])
              go_wp2_with fail
              refine wp_region_reads 77 (fun u => Hid (Below w.heap.size w u ∧ BlkIs u w.heap.size 42 #[.slice A0 n0 c0, .slice (some ⟨b1, o1, none⟩) ru.length c1, .slice A2 n2 c2, .slice (some ⟨b3, o3, none⟩) fo.length c3, .slice A4 n4 c4, .int .i64 em])) (by kernel_rfl) (by kernel_rfl) rfl (Lib.hid ⟨HH.out.1.1.drew, HH.out.1.2.drew⟩) (fun u u' h hb => Lib.hid ⟨h.out.1.trans (hb.mono h.out.1.size), h.out.2.step hb⟩) ?_
              repeat
                refine freeW_step fun K hK => ?_
                (first
                  | (refine freeW_yes 6 59 false rfl rfl ?_ ?_; (focus (go_simp; done)))
                  | (refine freeW_yes 14 67 false rfl rfl ?_ ?_; (focus (go_simp; done)))
                  | skip)
                go_simp
                apply Exists.intro
                refine ⟨fun u h1 => ?_, hK _ ?_⟩
                · obtain ⟨y0, y1⟩ := HCL.out u h1.out.1
                  obtain ⟨k0, k1, k2, k3, k4, k5⟩ := six h1.out.2
                  unfold freeAt
                  go_simp
                  first
                    | exact free_val
                    | (apply free_call
                       first
                         | (go_at_call 53; with_reducible exact HCALL.out u h1.out.1)
                       )
                clear hK K
              refine freeW_nil ?_
              intro u hC hb2
              have HC := Lib.hid hC.out
              clear hC hb2
              go_wp2
              exact ⟨⟨j + 1, rfl, hp, Lib.hid ⟨HC.out, HF.out⟩⟩, by simp [intOf]; omega⟩
      · have hdl : decide ((j : Int) < (n0 : Int)) = false := by simp; omega
        have HF := Lib.hid (show R = true by rw [HH.out.2, List.drop_eq_nil_of_le (by rw [HEQ.out.1]; omega), List.drop_eq_nil_of_le (by rw [HEQ.out.2]; omega)]; rfl)
        go_wp2
        go_ret
        exact ⟨by rw [HF.out]; rfl, HH.out.1.1⟩
end Go.Proofs.Ytojejnjjenmfaaa

