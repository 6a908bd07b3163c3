/-
  hacklelaw04.RxFacts ANSWERS true, whatever the tree: the trees that may be. No condition.
-/
import Derived.Test.YtdnbfpgcmamdbaaFacts1
namespace Go.Proofs.Ytdnbfpgcmamdbaa
open Go.RowKit

theorem SetsRow.at {W : World} {A : Option Addr} {n c : Nat} {ms : List (Nat → Bool)} (h : SetsRow W (.slice A n c) ms) (i : Nat) (hi : i < ms.length) : ∃ b, A = some ⟨b, 0, none⟩ ∧ b < W.heap.size ∧
    (W.cell? ⟨b, i * 4, none⟩ = some (.int .u64 (wd ms[i] 0 : Nat)) ∧ W.cell? ⟨b, i * 4 + 1, none⟩ = some (.int .u64 (wd ms[i] 1 : Nat)) ∧ W.cell? ⟨b, i * 4 + 2, none⟩ = some (.int .u64 (wd ms[i] 2 : Nat)) ∧ W.cell? ⟨b, i * 4 + 3, none⟩ = some (.int .u64 (wd ms[i] 3 : Nat))) := by
  obtain ⟨A', c', e, f⟩ := h.form
  cases e
  exact f i hi

set_option maxRecDepth 20000 in
set_option maxHeartbeats 16000000 in
theorem facts_may (T : Tree) (v : Value) (w : World) (hat : T.At w v) (hslow : T.slow = false) (hm : T.mayN = true) : Calls Try.prog 4 #[v] w fun e w' => e = .returned (.bool true) ∧ Below w.heap.size w w' := by
  obtain ⟨A, n, c, rfl⟩ := hat.form
  have H0 := Lib.hid (ex_start0 hat)
  have hnodes := slow_nodes hslow
  have hok := may_ok hm
  have hsn := sets_nodes T
  have HS := Lib.hid (fun u (h : T.At u (reV T.kind T.set A n c T.lo T.hi)) => slow_any T _ u h)
  have HM := Lib.hid (fun u (h : T.At u (reV T.kind T.set A n c T.lo T.hi)) => refMayRe_any T _ u h)
  have HN := Lib.hid (fun u (h : T.At u (reV T.kind T.set A n c T.lo T.hi)) => sets_some T _ u h (by omega) hm)
  have HR := Lib.hid (fun u (h : T.At u (reV T.kind T.set A n c T.lo T.hi)) => refSets_any T _ u (by omega) h)
  have HV := Lib.hid (fun u (h : T.At u (reV T.kind T.set A n c T.lo T.hi)) => void_any T _ u h (by omega))
  have HE := Lib.hid (fun u (h : T.At u (reV T.kind T.set A n c T.lo T.hi)) => empty_any T _ u h (by omega))
  have HRV := Lib.hid (fun u (h : T.At u (reV T.kind T.set A n c T.lo T.hi)) => refVoid_any T _ u hok h)
  have HRT := Lib.hid (fun u (h : T.At u (reV T.kind T.set A n c T.lo T.hi)) => refTakes_any T _ ⟨#[]⟩ (by decide) u hok h)
  clear hat
  rw [hslow] at HS
  rw [may_small (by omega), hm] at HM
  obtain ⟨s1, s2, _, _⟩ := says_any T hok
  have htx : T.txOf = T.tx := by unfold Tree.txOf; rw [if_pos hm]
  rw [htx, s1] at HV
  rw [htx, s2] at HE
  have hte : T.takes (⟨#[]⟩ : ByteArray).data.toList = T.empty := takes_nil T hok
  rw [hte] at HRT
  clear s1 s2 htx hte hslow hm hok
  generalize T.void = vv at *
  generalize T.empty = ee at *
  obtain ⟨ms, hms⟩ : ∃ ms, ms = T.sets := ⟨_, rfl⟩
  rw [← hms] at HN HR hsn
  clear hms
  have hmlen : ms.length ≤ 20000 := by omega
  clear hsn hnodes
  unfold reV reL at *
  go_enter Try.func4, Try.ntmps4
  go_wp2_with (first
    | (go_at_call 8; go_must (refine (alive_any _).mono ?_); rintro e w1 ⟨rfl, hb⟩; have HX := Lib.hid (H0.out.step hb); clear hb; obtain ⟨c0, c1, c2, c3, c4, c5, c6, c7⟩ := HX.out.2.1.eight)
    | (go_at_call 18; go_must (refine (HS.out _ HX.out.1).mono ?_); rintro e w2 ⟨rfl, hb⟩; have HX := Lib.hid (HX.out.step hb); clear hb c0 c1 c2 c3 c4 c5 c6 c7; obtain ⟨c0, c1, c2, c3, c4, c5, c6, c7⟩ := HX.out.2.1.eight)
    | (go_at_call 19; go_must (refine (HN.out _ HX.out.1).mono ?_); rintro e w3 ⟨x, rfl, hx, hb⟩; obtain ⟨A1, c11, rfl, _⟩ := hx.form; have HX := Lib.hid (HX.out.step hb); have HA := Lib.hid hx; clear hx hb c0 c1 c2 c3 c4 c5 c6 c7; obtain ⟨c0, c1, c2, c3, c4, c5, c6, c7⟩ := HX.out.2.1.eight)
    | (go_at_call 11; go_must (refine (HM.out _ HX.out.1).mono ?_); rintro e w4 ⟨rfl, hb⟩; have HX := Lib.hid (HX.out.step hb); have HA := Lib.hid (HA.out.step hb); clear hb c0 c1 c2 c3 c4 c5 c6 c7; obtain ⟨c0, c1, c2, c3, c4, c5, c6, c7⟩ := HX.out.2.1.eight)
    | (go_at_call 24; go_must (refine (HR.out _ HX.out.1).mono ?_); rintro e w5 ⟨y, rfl, hy, hb⟩; obtain ⟨A2, c12, rfl, _⟩ := hy.form; have HX := Lib.hid (HX.out.step hb); have HA := Lib.hid (HA.out.step hb); have HB := Lib.hid hy; clear hy hb c0 c1 c2 c3 c4 c5 c6 c7; obtain ⟨c0, c1, c2, c3, c4, c5, c6, c7⟩ := HX.out.2.1.eight))
  clear c0 c1 c2 c3 c4 c5 c6 c7
  refine wp_region_reads 76 (fun u => ExIs w T w.heap.size A n c u ∧ SetsRow u (.slice A1 ms.length c11) ms ∧ SetsRow u (.slice A2 ms.length c12) ms) (by kernel_rfl) (by kernel_rfl) rfl ⟨⟨HX.out.1.step (Below.refl _ _).drew, HX.out.2.1.drew, HX.out.2.2.drew⟩, HA.out.step (Below.refl _ _).drew, HB.out.step (Below.refl _ _).drew⟩ (fun u u' h hb => ⟨h.1.step hb, h.2.1.step hb, h.2.2.step hb⟩) ?_
  repeat
    refine freeW_step fun K hK => ?_
    go_simp
    apply Exists.intro
    refine ⟨fun u h1 h2 h3 => ?_, hK _ ?_⟩
    have h1' := Lib.hid h1
    clear h1 h2 h3
    obtain ⟨c0, c1, c2, c3, c4, c5, c6, c7⟩ := h1'.out.2.1.eight
    unfold freeAt
    go_simp
    first
      | exact free_val
      | (apply free_call
         first
           | (go_at_call 20; exact HV.out _ h1'.out.1)
           | (go_at_call 21; exact HE.out _ h1'.out.1)
           | (go_at_call 25; exact HRV.out _ h1'.out.1)
           | (go_at_call 26; exact HRT.out _ h1'.out.1))
    clear hK K
  refine freeW_nil ?_
  intro u hu _
  have HU := Lib.hid hu
  clear hu HX HA HB H0 HS HM HN HR HV HE HRV HRT
  go_wp2
  go_loopw [5] (fun i wr => ∃ j : Nat, i = .int .i64 j ∧ j ≤ ms.length ∧ Hid (Below w.heap.size w wr ∧ SetsRow wr (.slice A1 ms.length c11) ms ∧ SetsRow wr (.slice A2 ms.length c12) ms)) (fun i _ => ms.length - (intOf i).toNat)
  case atStart => exact ⟨0, rfl, Nat.zero_le _, Lib.hid ⟨HU.out.1.2.2, HU.out.2.1, HU.out.2.2⟩⟩
  case round =>
    obtain ⟨j, rfl, hj, HH⟩ := hrel
    by_cases hp : j < ms.length
    · have hdl : decide ((j : Int) < (ms.length : Int)) = true := by simp; omega
      obtain ⟨b1, rfl, _⟩ := HH.out.2.1.at j hp
      obtain ⟨b2, rfl, _⟩ := HH.out.2.2.at j hp
      have hk1 : IntKind.i64.wrap ((j : Int) + 1) = ((j + 1 : Nat) : Int) := by rw [IntKind.wrap_i64]; omega
      have hq := fun u => ne_set ms[j] ms[j] u
      simp only [setEq_refl, Bool.not_true] at hq
      unfold setV at hq
      have hat1 : ∀ u b c', SetsRow u (.slice (some ⟨b, 0, none⟩) ms.length c') ms → (u.cell? ⟨b, j * 4, none⟩ = some (.int .u64 (wd ms[j] 0 : Nat)) ∧ u.cell? ⟨b, j * 4 + 1, none⟩ = some (.int .u64 (wd ms[j] 1 : Nat)) ∧ u.cell? ⟨b, j * 4 + 2, none⟩ = some (.int .u64 (wd ms[j] 2 : Nat)) ∧ u.cell? ⟨b, j * 4 + 3, none⟩ = some (.int .u64 (wd ms[j] 3 : Nat))) := fun u b c' h => by
        obtain ⟨b', e, _, h4⟩ := h.at j hp
        cases e
        exact h4
      have HAT := Lib.hid hat1
      clear hat1
      generalize ms[j] = m at *
      go_wp2
      refine wp_region_reads 76 (fun u => Below w.heap.size w u ∧ SetsRow u (.slice (some ⟨b1, 0, none⟩) ms.length c11) ms ∧ SetsRow u (.slice (some ⟨b2, 0, none⟩) ms.length c12) ms) (by kernel_rfl) (by kernel_rfl) rfl ⟨HH.out.1.drew, HH.out.2.1.step (Below.refl _ _).drew, HH.out.2.2.step (Below.refl _ _).drew⟩ (fun u u' h hb => ⟨h.1.trans (hb.mono h.1.size), h.2.1.step hb, h.2.2.step hb⟩) ?_
      repeat
        refine freeW_step fun K hK => ?_
        go_simp
        apply Exists.intro
        refine ⟨fun u h1 h2 h3 => ?_, hK _ ?_⟩
        obtain ⟨x0, x1, x2, x3⟩ := HAT.out _ _ _ h2
        obtain ⟨y0, y1, y2, y3⟩ := HAT.out _ _ _ h3
        clear h1 h2 h3
        unfold freeAt
        go_simp
        exact free_val
        clear hK K
      refine freeW_nil ?_
      intro u' hu' _
      have HU' := Lib.hid hu'
      clear hu'
      go_wp2
      exact ⟨⟨j + 1, by go_num, by omega, HU'⟩, by simp [intOf]; omega⟩
    · have hdl : decide ((j : Int) < (ms.length : Int)) = false := by simp; omega
      go_wp2
      go_ret
      exact ⟨rfl, HH.out.1⟩

theorem rxFacts_any (T : Tree) (v : Value) (w : World) (hat : T.At w v) : Calls Try.prog 4 #[v] w fun e w' => e = .returned (.bool true) ∧ Below w.heap.size w w' := by
  cases h : T.slow
  · cases hm : T.mayN
    · exact facts_not T v w hat h hm
    · exact facts_may T v w hat h hm
  · exact facts_slow T v w hat h

end Go.Proofs.Ytdnbfpgcmamdbaa
