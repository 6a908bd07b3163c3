/-
  hacklelaw04.RxFacts ANSWERS true, whatever the tree. No condition.
-/
import Derived.Test.YtdnbfpgcmamdbaaSets6
import Derived.Test.YtdnbfpgcmamdbaaLaw4a
namespace Go.Proofs.Ytdnbfpgcmamdbaa
open Go.RowKit

theorem SetsRow.form {W : World} {v : Value} {ms : List (Nat → Bool)} (h : SetsRow W v ms) : ∃ A c, v = .slice A ms.length c ∧ ∀ i (hi : i < ms.length), ∃ b, A = some ⟨b, 0, none⟩ ∧ b < W.heap.size ∧
    (W.cell? ⟨b, i * 4, none⟩ = some (.int .u64 (wd ms[i] 0 : Nat)) ∧ W.cell? ⟨b, i * 4 + 1, none⟩ = some (.int .u64 (wd ms[i] 1 : Nat)) ∧ W.cell? ⟨b, i * 4 + 2, none⟩ = some (.int .u64 (wd ms[i] 2 : Nat)) ∧ W.cell? ⟨b, i * 4 + 3, none⟩ = some (.int .u64 (wd ms[i] 3 : Nat))) := by
  rcases h with ⟨rfl, rfl⟩ | ⟨b, c, rfl, _, _, hb, hcell⟩
  · exact ⟨none, 0, rfl, fun i hi => by simp at hi⟩
  · exact ⟨_, c, rfl, fun i hi => ⟨b, rfl, hb, hcell _ _ (flatS_get ms i hi 0 _ rfl), hcell _ _ (flatS_get ms i hi 1 _ rfl), hcell _ _ (flatS_get ms i hi 2 _ rfl), hcell _ _ (flatS_get ms i hi 3 _ rfl)⟩⟩

set_option maxRecDepth 20000 in
set_option maxHeartbeats 16000000 in
theorem facts_slow (T : Tree) (v : Value) (w : World) (hat : T.At w v) (hslow : T.slow = true) : Calls Try.prog 4 #[v] w fun e w' => e = .returned (.bool true) ∧ Below w.heap.size w w' := by
  obtain ⟨A, n, c, rfl⟩ := hat.form
  have H0 := Lib.hid (ex_start0 hat)
  have HS := Lib.hid (fun u (h : T.At u (reV T.kind T.set A n c T.lo T.hi)) => slow_any T _ u h)
  clear hat
  rw [hslow] at HS
  unfold reV reL at *
  go_enter Try.func4, Try.ntmps4
  go_wp2_with (first
    | (go_at_call 8; go_must (refine (alive_any _).mono ?_); rintro e w1 ⟨rfl, hb⟩; have HX := Lib.hid (H0.out.step hb); clear hb; obtain ⟨c0, c1, c2, c3, c4, c5, c6, c7⟩ := HX.out.2.1.eight)
    | (go_at_call 18; go_must (refine (HS.out _ HX.out.1).mono ?_); rintro e w2 ⟨rfl, hb⟩; have HX := Lib.hid (HX.out.step hb); clear hb))
  go_ret
  exact ⟨rfl, HX.out.2.2⟩

set_option maxRecDepth 20000 in
set_option maxHeartbeats 16000000 in
theorem facts_not (T : Tree) (v : Value) (w : World) (hat : T.At w v) (hslow : T.slow = false) (hm : T.mayN = false) : Calls Try.prog 4 #[v] w fun e w' => e = .returned (.bool true) ∧ Below w.heap.size w w' := by
  obtain ⟨A, n, c, rfl⟩ := hat.form
  have H0 := Lib.hid (ex_start0 hat)
  have hnodes := slow_nodes hslow
  have HS := Lib.hid (fun u (h : T.At u (reV T.kind T.set A n c T.lo T.hi)) => slow_any T _ u h)
  have HM := Lib.hid (fun u (h : T.At u (reV T.kind T.set A n c T.lo T.hi)) => refMayRe_any T _ u h)
  have HN := Lib.hid (fun u (h : T.At u (reV T.kind T.set A n c T.lo T.hi)) => sets_none T _ u h (by omega) hm)
  have HV := Lib.hid (fun u (h : T.At u (reV T.kind T.set A n c T.lo T.hi)) => void_any T _ u h (by omega))
  have HE := Lib.hid (fun u (h : T.At u (reV T.kind T.set A n c T.lo T.hi)) => empty_any T _ u h (by omega))
  have HF := Lib.hid (fun u (h : T.At u (reV T.kind T.set A n c T.lo T.hi)) => first_any T _ u h (by omega))
  have HL := Lib.hid (fun u (h : T.At u (reV T.kind T.set A n c T.lo T.hi)) => last_any T _ u h (by omega))
  clear hat
  rw [hslow] at HS
  rw [may_small (by omega), hm] at HM
  have ht : T.txOf = .zero := by unfold Tree.txOf; rw [if_neg (by simp [hm])]
  rw [ht] at HV HE HF HL
  have hne := eql_set (fun _ => false) (fun _ => false)
  simp only [setEq_refl] at hne
  dsimp only [Tx.zero] at HV HE HF HL
  rw [set0_build] at hne HF HL
  unfold reV reL at *
  go_enter Try.func4, Try.ntmps4
  go_wp2_with (first
    | (go_at_call 8; go_must (refine (alive_any _).mono ?_); rintro e w1 ⟨rfl, hb⟩; have HX := Lib.hid (H0.out.step hb); clear hb; obtain ⟨c0, c1, c2, c3, c4, c5, c6, c7⟩ := HX.out.2.1.eight)
    | (go_at_call 18; go_must (refine (HS.out _ HX.out.1).mono ?_); rintro e w2 ⟨rfl, hb⟩; have HX := Lib.hid (HX.out.step hb); clear hb c0 c1 c2 c3 c4 c5 c6 c7; obtain ⟨c0, c1, c2, c3, c4, c5, c6, c7⟩ := HX.out.2.1.eight)
    | (go_at_call 19; go_must (refine (HN.out _ HX.out.1).mono ?_); rintro e w3 ⟨rfl, hb⟩; have HX := Lib.hid (HX.out.step hb); clear hb c0 c1 c2 c3 c4 c5 c6 c7; obtain ⟨c0, c1, c2, c3, c4, c5, c6, c7⟩ := HX.out.2.1.eight)
    | (go_at_call 11; go_must (refine (HM.out _ HX.out.1).mono ?_); rintro e w3 ⟨rfl, hb⟩; have HX := Lib.hid (HX.out.step hb); clear hb c0 c1 c2 c3 c4 c5 c6 c7; obtain ⟨c0, c1, c2, c3, c4, c5, c6, c7⟩ := HX.out.2.1.eight)
    | (go_at_call 20; go_must (refine (HV.out _ HX.out.1).mono ?_); rintro e w3 ⟨rfl, hb⟩; have HX := Lib.hid (HX.out.step hb); clear hb c0 c1 c2 c3 c4 c5 c6 c7; obtain ⟨c0, c1, c2, c3, c4, c5, c6, c7⟩ := HX.out.2.1.eight)
    | (go_at_call 21; go_must (refine (HE.out _ HX.out.1).mono ?_); rintro e w3 ⟨rfl, hb⟩; have HX := Lib.hid (HX.out.step hb); clear hb c0 c1 c2 c3 c4 c5 c6 c7; obtain ⟨c0, c1, c2, c3, c4, c5, c6, c7⟩ := HX.out.2.1.eight)
    | (go_at_call 22; go_must (refine (HF.out _ HX.out.1).mono ?_); rintro e w3 ⟨rfl, hb⟩; have HX := Lib.hid (HX.out.step hb); clear hb c0 c1 c2 c3 c4 c5 c6 c7; obtain ⟨c0, c1, c2, c3, c4, c5, c6, c7⟩ := HX.out.2.1.eight)
    | (go_at_call 23; go_must (refine (HL.out _ HX.out.1).mono ?_); rintro e w3 ⟨rfl, hb⟩; have HX := Lib.hid (HX.out.step hb); clear hb c0 c1 c2 c3 c4 c5 c6 c7; obtain ⟨c0, c1, c2, c3, c4, c5, c6, c7⟩ := HX.out.2.1.eight))
  go_ret
  exact ⟨rfl, HX.out.2.2⟩

end Go.Proofs.Ytdnbfpgcmamdbaa
