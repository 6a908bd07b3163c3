/-
  hacklelaw04.RxFirst ANSWERS true, whatever the tree. No condition.
-/
import Derived.Test.YtfodpkciahkehaaLaw4a
import Derived.Test.YtfodpkciahkehaaBegins4
namespace Go.Proofs.Ytfodpkciahkehaa
open Go.RowKit

/-- what begins with a text of one byte is told by first -/
theorem begins_one (T : Tree) (hok : T.ok = true) (c : UInt8) : T.begins [c] (atP 0) = T.first c.toNat := by
  rw [one_any c T hok]
  have h0 : atP 0 0 = true := rfl
  have h1 : atP 0 1 = false := rfl
  rw [h0, h1]
  cases hv : T.void
  · simp
  · rw [void_first c.toNat T hok (by have := UInt8.toNat_lt c; omega) hv]
    simp

set_option maxRecDepth 20000 in
set_option maxHeartbeats 16000000 in
theorem first_may (T : Tree) (v : Value) (w : World) (hat : T.At w v) (hslow : T.slow = false) (hmay : T.mayN = true) : Calls Try.prog 4 #[v] w fun e w' => e = .returned (.bool true) ∧ Below w.heap.size w w' := by
  obtain ⟨A, n, c, rfl⟩ := hat.form
  have H0 := Lib.hid (ex_start0 hat)
  have HS := Lib.hid (fun u (h : T.At u (reV T.kind T.set A n c T.lo T.hi)) => slow_any T _ u h)
  have HM := Lib.hid (fun u (h : T.At u (reV T.kind T.set A n c T.lo T.hi)) => refMayRe_any T _ u h)
  clear hat
  rw [hslow] at HS
  have hnodes := slow_nodes hslow
  rw [may_small (by omega), hmay] at HM
  have hok := may_ok hmay
  obtain ⟨s1, _, s3, s4⟩ := says_any T hok
  have htx : T.txOf = T.tx := by unfold Tree.txOf; rw [if_pos hmay]
  have HF := Lib.hid (fun u (h : T.At u (reV T.kind T.set A n c T.lo T.hi)) => first_any T _ u h (by omega))
  have HFF := Lib.hid (show ∀ b, b < 256 → T.txOf.f b = T.first b from fun b hb => by rw [htx]; exact s3 b hb)
  clear s1 s3 s4 htx
  generalize T.txOf.f = ff at *
  have HOK := Lib.hid hok
  clear hok hmay hslow
  unfold setV at HF
  unfold reV reL at *
  go_enter Try.func4, Try.ntmps4
  go_wp2_with (first
    | (go_at_call 6; go_must (refine (alive_any _).mono ?_); rintro e w1 ⟨rfl, hb⟩; have HX := Lib.hid (H0.out.step hb); clear hb; obtain ⟨c0, c1, c2, c3, c4, c5, c6, c7⟩ := HX.out.2.1.eight)
    | (go_at_call 16; go_must (refine (HS.out _ HX.out.1).mono ?_); rintro e w2 ⟨rfl, hb⟩; have HX := Lib.hid (HX.out.step hb); clear hb c0 c1 c2 c3 c4 c5 c6 c7; obtain ⟨c0, c1, c2, c3, c4, c5, c6, c7⟩ := HX.out.2.1.eight)
    | (go_at_call 9; go_must (refine (HM.out _ HX.out.1).mono ?_); rintro e w3 ⟨rfl, hb⟩; have HX := Lib.hid (HX.out.step hb); clear hb c0 c1 c2 c3 c4 c5 c6 c7; obtain ⟨c0, c1, c2, c3, c4, c5, c6, c7⟩ := HX.out.2.1.eight)
    | (go_at_call 17; go_must (refine (HF.out _ HX.out.1).mono ?_); rintro e w4 ⟨rfl, hb⟩; have HX := Lib.hid (HX.out.step hb); clear hb c0 c1 c2 c3 c4 c5 c6 c7))
  have HXB := Lib.hid (And.intro (HX.out.step ((Below.refl _ w4).alloc (Nat.le_refl _) (.cells #[.int .u64 (wd ff 0 : Nat), .int .u64 (wd ff 1 : Nat), .int .u64 (wd ff 2 : Nat), .int .u64 (wd ff 3 : Nat)] 24))) (BlkIs.new w4 24 #[.int .u64 (wd ff 0 : Nat), .int .u64 (wd ff 1 : Nat), .int .u64 (wd ff 2 : Nat), .int .u64 (wd ff 3 : Nat)]))
  go_loopw [4] (fun i wr => ∃ j : Nat, i = .int .i64 j ∧ j ≤ 256 ∧ Hid (ExIs w T w.heap.size A n c wr ∧ BlkIs wr w4.heap.size 24 #[.int .u64 (wd ff 0 : Nat), .int .u64 (wd ff 1 : Nat), .int .u64 (wd ff 2 : Nat), .int .u64 (wd ff 3 : Nat)])) (fun i _ => 256 - (intOf i).toNat)
  case atStart => exact ⟨0, rfl, Nat.zero_le _, HXB⟩
  case round =>
    obtain ⟨j, rfl, hj, HH⟩ := hrel
    by_cases hp : j < 256
    · have hdl : decide ((j : Int) < 256) = true := by simp; omega
      have hk1 : IntKind.i64.wrap ((j : Int) + 1) = ((j + 1 : Nat) : Int) := by rw [IntKind.wrap_i64]; omega
      have hk8 : IntKind.u8.wrap (j : Int) = (j : Int) := by rw [IntKind.wrap_u8]; omega
      obtain ⟨s, hs⟩ : ∃ s : ByteArray, s = ⟨#[UInt8.ofNat j]⟩ := ⟨_, rfl⟩
      have hcv : (convert 33 9 (.slice (some ⟨wr.heap.size, 0, none⟩) 1 1)).run Try.prog (wr.alloc (.cells #[.int .u8 (j : Int)] 5)) = .ok (.string s) (wr.alloc (.cells #[.int .u8 (j : Int)] 5)) := by
        have h := run_convert_bytes_back (P := Try.prog) (wr.alloc (.cells #[.int .u8 (j : Int)] 5)) 33 9 5 ⟨wr.heap.size, 0, none⟩ 1 [UInt8.ofNat j] Try.underlying33 Try.underlying5 Try.underlying9 (fun t ht => by
          obtain rfl : t = 0 := by simpa using ht
          have hj8 : (UInt8.ofNat j).toNat = j := by rw [UInt8.toNat_ofNat']; omega
          simp [Addr.add, hj8])
        rw [hs]
        exact h
      have hb9 : Below wr.heap.size wr (wr.alloc (.cells #[.int .u8 (j : Int)] 5)) := (Below.refl _ _).alloc (Nat.le_refl _) _
      have hj8 : (UInt8.ofNat j).toNat = j := by rw [UInt8.toNat_ofNat']; omega
      have hsz : s.size = 1 := by rw [hs]; rfl
      have hbg : T.begins s.data.toList (atP 0) = ff j := by
        have h1 : s.data.toList = [UInt8.ofNat j] := by rw [hs]
        rw [h1, begins_one T HOK.out, hj8, HFF.out j hp]
      have HHas := Lib.hid (fun u => refHas_any ff j hp u)
      have HAt := Lib.hid (fun u => refAt_any s (by omega) 2 (by omega) 0 (by omega) u)
      have HBg := Lib.hid (fun u g0 (h : T.At u (reV T.kind T.set A n c T.lo T.hi)) (hf : BlkIs u g0 4 (bl 2 (atP 0))) => refBegins_any s (by omega) 2 (by omega) T _ u g0 (atP 0) HOK.out h hf)
      rw [hbg] at HBg
      have H9 := Lib.hid (And.intro (HH.out.1.step hb9) (HH.out.2.step hb9))
      clear hb9 hj8 hsz hbg
      clear hs
      unfold setV at HHas
      unfold EndsIs at HAt
      unfold BoolIs reV reL at HBg
      generalize ff j = q at *
      go_wp2_with fail
      refine wp_region_held_drew (S := fun u => ExIs w T w.heap.size A n c u ∧ BlkIs u w4.heap.size 24 #[.int .u64 (wd ff 0 : Nat), .int .u64 (wd ff 1 : Nat), .int .u64 (wd ff 2 : Nat), .int .u64 (wd ff 3 : Nat)]) (by kernel_rfl) ⟨H9.out.1.step (Below.refl _ _).drew, H9.out.2.drew⟩ ?_
      intro hS0
      refine wpAnyH_take (i := 3) (v := reV T.kind T.set A n c T.lo T.hi) rfl (by kernel_rfl) (by kernel_rfl) (by kernel_rfl) (fun _ _ _ h => h) (.inl ⟨rfl, fun u hu => exec_load4 27 (.tmp 1) _ rfl rfl (loadRe hu.1.2.1)⟩) hS0 ?_
      refine wpAnyH_take (i := 0) (v := .agg #[.int .u64 (wd ff 0 : Nat), .int .u64 (wd ff 1 : Nat), .int .u64 (wd ff 2 : Nat), .int .u64 (wd ff 3 : Nat)]) rfl (by kernel_rfl) (by kernel_rfl) (by kernel_rfl) (fun _ _ _ h => h) (.inl ⟨rfl, fun u hu => by
        obtain ⟨e0, e1, e2, e3⟩ : _ ∧ _ ∧ _ ∧ _ := ⟨hu.2.cell 0, hu.2.cell 1, hu.2.cell 2, hu.2.cell 3⟩
        simp at e0 e1 e2 e3
        go_simp⟩) hS0 ?_
      refine wpAnyH_take (i := 1) (v := .int .i64 (j : Int)) rfl (by kernel_rfl) (by kernel_rfl) (by kernel_rfl) (fun _ _ _ h => h) (.inl ⟨rfl, fun u hu => by go_simp⟩) hS0 ?_
      refine wpAnyH_take (i := 4) (v := .string s) rfl (by kernel_rfl) (by kernel_rfl) (by kernel_rfl) (fun _ _ _ h => h) (.inl ⟨rfl, fun u hu => by go_simp⟩) hS0 ?_
      refine wpAnyH_take (i := 5) (v := .string s) rfl (by kernel_rfl) (by kernel_rfl) (by kernel_rfl) (fun _ _ _ h => h) (.inl ⟨rfl, fun u hu => by go_simp⟩) hS0 ?_
      refine wpAnyH_ready (rs := [2]) (by kernel_rfl) (by simp) ?_
      refine AllReadyH.cons rfl (fun K hK => ?_) AllReadyH.nil
      go_simp
      go_at_call 18
      refine (HHas.out _).mono ?_
      rintro e w6 ⟨rfl, hb6⟩
      refine hK.out _ _ ⟨hS0.1.step hb6, hS0.2.step hb6⟩ (fun hS1 => ?_)
      clear hK K hS0 hb6
      refine wpAnyH_ready (rs := [6]) (by kernel_rfl) (by simp) ?_
      refine AllReadyH.cons rfl (fun K hK => ?_) AllReadyH.nil
      go_simp
      go_at_call 20
      refine (HAt.out _).mono ?_
      rintro e w7 ⟨g7, rfl, hg7, hr7, hb7⟩
      refine hK.out _ _ ⟨hS1.1.step hb7, hS1.2.step hb7⟩ (fun hS2 => ?_)
      have HB2 := Lib.hid (HBg.out w7 g7 hS2.1.1 hr7)
      clear hK K hS1 hb7 hr7 hg7
      refine wpAnyH_ready (rs := [7]) (by kernel_rfl) (by simp) ?_
      refine AllReadyH.cons rfl (fun K hK => ?_) AllReadyH.nil
      go_simp
      go_at_call 19
      refine HB2.out.mono ?_
      rintro e w8 ⟨rfl, hb8⟩
      refine hK.out _ _ ⟨hS2.1.step hb8, hS2.2.step hb8⟩ (fun hS3 => ?_)
      clear hK K hS2 hb8 HB2
      refine wpAnyH_ready (rs := [8]) (by kernel_rfl) (by simp) ?_
      refine AllReadyH.cons rfl (fun K hK => ?_) AllReadyH.nil
      go_simp
      refine hK.out _ _ hS3 (fun hS4 => ?_)
      clear hK K
      refine wpAnyH_done (by kernel_rfl) ?_ _
      have HS4 := Lib.hid hS4
      clear hS3 hS4
      go_wp2
      exact ⟨⟨j + 1, by go_num, by omega, HS4⟩, by simp [intOf]; omega⟩
    · have hdl : decide ((j : Int) < 256) = false := by simp; omega
      go_wp2
      go_ret
      exact ⟨rfl, HH.out.1.2.2⟩

set_option maxRecDepth 20000 in
set_option maxHeartbeats 16000000 in
theorem first_out (T : Tree) (v : Value) (w : World) (hat : T.At w v) (h : T.slow = true ∨ T.slow = false ∧ T.mayN = false) : Calls Try.prog 4 #[v] w fun e w' => e = .returned (.bool true) ∧ Below w.heap.size w w' := by
  obtain ⟨A, n, c, rfl⟩ := hat.form
  have H0 := Lib.hid (ex_start0 hat)
  have HS := Lib.hid (fun u (h : T.At u (reV T.kind T.set A n c T.lo T.hi)) => slow_any T _ u h)
  have HM := Lib.hid (fun u (h : T.At u (reV T.kind T.set A n c T.lo T.hi)) => refMayRe_any T _ u h)
  clear hat
  rcases h with hslow | ⟨hslow, hmay⟩
  · rw [hslow] at HS
    clear hslow
    unfold reV reL at *
    go_enter Try.func4, Try.ntmps4
    go_wp2_with (first
      | (go_at_call 6; go_must (refine (alive_any _).mono ?_); rintro e w1 ⟨rfl, hb⟩; have HX := Lib.hid (H0.out.step hb); clear hb; obtain ⟨c0, c1, c2, c3, c4, c5, c6, c7⟩ := HX.out.2.1.eight)
      | (go_at_call 16; go_must (refine (HS.out _ HX.out.1).mono ?_); rintro e w2 ⟨rfl, hb⟩; have HX := Lib.hid (HX.out.step hb); clear hb))
    go_ret
    exact ⟨rfl, HX.out.2.2⟩
  · rw [hslow] at HS
    have hnodes := slow_nodes hslow
    rw [may_small (by omega), hmay] at HM
    clear hslow hmay hnodes
    unfold reV reL at *
    go_enter Try.func4, Try.ntmps4
    go_wp2_with (first
      | (go_at_call 6; go_must (refine (alive_any _).mono ?_); rintro e w1 ⟨rfl, hb⟩; have HX := Lib.hid (H0.out.step hb); clear hb; obtain ⟨c0, c1, c2, c3, c4, c5, c6, c7⟩ := HX.out.2.1.eight)
      | (go_at_call 16; go_must (refine (HS.out _ HX.out.1).mono ?_); rintro e w2 ⟨rfl, hb⟩; have HX := Lib.hid (HX.out.step hb); clear hb c0 c1 c2 c3 c4 c5 c6 c7; obtain ⟨c0, c1, c2, c3, c4, c5, c6, c7⟩ := HX.out.2.1.eight)
      | (go_at_call 9; go_must (refine (HM.out _ HX.out.1).mono ?_); rintro e w3 ⟨rfl, hb⟩; have HX := Lib.hid (HX.out.step hb); clear hb))
    go_ret
    exact ⟨rfl, HX.out.2.2⟩

theorem rxFirst_any (T : Tree) (v : Value) (w : World) (hat : T.At w v) : Calls Try.prog 4 #[v] w fun e w' => e = .returned (.bool true) ∧ Below w.heap.size w w' := by
  cases h : T.slow
  · cases hm : T.mayN
    · exact first_out T v w hat (.inr ⟨h, hm⟩)
    · exact first_may T v w hat h hm
  · exact first_out T v w hat (.inl h)

end Go.Proofs.Ytfodpkciahkehaa
