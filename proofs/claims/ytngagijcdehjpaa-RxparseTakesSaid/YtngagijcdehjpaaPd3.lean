/-
  THE READERS OF ATOMS AND ITEMS of package rxparse: contracts, given one of the reader of groups. Condition: a text has at most 400 bytes.
-/
import Derived.Test.YtngagijcdehjpaaPd2
namespace Go.Proofs.Ytngagijcdehjpaa
open Go.RowKit
section
variable {pb : Nat} {s : ByteArray} {F : Value} {fr : Frs} {W W' : World} {i o j o' : Nat} {grp : Nat → Res Tree}
/-- what the reader of groups answers -/
def GrpC (pb : Nat) (s : ByteArray) (F : Value) (fr : Frs) (o : Nat) (grp : Nat → Res Tree) : Prop := ∀ W i, Sf pb s F fr W i o → sgnAt s i = 8 → Calls Try.prog 56 #[ptrP pb] W (EndsAs pb s F W (encTree pb W.heap.size) o (grp i))
theorem not_zero (w : World) : Calls Try.prog 54 #[.agg #[.int .u64 0, .int .u64 0, .int .u64 0, .int .u64 0]] w fun e w' => e = .returned (setV (sNot fun _ => false)) ∧ Below w.heap.size w w' := by
  have h := not_any (fun _ => false) w
  unfold setV at h
  simp only [wd_zero] at h
  exact h
set_option maxHeartbeats 2000000 in
theorem atom_any (hG : GrpC pb s F fr o grp) (h : Sf pb s F fr W i o) : Calls Try.prog 43 #[ptrP pb] W (EndsAs pb s F W (encTree pb W.heap.size) o (atomP grp s fr i)) := by
  have hp := h.lt
  have hpz : W.heap.size ≠ pb := Nat.ne_of_gt hp
  have hn := fun W W0 (h : St pb s F W0 W i o) => nextS h
  have HA := Lib.hid (h.alloc (.cells zeroL.toArray 31))
  have HSA := Lib.hid (h.st.alloc (.cells zeroL.toArray 31))
  have HZ := Lib.hid (zero_new W)
  have HG := Lib.hid hG
  have hsz1 : W.heap.size < (W.alloc (.cells zeroL.toArray 31)).heap.size := by simp
  clear h hG
  unfold atomP
  by_cases h1 : sgnAt s i = 1 ∨ sgnAt s i = 17 ∨ sgnAt s i = 18
  · rw [if_pos h1]
    have hil := sgnAt_lt (s := s) (i := i) (by omega)
    have hT := bt_lt s i
    generalize hbt : bt s i = x at *
    have k1 : ∀ W W0, St pb s F W0 W i o → Calls Try.prog 52 #[ptrP pb] W fun e W' => e = .returned (.int .u8 (x : Nat)) ∧ St pb s F W0 W' (i + 1) o := fun _ _ h => hbt ▸ takeS h hil
    rcases h1 with hc | hc | hc
    all_goals
      simp only [hc] at hn
      unfold zeroL at *
      go_enter Try.func43, Try.ntmps43
      go_wp2_with (first
        | (go_at_call 42; (with_reducible refine (hn _ _ HSA.out.self).mono ?_); rintro e W1 ⟨rfl, g1⟩; have HZ1 := HZ.out.kept g1.kept hpz)
        | (go_at_call 52; (with_reducible refine (k1 _ _ g1.self).mono ?_); rintro e W2 ⟨rfl, g2⟩; have HZ2 := HZ1.kept g2.kept hpz)
        | (go_at_call 51; refine (of_one x W2.heap.size 1 _ hT (by simp) ((BlkIs.new W2 5 #[.int .u8 (x : Nat)]).cell 0)).mono ?_; rintro e W3 ⟨rfl, hb3⟩; have HZ3 := (HZ2.alloc (.cells #[.int .u8 (x : Nat)] 5)).step hb3)
        | (go_at_call 50; refine (byte_any (sOf [x]) _).mono ?_; rintro e W4 ⟨rfl, hb4⟩; have HZ4 := HZ3.step hb4)
        | (refine wpList_store_mid rfl 31 (.tmp 2) (.tmp 13) rfl W.heap.size 0 (reL 1 (sOf [x]) none 0 0 0 0).toArray rfl rfl HZ4.there info_re8 reL_all ?_))
      have g4 := (((HSA.out.back (g1.back g2)).alloc (.cells #[.int .u8 (x : Nat)] 5)).step hb3).step hb4
      exact bodyPost_ret (results_cell1 rfl rfl (load_re (store_re HZ4 rfl))) rfl (tree_ends hp (Nat.lt_succ_self _) (encTree.byte 1 (sOf [x])) g4)
  rw [if_neg h1]
  have e1 : ((sgnAt s i : Int) == 1) = false := by simp; omega
  have e17 : ((sgnAt s i : Int) == 17) = false := by simp; omega
  have e18 : ((sgnAt s i : Int) == 18) = false := by simp; omega
  clear h1
  by_cases h16 : sgnAt s i = 16
  · rw [if_pos h16]
    have hE := fun W W0 (h : St pb s F W0 W i o) => escape_any h h16
    clear e1 e17 e18
    simp only [h16] at hn
    rcases hl : escP s i with q | ⟨x, j⟩
    · simp only [hl] at hE
      simp only [Res.then]
      unfold zeroL at *
      go_enter Try.func43, Try.ntmps43
      go_wp2_with (first
        | (go_at_call 42; (with_reducible refine (hn _ _ HSA.out.self).mono ?_); rintro e W1 ⟨rfl, g1⟩; have HZ1 := HZ.out.kept g1.kept hpz)
        | (go_at_call 53; (with_reducible refine (hE _ _ (HSA.out.back g1)).mono ?_); rintro e W2 ⟨rfl, hk⟩))
      exact ⟨rfl, rfl, hk⟩
    · simp only [hl] at hE
      simp only [Res.then]
      unfold zeroL at *
      go_enter Try.func43, Try.ntmps43
      go_wp2_with (first
        | (go_at_call 42; (with_reducible refine (hn _ _ HSA.out.self).mono ?_); rintro e W1 ⟨rfl, g1⟩; have HZ1 := HZ.out.kept g1.kept hpz)
        | (go_at_call 53; (with_reducible refine (hE _ _ g1.self).mono ?_); rintro e W2 ⟨⟨v, rfl, rfl, hT⟩, g2⟩; have HZ2 := HZ1.kept g2.kept hpz)
        | (go_at_call 51; refine (of_one x W2.heap.size 1 _ hT (by simp) ((BlkIs.new W2 5 #[.int .u8 (x : Nat)]).cell 0)).mono ?_; rintro e W3 ⟨rfl, hb3⟩; have HZ3 := (HZ2.alloc (.cells #[.int .u8 (x : Nat)] 5)).step hb3)
        | (go_at_call 50; refine (byte_any (sOf [x]) _).mono ?_; rintro e W4 ⟨rfl, hb4⟩; have HZ4 := HZ3.step hb4)
        | (refine wpList_store_mid rfl 31 (.tmp 2) (.tmp 20) rfl W.heap.size 0 (reL 1 (sOf [x]) none 0 0 0 0).toArray rfl rfl HZ4.there info_re8 reL_all ?_))
      have g4 := (((HSA.out.back (g1.back g2)).alloc (.cells #[.int .u8 (x : Nat)] 5)).step hb3).step hb4
      exact bodyPost_ret (results_cell1 rfl rfl (load_re (store_re HZ4 rfl))) rfl (tree_ends hp (Nat.lt_succ_self _) (encTree.byte 1 (sOf [x])) g4)
  rw [if_neg h16]
  have e16 : ((sgnAt s i : Int) == 16) = false := by simp; omega
  by_cases h12 : sgnAt s i = 12
  · rw [if_pos h12]
    have hil := sgnAt_lt (s := s) (i := i) (by omega)
    have hs4 := HSA.out.2.2.2
    have ew : wrap64 ((i : Int) + 1) = (i : Int) + 1 := by unfold wrap64; omega
    clear e1 e17 e18 e16 hs4
    simp only [h12] at hn
    unfold zeroL at *
    go_enter Try.func43, Try.ntmps43
    go_wp2_with (first
      | (go_at_call 42; (with_reducible refine (hn _ _ HSA.out.self).mono ?_); rintro e W1 ⟨rfl, g1⟩; obtain ⟨c0, c1, c2, c3, f0, f1, f2, f3⟩ := g1.cells)
      | (go_at_call 54; refine (not_zero _).mono ?_; rintro e W3 ⟨rfl, hb3⟩)
      | (go_at_call 50; refine (byte_any (sNot fun _ => false) _).mono ?_; rintro e W4 ⟨rfl, hb4⟩; have HZ4 := (((HZ.out.kept g1.kept hpz).far (p := ⟨pb, 1, none⟩) hpz (.int .i64 ((i : Int) + 1))).step hb3).step hb4)
      | (refine wpList_store_mid rfl 31 (.tmp 2) (.tmp 32) rfl W.heap.size 0 (reL 1 (sNot fun _ => false) none 0 0 0 0).toArray rfl rfl HZ4.there info_re8 reL_all ?_))
    have g4 := (((HSA.out.back g1).to1 hil).step hb3).step hb4
    exact bodyPost_ret (results_cell1 rfl rfl (load_re (store_re HZ4 rfl))) rfl (tree_ends hp (Nat.lt_succ_self _) (encTree.byte 1 (sNot fun _ => false)) g4)
  rw [if_neg h12]
  have e12 : ((sgnAt s i : Int) == 12) = false := by simp; omega
  by_cases h10 : sgnAt s i = 10
  · rw [if_pos h10]
    have hC := fun W W0 (h : St pb s F W0 W i o) => class_any h h10
    clear e1 e17 e18 e16 e12
    simp only [h10] at hn
    rcases hl : classP s i with q | ⟨m, j⟩
    · simp only [hl] at hC
      simp only [Res.then]
      unfold zeroL at *
      go_enter Try.func43, Try.ntmps43
      go_wp2_with (first
        | (go_at_call 42; (with_reducible refine (hn _ _ HSA.out.self).mono ?_); rintro e W1 ⟨rfl, g1⟩; have HZ1 := HZ.out.kept g1.kept hpz)
        | (go_at_call 55; (with_reducible refine (hC _ _ g1.self g1.is.lt (Nat.le_refl _)).mono ?_); rintro e W2 ⟨rfl, hk⟩))
      exact ⟨rfl, rfl, HSA.out.kept.trans (g1.kept.trans hk)⟩
    · simp only [hl] at hC
      simp only [Res.then]
      unfold zeroL at *
      go_enter Try.func43, Try.ntmps43
      go_wp2_with (first
        | (go_at_call 42; (with_reducible refine (hn _ _ HSA.out.self).mono ?_); rintro e W1 ⟨rfl, g1⟩; have HZ1 := HZ.out.kept g1.kept hpz)
        | (go_at_call 55; (with_reducible refine (hC _ _ g1.self g1.is.lt (Nat.le_refl _)).mono ?_); rintro e W2 ⟨⟨v, rfl, rfl⟩, g2⟩; have HZ2 := HZ1.kept g2.kept hpz)
        | (go_at_call 50; refine (byte_any m _).mono ?_; rintro e W4 ⟨rfl, hb4⟩; have HZ4 := HZ2.step hb4)
        | (refine wpList_store_mid rfl 31 (.tmp 2) (.tmp 37) rfl W.heap.size 0 (reL 1 (m) none 0 0 0 0).toArray rfl rfl HZ4.there info_re8 reL_all ?_))
      have g4 := (HSA.out.back (g1.back g2)).step hb4
      exact bodyPost_ret (results_cell1 rfl rfl (load_re (store_re HZ4 rfl))) rfl (tree_ends hp (Nat.lt_succ_self _) (encTree.byte 1 m) g4)
  rw [if_neg h10]
  have e10 : ((sgnAt s i : Int) == 10) = false := by simp; omega
  by_cases h8 : sgnAt s i = 8
  · rw [if_pos h8]
    clear e1 e17 e18 e16 e12 e10
    simp only [h8] at hn
    rcases hl : grp i with q | ⟨T, j⟩
    · have hC := fun W (h : Sf pb s F fr W i o) => HG.out W i h h8
      simp only [hl] at hC
      unfold zeroL at *
      go_enter Try.func43, Try.ntmps43
      go_wp2_with (first
        | (go_at_call 42; (with_reducible refine (hn _ _ HSA.out.self).mono ?_); rintro e W1 ⟨rfl, g1⟩; have HZ1 := HZ.out.kept g1.kept hpz)
        | (go_at_call 56; (with_reducible refine (hC _ (HA.out.to g1)).mono ?_); rintro e W2 ⟨rfl, hk⟩))
      exact ⟨rfl, rfl, HSA.out.kept.trans (g1.kept.trans hk)⟩
    · have hC := fun W (h : Sf pb s F fr W i o) => HG.out W i h h8
      simp only [hl] at hC
      unfold zeroL at *
      go_enter Try.func43, Try.ntmps43
      go_wp2_with (first
        | (go_at_call 42; (with_reducible refine (hn _ _ HSA.out.self).mono ?_); rintro e W1 ⟨rfl, g1⟩; have HZ1 := HZ.out.kept g1.kept hpz)
        | (go_at_call 56; (with_reducible refine (hC _ (HA.out.to g1)).mono ?_); rintro e W2 ⟨⟨v, rfl, henc⟩, g2⟩; have HZ2 := HZ1.kept g2.kept hpz; obtain ⟨A, n, c, rfl⟩ := henc.at.form)
        | (refine wpList_store_mid rfl 31 (.tmp 2) (.tmp 41) rfl W.heap.size 0 (reL T.kind T.set A n c T.lo T.hi).toArray rfl rfl HZ2.there info_re8 reL_all ?_))
      exact bodyPost_ret (results_cell1 rfl rfl (load_re (store_re HZ2 rfl))) rfl (tree_ends hp (Nat.lt_of_lt_of_le hsz1 g1.kept.1.size) henc (HSA.out.back (g1.back g2)))
  rw [if_neg h8]
  have e8 : ((sgnAt s i : Int) == 8) = false := by simp; omega
  by_cases h13 : sgnAt s i = 13
  · rw [if_pos h13]
    clear e1 e17 e18 e16 e12 e10 e8
    simp only [h13] at hn
    rcases hl : fragP s fr i with q | ⟨T, j⟩
    · have hC := fun W (h : Sf pb s F fr W i o) => fragment_any h h13
      simp only [hl] at hC
      unfold zeroL at *
      go_enter Try.func43, Try.ntmps43
      go_wp2_with (first
        | (go_at_call 42; (with_reducible refine (hn _ _ HSA.out.self).mono ?_); rintro e W1 ⟨rfl, g1⟩; have HZ1 := HZ.out.kept g1.kept hpz)
        | (go_at_call 57; (with_reducible refine (hC _ (HA.out.to g1)).mono ?_); rintro e W2 ⟨rfl, hk⟩))
      exact ⟨rfl, rfl, HSA.out.kept.trans (g1.kept.trans hk)⟩
    · have hC := fun W (h : Sf pb s F fr W i o) => fragment_any h h13
      simp only [hl] at hC
      unfold zeroL at *
      go_enter Try.func43, Try.ntmps43
      go_wp2_with (first
        | (go_at_call 42; (with_reducible refine (hn _ _ HSA.out.self).mono ?_); rintro e W1 ⟨rfl, g1⟩; have HZ1 := HZ.out.kept g1.kept hpz)
        | (go_at_call 57; (with_reducible refine (hC _ (HA.out.to g1)).mono ?_); rintro e W2 ⟨⟨v, rfl, henc⟩, g2⟩; have HZ2 := HZ1.kept g2.kept hpz; obtain ⟨A, n, c, rfl⟩ := henc.at.form)
        | (refine wpList_store_mid rfl 31 (.tmp 2) (.tmp 45) rfl W.heap.size 0 (reL T.kind T.set A n c T.lo T.hi).toArray rfl rfl HZ2.there info_re8 reL_all ?_))
      exact bodyPost_ret (results_cell1 rfl rfl (load_re (store_re HZ2 rfl))) rfl (tree_ends hp (Nat.lt_of_lt_of_le hsz1 g1.kept.1.size) henc (HSA.out.back (g1.back g2)))
  rw [if_neg h13]
  have e13 : ((sgnAt s i : Int) == 13) = false := by simp; omega
  unfold zeroL at *
  go_enter Try.func43, Try.ntmps43
  go_wp2_with (first
    | (go_at_call 42; (with_reducible refine (hn _ _ HSA.out.self).mono ?_); rintro e W1 ⟨rfl, g1⟩; have HZ1 := HZ.out.kept g1.kept hpz)
    | (go_at_call 28; refine (wrongS g1).mono ?_; rintro e W7 ⟨rfl, hk⟩))
  exact ⟨rfl, rfl, HSA.out.kept.trans hk⟩
end
end Go.Proofs.Ytngagijcdehjpaa

