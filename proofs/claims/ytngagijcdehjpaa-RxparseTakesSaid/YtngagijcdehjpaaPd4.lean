/-
  THE READER OF ITEMS of package rxparse: a contract, given one of the reader of groups. Condition: a text has at most 400 bytes.
-/
import Derived.Test.YtngagijcdehjpaaPd3
namespace Go.Proofs.Ytngagijcdehjpaa
open Go.RowKit
section
variable {pb : Nat} {s : ByteArray} {F : Value} {fr : Frs} {W W1 W' : World} {i o j o' : Nat} {grp : Nat → Res Tree} {T : Tree} {A : Option Addr} {n c : Nat}
theorem laid (hp : pb < W.heap.size) (hz : BlkIs W1 W.heap.size 31 zeroL.toArray) {b : Nat} (henc : encTree pb b W1 T (reV T.kind T.set A n c T.lo T.hi)) (g1 : St pb s F W W1 j o) :
    BlkIs ((W1.alloc (.cells zeroL.toArray 31)).setCells W1.heap.size 0 (reL T.kind T.set A n c T.lo T.hi)) W1.heap.size 31 (reL T.kind T.set A n c T.lo T.hi).toArray ∧
    BlkIs ((W1.alloc (.cells zeroL.toArray 31)).setCells W1.heap.size 0 (reL T.kind T.set A n c T.lo T.hi)) W.heap.size 31 zeroL.toArray ∧
    encTree pb b ((W1.alloc (.cells zeroL.toArray 31)).setCells W1.heap.size 0 (reL T.kind T.set A n c T.lo T.hi)) T (reV T.kind T.set A n c T.lo T.hi) ∧
    St pb s F W ((W1.alloc (.cells zeroL.toArray 31)).setCells W1.heap.size 0 (reL T.kind T.set A n c T.lo T.hi)) j o ∧ W1.heap.size ≠ pb := by
  have hne : W.heap.size ≠ W1.heap.size := Nat.ne_of_lt hz.lt
  refine ⟨store_re (BlkIs.new W1 31 zeroL.toArray) rfl, BlkIs.farCells hne _ _ _ (hz.alloc _), henc.sub (hide_sub fun k h1 h2 => ⟨h1, ?_⟩), (g1.alloc _).news hp (Nat.le_of_lt hz.lt) _ _, Nat.ne_of_gt g1.is.lt⟩
  rw [heap_cells _ _ (Nat.ne_of_lt h2)]
  exact Below.heap_alloc W1 _ k h2
theorem enc_rep {b b' : Nat} (h : encTree pb b W T (reV T.kind T.set A n c T.lo T.hi)) (hb : b' ≤ b) (hb2 : b' ≤ W.heap.size) (lo hi : Int) :
    encTree pb b' (W.alloc (.cells (reL T.kind T.set A n c T.lo T.hi).toArray 31)) (repT T lo hi) (reV 4 (fun _ => false) (some ⟨W.heap.size, 0, none⟩) 1 1 lo hi) := by
  unfold encTree repT Tree.At
  refine ⟨some ⟨W.heap.size, 0, none⟩, 1, rfl, ⟨Nat.le_refl _, by decide⟩, fun _ => ⟨W.heap.size, 0, rfl, AllAt.mk _ _ _ fun i hi => ?_⟩⟩
  obtain rfl : i = 0 := by simpa using hi
  refine ⟨reL T.kind T.set A n c T.lo T.hi, h.sub (hide_sub fun k h1 h2 => ?_), rfl, fun j v hv => hide_show ?_ ?_⟩
  · rw [Hd_no] at h1 ⊢
    exact ⟨⟨by omega, by simp⟩, Below.heap_alloc W _ k h2⟩
  · rw [Hd_no]
    exact ⟨Or.inr hb2, by simp⟩
  · have := (BlkIs.new W 31 (reL T.kind T.set A n c T.lo T.hi).toArray).cell j
    rw [Nat.zero_add, this, List.getElem?_toArray]; exact hv
theorem rep_ends {W3 : World} (hp : pb < W.heap.size) {b : Nat} (hb : W.heap.size < b) (henc : encTree pb b W3 T (reV T.kind T.set A n c T.lo T.hi)) (hz : BlkIs W3 W.heap.size 31 zeroL.toArray) (g : St pb s F W W3 j o) (lo hi : Int) :
    BlkIs (W3.alloc (.cells (reL T.kind T.set A n c T.lo T.hi).toArray 31)) W.heap.size 31 zeroL.toArray ∧
    EndsAs pb s F W (encTree pb W.heap.size) o (.ok (repT T lo hi, j)) (.returned (reV 4 (fun _ => false) (some ⟨W3.heap.size, 0, none⟩) 1 1 lo hi)) ((W3.alloc (.cells (reL T.kind T.set A n c T.lo T.hi).toArray 31)).setCells W.heap.size 0 (reL 4 (fun _ => false) (some ⟨W3.heap.size, 0, none⟩) 1 1 lo hi)) :=
  ⟨hz.alloc _, tree_ends hp (Nat.lt_succ_self _) (enc_rep henc hb hz.lt lo hi) (g.alloc _)⟩
theorem there8 {W : World} {g : Nat} {t : TypeId} {cs : Array Value} (h : BlkIs W g t cs) (hs : cs.size = 8) {k lo hi : Int} {m : Nat → Bool} {A : Option Addr} {n c : Nat} : W.there g 0 (reL k m A n c lo hi).toArray.size := by
  have := h.there
  rw [hs] at this
  exact this
set_option maxHeartbeats 1000000 in
theorem item_any (hG : GrpC pb s F fr o grp) (h : Sf pb s F fr W i o) : Calls Try.prog 40 #[ptrP pb] W (EndsAs pb s F W (encTree pb W.heap.size) o (itemP grp s fr i)) := by
  have hp := h.lt
  have hpz : W.heap.size ≠ pb := Nat.ne_of_gt hp
  have HA := Lib.hid (h.alloc (.cells zeroL.toArray 31))
  have HSA := Lib.hid (h.st.alloc (.cells zeroL.toArray 31))
  have HZ := Lib.hid (zero_new W)
  have hAt := fun W (h : Sf pb s F fr W i o) => atom_any hG h
  have hsz : W.heap.size < (W.alloc (.cells zeroL.toArray 31)).heap.size := by simp
  have hs4 := h.st.2.2.2
  clear h hG
  unfold itemP
  rcases hl : atomP grp s fr i with q | ⟨T, j⟩
  · simp only [hl] at hAt
    simp only [Res.then]
    unfold zeroL at *
    go_enter Try.func40, Try.ntmps40
    go_wp2_with (first
      | (go_at_call 43; (with_reducible refine (hAt _ HA.out).mono ?_); rintro e W1 ⟨rfl, hk⟩))
    exact ⟨rfl, rfl, HSA.out.kept.trans hk⟩
  simp only [hl] at hAt
  simp only [Res.then]
  have hn := fun W W0 (h : St pb s F W0 W j o) => nextS h
  by_cases h3 : sgnAt s j = 3
  · rw [if_pos h3]
    have hil := sgnAt_lt (s := s) (i := j) (by omega)
    have ew : wrap64 ((j : Int) + 1) = (j : Int) + 1 := by unfold wrap64; omega
    simp only [h3] at hn
    clear hs4
    unfold zeroL at *
    go_enter Try.func40, Try.ntmps40
    go_wp2_with (first
      | (go_at_call 43; (with_reducible refine (hAt _ HA.out).mono ?_); rintro e W1 ⟨⟨v, rfl, henc⟩, g1⟩; obtain ⟨A, n, c, rfl⟩ := henc.at.form; have HL := Lib.hid (laid hp (HZ.out.kept g1.kept hpz) henc (HSA.out.back g1)); have HTH := Lib.hid (BlkIs.new W1 31 zeroL.toArray).there; unfold zeroL at HTH HL; clear g1 henc)
      | (go_loud (refine wpList_store_mid rfl 31 (.tmp 3) (.tmp 7) rfl W1.heap.size 0 (reL T.kind T.set A n c T.lo T.hi).toArray rfl rfl HTH.out info_re8 reL_all ?_; clear HTH; have hlz := HL.out; clear HL; revert hlz; generalize World.setCells _ _ _ _ = Wb; intro hlz; obtain ⟨b1, b2, b3, b4, b5⟩ := hlz; have B1 := Lib.hid b1; have B2 := Lib.hid b2; have B3 := Lib.hid b3; have B4 := Lib.hid b4; clear b1 b2 b3 b4))
      | (go_at_call 42; (with_reducible refine (hn _ _ B4.out.self).mono ?_); rintro e W2 ⟨rfl, g2⟩; obtain ⟨c0, c1, c2, c3, f0, f1, f2, f3⟩ := g2.cells)
      | (refine wpList_load_mid rfl 31 (.tmp 3) rfl W1.heap.size 0 rfl ([.int .i64 T.kind, .int .u64 (wd T.set 0 : Nat), .int .u64 (wd T.set 1 : Nat), .int .u64 (wd T.set 2 : Nat), .int .u64 (wd T.set 3 : Nat), .slice A n c, .int .i64 T.lo, .int .i64 T.hi]) _ ((B1.out.kept g2.kept b5).far (p := ⟨pb, 1, none⟩) b5 (.int .i64 ((j : Int) + 1))).range Try.underlying31 rfl info_re8 ?_)
      | (refine wpList_store_mid rfl 31 (.tmp 2) (.tmp 49) rfl W.heap.size 0 (reL 4 (fun _ => false) (some ⟨W2.heap.size, 0, none⟩) 1 1 (0) (-1)).toArray rfl (by simp only [reL, wd_zero]; rfl) (there8 (rep_ends hp hsz ((B3.out.kept g2.kept (Nat.le_refl _) (Nat.lt_trans hp hsz)).kept (Kept.put pb W2 1 (.int .i64 ((j : Int) + 1))) (Nat.le_refl _) (Nat.lt_trans hp hsz)) ((B2.out.kept g2.kept hpz).far (p := ⟨pb, 1, none⟩) hpz (.int .i64 ((j : Int) + 1))) ((B4.out.back g2).to1 hil) (0) (-1)).1 rfl) info_re8 reL_all ?_))
    have hre := rep_ends hp hsz ((B3.out.kept g2.kept (Nat.le_refl _) (Nat.lt_trans hp hsz)).kept (Kept.put pb W2 1 (.int .i64 ((j : Int) + 1))) (Nat.le_refl _) (Nat.lt_trans hp hsz)) ((B2.out.kept g2.kept hpz).far (p := ⟨pb, 1, none⟩) hpz (.int .i64 ((j : Int) + 1))) ((B4.out.back g2).to1 hil) (0) (-1)
    rw [World.size_setCell] at hre
    exact bodyPost_ret (results_cell1 rfl rfl (load_re (store_re hre.1 rfl))) rfl hre.2
  rw [if_neg h3]
  have e3 : ((sgnAt s j : Int) == 3) = false := by simp; omega
  by_cases h4 : sgnAt s j = 4
  · rw [if_pos h4]
    have hil := sgnAt_lt (s := s) (i := j) (by omega)
    have ew : wrap64 ((j : Int) + 1) = (j : Int) + 1 := by unfold wrap64; omega
    simp only [h4] at hn
    clear hs4
    unfold zeroL at *
    go_enter Try.func40, Try.ntmps40
    go_wp2_with (first
      | (go_at_call 43; (with_reducible refine (hAt _ HA.out).mono ?_); rintro e W1 ⟨⟨v, rfl, henc⟩, g1⟩; obtain ⟨A, n, c, rfl⟩ := henc.at.form; have HL := Lib.hid (laid hp (HZ.out.kept g1.kept hpz) henc (HSA.out.back g1)); have HTH := Lib.hid (BlkIs.new W1 31 zeroL.toArray).there; unfold zeroL at HTH HL; clear g1 henc)
      | (go_loud (refine wpList_store_mid rfl 31 (.tmp 3) (.tmp 7) rfl W1.heap.size 0 (reL T.kind T.set A n c T.lo T.hi).toArray rfl rfl HTH.out info_re8 reL_all ?_; clear HTH; have hlz := HL.out; clear HL; revert hlz; generalize World.setCells _ _ _ _ = Wb; intro hlz; obtain ⟨b1, b2, b3, b4, b5⟩ := hlz; have B1 := Lib.hid b1; have B2 := Lib.hid b2; have B3 := Lib.hid b3; have B4 := Lib.hid b4; clear b1 b2 b3 b4))
      | (go_at_call 42; (with_reducible refine (hn _ _ B4.out.self).mono ?_); rintro e W2 ⟨rfl, g2⟩; obtain ⟨c0, c1, c2, c3, f0, f1, f2, f3⟩ := g2.cells)
      | (refine wpList_load_mid rfl 31 (.tmp 3) rfl W1.heap.size 0 rfl ([.int .i64 T.kind, .int .u64 (wd T.set 0 : Nat), .int .u64 (wd T.set 1 : Nat), .int .u64 (wd T.set 2 : Nat), .int .u64 (wd T.set 3 : Nat), .slice A n c, .int .i64 T.lo, .int .i64 T.hi]) _ ((B1.out.kept g2.kept b5).far (p := ⟨pb, 1, none⟩) b5 (.int .i64 ((j : Int) + 1))).range Try.underlying31 rfl info_re8 ?_)
      | (refine wpList_store_mid rfl 31 (.tmp 2) (.tmp 49) rfl W.heap.size 0 (reL 4 (fun _ => false) (some ⟨W2.heap.size, 0, none⟩) 1 1 (1) (-1)).toArray rfl (by simp only [reL, wd_zero]; rfl) (there8 (rep_ends hp hsz ((B3.out.kept g2.kept (Nat.le_refl _) (Nat.lt_trans hp hsz)).kept (Kept.put pb W2 1 (.int .i64 ((j : Int) + 1))) (Nat.le_refl _) (Nat.lt_trans hp hsz)) ((B2.out.kept g2.kept hpz).far (p := ⟨pb, 1, none⟩) hpz (.int .i64 ((j : Int) + 1))) ((B4.out.back g2).to1 hil) (1) (-1)).1 rfl) info_re8 reL_all ?_))
    have hre := rep_ends hp hsz ((B3.out.kept g2.kept (Nat.le_refl _) (Nat.lt_trans hp hsz)).kept (Kept.put pb W2 1 (.int .i64 ((j : Int) + 1))) (Nat.le_refl _) (Nat.lt_trans hp hsz)) ((B2.out.kept g2.kept hpz).far (p := ⟨pb, 1, none⟩) hpz (.int .i64 ((j : Int) + 1))) ((B4.out.back g2).to1 hil) (1) (-1)
    rw [World.size_setCell] at hre
    exact bodyPost_ret (results_cell1 rfl rfl (load_re (store_re hre.1 rfl))) rfl hre.2
  rw [if_neg h4]
  have e4 : ((sgnAt s j : Int) == 4) = false := by simp; omega
  by_cases h5 : sgnAt s j = 5
  · rw [if_pos h5]
    have hil := sgnAt_lt (s := s) (i := j) (by omega)
    have ew : wrap64 ((j : Int) + 1) = (j : Int) + 1 := by unfold wrap64; omega
    simp only [h5] at hn
    clear hs4
    unfold zeroL at *
    go_enter Try.func40, Try.ntmps40
    go_wp2_with (first
      | (go_at_call 43; (with_reducible refine (hAt _ HA.out).mono ?_); rintro e W1 ⟨⟨v, rfl, henc⟩, g1⟩; obtain ⟨A, n, c, rfl⟩ := henc.at.form; have HL := Lib.hid (laid hp (HZ.out.kept g1.kept hpz) henc (HSA.out.back g1)); have HTH := Lib.hid (BlkIs.new W1 31 zeroL.toArray).there; unfold zeroL at HTH HL; clear g1 henc)
      | (go_loud (refine wpList_store_mid rfl 31 (.tmp 3) (.tmp 7) rfl W1.heap.size 0 (reL T.kind T.set A n c T.lo T.hi).toArray rfl rfl HTH.out info_re8 reL_all ?_; clear HTH; have hlz := HL.out; clear HL; revert hlz; generalize World.setCells _ _ _ _ = Wb; intro hlz; obtain ⟨b1, b2, b3, b4, b5⟩ := hlz; have B1 := Lib.hid b1; have B2 := Lib.hid b2; have B3 := Lib.hid b3; have B4 := Lib.hid b4; clear b1 b2 b3 b4))
      | (go_at_call 42; (with_reducible refine (hn _ _ B4.out.self).mono ?_); rintro e W2 ⟨rfl, g2⟩; obtain ⟨c0, c1, c2, c3, f0, f1, f2, f3⟩ := g2.cells)
      | (refine wpList_load_mid rfl 31 (.tmp 3) rfl W1.heap.size 0 rfl ([.int .i64 T.kind, .int .u64 (wd T.set 0 : Nat), .int .u64 (wd T.set 1 : Nat), .int .u64 (wd T.set 2 : Nat), .int .u64 (wd T.set 3 : Nat), .slice A n c, .int .i64 T.lo, .int .i64 T.hi]) _ ((B1.out.kept g2.kept b5).far (p := ⟨pb, 1, none⟩) b5 (.int .i64 ((j : Int) + 1))).range Try.underlying31 rfl info_re8 ?_)
      | (refine wpList_store_mid rfl 31 (.tmp 2) (.tmp 49) rfl W.heap.size 0 (reL 4 (fun _ => false) (some ⟨W2.heap.size, 0, none⟩) 1 1 (0) (1)).toArray rfl (by simp only [reL, wd_zero]; rfl) (there8 (rep_ends hp hsz ((B3.out.kept g2.kept (Nat.le_refl _) (Nat.lt_trans hp hsz)).kept (Kept.put pb W2 1 (.int .i64 ((j : Int) + 1))) (Nat.le_refl _) (Nat.lt_trans hp hsz)) ((B2.out.kept g2.kept hpz).far (p := ⟨pb, 1, none⟩) hpz (.int .i64 ((j : Int) + 1))) ((B4.out.back g2).to1 hil) (0) (1)).1 rfl) info_re8 reL_all ?_))
    have hre := rep_ends hp hsz ((B3.out.kept g2.kept (Nat.le_refl _) (Nat.lt_trans hp hsz)).kept (Kept.put pb W2 1 (.int .i64 ((j : Int) + 1))) (Nat.le_refl _) (Nat.lt_trans hp hsz)) ((B2.out.kept g2.kept hpz).far (p := ⟨pb, 1, none⟩) hpz (.int .i64 ((j : Int) + 1))) ((B4.out.back g2).to1 hil) (0) (1)
    rw [World.size_setCell] at hre
    exact bodyPost_ret (results_cell1 rfl rfl (load_re (store_re hre.1 rfl))) rfl hre.2
  rw [if_neg h5]
  have e5 : ((sgnAt s j : Int) == 5) = false := by simp; omega
  by_cases h6 : sgnAt s j = 6
  · rw [if_pos h6]
    have hB := fun W W0 (h : St pb s F W0 W j o) => bounds_any h h6
    clear e3 e4 e5
    simp only [h6] at hn
    rcases hl2 : boundsP s j with q | ⟨⟨lo, hi⟩, k⟩
    · simp only [hl2] at hB
      simp only
      unfold zeroL at *
      go_enter Try.func40, Try.ntmps40
      go_wp2_with (first
        | (go_at_call 43; (with_reducible refine (hAt _ HA.out).mono ?_); rintro e W1 ⟨⟨v, rfl, henc⟩, g1⟩; obtain ⟨A, n, c, rfl⟩ := henc.at.form; have HL := Lib.hid (laid hp (HZ.out.kept g1.kept hpz) henc (HSA.out.back g1)); have HTH := Lib.hid (BlkIs.new W1 31 zeroL.toArray).there; unfold zeroL at HTH HL; clear g1 henc)
        | (go_loud (refine wpList_store_mid rfl 31 (.tmp 3) (.tmp 7) rfl W1.heap.size 0 (reL T.kind T.set A n c T.lo T.hi).toArray rfl rfl HTH.out info_re8 reL_all ?_; clear HTH; have hlz := HL.out; clear HL; revert hlz; generalize World.setCells _ _ _ _ = Wb; intro hlz; obtain ⟨b1, b2, b3, b4, b5⟩ := hlz; have B1 := Lib.hid b1; have B2 := Lib.hid b2; have B3 := Lib.hid b3; have B4 := Lib.hid b4; clear b1 b2 b3 b4))
        | (go_at_call 42; (with_reducible refine (hn _ _ B4.out.self).mono ?_); rintro e W2 ⟨rfl, g2⟩)
        | (go_at_call 44; (with_reducible refine (hB _ _ (B4.out.back g2)).mono ?_); rintro e W3 ⟨rfl, hk⟩))
      exact ⟨rfl, rfl, hk⟩
    · simp only [hl2] at hB
      simp only
      unfold zeroL at *
      go_enter Try.func40, Try.ntmps40
      go_wp2_with (first
        | (go_at_call 43; (with_reducible refine (hAt _ HA.out).mono ?_); rintro e W1 ⟨⟨v, rfl, henc⟩, g1⟩; obtain ⟨A, n, c, rfl⟩ := henc.at.form; have HL := Lib.hid (laid hp (HZ.out.kept g1.kept hpz) henc (HSA.out.back g1)); have HTH := Lib.hid (BlkIs.new W1 31 zeroL.toArray).there; unfold zeroL at HTH HL; clear g1 henc)
        | (go_loud (refine wpList_store_mid rfl 31 (.tmp 3) (.tmp 7) rfl W1.heap.size 0 (reL T.kind T.set A n c T.lo T.hi).toArray rfl rfl HTH.out info_re8 reL_all ?_; clear HTH; have hlz := HL.out; clear HL; revert hlz; generalize World.setCells _ _ _ _ = Wb; intro hlz; obtain ⟨b1, b2, b3, b4, b5⟩ := hlz; have B1 := Lib.hid b1; have B2 := Lib.hid b2; have B3 := Lib.hid b3; have B4 := Lib.hid b4; clear b1 b2 b3 b4))
        | (go_at_call 42; (with_reducible refine (hn _ _ B4.out.self).mono ?_); rintro e W2 ⟨rfl, g2⟩)
        | (go_at_call 44; (with_reducible refine (hB _ _ g2.self).mono ?_); rintro e W3 ⟨⟨v, rfl, rfl⟩, g3⟩)
        | (refine wpList_load_mid rfl 31 (.tmp 3) rfl W1.heap.size 0 rfl ([.int .i64 T.kind, .int .u64 (wd T.set 0 : Nat), .int .u64 (wd T.set 1 : Nat), .int .u64 (wd T.set 2 : Nat), .int .u64 (wd T.set 3 : Nat), .slice A n c, .int .i64 T.lo, .int .i64 T.hi]) _ ((B1.out.kept g2.kept b5).kept g3.kept b5).range Try.underlying31 rfl info_re8 ?_)
        | (refine wpList_store_mid rfl 31 (.tmp 2) (.tmp 49) rfl W.heap.size 0 (reL 4 (fun _ => false) (some ⟨W3.heap.size, 0, none⟩) 1 1 lo hi).toArray rfl (by simp only [reL, wd_zero]; rfl) (there8 (rep_ends hp hsz (B3.out.kept (g2.kept.trans g3.kept) (Nat.le_refl _) (Nat.lt_trans hp hsz)) (B2.out.kept (g2.kept.trans g3.kept) hpz) (B4.out.back (g2.back g3)) lo hi).1 rfl) info_re8 reL_all ?_))
      have hre := rep_ends hp hsz (B3.out.kept (g2.kept.trans g3.kept) (Nat.le_refl _) (Nat.lt_trans hp hsz)) (B2.out.kept (g2.kept.trans g3.kept) hpz) (B4.out.back (g2.back g3)) lo hi
      exact bodyPost_ret (results_cell1 rfl rfl (load_re (store_re hre.1 rfl))) rfl hre.2
  rw [if_neg h6]
  have e6 : ((sgnAt s j : Int) == 6) = false := by simp; omega
  unfold zeroL at *
  go_enter Try.func40, Try.ntmps40
  go_wp2_with (first
    | (go_at_call 43; (with_reducible refine (hAt _ HA.out).mono ?_); rintro e W1 ⟨⟨v, rfl, henc⟩, g1⟩; obtain ⟨A, n, c, rfl⟩ := henc.at.form; have HL := Lib.hid (laid hp (HZ.out.kept g1.kept hpz) henc (HSA.out.back g1)); have HTH := Lib.hid (BlkIs.new W1 31 zeroL.toArray).there; unfold zeroL at HTH HL; clear g1 henc)
    | (go_loud (refine wpList_store_mid rfl 31 (.tmp 3) (.tmp 7) rfl W1.heap.size 0 (reL T.kind T.set A n c T.lo T.hi).toArray rfl rfl HTH.out info_re8 reL_all ?_; clear HTH; have hlz := HL.out; clear HL; revert hlz; generalize World.setCells _ _ _ _ = Wb; intro hlz; obtain ⟨b1, b2, b3, b4, b5⟩ := hlz; have B1 := Lib.hid b1; have B2 := Lib.hid b2; have B3 := Lib.hid b3; have B4 := Lib.hid b4; clear b1 b2 b3 b4))
    | (go_at_call 42; (with_reducible refine (hn _ _ B4.out.self).mono ?_); rintro e W2 ⟨rfl, g2⟩)
    | (refine wpList_load_mid rfl 31 (.tmp 3) rfl W1.heap.size 0 rfl ([.int .i64 T.kind, .int .u64 (wd T.set 0 : Nat), .int .u64 (wd T.set 1 : Nat), .int .u64 (wd T.set 2 : Nat), .int .u64 (wd T.set 3 : Nat), .slice A n c, .int .i64 T.lo, .int .i64 T.hi]) _ (B1.out.kept g2.kept b5).range Try.underlying31 rfl info_re8 ?_)
    | (refine wpList_store_mid rfl 31 (.tmp 2) (.tmp 10) rfl W.heap.size 0 (reL T.kind T.set A n c T.lo T.hi).toArray rfl rfl (there8 (B2.out.kept g2.kept hpz) rfl) info_re8 reL_all ?_))
  exact bodyPost_ret (results_cell1 rfl rfl (load_re (store_re (B2.out.kept g2.kept hpz) rfl))) rfl (tree_ends hp hsz (B3.out.kept g2.kept (Nat.le_refl _) (Nat.lt_trans hp hsz)) (B4.out.back g2))
end
end Go.Proofs.Ytngagijcdehjpaa

