/-
  WHAT hackleref01.Two ANSWERS: contracts. No condition but those that a contract names.
-/
import Derived.Test.YtkladjjeacjgpaaDoorQRef1b
import Derived.Test.YtkladjjeacjgpaaDoorQG02
namespace Go.Proofs.YtkladjjeacjgpaaDoor
open Go.RowKit

/-- of two sets: 0 one or both, 1 both, 2 the first alone -/
def sTwo (m n : Nat → Bool) (what : Nat) : Nat → Bool := fun b => if what = 0 then m b || n b else if what = 1 then m b && n b else m b && !n b

set_option maxRecDepth 100000 in
set_option maxHeartbeats 1000000 in
theorem two_any (m n : Nat → Bool) (what : Nat) (hwhat : what = 0 ∨ what = 1 ∨ what = 2) (w : World) :
    Calls Tryd.prog 26 #[setV m, setV n, .int .i64 what] w fun e w' => e = .returned (setV (sTwo m n what)) ∧ Below w.heap.size w w' := by
  have z24 := zero24
  have HW := Lib.hid hwhat
  clear hwhat
  go_enter Tryd.func26, Tryd.ntmps26
  go_wp2
  generalize hw0 : ((w.alloc (.cells #[.int .u64 (wd m 0 : Nat), .int .u64 (wd m 1 : Nat), .int .u64 (wd m 2 : Nat), .int .u64 (wd m 3 : Nat)] 24)).alloc (.cells #[.int .u64 (wd n 0 : Nat), .int .u64 (wd n 1 : Nat), .int .u64 (wd n 2 : Nat), .int .u64 (wd n 3 : Nat)] 24)).alloc (.cells #[.int .u64 0, .int .u64 0, .int .u64 0, .int .u64 0] 24) = w0
  have hB0 : Below w.heap.size w w0 := by rw [← hw0]; exact (((Below.refl _ _).alloc (Nat.le_refl _) _).alloc (by simp) _).alloc (by simp; omega) _
  have hx0 : BlkIs w0 w.heap.size 24 #[.int .u64 (wd m 0 : Nat), .int .u64 (wd m 1 : Nat), .int .u64 (wd m 2 : Nat), .int .u64 (wd m 3 : Nat)] := by rw [← hw0]; exact ((BlkIs.new _ _ _).alloc _).alloc _
  have hy0 : BlkIs w0 (w.heap.size + 1) 24 #[.int .u64 (wd n 0 : Nat), .int .u64 (wd n 1 : Nat), .int .u64 (wd n 2 : Nat), .int .u64 (wd n 3 : Nat)] := by rw [← hw0]; have := (BlkIs.new (w.alloc (.cells #[.int .u64 (wd m 0 : Nat), .int .u64 (wd m 1 : Nat), .int .u64 (wd m 2 : Nat), .int .u64 (wd m 3 : Nat)] 24)) 24 #[.int .u64 (wd n 0 : Nat), .int .u64 (wd n 1 : Nat), .int .u64 (wd n 2 : Nat), .int .u64 (wd n 3 : Nat)]).alloc (.cells #[.int .u64 0, .int .u64 0, .int .u64 0, .int .u64 0] 24); simpa using this
  have hr0 : BlkIs w0 (w.heap.size + 1 + 1) 24 #[.int .u64 0, .int .u64 0, .int .u64 0, .int .u64 0] := by rw [← hw0]; have := BlkIs.new ((w.alloc (.cells #[.int .u64 (wd m 0 : Nat), .int .u64 (wd m 1 : Nat), .int .u64 (wd m 2 : Nat), .int .u64 (wd m 3 : Nat)] 24)).alloc (.cells #[.int .u64 (wd n 0 : Nat), .int .u64 (wd n 1 : Nat), .int .u64 (wd n 2 : Nat), .int .u64 (wd n 3 : Nat)] 24)) 24 #[.int .u64 0, .int .u64 0, .int .u64 0, .int .u64 0]; simpa using this
  have HX := Lib.hid hx0
  have HY := Lib.hid hy0
  have HR := Lib.hid hr0
  have HB := Lib.hid hB0
  clear hw0 hx0 hy0 hr0 hB0
  refine wp_region_free 4 6 64 (fun u => BlkIs u w.heap.size 24 #[.int .u64 (wd m 0 : Nat), .int .u64 (wd m 1 : Nat), .int .u64 (wd m 2 : Nat), .int .u64 (wd m 3 : Nat)] ∧ BlkIs u (w.heap.size + 1) 24 #[.int .u64 (wd n 0 : Nat), .int .u64 (wd n 1 : Nat), .int .u64 (wd n 2 : Nat), .int .u64 (wd n 3 : Nat)])
    (fun _ => bools fun _ => false) (fun _ => 49) (by kernel_rfl) (by kernel_rfl) rfl ⟨HX.out.drew, HY.out.drew⟩ (fun u u' h hb => ⟨h.1.step hb, h.2.step hb⟩) ?_ ?_
  · intro i o h1 h2 ho
    have hi : i = 4 ∨ i = 5 := by omega
    rcases hi with rfl | rfl <;> (simp at ho; subst ho; refine ⟨rfl, fun a u => ?_⟩; go_simp)
  · simp only [List.take_succ_cons, List.take_zero, List.drop_succ_cons, List.drop_zero]
    refine freeW_step fun K hK => ?_
    go_simp
    refine ⟨setV m, fun u h1 h2 => ?_, hK _ ?_⟩
    · obtain ⟨c0, c1, c2, c3, _⟩ := h1.four
      unfold freeAt
      go_simp
      exact ⟨Below.refl _ _, rfl⟩
    clear hK K
    refine freeW_step fun K hK => ?_
    go_simp
    refine ⟨.agg (bools m), fun u _ _ => ?_, hK _ ?_⟩
    · unfold freeAt
      go_simp
      exact ⟨rfl, marks_any m u⟩
    clear hK K
    refine freeW_step fun K hK => ?_
    go_simp
    refine ⟨setV n, fun u h1 h2 => ?_, hK _ ?_⟩
    · obtain ⟨c0, c1, c2, c3, _⟩ := h2.four
      unfold freeAt
      go_simp
      exact ⟨Below.refl _ _, rfl⟩
    clear hK K
    refine freeW_step fun K hK => ?_
    go_simp
    refine ⟨.agg (bools n), fun u _ _ => ?_, hK _ ?_⟩
    · unfold freeAt
      go_simp
      exact ⟨rfl, marks_any n u⟩
    clear hK K
    refine freeW_nil ?_
    intro g u hC hb hn hd
    obtain ⟨hp0, hp1⟩ := hn 4 (by omega) (by omega)
    obtain ⟨hq0, hq1⟩ := hn 5 (by omega) (by omega)
    have hpq := hd 4 5 (by omega) (by omega) (by omega)
    simp only [putNews, Act.put, List.setIfInBounds_toArray, List.set_cons_zero, List.set_cons_succ]
    generalize g 4 = p at *
    generalize g 5 = q at *
    have hr := HR.out.below hb HR.out.lt
    have hpr : w.heap.size + 1 + 1 ≠ p := by have := HR.out.lt; omega
    have hqr : w.heap.size + 1 + 1 ≠ q := by have := HR.out.lt; omega
    have hsz := HB.out.size
    have hB : Below w.heap.size w u := HB.out.trans (hb.mono hsz)
    -- the two stores
    have hI : ∀ f : Nat → Bool, (Tryd.prog.info? 49).map (·.size) = some (bools f).size := fun f => by rw [info24, bools_size]
    have ht1 := hp1.there
    rw [bools_size, ← bools_size m] at ht1
    have k1 := hp1.fill (new := bools m) (by rw [bools_size, bools_size])
    have k2 := BlkIs.farCells (Ne.symm hpq) (bools m).toList 0 u hq1
    have ht2 := k2.there
    rw [bools_size, ← bools_size n] at ht2
    have k3 := k2.fill (new := bools n) (by rw [bools_size, bools_size])
    have k4 := BlkIs.farCells hpq (bools n).toList 0 _ k1
    have k5 := BlkIs.farCells hqr (bools n).toList 0 _ (BlkIs.farCells hpr (bools m).toList 0 u hr)
    have hB2 := below_setCells (B := w.heap.size) q (by omega) (bools n).toList 0 _ (below_setCells (B := w.heap.size) p (by omega) (bools m).toList 0 u hB)
    have T1 := Lib.hid ht1
    have T2 := Lib.hid ht2
    have K3 := Lib.hid k3
    have K4 := Lib.hid k4
    have K5 := Lib.hid k5
    have B2 := Lib.hid hB2
    have II := Lib.hid hI
    have hmz : p < u.heap.size := hp1.lt
    have hqz : q < u.heap.size := hq1.lt
    clear hp1 hq1 hr hB hI ht1 ht2 k1 k2 k3 k4 k5 hB2 hC hb hn hd hpr hqr hsz hp0 hq0
    refine wpList_store_mid rfl 49 (.tmp 7) (.tmp 12) rfl p 0 (bools m) rfl rfl T1.out (II.out m) (bools_one m) ?_
    refine wpList_store_mid rfl 49 (.tmp 8) (.tmp 14) rfl q 0 (bools n) rfl rfl T2.out (II.out n) (bools_one n) ?_
    simp only [Act.put]
    generalize (u.setCells p 0 (bools m).toList).setCells q 0 (bools n).toList = u2 at *
    have KM : Hid (BlkIs (u2.alloc (.cells (bools fun _ => false) 49)) u2.heap.size 49 (bools fun _ => false)) := Lib.hid (BlkIs.new _ _ _)
    have hpM : p ≠ u2.heap.size := Nat.ne_of_lt K4.out.lt
    have hqM : q ≠ u2.heap.size := Nat.ne_of_lt K3.out.lt
    have hrM : w.heap.size + 1 + 1 ≠ u2.heap.size := Nat.ne_of_lt K5.out.lt
    have hwM : w.heap.size ≤ u2.heap.size := B2.out.size
    have B3 := Lib.hid (B2.out.alloc hwM (.cells (bools fun _ => false) 49))
    have L3 := Lib.hid (K3.out.alloc (.cells (bools fun _ => false) 49))
    have L4 := Lib.hid (K4.out.alloc (.cells (bools fun _ => false) 49))
    have L5 := Lib.hid (K5.out.alloc (.cells (bools fun _ => false) 49))
    clear K3 K4 K5 B2 HX HY HR HB T1 T2
    go_wp2
    generalize u2.heap.size = M at *
    generalize u2.alloc (.cells (bools fun _ => false) 49) = u3 at *
    go_loopw [10] (fun s wr => ∃ k : Nat, k ≤ 256 ∧ s = .int .i64 k ∧ Hid (BlkIs wr p 49 (bools m) ∧ BlkIs wr q 49 (bools n) ∧ BlkIs wr (w.heap.size + 1 + 1) 24 #[.int .u64 0, .int .u64 0, .int .u64 0, .int .u64 0] ∧
        BlkIs wr M 49 (bools (sCut (sTwo m n what) k)) ∧ Below w.heap.size w wr)) (fun s _ => 256 - (intOf s).toNat)
    case atStart =>
      refine ⟨0, by omega, rfl, Lib.hid ⟨L4.out, L3.out, L5.out, ?_, B3.out⟩⟩
      rw [bools_congr (f := sCut (sTwo m n what) 0) (g := fun _ => false) (fun i _ => by simp [sCut])]
      exact KM.out
    case round =>
      obtain ⟨k, hk, rfl, HH⟩ := hrel
      by_cases hlt : k < 256
      · have e1 := (HH.out.1.cell k).trans (bools_get m hlt)
        have e2 := (HH.out.2.1.cell k).trans (bools_get n hlt)
        have e3 := (HH.out.2.2.2.1.cell k).trans (bools_get _ hlt)
        have f3 := HH.out.2.2.2.1.frozen k
        have hfin : ∀ x, x = sTwo m n what k → BlkIs (wr.setCell ⟨M, k, none⟩ (.bool x)) p 49 (bools m) ∧ BlkIs (wr.setCell ⟨M, k, none⟩ (.bool x)) q 49 (bools n) ∧
            BlkIs (wr.setCell ⟨M, k, none⟩ (.bool x)) (w.heap.size + 1 + 1) 24 #[.int .u64 0, .int .u64 0, .int .u64 0, .int .u64 0] ∧
            BlkIs (wr.setCell ⟨M, k, none⟩ (.bool x)) M 49 (bools (sCut (sTwo m n what) (k + 1))) ∧ Below w.heap.size w (wr.setCell ⟨M, k, none⟩ (.bool x)) := fun x hx => by
          refine ⟨HH.out.1.far hpM _, HH.out.2.1.far hqM _, HH.out.2.2.1.far hrM _, ?_, HH.out.2.2.2.2.setCell hwM _⟩
          have h := HH.out.2.2.2.1.put k (.bool x)
          rw [bools_set, bools_congr (f := updS (sCut (sTwo m n what) k) k x) (g := sCut (sTwo m n what) (k + 1)) (fun i _ => by
            unfold updS sCut
            by_cases e : i = k
            · subst e; simp [hx]
            · rw [if_neg e, Bool.eq_iff_iff]; simp; omega)] at h
          exact h
        have HF := Lib.hid hfin
        clear hfin
        have hval : sTwo m n what k = (if what = 0 then m k || n k else if what = 1 then m k && n k else m k && !n k) := rfl
        have HV := Lib.hid hval
        clear hval
        generalize sTwo m n what k = x at *
        clear HH
        cases hmk : m k <;> cases hnk : n k <;> (rw [hmk] at e1 HV; rw [hnk] at e2 HV; clear hmk hnk; rcases HW.out with rfl | rfl | rfl)
        all_goals
          go_wp2
          exact ⟨⟨k + 1, by omega, by go_num, Lib.hid (HF.out _ HV.out.symm)⟩, by simp [intOf]; omega⟩
      · have hk' : k = 256 := by omega
        subst hk'
        have b4 := HH.out.2.2.2.1
        rw [bools_congr (f := sCut (sTwo m n what) 256) (g := sTwo m n what) (fun i hi => by simp [sCut, hi])] at b4
        obtain ⟨r0, r1, r2, r3, s0, s1, s2, s3⟩ := HH.out.2.2.1.four
        have hgr := HH.out.2.2.1.lt
        have HRG := Lib.hid b4.range
        have HI : Hid ((Tryd.prog.info? 49).map (·.size) = some (bools (sTwo m n what)).toList.length) := by rw [info24, Array.length_toList, bools_size]; exact Lib.hid rfl
        have HB5 := Lib.hid HH.out.2.2.2.2
        clear b4 HH II KM B3 L3 L4 L5
        go_wp2_with (first
          | (refine wpList_load_mid rfl 49 (.tmp 9) rfl M 0 rfl (bools (sTwo m n what)).toList _ HRG.out Tryd.underlying49 rfl HI.out ?_; rw [bools_agg])
          | (go_at_call 33; refine (made_any _ _).mono ?_; rintro e w1 ⟨rfl, hb1⟩; obtain ⟨hc1, hf1, hz1⟩ := belowStep hb1 hgr))
        have hB1 : Below w.heap.size w w1 := HB5.out.trans (hb1.mono HB5.out.size)
        refine bodyPost_ret (v := setV (sTwo m n what)) (by simp [results, Tryd.results26, go_sem, hc1, r0, r1, r2, r3]) rfl ⟨rfl, ?_⟩
        exact (((hB1.setCell (p := ⟨w.heap.size + 1 + 1, 0, none⟩) (by show w.heap.size ≤ w.heap.size + 1 + 1; omega) _).setCell (p := ⟨w.heap.size + 1 + 1, 1, none⟩) (by show w.heap.size ≤ w.heap.size + 1 + 1; omega) _).setCell (p := ⟨w.heap.size + 1 + 1, 2, none⟩) (by show w.heap.size ≤ w.heap.size + 1 + 1; omega) _).setCell (p := ⟨w.heap.size + 1 + 1, 3, none⟩) (by show w.heap.size ≤ w.heap.size + 1 + 1; omega) _

end Go.Proofs.YtkladjjeacjgpaaDoor

