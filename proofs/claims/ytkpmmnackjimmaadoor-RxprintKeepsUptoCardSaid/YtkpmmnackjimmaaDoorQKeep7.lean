/-
  hacklelaw07.RxprintKeeps' WALK: it answers true. Condition: the tree has at most 2^40 nodes, the text at most 2^30 bytes; math/bits' table lies where it lies.
-/
import Derived.Test.YtkpmmnackjimmaaDoorQTal7
import Derived.Test.YtkpmmnackjimmaaDoorQRef5w
import Derived.Test.YtkpmmnackjimmaaDoorQKp3
import Derived.Test.YtkpmmnackjimmaaDoorQG07
namespace Go.Proofs.YtkpmmnackjimmaaDoor
open Go.RowKit

theorem in_start {w : World} {T : Tree} {A : Option Addr} {n c : Nat} (h : T.At w (reV T.kind T.set A n c T.lo T.hi)) : InBox w T w.heap.size A n c (w.alloc (.cells (reL T.kind T.set A n c T.lo T.hi).toArray 27)) :=
  ⟨h.step ((Below.refl _ _).alloc (Nat.le_refl _) _), BlkIs.new _ _ _, (Below.refl _ _).alloc (Nat.le_refl _) _⟩
/-- a tree put into a new variable -/
theorem in_new {w u : World} {T : Tree} {A : Option Addr} {n c : Nat} (h : T.At u (reV T.kind T.set A n c T.lo T.hi)) (hb : Below w.heap.size w u) : InBox w T u.heap.size A n c ((u.alloc (.cells zeroL.toArray 27)).setCells u.heap.size 0 (reL T.kind T.set A n c T.lo T.hi)) ∧
    Below u.heap.size u ((u.alloc (.cells zeroL.toArray 27)).setCells u.heap.size 0 (reL T.kind T.set A n c T.lo T.hi)) ∧ BlkIs (u.alloc (.cells zeroL.toArray 27)) u.heap.size 27 zeroL.toArray := by
  have hbz := BlkIs.new u 27 zeroL.toArray
  have h9 := (Below.refl u.heap.size u).alloc (Nat.le_refl _) (.cells zeroL.toArray 27)
  have h9' := below_cells (w0 := u) (B := u.heap.size) u.heap.size (reL T.kind T.set A n c T.lo T.hi) 0 _ (Nat.le_refl _) h9
  exact ⟨⟨h.step h9', store_re hbz rfl, hb.trans (h9'.mono hb.size)⟩, h9', hbz⟩

set_option maxRecDepth 20000 in
set_option maxHeartbeats 8000000 in
theorem keeps_out (T : Tree) (v : Value) (s : ByteArray) (w : World) (hat : T.At w v) (hn : T.nodes ≤ 1099511627776) (hT : Tab w) (hout : T.heavy = true ∨ T.heavy = false ∧ (40 < s.size ∨ s.size ≤ 40 ∧ T.mayN = false)) :
    Calls Tryd.prog 4 #[v, .string s] w fun e w' => e = .returned (.bool true) ∧ Below w.heap.size w w' := by
  obtain ⟨A, n, c, rfl⟩ := hat.form
  have H0 := Lib.hid (in_start hat)
  have HA := Lib.hid (alive7_any _ (hT.step H0.out.2.2))
  have HS := Lib.hid (fun u (h : InBox w T w.heap.size A n c u) => heavy_any T _ u h.1)
  have hm := fun u (h : InBox w T w.heap.size A n c u) => refMayRe_any T _ u h.1
  rw [may_few hn] at hm
  have HM := Lib.hid hm
  clear hat hT hm
  unfold reV reL at *
  rcases hout with hv | ⟨hv, hs | ⟨hs, hm⟩⟩
  · rw [hv] at HS
    go_enter Tryd.func4, Tryd.ntmps4
    go_wp2_with (first
      | (go_at_call 6; go_must (refine HA.out.mono ?_); rintro e w1 ⟨rfl, hb⟩; have HX := Lib.hid (H0.out.step hb); clear hb; obtain ⟨c0, c1, c2, c3, c4, c5, c6, c7⟩ := HX.out.2.1.eight)
      | (go_at_call 12; go_must (refine (HS.out _ HX.out).mono ?_); rintro e w2 ⟨rfl, hb⟩; have HX := Lib.hid (HX.out.step hb); clear hb c0 c1 c2 c3 c4 c5 c6 c7))
    go_ret
    exact ⟨rfl, HX.out.2.2⟩
  · rw [hv] at HS
    have e1 : decide ((s.size : Int) > 40) = true := decide_eq_true (by omega)
    go_enter Tryd.func4, Tryd.ntmps4
    go_wp2_with (first
      | (go_at_call 6; go_must (refine HA.out.mono ?_); rintro e w1 ⟨rfl, hb⟩; have HX := Lib.hid (H0.out.step hb); clear hb; obtain ⟨c0, c1, c2, c3, c4, c5, c6, c7⟩ := HX.out.2.1.eight)
      | (go_at_call 12; go_must (refine (HS.out _ HX.out).mono ?_); rintro e w2 ⟨rfl, hb⟩; have HX := Lib.hid (HX.out.step hb); clear hb c0 c1 c2 c3 c4 c5 c6 c7))
    go_ret
    exact ⟨rfl, HX.out.2.2⟩
  · rw [hv] at HS
    rw [hm] at HM
    have e1 : decide ((s.size : Int) > 40) = false := decide_eq_false (by omega)
    go_enter Tryd.func4, Tryd.ntmps4
    go_wp2_with (first
      | (go_at_call 6; go_must (refine HA.out.mono ?_); rintro e w1 ⟨rfl, hb⟩; have HX := Lib.hid (H0.out.step hb); clear hb; obtain ⟨c0, c1, c2, c3, c4, c5, c6, c7⟩ := HX.out.2.1.eight)
      | (go_at_call 12; go_must (refine (HS.out _ HX.out).mono ?_); rintro e w2 ⟨rfl, hb⟩; have HX := Lib.hid (HX.out.step hb); clear hb c0 c1 c2 c3 c4 c5 c6 c7; obtain ⟨c0, c1, c2, c3, c4, c5, c6, c7⟩ := HX.out.2.1.eight)
      | (go_at_call 9; go_must (refine (HM.out _ HX.out).mono ?_); rintro e w2 ⟨rfl, hb⟩; have HX := Lib.hid (HX.out.step hb); clear hb c0 c1 c2 c3 c4 c5 c6 c7))
    go_ret
    exact ⟨rfl, HX.out.2.2⟩

set_option maxRecDepth 20000 in
set_option maxHeartbeats 16000000 in
theorem keeps_in (T : Tree) (v : Value) (s : ByteArray) (w : World) (hat : T.At w v) (hn : T.nodes ≤ 1099511627776) (hT : Tab w) (hv : T.heavy = false) (hs : s.size ≤ 40) (hm : T.mayN = true) :
    Calls Tryd.prog 4 #[v, .string s] w fun e w' => e = .returned (.bool true) ∧ Below w.heap.size w w' := by
  obtain ⟨A, n, c, rfl⟩ := hat.form
  have H0 := Lib.hid (in_start hat)
  have HA := Lib.hid (alive7_any _ (hT.step H0.out.2.2))
  obtain ⟨hok, hnn, _⟩ := mayN_ok hm
  have hpn := plain_nodes T (ok_reps T hok)
  have hpm := plain_mayN T hm
  obtain ⟨U, hU⟩ : ∃ U, U = T.plain := ⟨_, rfl⟩
  have hUok : U.ok = true := by rw [hU]; exact plain_ok T hok
  rw [← hU] at hpn hpm
  have hUn : U.nodes ≤ 1099511627776 := by omega
  have hTnn : T.nodes ≤ 1099511627776 := hn
  have hUp : U.plain = U := by rw [hU]; exact plain_plain T hok
  have htk : U.takes s.data.toList = T.takes s.data.toList := by rw [hU]; exact plain_takes _ T hok
  have hvd : U.void = T.void := by rw [hU]; exact plain_void T hok
  have hse : U.same U = true := same_refl U
  have HS := Lib.hid (fun u (h : InBox w T w.heap.size A n c u) => heavy_any T _ u h.1)
  have hm1 := fun u (h : InBox w T w.heap.size A n c u) => refMayRe_any T _ u h.1
  rw [may_few hn, hm] at hm1
  have HM := Lib.hid hm1
  have hm2 := fun u v (h : U.At u v) => refMayRe_any U v u h
  rw [may_few hUn, hpm] at hm2
  have HM2 := Lib.hid hm2
  have hn1 := fun u (h : InBox w T w.heap.size A n c u) => norm_any T _ u h.1 hn
  rw [← hU] at hn1
  have HN1 := Lib.hid (fun u h => (hn1 u h).mono fun e w' g => And.intro g.1 (g.2.1 hm))
  have hn2 := fun u v (h : U.At u v) => norm_any U v u h hUn
  rw [hUp] at hn2
  have HN2 := Lib.hid (fun u v h => (hn2 u v h).mono fun e w' g => And.intro g.1 (g.2.1 hpm))
  have hsm := fun u v v' (h : U.At u v) (h' : U.At u v') => refSame_any U U v v' u h h'
  rw [hse] at hsm
  have HSM := Lib.hid hsm
  have hc1 := fun u (h : InBox w T w.heap.size A n c u) => refNodes_any T _ u h.1
  have hc2 := fun u v (h : U.At u v) => refNodes_any U v u h
  rw [show IntKind.i64.wrap (T.nodes : Int) = (T.nodes : Int) by rw [IntKind.wrap_i64]; omega] at hc1
  rw [show IntKind.i64.wrap (U.nodes : Int) = (U.nodes : Int) by rw [IntKind.wrap_i64]; omega] at hc2
  have HC1 := Lib.hid hc1
  have HC2 := Lib.hid hc2
  have hgt : decide ((U.nodes : Int) > (T.nodes : Int)) = false := decide_eq_false (by omega)
  have hgt3 : decide (T.nodes < U.nodes) = false := decide_eq_false (by omega)
  have HT1 := Lib.hid (fun u (h : InBox w T w.heap.size A n c u) => refTakes_any T _ s (by omega) u hok h.1)
  have ht2 := fun u v (h : U.At u v) => refTakes_any U v s (by omega) u hUok h
  rw [htk] at ht2
  have HT2 := Lib.hid ht2
  have HV1 := Lib.hid (fun u (h : InBox w T w.heap.size A n c u) => refVoid_any T _ u hok h.1)
  have hv2 := fun u v (h : U.At u v) => refVoid_any U v u hUok h
  rw [hvd] at hv2
  have HV2 := Lib.hid hv2
  rw [hv] at HS
  have e1 : decide ((s.size : Int) > 40) = false := decide_eq_false (by omega)
  clear hat hT hm1 hm2 hn1 hn2 hsm hc1 hc2 ht2 hv2 hU hUok hUp hpn hpm hse htk hvd hok hnn hm hv hn hTnn hUn
  generalize T.takes s.data.toList = tk at *
  generalize T.void = vd at *
  generalize U.nodes = un at *
  generalize T.nodes = tn at *
  unfold reV reL at *
  go_enter Tryd.func4, Tryd.ntmps4
  go_wp2_with (first
    | (go_at_call 6; go_must (refine HA.out.mono ?_); rintro e w1 ⟨rfl, hb⟩; have HX := Lib.hid (H0.out.step hb); clear hb; obtain ⟨c0, c1, c2, c3, c4, c5, c6, c7⟩ := HX.out.2.1.eight)
    | (go_at_call 12; go_must (refine (HS.out _ HX.out).mono ?_); rintro e w2 ⟨rfl, hb⟩; have HX := Lib.hid (HX.out.step hb); clear hb c0 c1 c2 c3 c4 c5 c6 c7; obtain ⟨c0, c1, c2, c3, c4, c5, c6, c7⟩ := HX.out.2.1.eight)
    | (go_at_call 9; go_must (refine (HM.out _ HX.out).mono ?_); rintro e w2 ⟨rfl, hb⟩; have HX := Lib.hid (HX.out.step hb); clear hb c0 c1 c2 c3 c4 c5 c6 c7; obtain ⟨c0, c1, c2, c3, c4, c5, c6, c7⟩ := HX.out.2.1.eight)
    | (go_at_call 8; (with_reducible refine (HN1.out _ HX.out).mono ?_)
       rintro e u8 ⟨hb, v8, rfl, hv8⟩
       obtain ⟨A8, n8, cc8, rfl⟩ := hv8.form
       have HX := Lib.hid (HX.out.step hb)
       have hnew := in_new hv8 HX.out.2.2
       obtain ⟨W8, hW8⟩ : ∃ W8, W8 = (u8.alloc (.cells zeroL.toArray 27)).setCells u8.heap.size 0 (reL U.kind U.set A8 n8 cc8 U.lo U.hi) := ⟨_, rfl⟩
       rw [← hW8] at hnew
       have HZ8 := Lib.hid hnew.2.2
       have HX := Lib.hid (HX.out.step hnew.2.1)
       have HY := Lib.hid hnew.1
       have HW8 := Lib.hid hW8
       clear hb hv8 hW8 hnew c0 c1 c2 c3 c4 c5 c6 c7
       obtain ⟨d0, d1, d2, d3, d4, d5, d6, d7⟩ := HY.out.2.1.eight
       unfold zeroL at HW8 HZ8
       unfold reV)
    | (refine wpList_store_mid rfl 27 (.tmp 5) (.tmp 26) rfl _ 0 (reL U.kind U.set A8 n8 cc8 U.lo U.hi).toArray rfl rfl HZ8.out.there info_re8 reL_all ?_; rw [← HW8.out])
    | (go_at_call 8; go_must (refine (HN2.out _ _ HY.out.1).mono ?_)
       rintro e u9 ⟨hb, v9, rfl, hv9⟩
       obtain ⟨A9, n9, cc9, rfl⟩ := hv9.form
       have HX := Lib.hid (HX.out.step hb)
       have HY := Lib.hid (HY.out.step hb)
       have hnew := in_new hv9 HX.out.2.2
       obtain ⟨W9, hW9⟩ : ∃ W9, W9 = (u9.alloc (.cells zeroL.toArray 27)).setCells u9.heap.size 0 (reL U.kind U.set A9 n9 cc9 U.lo U.hi) := ⟨_, rfl⟩
       rw [← hW9] at hnew
       have HZ9 := Lib.hid hnew.2.2
       have HX := Lib.hid (HX.out.step hnew.2.1)
       have HY := Lib.hid (HY.out.step hnew.2.1)
       have HQ := Lib.hid hnew.1
       have HW9 := Lib.hid hW9
       clear hb hv9 hW9 hnew d0 d1 d2 d3 d4 d5 d6 d7
       unfold zeroL at HW9 HZ9
       unfold reV)
    | (refine wpList_store_mid rfl 27 (.tmp 7) (.tmp 31) rfl _ 0 (reL U.kind U.set A9 n9 cc9 U.lo U.hi).toArray rfl rfl HZ9.out.there info_re8 reL_all ?_; rw [← HW9.out]))
  refine wp_region_reads 71 (fun u => InBox w T w.heap.size A n c u ∧ InBox w U u8.heap.size A8 n8 cc8 u ∧ InBox w U u9.heap.size A9 n9 cc9 u) (by kernel_rfl) (by kernel_rfl) rfl ⟨HX.out.step (Below.refl _ _).drew, HY.out.step (Below.refl _ _).drew, HQ.out.step (Below.refl _ _).drew⟩ (fun u u' h hb => ⟨h.1.step hb, h.2.1.step hb, h.2.2.step hb⟩) ?_
  generalize u8.heap.size = g8 at *
  generalize u9.heap.size = g9 at *
  repeat
    refine freeW_step fun K hK => ?_
    (first
      | (refine freeW_yes 2 35 false rfl rfl ?_ ?_; (focus (go_simp; done)))
      | (refine freeW_yes 6 39 false rfl rfl ?_ ?_; (focus (go_simp; done)))
      | (refine freeW_yes 11 44 false rfl rfl ?_ ?_; (focus (go_simp; done)))
      | (refine freeW_yes 17 50 false rfl rfl ?_ ?_; (focus (go_simp; done)))
      | skip)
    go_simp
    apply Exists.intro
    refine ⟨fun u h1 h2 h3 => ?_, hK _ ?_⟩
    · have h1' := Lib.hid h1
      have h2' := Lib.hid h2
      have h3' := Lib.hid h3
      clear h1 h2 h3
      obtain ⟨c0, c1, c2, c3, c4, c5, c6, c7⟩ := h1'.out.2.1.eight
      obtain ⟨d0, d1, d2, d3, d4, d5, d6, d7⟩ := h2'.out.2.1.eight
      obtain ⟨e0, e1, e2, e3, e4, e5, e6, e7⟩ := h3'.out.2.1.eight
      unfold freeAt
      go_simp
      first
        | exact free_val
        | (apply free_call
           first
             | (go_at_call 9; exact HM2.out _ _ h2'.out.1)
             | (go_at_call 10; exact HSM.out _ _ _ h2'.out.1 h3'.out.1)
             | (go_at_call 13; with_reducible exact HC1.out _ h1'.out)
             | (go_at_call 13; exact HC2.out _ _ h2'.out.1)
           )
    clear hK K
  refine freeW_nil ?_
  intro u hu _
  have HU := Lib.hid hu
  clear hu HX HY HQ
  go_wp2
  refine wp_region_reads 71 (fun u => InBox w T w.heap.size A n c u ∧ InBox w U g8 A8 n8 cc8 u) (by kernel_rfl) (by kernel_rfl) rfl ⟨HU.out.1.step (Below.refl _ _).drew, HU.out.2.1.step (Below.refl _ _).drew⟩ (fun u u' h hb => ⟨h.1.step hb, h.2.step hb⟩) ?_
  repeat
    refine freeW_step fun K hK => ?_
    (first
      | (refine freeW_yes 7 64 true rfl rfl ?_ ?_; (focus (go_simp; done)))
      | skip)
    go_simp
    apply Exists.intro
    refine ⟨fun u h1 h2 => ?_, hK _ ?_⟩
    · have h1' := Lib.hid h1
      have h2' := Lib.hid h2
      clear h1 h2
      obtain ⟨c0, c1, c2, c3, c4, c5, c6, c7⟩ := h1'.out.2.1.eight
      obtain ⟨d0, d1, d2, d3, d4, d5, d6, d7⟩ := h2'.out.2.1.eight
      unfold freeAt
      go_simp
      first
        | exact free_val
        | (apply free_call
           first
             | (go_at_call 14; with_reducible exact HT1.out _ h1'.out)
             | (go_at_call 14; exact HT2.out _ _ h2'.out.1)
             | (go_at_call 15; with_reducible exact HV1.out _ h1'.out)
             | (go_at_call 15; exact HV2.out _ _ h2'.out.1)
           )
    clear hK K
  refine freeW_nil ?_
  intro u hu _
  have HU := Lib.hid hu
  clear hu
  go_wp2
  go_ret
  exact ⟨rfl, HU.out.1.2.2⟩

theorem keeps_any (T : Tree) (v : Value) (s : ByteArray) (w : World) (hat : T.At w v) (hn : T.nodes ≤ 1099511627776) (hT : Tab w) :
    Calls Tryd.prog 4 #[v, .string s] w fun e w' => e = .returned (.bool true) ∧ Below w.heap.size w w' := by
  by_cases hv : T.heavy = true
  · exact keeps_out T v s w hat hn hT (.inl hv)
  have hv' : T.heavy = false := by simpa using hv
  by_cases hs : 40 < s.size
  · exact keeps_out T v s w hat hn hT (.inr ⟨hv', .inl hs⟩)
  by_cases hm : T.mayN = true
  · exact keeps_in T v s w hat hn hT hv' (by omega) hm
  · exact keeps_out T v s w hat hn hT (.inr ⟨hv', .inr ⟨by omega, by simpa using hm⟩⟩)
end Go.Proofs.YtkpmmnackjimmaaDoor

