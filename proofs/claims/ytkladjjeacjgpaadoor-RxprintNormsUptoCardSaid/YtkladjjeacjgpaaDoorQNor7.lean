/-
  hacklelaw07.RxprintNorms' WALK: it answers true. Condition: the tree has at most 2^20 nodes; math/bits' table lies where it lies.
-/
import Derived.Test.YtkladjjeacjgpaaDoorQTal7
import Derived.Test.YtkladjjeacjgpaaDoorQG07
import Derived.Test.YtkladjjeacjgpaaDoorQRn9
namespace Go.Proofs.YtkladjjeacjgpaaDoor
open Go.RowKit

theorem in_start8 {w : World} {T : Tree} {A : Option Addr} {n c : Nat} (h : T.At w (reV T.kind T.set A n c T.lo T.hi)) : InBox w T w.heap.size A n c (w.alloc (.cells (reL T.kind T.set A n c T.lo T.hi).toArray 27)) :=
  ⟨h.step ((Below.refl _ _).alloc (Nat.le_refl _) _), BlkIs.new _ _ _, (Below.refl _ _).alloc (Nat.le_refl _) _⟩
theorem sub_none (W : World) : Sub W (hide W fun _ => false) := fun _ _ h => hide_show rfl h
/-- a tree in a new variable -/
theorem in_new7 {w u : World} {T : Tree} {A : Option Addr} {n c : Nat} (h : T.At u (reV T.kind T.set A n c T.lo T.hi)) (hb : Below w.heap.size w u) : InBox w T u.heap.size A n c (u.alloc (.cells (reL T.kind T.set A n c T.lo T.hi).toArray 27)) ∧
    Below u.heap.size u (u.alloc (.cells (reL T.kind T.set A n c T.lo T.hi).toArray 27)) := by
  have h9 := (Below.refl u.heap.size u).alloc (Nat.le_refl _) (.cells (reL T.kind T.set A n c T.lo T.hi).toArray 27)
  exact ⟨⟨h.step h9, BlkIs.new _ _ _, hb.trans (h9.mono hb.size)⟩, h9⟩

set_option maxRecDepth 20000 in
set_option maxHeartbeats 8000000 in
theorem norms_any (T : Tree) (v : Value) (w : World) (hat : T.At w v) (hn : T.nodes ≤ 1048576) (hT : Tab w) :
    Calls Tryd.prog 3 #[v] w fun e w' => e = .returned (.bool true) ∧ Below w.heap.size w w' := by
  obtain ⟨A, n, c, rfl⟩ := hat.form
  have H0 := Lib.hid (in_start8 hat)
  have HA := Lib.hid (alive7_any _ (hT.step H0.out.2.2))
  have HG := Lib.hid (fun u (h : InBox w T w.heap.size A n c u) => great_any T _ u h.1)
  have hm := fun u (h : InBox w T w.heap.size A n c u) => refMayRe_any T _ u h.1
  rw [may_few (by omega)] at hm
  have HM := Lib.hid hm
  have HP := Lib.hid (fun u (h : InBox w T w.heap.size A n c u) => norm_any T _ u h.1 (by omega))
  have HR := Lib.hid (fun (hmay : T.mayN = true) u (h : InBox w T w.heap.size A n c u) => refNorm_any T (mayN_ok hmay).1 hn (fun _ => false) _ u (fun _ h => by cases h) (h.1.sub (sub_none u)))
  clear hat hT hm hn
  unfold reV reL at *
  by_cases hg : T.great = true
  · rw [hg] at HG
    clear HP HR HM hg
    go_enter Tryd.func3, Tryd.ntmps3
    go_wp2_with (first
      | (go_at_call 6; go_must (refine HA.out.mono ?_); rintro e w1 ⟨rfl, hb⟩; have HX := Lib.hid (H0.out.step hb); clear hb; obtain ⟨c0, c1, c2, c3, c4, c5, c6, c7⟩ := HX.out.2.1.eight)
      | (go_at_call 7; go_must (refine (HG.out _ HX.out).mono ?_); rintro e w2 ⟨rfl, hb⟩; have HX := Lib.hid (HX.out.step hb); clear hb c0 c1 c2 c3 c4 c5 c6 c7))
    go_ret
    exact ⟨rfl, HX.out.2.2⟩
  have hg' : T.great = false := by simpa using hg
  rw [hg'] at HG
  clear hg hg'
  cases hmay : T.mayN with
  | false =>
    rw [hmay] at HM
    have HP2 := Lib.hid (fun u h => (HP.out u h).mono fun e w' g => And.intro g.1 (g.2.2 hmay))
    have hse := fun u => refSame_any emptyT emptyT _ _ u (at_empty u) (at_empty u)
    rw [show emptyT.same emptyT = true from same_refl _] at hse
    have HSE := Lib.hid hse
    clear HR HP hmay hse
    go_enter Tryd.func3, Tryd.ntmps3
    go_wp2_with (first
      | (go_at_call 6; go_must (refine HA.out.mono ?_); rintro e w1 ⟨rfl, hb⟩; have HX := Lib.hid (H0.out.step hb); clear hb; obtain ⟨c0, c1, c2, c3, c4, c5, c6, c7⟩ := HX.out.2.1.eight)
      | (go_at_call 7; go_must (refine (HG.out _ HX.out).mono ?_); rintro e w2 ⟨rfl, hb⟩; have HX := Lib.hid (HX.out.step hb); clear hb c0 c1 c2 c3 c4 c5 c6 c7; obtain ⟨c0, c1, c2, c3, c4, c5, c6, c7⟩ := HX.out.2.1.eight)
      | (go_at_call 8; go_must (refine (HP2.out _ HX.out).mono ?_); rintro e u8 ⟨hb, rfl⟩; have HX := Lib.hid (HX.out.step hb); clear hb c0 c1 c2 c3 c4 c5 c6 c7
         have hz := BlkIs.new u8 27 zeroL.toArray
         have hb9 := (Below.refl u8.heap.size u8).alloc (Nat.le_refl _) (.cells zeroL.toArray 27)
         have HX := Lib.hid (HX.out.step hb9)
         have HZ := Lib.hid hz
         unfold zeroL at HX HZ
         clear hz hb9
         obtain ⟨c0, c1, c2, c3, c4, c5, c6, c7⟩ := HX.out.2.1.eight)
      | (go_at_call 9; go_must (refine (HM.out _ HX.out).mono ?_); rintro e w2 ⟨rfl, hb⟩; have HX := Lib.hid (HX.out.step hb); have HZ := Lib.hid (HZ.out.step hb); clear hb c0 c1 c2 c3 c4 c5 c6 c7; obtain ⟨z0, z1, z2, z3, z4, z5, z6, z7⟩ := HZ.out.eight)
      | (go_at_call 10; go_must (refine (HSE.out _).mono ?_); rintro e w2 ⟨rfl, hb⟩; have HX := Lib.hid (HX.out.step hb); clear hb))
    go_ret
    exact ⟨rfl, HX.out.2.2⟩
  | true =>
    rw [hmay] at HM
    have HP2 := Lib.hid (fun u h => (HP.out u h).mono fun e w' g => And.intro g.1 (g.2.1 hmay))
    have HR2 := Lib.hid (HR.out hmay)
    have hse := fun u v v' (h : T.plain.At u v) (h' : T.plain.At u v') => refSame_any T.plain T.plain v v' u h h'
    rw [same_refl] at hse
    have HSE := Lib.hid hse
    clear HR HP hmay hse
    generalize T.plain = U at *
    go_enter Tryd.func3, Tryd.ntmps3
    go_wp2_with fail
    go_at_call 6
    refine HA.out.mono ?_
    rintro e w1 ⟨rfl, hb⟩
    have HX := Lib.hid (H0.out.step hb)
    clear hb
    obtain ⟨c0, c1, c2, c3, c4, c5, c6, c7⟩ := HX.out.2.1.eight
    go_wp2_with fail
    go_at_call 7
    refine (HG.out _ HX.out).mono ?_
    rintro e w2 ⟨rfl, hb⟩
    have HX := Lib.hid (HX.out.step hb)
    clear hb c0 c1 c2 c3 c4 c5 c6 c7
    obtain ⟨c0, c1, c2, c3, c4, c5, c6, c7⟩ := HX.out.2.1.eight
    go_wp2_with fail
    go_at_call 8
    refine (HP2.out _ HX.out).mono ?_
    rintro e u8 ⟨hb, v8, rfl, hv8⟩
    obtain ⟨A8, n8, cc8, rfl⟩ := hv8.form
    have HX := Lib.hid (HX.out.step hb)
    have hnew := in_new7 hv8 HX.out.2.2
    obtain ⟨W8, hW8⟩ : ∃ W8, u8.alloc (.cells (reL U.kind U.set A8 n8 cc8 U.lo U.hi).toArray 27) = W8 := ⟨_, rfl⟩
    rw [hW8] at hnew
    have HX := Lib.hid (HX.out.step hnew.2)
    have HY := Lib.hid hnew.1
    simp only [reL] at hW8
    clear hb hv8 hnew c0 c1 c2 c3 c4 c5 c6 c7
    unfold reV reL
    obtain ⟨c0, c1, c2, c3, c4, c5, c6, c7⟩ := HX.out.2.1.eight
    go_wp2_with fail
    go_at_call 9
    refine (HM.out _ HX.out).mono ?_
    rintro e w3 ⟨rfl, hb⟩
    have HX := Lib.hid (HX.out.step hb)
    have HY := Lib.hid (HY.out.step hb)
    clear hb c0 c1 c2 c3 c4 c5 c6 c7
    go_wp2_with fail
    generalize u8.heap.size = g8 at *
    refine wp_region_held_drew (S := fun u => InBox w T w.heap.size A n c u ∧ InBox w U g8 A8 n8 cc8 u) (by kernel_rfl) ⟨HX.out.step (Below.refl _ _).drew, HY.out.step (Below.refl _ _).drew⟩ ?_
    intro hS0
    refine wpAnyH_take (i := 0) (v := .int .i64 0) rfl (by kernel_rfl) (by kernel_rfl) (by kernel_rfl) (fun _ _ _ h => h) (.inl ⟨rfl, fun u hu => by go_simp⟩) hS0 ?_
    refine wpAnyH_take (i := 1) (v := .bool true) rfl (by kernel_rfl) (by kernel_rfl) (by kernel_rfl) (fun _ _ _ h => h) (.inl ⟨rfl, fun u hu => by go_simp⟩) hS0 ?_
    refine wpAnyH_take (i := 2) (v := .bool true) rfl (by kernel_rfl) (by kernel_rfl) (by kernel_rfl) (fun _ _ _ h => h) (.inl ⟨rfl, fun u hu => by go_simp⟩) hS0 ?_
    refine wpAnyH_take (i := 3) (v := reV U.kind U.set A8 n8 cc8 U.lo U.hi) rfl (by kernel_rfl) (by kernel_rfl) (by kernel_rfl) (fun _ _ _ h => h) (.inl ⟨rfl, fun u hu => exec_load4 27 (.tmp 3) _ rfl rfl (loadRe hu.2.2.1)⟩) hS0 ?_
    refine wpAnyH_take (i := 4) (v := reV T.kind T.set A n c T.lo T.hi) rfl (by kernel_rfl) (by kernel_rfl) (by kernel_rfl) (fun _ _ _ h => h) (.inl ⟨rfl, fun u hu => exec_load4 27 (.tmp 1) _ rfl rfl (loadRe hu.1.2.1)⟩) hS0 ?_
    refine wpAnyH_ready (rs := [5]) (by kernel_rfl) (by simp) ?_
    refine AllReadyH.cons rfl (fun K hK => ?_) AllReadyH.nil
    go_simp
    go_at_call 11
    refine (HR2.out _ hS0.1).mono ?_
    rintro e w6 ⟨v6, rfl, hat6, hb6⟩
    refine hK.out _ _ ⟨hS0.1.step hb6, hS0.2.step hb6⟩ (fun hS1 => ?_)
    have HT6 := Lib.hid (HSE.out w6 _ _ hS1.2.1 (hat6.sub hide_less))
    clear hK K hS0 hb6 hat6
    refine wpAnyH_ready (rs := [6]) (by kernel_rfl) (by simp) ?_
    refine AllReadyH.cons rfl (fun K hK => ?_) AllReadyH.nil
    go_simp
    go_at_call 10
    refine HT6.out.mono ?_
    rintro e w7 ⟨rfl, hb7⟩
    refine hK.out _ _ ⟨hS1.1.step hb7, hS1.2.step hb7⟩ (fun hS2 => ?_)
    clear hK K hS1 hb7 HT6
    refine wpAnyH_ready (rs := [7]) (by kernel_rfl) (by simp) ?_
    refine AllReadyH.cons rfl (fun K hK => ?_) AllReadyH.nil
    go_simp
    refine hK.out _ _ hS2 (fun hS3 => ?_)
    clear hK K
    refine wpAnyH_ready (rs := [8]) (by kernel_rfl) (by simp) ?_
    refine AllReadyH.cons rfl (fun K hK => ?_) AllReadyH.nil
    go_simp
    refine hK.out _ _ hS3 (fun hS4 => ?_)
    clear hK K
    refine wpAnyH_done (by kernel_rfl) ?_ _
    have HS4 := Lib.hid hS4
    clear hS2 hS3 hS4
    go_wp2
    go_ret
    exact ⟨rfl, HS4.out.1.2.2⟩
end Go.Proofs.YtkladjjeacjgpaaDoor

