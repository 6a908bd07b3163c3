/-
  hacklelaw04.RxMay ANSWERS true. Condition: the first tree has at most 2^40 nodes.
-/
import Derived.Test.YtfodpkciahkehaaLaw4a
import Derived.Test.YtfodpkciahkehaaLang2
import Derived.Test.YtfodpkciahkehaaSame
namespace Go.Proofs.Ytfodpkciahkehaa
open Go.RowKit
attribute [local irreducible] FreeW

/-- two trees, in variables of the call's own -/
def TwoIs (w : World) (T T' : Tree) (A A' : Option Addr) (n n' c c' : Nat) (u : World) : Prop :=
  T.At u (reV T.kind T.set A n c T.lo T.hi) ∧ T'.At u (reV T'.kind T'.set A' n' c' T'.lo T'.hi) ∧ BlkIs u w.heap.size 27 (reL T.kind T.set A n c T.lo T.hi).toArray ∧ BlkIs u (w.heap.size + 1) 27 (reL T'.kind T'.set A' n' c' T'.lo T'.hi).toArray ∧ Below w.heap.size w u
theorem TwoIs.step {w u u' : World} {T T' : Tree} {A A' : Option Addr} {n n' c c' : Nat} (h : TwoIs w T T' A A' n n' c c' u) (hb : Below u.heap.size u u') : TwoIs w T T' A A' n n' c c' u' :=
  ⟨h.1.step hb, h.2.1.step hb, h.2.2.1.step hb, h.2.2.2.1.step hb, h.2.2.2.2.trans (hb.mono h.2.2.2.2.size)⟩
theorem two_start {w : World} {T T' : Tree} {A A' : Option Addr} {n n' c c' : Nat} (h : T.At w (reV T.kind T.set A n c T.lo T.hi)) (h' : T'.At w (reV T'.kind T'.set A' n' c' T'.lo T'.hi)) :
    TwoIs w T T' A A' n n' c c' ((w.alloc (.cells (reL T.kind T.set A n c T.lo T.hi).toArray 27)).alloc (.cells (reL T'.kind T'.set A' n' c' T'.lo T'.hi).toArray 27)) := by
  have hb : Below w.heap.size w ((w.alloc (.cells (reL T.kind T.set A n c T.lo T.hi).toArray 27)).alloc (.cells (reL T'.kind T'.set A' n' c' T'.lo T'.hi).toArray 27)) := ((Below.refl _ _).alloc (Nat.le_refl _) _).alloc (by simp) _
  refine ⟨h.step hb, h'.step hb, (BlkIs.new _ _ _).alloc _, ?_, hb⟩
  have := BlkIs.new (w.alloc (.cells (reL T.kind T.set A n c T.lo T.hi).toArray 27)) 27 (reL T'.kind T'.set A' n' c' T'.lo T'.hi).toArray
  rwa [World.size_alloc] at this

set_option maxRecDepth 20000 in
set_option maxHeartbeats 16000000 in
theorem rxMay_any (T T' : Tree) (v v' : Value) (w : World) (hat : T.At w v) (hat' : T'.At w v') (hn : T.nodes ≤ 1099511627776) :
    Calls Try.prog 3 #[v, v'] w fun e w' => e = .returned (.bool true) ∧ Below w.heap.size w w' := by
  obtain ⟨A, n, c, rfl⟩ := hat.form
  obtain ⟨A', n', c', rfl⟩ := hat'.form
  have H0 := Lib.hid (two_start hat hat')
  have HG := Lib.hid (fun u (h : T.At u (reV T.kind T.set A n c T.lo T.hi)) => great_any T _ u h)
  have HG' := Lib.hid (fun u (h : T'.At u (reV T'.kind T'.set A' n' c' T'.lo T'.hi)) => great_any T' _ u h)
  have hd := Nat.le_trans (deep_nodes T) hn
  have HMay := Lib.hid (fun u (h : T.At u (reV T.kind T.set A n c T.lo T.hi)) => may_any T _ u h hd)
  have HRMay := Lib.hid (fun u (h : T.At u (reV T.kind T.set A n c T.lo T.hi)) => refMayRe_any T _ u h)
  have HNodes := Lib.hid (fun u (h : T.At u (reV T.kind T.set A n c T.lo T.hi)) => nodes_any T _ u h hd)
  have HRNodes := Lib.hid (fun u (h : T.At u (reV T.kind T.set A n c T.lo T.hi)) => refNodes_any T _ u h)
  have HDeep := Lib.hid (fun u (h : T.At u (reV T.kind T.set A n c T.lo T.hi)) => deep_any T _ u h hd)
  have HRDeep := Lib.hid (fun u (h : T.At u (reV T.kind T.set A n c T.lo T.hi)) => refDeep_any T _ u h)
  have HSame := Lib.hid (fun u (h : T.At u (reV T.kind T.set A n c T.lo T.hi)) (h' : T'.At u (reV T'.kind T'.set A' n' c' T'.lo T'.hi)) => same_any T T' _ _ u h h' hn)
  have HRSame := Lib.hid (fun u (h : T.At u (reV T.kind T.set A n c T.lo T.hi)) (h' : T'.At u (reV T'.kind T'.set A' n' c' T'.lo T'.hi)) => refSame_any T T' _ _ u h h')
  have HSelf := Lib.hid (fun u (h : T.At u (reV T.kind T.set A n c T.lo T.hi)) => same_any T T _ _ u h h hn)
  rw [may_small hn] at HRMay
  rw [deepW_small T hd] at HRDeep
  rw [same_refl] at HSelf
  clear hat hat' hn hd
  generalize T.mayN = qm at *
  generalize T.same T' = qs at *
  generalize IntKind.i64.wrap (T.nodes : Int) = qn at *
  generalize (T.deepN : Int) = qd at *
  cases hg : T.great
  case true =>
    rw [hg] at HG
    clear hg
    unfold reV reL at *
    go_enter Try.func3, Try.ntmps3
    go_wp2_with (first
      | (go_at_call 6; go_must (refine (alive_any _).mono ?_); rintro e w1 ⟨rfl, hb⟩; have HX := Lib.hid (H0.out.step hb); clear hb; obtain ⟨c0, c1, c2, c3, c4, c5, c6, c7⟩ := HX.out.2.2.1.eight)
      | (go_at_call 7; go_must (refine (HG.out _ HX.out.1).mono ?_); rintro e w2 ⟨rfl, hb⟩; have HX := Lib.hid (HX.out.step hb); clear hb))
    go_ret
    exact ⟨rfl, HX.out.2.2.2.2⟩
  rw [hg] at HG
  clear hg
  cases hg : T'.great
  case true =>
    rw [hg] at HG'
    clear hg
    unfold reV reL at *
    go_enter Try.func3, Try.ntmps3
    go_wp2_with (first
      | (go_at_call 6; go_must (refine (alive_any _).mono ?_); rintro e w1 ⟨rfl, hb⟩; have HX := Lib.hid (H0.out.step hb); clear hb; obtain ⟨c0, c1, c2, c3, c4, c5, c6, c7⟩ := HX.out.2.2.1.eight)
      | (go_at_call 7; have hx1 := HX.out.1; ((with_reducible refine (HG.out _ hx1).mono ?_); clear hx1; rintro e w2 ⟨rfl, hb⟩; have HX := Lib.hid (HX.out.step hb); clear hb; obtain ⟨e0, e1, e2, e3, e4, e5, e6, e7⟩ := HX.out.2.2.2.1.eight))
      | (go_at_call 7; go_must (refine (HG'.out _ HX.out.2.1).mono ?_); rintro e w2 ⟨rfl, hb⟩; have HX := Lib.hid (HX.out.step hb); clear hb))
    go_ret
    exact ⟨rfl, HX.out.2.2.2.2⟩
  rw [hg] at HG'
  clear hg
  unfold reV reL at *
  go_enter Try.func3, Try.ntmps3
  go_wp2_with (first
    | (go_at_call 6; go_must (refine (alive_any _).mono ?_); rintro e w1 ⟨rfl, hb⟩; have HX := Lib.hid (H0.out.step hb); clear hb; obtain ⟨c0, c1, c2, c3, c4, c5, c6, c7⟩ := HX.out.2.2.1.eight)
    | (go_at_call 7; have hx1 := HX.out.1; ((with_reducible refine (HG.out _ hx1).mono ?_); clear hx1; rintro e w2 ⟨rfl, hb⟩; have HX := Lib.hid (HX.out.step hb); clear hb c0 c1 c2 c3 c4 c5 c6 c7; obtain ⟨e0, e1, e2, e3, e4, e5, e6, e7⟩ := HX.out.2.2.2.1.eight))
    | (go_at_call 7; go_must (refine (HG'.out _ HX.out.2.1).mono ?_); rintro e w2 ⟨rfl, hb⟩; have HX := Lib.hid (HX.out.step hb); clear hb e0 e1 e2 e3 e4 e5 e6 e7))
  refine wp_region_reads 46 (fun u => TwoIs w T T' A A' n n' c c' u) (by kernel_rfl) (by kernel_rfl) rfl (HX.out.step (Below.refl _ _).drew) (fun u u' h hb => h.step hb) ?_
  repeat
    refine freeW_step fun K hK => ?_
    (first
      | (refine freeW_yes 5 18 true rfl rfl ?_ ?_; (focus (go_simp; done)))
      | (refine freeW_yes 12 25 true rfl rfl ?_ ?_; (focus (go_simp; done)))
      | (refine freeW_yes 19 32 true rfl rfl ?_ ?_; (focus (go_simp; done)))
      | (refine freeW_yes 28 41 true rfl rfl ?_ ?_; (focus (go_simp; done)))
      | skip)
    go_simp
    apply Exists.intro
    refine ⟨fun u h1 => ?_, hK _ ?_⟩
    · have H1 := Lib.hid h1
      obtain ⟨c0, c1, c2, c3, c4, c5, c6, c7⟩ := h1.2.2.1.eight
      obtain ⟨e0, e1, e2, e3, e4, e5, e6, e7⟩ := h1.2.2.2.1.eight
      clear h1
      unfold freeAt
      go_simp
      first
        | exact free_val
        | (apply free_call
           first
             | (go_at_call 8; exact HMay.out _ H1.out.1)
             | (go_at_call 9; exact HRMay.out _ H1.out.1)
             | (go_at_call 10; exact HNodes.out _ H1.out.1)
             | (go_at_call 11; exact HRNodes.out _ H1.out.1)
             | (go_at_call 12; exact HDeep.out _ H1.out.1)
             | (go_at_call 13; exact HRDeep.out _ H1.out.1)
             | (go_at_call 14; first | ((with_reducible refine HSame.out _ ?_ ?_); (exact H1.out.1); (exact H1.out.2.1)) | ((with_reducible refine HSelf.out _ ?_); (exact H1.out.1)))
             | (go_at_call 15; exact HRSame.out _ H1.out.1 H1.out.2.1)
           )
    clear hK K
  refine freeW_nil ?_
  intro u hu _
  have HU := Lib.hid hu
  clear hu
  go_wp2
  go_ret
  exact ⟨rfl, HU.out.2.2.2.2⟩

end Go.Proofs.Ytfodpkciahkehaa
