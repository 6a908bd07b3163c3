/-
  WHAT IS SO OF A TREE's TEXTS, BY PACKAGE rx: one behind the other (then): a contract. No condition.
-/
import Derived.Test.YtfodpkciahkehaaTx
namespace Go.Proofs.Ytfodpkciahkehaa
open Go.RowKit

def setL (f : Nat → Bool) : List Value := [.int .u64 (wd f 0 : Nat), .int .u64 (wd f 1 : Nat), .int .u64 (wd f 2 : Nat), .int .u64 (wd f 3 : Nat)]
theorem store_f {W : World} {g : Nat} {ty : TypeId} {v e : Bool} {f l : Nat → Bool} (f' : Nat → Bool) (h : BlkIs W g ty (txL v e f l).toArray) : BlkIs (W.setCells g 2 (setL f')) g ty (txL v e f' l).toArray :=
  (((h.put 2 (.int .u64 (wd f' 0 : Nat))).put 3 (.int .u64 (wd f' 1 : Nat))).put 4 (.int .u64 (wd f' 2 : Nat))).put 5 (.int .u64 (wd f' 3 : Nat))
theorem store_l {W : World} {g : Nat} {ty : TypeId} {v e : Bool} {f l : Nat → Bool} (l' : Nat → Bool) (h : BlkIs W g ty (txL v e f l).toArray) : BlkIs (W.setCells g 6 (setL l')) g ty (txL v e f l').toArray :=
  (((h.put 6 (.int .u64 (wd l' 0 : Nat))).put 7 (.int .u64 (wd l' 1 : Nat))).put 8 (.int .u64 (wd l' 2 : Nat))).put 9 (.int .u64 (wd l' 3 : Nat))
theorem set_all (f : Nat → Bool) : (setL f).toArray.all (·.oneCell') = true := by simp [setL, Value.oneCell']
theorem info_set4 : (Try.prog.info? 24).map (·.size) = some 4 := by kernel_rfl
theorem there_in {W : World} {g : Nat} {ty : TypeId} {cs : Array Value} (h : BlkIs W g ty cs) (o n : Nat) (hn : o + n ≤ cs.size) : W.there g o n := fun j hj => by
  have := h.there (o + j) (by omega)
  rwa [Nat.zero_add] at this

/-- where 'then' stands: three boxes, and what it has grown from -/
def ThenIs (w : World) (t o : List Value) (W : World) : Prop := BlkIs W w.heap.size 56 t.toArray ∧ BlkIs W (w.heap.size + 1) 56 o.toArray ∧ BlkIs W (w.heap.size + 1 + 1) 56 zeroT.toArray ∧ Below w.heap.size w W
theorem ThenIs.step {w W W' : World} {t o : List Value} (h : ThenIs w t o W) (hb : Below W.heap.size W W') : ThenIs w t o W' := ⟨h.1.step hb, h.2.1.step hb, h.2.2.1.step hb, h.2.2.2.trans (hb.mono h.2.2.2.size)⟩
theorem blk_cells {W : World} {k g : Nat} {ty : TypeId} {cs : Array Value} (h : BlkIs W k ty cs) (hk : k ≠ g) (vs : List Value) (o : Nat) : BlkIs (W.setCells g o vs) k ty cs := (heap_cells g k hk vs o W).trans h
theorem ThenIs.cells {w W : World} {t o : List Value} (h : ThenIs w t o W) {g : Nat} (hg : w.heap.size + 1 + 1 < g) (vs : List Value) (q : Nat) : ThenIs w t o (W.setCells g q vs) :=
  ⟨blk_cells h.1 (by omega) vs q, blk_cells h.2.1 (by omega) vs q, blk_cells h.2.2.1 (by omega) vs q, below_cells g vs q W (by omega) h.2.2.2⟩

/-- and the box of both -/
def BothIs (w : World) (t o : List Value) (e : Bool) (f l : Nat → Bool) (W : World) : Prop := ThenIs w t o W ∧ BlkIs W (w.heap.size + 1 + 1 + 1) 56 (txL false e f l).toArray
theorem BothIs.step {w W W' : World} {t o : List Value} {e : Bool} {f l : Nat → Bool} (h : BothIs w t o e f l W) (hb : Below W.heap.size W W') : BothIs w t o e f l W' := ⟨h.1.step hb, h.2.step hb⟩
theorem BothIs.f {w W : World} {t o : List Value} {e : Bool} {f l : Nat → Bool} (h : BothIs w t o e f l W) (f' : Nat → Bool) : BothIs w t o e f' l (W.setCells (w.heap.size + 1 + 1 + 1) 2 (setL f')) := ⟨h.1.cells (by omega) _ _, store_f f' h.2⟩
theorem BothIs.l {w W : World} {t o : List Value} {e : Bool} {f l : Nat → Bool} (h : BothIs w t o e f l W) (l' : Nat → Bool) : BothIs w t o e f l' (W.setCells (w.heap.size + 1 + 1 + 1) 6 (setL l')) := ⟨h.1.cells (by omega) _ _, store_l l' h.2⟩
theorem both_start {w W : World} {t o : List Value} (h : ThenIs w t o W) (hs : W.heap.size = w.heap.size + 1 + 1 + 1) (e : Bool) (f l : Nat → Bool) : BothIs w t o e f l ((W.alloc (.cells zeroT.toArray 56)).setCells (w.heap.size + 1 + 1 + 1) 0 (txL false e f l)) ∧
    (W.alloc (.cells zeroT.toArray 56)).there (w.heap.size + 1 + 1 + 1) 0 10 := by
  have hn := BlkIs.new W 56 zeroT.toArray
  rw [hs] at hn
  refine ⟨⟨(h.step ((Below.refl _ _).alloc (Nat.le_refl _) _)).cells (by omega) _ _, store_tx ⟨false, e, f, l⟩ hn rfl⟩, hn.there⟩

set_option maxRecDepth 20000 in
set_option maxHeartbeats 8000000 in
theorem then_any (t o : Tx) (w : World) : Calls Try.prog 54 #[t.V, o.V] w fun e w' => e = .returned (thenX t o).V ∧ Below w.heap.size w w' := by
  obtain ⟨W2, hW2⟩ : ∃ W2, W2 = ((w.alloc (.cells t.L.toArray 56)).alloc (.cells o.L.toArray 56)).alloc (.cells zeroT.toArray 56) := ⟨_, rfl⟩
  have h0 : ThenIs w t.L o.L W2 := by
    have h1 := (BlkIs.new (w.alloc (.cells t.L.toArray 56)) 56 o.L.toArray).alloc (.cells zeroT.toArray 56)
    have h2 := BlkIs.new ((w.alloc (.cells t.L.toArray 56)).alloc (.cells o.L.toArray 56)) 56 zeroT.toArray
    rw [World.size_alloc] at h1
    rw [World.size_alloc, World.size_alloc] at h2
    rw [hW2]
    exact ⟨((BlkIs.new w _ _).alloc _).alloc _, h1, h2, (((Below.refl _ _).alloc (Nat.le_refl _) _).alloc (by simp) _).alloc (by simp; omega) _⟩
  have hsz : W2.heap.size = w.heap.size + 1 + 1 + 1 := by rw [hW2]; simp
  have H0 := Lib.hid h0
  clear h0
  obtain ⟨tv, te, tf, tl⟩ := t
  obtain ⟨ov, oe, of, ol⟩ := o
  have HA1 := Lib.hid (fun u => any_any tf of u)
  have HA2 := Lib.hid (fun u => any_any tl ol u)
  unfold setV at HA1 HA2
  have hres : ∀ (v e : Bool) (f l : Nat → Bool) (u : World), BlkIs u (w.heap.size + 1 + 1) 56 zeroT.toArray → Below w.heap.size w u → (loadVar 56 ⟨w.heap.size + 1 + 1, 0, none⟩).run Try.prog (u.setCells (w.heap.size + 1 + 1) 0 (txL v e f l)) = .ok (.agg (txL v e f l).toArray) (u.setCells (w.heap.size + 1 + 1) 0 (txL v e f l)) ∧ Below w.heap.size w (u.setCells (w.heap.size + 1 + 1) 0 (txL v e f l)) :=
    fun v e f l u h1 h2 => ⟨load_tx (t := ⟨v, e, f, l⟩) (store_tx ⟨v, e, f, l⟩ h1 rfl), below_cells _ _ 0 _ (by omega) h2⟩
  have HRES := Lib.hid hres
  clear hres
  unfold thenX at *
  dsimp only at *
  generalize sOr tf of = rf at *
  generalize sOr tl ol = rl at *
  obtain ⟨c0, c1, c2, c3, c4, c5, c6, c7, c8, c9⟩ := tx_cells (show BlkIs W2 w.heap.size 56 (txL tv te tf tl).toArray from H0.out.1)
  obtain ⟨d0, d1, d2, d3, d4, d5, d6, d7, d8, d9⟩ := tx_cells (show BlkIs W2 (w.heap.size + 1) 56 (txL ov oe of ol).toArray from H0.out.2.1)
  unfold zeroT Tx.V Tx.L txL at *
  go_enter Try.func54, Try.ntmps54
  by_cases hv : (tv || ov) = true
  · rw [if_pos hv]
    have hn : (Tx.none.v, Tx.none.e) = (true, false) := rfl
    cases tv <;> cases ov
    · cases hv
    all_goals
      go_wp2_with (first
        | rw [← hW2]
        | refine wpList_store_mid rfl 56 (.tmp 4) (.tmp 12) rfl (w.heap.size + 1 + 1) 0 (txL true false (fun _ => false) (fun _ => false)).toArray rfl (by simp only [txL, wd_zero]; rfl) H0.out.2.2.1.there info_tx (tx_all ⟨_, _, _, _⟩) ?_)
      obtain ⟨f1, f2⟩ := HRES.out true false (fun _ => false) (fun _ => false) W2 H0.out.2.2.1 H0.out.2.2.2
      exact bodyPost_ret (results_cell1 rfl rfl f1) rfl ⟨rfl, f2⟩
  · rw [if_neg hv]
    cases tv <;> cases ov
    case false.true => exact absurd rfl hv
    case true.false => exact absurd rfl hv
    case true.true => exact absurd rfl hv
    have HST := Lib.hid (fun e => both_start H0.out hsz e tf ol)
    unfold zeroT at HST
    clear c0 c1 c2 c3 c4 c5 c6 c7 c8 c9 d0 d1 d2 d3 d4 d5 d6 d7 d8 d9
    cases te <;> cases oe
    all_goals
      obtain ⟨c0, c1, c2, c3, c4, c5, c6, c7, c8, c9⟩ := tx_cells H0.out.1
      obtain ⟨d0, d1, d2, d3, d4, d5, d6, d7, d8, d9⟩ := tx_cells H0.out.2.1
      go_wp2_with (first
        | rw [← hW2]
        | (refine wpList_store_mid rfl 56 (.tmp 5) (.tmp 23) rfl (w.heap.size + 1 + 1 + 1) 0 (txL false _ tf ol).toArray rfl rfl (HST.out true).2 info_tx (tx_all ⟨false, _, tf, ol⟩) ?_
           generalize hU : World.setCells _ _ _ _ = U1
           have HU := Lib.hid (hU ▸ (HST.out _).1)
           clear hU c0 c1 c2 c3 c4 c5 c6 c7 c8 c9 d0 d1 d2 d3 d4 d5 d6 d7 d8 d9
           obtain ⟨c0, c1, c2, c3, c4, c5, c6, c7, c8, c9⟩ := tx_cells HU.out.1.1
           obtain ⟨d0, d1, d2, d3, d4, d5, d6, d7, d8, d9⟩ := tx_cells HU.out.1.2.1)
        | (go_at_call 56
           go_must (first | (with_reducible refine (HA1.out _).mono ?_) | (with_reducible refine (HA2.out _).mono ?_))
           rintro e w1 ⟨rfl, hb1⟩
           have HU := Lib.hid (HU.out.step hb1)
           clear hb1 c0 c1 c2 c3 c4 c5 c6 c7 c8 c9 d0 d1 d2 d3 d4 d5 d6 d7 d8 d9
           obtain ⟨c0, c1, c2, c3, c4, c5, c6, c7, c8, c9⟩ := tx_cells HU.out.1.1
           obtain ⟨d0, d1, d2, d3, d4, d5, d6, d7, d8, d9⟩ := tx_cells HU.out.1.2.1)
        | (refine wpList_store_mid rfl 24 (.tmp 31) (.tmp 30) rfl (w.heap.size + 1 + 1 + 1) 2 (setL rf).toArray rfl rfl (there_in HU.out.2 2 4 (by simp [txL])) info_set4 (set_all rf) ?_
           generalize hU : World.setCells _ _ _ _ = U2
           have HU := Lib.hid (hU ▸ HU.out.f rf)
           clear hU c0 c1 c2 c3 c4 c5 c6 c7 c8 c9 d0 d1 d2 d3 d4 d5 d6 d7 d8 d9
           obtain ⟨c0, c1, c2, c3, c4, c5, c6, c7, c8, c9⟩ := tx_cells HU.out.1.1
           obtain ⟨d0, d1, d2, d3, d4, d5, d6, d7, d8, d9⟩ := tx_cells HU.out.1.2.1)
        | (refine wpList_store_mid rfl 24 (.tmp 39) (.tmp 38) rfl (w.heap.size + 1 + 1 + 1) 6 (setL rl).toArray rfl rfl (there_in HU.out.2 6 4 (by simp [txL])) info_set4 (set_all rl) ?_
           generalize hU : World.setCells _ _ _ _ = U3
           have HU := Lib.hid (hU ▸ HU.out.l rl)
           clear hU c0 c1 c2 c3 c4 c5 c6 c7 c8 c9 d0 d1 d2 d3 d4 d5 d6 d7 d8 d9
           obtain ⟨c0, c1, c2, c3, c4, c5, c6, c7, c8, c9⟩ := tx_cells HU.out.1.1
           obtain ⟨d0, d1, d2, d3, d4, d5, d6, d7, d8, d9⟩ := tx_cells HU.out.1.2.1)
        | (refine wpList_load_mid rfl 56 (.tmp 5) rfl (w.heap.size + 1 + 1 + 1) 0 rfl _ _ HU.out.2.range Try.underlying56 rfl info_tx ?_)
        | (refine wpList_store_mid rfl 56 (.tmp 4) (.tmp 40) rfl (w.heap.size + 1 + 1) 0 (txL false _ _ _).toArray rfl rfl HU.out.1.2.2.1.there info_tx (tx_all ⟨false, _, _, _⟩) ?_))
      obtain ⟨f1, f2⟩ := HRES.out false _ _ _ _ HU.out.1.2.2.1 HU.out.1.2.2.2
      exact bodyPost_ret (results_cell1 rfl rfl f1) rfl ⟨rfl, f2⟩

end Go.Proofs.Ytfodpkciahkehaa

