/-
  WHAT IS SO OF A TREE's TEXTS, BY PACKAGE rx: 'texts', one behind the other (then), one or the other (or): contracts. No condition.
-/
import Derived.Test.YtfodpkciahkehaaMake
import Derived.Test.YtfodpkciahkehaaFreeG
namespace Go.Proofs.Ytfodpkciahkehaa
open Go.RowKit

structure Tx where
  v : Bool
  e : Bool
  f : Nat → Bool
  l : Nat → Bool
def Tx.zero : Tx := ⟨false, false, fun _ => false, fun _ => false⟩
def Tx.none : Tx := ⟨true, false, fun _ => false, fun _ => false⟩
def Tx.one : Tx := ⟨false, true, fun _ => false, fun _ => false⟩
def thenX (t o : Tx) : Tx := if (t.v || o.v) = true then .none else ⟨false, t.e && o.e, if t.e = true then sOr t.f o.f else t.f, if o.e = true then sOr t.l o.l else o.l⟩
def orX (t o : Tx) : Tx := ⟨t.v && o.v, t.e || o.e, sOr t.f o.f, sOr t.l o.l⟩
def txL (v e : Bool) (f l : Nat → Bool) : List Value := [.bool v, .bool e, .int .u64 (wd f 0 : Nat), .int .u64 (wd f 1 : Nat), .int .u64 (wd f 2 : Nat), .int .u64 (wd f 3 : Nat), .int .u64 (wd l 0 : Nat), .int .u64 (wd l 1 : Nat), .int .u64 (wd l 2 : Nat), .int .u64 (wd l 3 : Nat)]
def Tx.L (t : Tx) : List Value := txL t.v t.e t.f t.l
def Tx.V (t : Tx) : Value := .agg t.L.toArray
theorem Tx.len (t : Tx) : t.L.length = 10 := rfl

theorem info_tx : (Try.prog.info? 56).map (·.size) = some 10 := by kernel_rfl
theorem tx_all (t : Tx) : t.L.toArray.all (·.oneCell') = true := by simp [Tx.L, txL, Value.oneCell']
theorem load_tx {w : World} {g : Nat} {ty : TypeId} {t : Tx} (h : BlkIs w g ty t.L.toArray) : (loadVar 56 ⟨g, 0, none⟩).run Try.prog w = .ok t.V w :=
  run_loadVar_mid (P := Try.prog) w g 0 56 t.L _ h.range Try.underlying56 rfl info_tx
theorem store_tx {w : World} {g : Nat} {ty : TypeId} {cs : Array Value} (t : Tx) (h : BlkIs w g ty cs) (hs : cs.size = 10) : BlkIs (w.setCells g 0 t.L) g ty t.L.toArray := h.fill (new := t.L.toArray) (by rw [hs]; rfl)
def zeroT : List Value := [.bool false, .bool false, .int .u64 0, .int .u64 0, .int .u64 0, .int .u64 0, .int .u64 0, .int .u64 0, .int .u64 0, .int .u64 0]
theorem zeroT_is : zeroT = Tx.zero.L := by
  unfold zeroT Tx.L Tx.zero txL
  simp only [wd_zero]; rfl
theorem tx_cells {w : World} {g : Nat} {ty : TypeId} {v e : Bool} {f l : Nat → Bool} (h : BlkIs w g ty (txL v e f l).toArray) :
    w.cell? ⟨g, 0, none⟩ = some (.bool v) ∧ w.cell? ⟨g, 1, none⟩ = some (.bool e) ∧ w.cell? ⟨g, 2, none⟩ = some (.int .u64 (wd f 0 : Nat)) ∧ w.cell? ⟨g, 3, none⟩ = some (.int .u64 (wd f 1 : Nat)) ∧ w.cell? ⟨g, 4, none⟩ = some (.int .u64 (wd f 2 : Nat)) ∧ w.cell? ⟨g, 5, none⟩ = some (.int .u64 (wd f 3 : Nat)) ∧
      w.cell? ⟨g, 6, none⟩ = some (.int .u64 (wd l 0 : Nat)) ∧ w.cell? ⟨g, 7, none⟩ = some (.int .u64 (wd l 1 : Nat)) ∧ w.cell? ⟨g, 8, none⟩ = some (.int .u64 (wd l 2 : Nat)) ∧ w.cell? ⟨g, 9, none⟩ = some (.int .u64 (wd l 3 : Nat)) :=
  ⟨h.cell 0, h.cell 1, h.cell 2, h.cell 3, h.cell 4, h.cell 5, h.cell 6, h.cell 7, h.cell 8, h.cell 9⟩

set_option maxRecDepth 20000 in
set_option maxHeartbeats 8000000 in
theorem or_any (t o : Tx) (w : World) : Calls Try.prog 55 #[t.V, o.V] w fun e w' => e = .returned (orX t o).V ∧ Below w.heap.size w w' := by
  obtain ⟨W2, hW2⟩ : ∃ W2, W2 = ((w.alloc (.cells t.L.toArray 56)).alloc (.cells o.L.toArray 56)).alloc (.cells zeroT.toArray 56) := ⟨_, rfl⟩
  have h0 : BlkIs W2 w.heap.size 56 t.L.toArray := by rw [hW2]; exact ((BlkIs.new w _ _).alloc _).alloc _
  have h1 : BlkIs W2 (w.heap.size + 1) 56 o.L.toArray := by
    have := (BlkIs.new (w.alloc (.cells t.L.toArray 56)) 56 o.L.toArray).alloc (.cells zeroT.toArray 56)
    rw [World.size_alloc] at this
    rw [hW2]; exact this
  have h2 : BlkIs W2 (w.heap.size + 1 + 1) 56 zeroT.toArray := by
    have := BlkIs.new ((w.alloc (.cells t.L.toArray 56)).alloc (.cells o.L.toArray 56)) 56 zeroT.toArray
    rw [World.size_alloc, World.size_alloc] at this
    rw [hW2]; exact this
  have hB : Below w.heap.size w W2 := by rw [hW2]; exact (((Below.refl _ _).alloc (Nat.le_refl _) _).alloc (by simp) _).alloc (by simp; omega) _
  have H0 := Lib.hid h0
  have H1 := Lib.hid h1
  have H2 := Lib.hid h2
  have HB := Lib.hid hB
  clear h0 h1 h2 hB
  obtain ⟨tv, te, tf, tl⟩ := t
  obtain ⟨ov, oe, of, ol⟩ := o
  have HA1 := Lib.hid (fun u => any_any tf of u)
  have HA2 := Lib.hid (fun u => any_any tl ol u)
  unfold setV at HA1 HA2
  unfold orX at *
  dsimp only at *
  generalize sOr tf of = rf at *
  generalize sOr tl ol = rl at *
  unfold zeroT Tx.V Tx.L txL at *
  go_enter Try.func55, Try.ntmps55
  have hres : ∀ (v e : Bool) (f l : Nat → Bool) (u : World), BlkIs u (w.heap.size + 1 + 1) 56 zeroT.toArray → Below w.heap.size w u → (loadVar 56 ⟨w.heap.size + 1 + 1, 0, none⟩).run Try.prog (u.setCells (w.heap.size + 1 + 1) 0 (txL v e f l)) = .ok (.agg (txL v e f l).toArray) (u.setCells (w.heap.size + 1 + 1) 0 (txL v e f l)) ∧ Below w.heap.size w (u.setCells (w.heap.size + 1 + 1) 0 (txL v e f l)) :=
    fun v e f l u h1 h2 => ⟨load_tx (t := ⟨v, e, f, l⟩) (store_tx ⟨v, e, f, l⟩ h1 rfl), below_cells _ _ 0 _ (by omega) h2⟩
  have HRES := Lib.hid hres
  clear hres
  cases tv <;> cases te
  all_goals
    go_wp2_with (rw [← hW2])
    refine wp_region_free 23 23 28 (fun u => BlkIs u w.heap.size 56 (txL _ _ tf tl).toArray ∧ BlkIs u (w.heap.size + 1) 56 (txL ov oe of ol).toArray ∧ Below w.heap.size w u ∧ BlkIs u (w.heap.size + 1 + 1) 56 zeroT.toArray)
      (fun _ => #[]) (fun _ => 0) (by kernel_rfl) (by kernel_rfl) rfl ⟨H0.out.drew, H1.out.drew, HB.out.drew, H2.out.drew⟩ (fun u u' h hb => ⟨h.1.step hb, h.2.1.step hb, h.2.2.1.trans (hb.mono h.2.2.1.size), h.2.2.2.step hb⟩) (fun i o h1 h2 => absurd h1 (by omega)) ?_
    simp only [List.take_succ_cons, List.take_zero, List.drop_succ_cons, List.drop_zero]
    repeat
      refine freeW_step fun K hK => ?_
      go_simp
      first
        | (apply Exists.intro
           refine ⟨fun u h1 h2 _ _ => ?_, hK _ ?_⟩
           obtain ⟨c0, c1, c2, c3, c4, c5, c6, c7, c8, c9⟩ := tx_cells h1
           obtain ⟨d0, d1, d2, d3, d4, d5, d6, d7, d8, d9⟩ := tx_cells h2
           unfold freeAt
           go_simp
           first
             | exact free_val
             | (apply free_call; go_at_call 56; first | with_reducible exact HA1.out _ | with_reducible exact HA2.out _))
        | refine hK _ ?_
      clear hK K
    refine freeW_nil ?_
    rintro g u ⟨_, _, k3, k4⟩ hb - -
    clear hb
    have HU := Lib.hid (And.intro k3 k4)
    clear k3 k4
    rw [Nat.sub_self, List.take_zero]
    unfold putNews
    go_wp2_with (first | refine wpList_store_mid rfl 56 (.tmp 4) (.tmp 27) rfl (w.heap.size + 1 + 1) 0 (txL _ _ rf rl).toArray rfl rfl HU.out.2.there info_tx (tx_all ⟨_, _, rf, rl⟩) ?_)
    obtain ⟨f1, f2⟩ := HRES.out _ _ rf rl u HU.out.2 HU.out.1
    refine bodyPost_ret (results_cell1 rfl rfl f1) rfl ⟨?_, f2⟩
    first | rfl | (cases ov <;> rfl) | (cases oe <;> rfl) | (cases ov <;> cases oe <;> rfl)

end Go.Proofs.Ytfodpkciahkehaa

