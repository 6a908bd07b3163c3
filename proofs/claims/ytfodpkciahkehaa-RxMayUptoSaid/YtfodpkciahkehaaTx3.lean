/-
  WHAT EACH KIND SAYS OF ITS TEXTS, BY PACKAGE rx: emptyTexts, byteTexts, catTexts, altTexts, repTexts, the array of them: contracts. Condition: the Subs' texts lie in memory.
-/
import Derived.Test.YtfodpkciahkehaaTx2
namespace Go.Proofs.Ytfodpkciahkehaa
open Go.RowKit

/-- a row of texts in memory -/
def TxRow (W : World) (A : Option Addr) (xs : List Tx) : Prop := xs ≠ [] → ∃ b, A = some ⟨b, 0, none⟩ ∧ b < W.heap.size ∧ ∀ (i : Nat) (h : i < xs.length), W.rangeAt b (i * 10) xs[i].L
theorem TxRow.step {W W' : World} {A : Option Addr} {xs : List Tx} (h : TxRow W A xs) (hb : Below W.heap.size W W') : TxRow W' A xs := fun hne => by
  obtain ⟨b, h1, h2, h3⟩ := h hne
  exact ⟨b, h1, Nat.lt_of_lt_of_le h2 hb.size, fun i hi j v hv => (hb.cell (p := ⟨b, i * 10 + j, none⟩) h2).trans (h3 i hi j v hv)⟩

/-- a box of the node, and one for the result -/
theorem two_boxes (w : World) (cs : Array Value) :
    BlkIs ((w.alloc (.cells cs 50)).alloc (.cells zeroT.toArray 56)) w.heap.size 50 cs ∧ BlkIs ((w.alloc (.cells cs 50)).alloc (.cells zeroT.toArray 56)) (w.heap.size + 1) 56 zeroT.toArray ∧
      Below w.heap.size w ((w.alloc (.cells cs 50)).alloc (.cells zeroT.toArray 56)) := by
  have h1 := BlkIs.new (w.alloc (.cells cs 50)) 56 zeroT.toArray
  rw [World.size_alloc] at h1
  exact ⟨(BlkIs.new w _ _).alloc _, h1, ((Below.refl _ _).alloc (Nat.le_refl _) _).alloc (by simp) _⟩
theorem res_tx {w W : World} {g : Nat} (t : Tx) {cs : Array Value} (h : BlkIs W g 56 cs) (hs : cs.size = 10) (hb : Below w.heap.size w W) (hg : w.heap.size ≤ g) :
    (loadVar 56 ⟨g, 0, none⟩).run Try.prog (W.setCells g 0 t.L) = .ok t.V (W.setCells g 0 t.L) ∧ Below w.heap.size w (W.setCells g 0 t.L) :=
  ⟨load_tx (store_tx t h hs), below_cells _ _ 0 _ hg hb⟩
theorem one_L : Tx.one.L = [.bool false, .bool true, .int .u64 0, .int .u64 0, .int .u64 0, .int .u64 0, .int .u64 0, .int .u64 0, .int .u64 0, .int .u64 0] := by
  simp only [Tx.L, Tx.one, txL, wd_zero]; rfl
theorem none_L : Tx.none.L = [.bool true, .bool false, .int .u64 0, .int .u64 0, .int .u64 0, .int .u64 0, .int .u64 0, .int .u64 0, .int .u64 0, .int .u64 0] := by
  simp only [Tx.L, Tx.none, txL, wd_zero]; rfl

set_option maxRecDepth 20000 in
set_option maxHeartbeats 4000000 in
theorem emptyTexts_any (k : Int) (m : Nat → Bool) (A : Option Addr) (n c : Nat) (lo hi : Int) (S : Value) (w : World) :
    Calls Try.prog 49 #[reV k m A n c lo hi, S] w fun e w' => e = .returned Tx.one.V ∧ Below w.heap.size w w' := by
  obtain ⟨W2, hW2⟩ : ∃ W2, W2 = (w.alloc (.cells (reL k m A n c lo hi).toArray 50)).alloc (.cells zeroT.toArray 56) := ⟨_, rfl⟩
  have h0 := two_boxes w (reL k m A n c lo hi).toArray
  rw [← hW2] at h0
  have H0 := Lib.hid h0
  clear h0
  unfold reV reL zeroT at *
  go_enter Try.func49, Try.ntmps49
  go_wp2_with (first
    | rw [← hW2]
    | refine wpList_store_mid rfl 56 (.tmp 4) (.tmp 5) rfl (w.heap.size + 1) 0 Tx.one.L.toArray rfl (by rw [one_L]; rfl) H0.out.2.1.there info_tx (tx_all .one) ?_)
  obtain ⟨f1, f2⟩ := res_tx .one H0.out.2.1 rfl H0.out.2.2 (Nat.le_succ _)
  exact bodyPost_ret (results_cell1 rfl rfl f1) rfl ⟨rfl, f2⟩

set_option maxRecDepth 20000 in
set_option maxHeartbeats 4000000 in
theorem byteTexts_any (k : Int) (m : Nat → Bool) (A : Option Addr) (n c : Nat) (lo hi : Int) (S : Value) (w : World) :
    Calls Try.prog 50 #[reV k m A n c lo hi, S] w fun e w' => e = .returned (Tx.V ⟨setEq m (fun _ => false), false, m, m⟩) ∧ Below w.heap.size w w' := by
  obtain ⟨W2, hW2⟩ : ∃ W2, W2 = (w.alloc (.cells (reL k m A n c lo hi).toArray 50)).alloc (.cells zeroT.toArray 56) := ⟨_, rfl⟩
  have h0 := two_boxes w (reL k m A n c lo hi).toArray
  rw [← hW2] at h0
  have H0 := Lib.hid h0
  clear h0
  have hne := eql_set m (fun _ => false)
  rw [set0_build] at hne
  unfold setV at hne
  have HRES := Lib.hid (fun (u : World) (h1 : BlkIs u (w.heap.size + 1) 56 zeroT.toArray) (h2 : Below w.heap.size w u) => res_tx (w := w) ⟨setEq m (fun _ => false), false, m, m⟩ h1 rfl h2 (Nat.le_succ _))
  generalize setEq m (fun _ => false) = y at *
  unfold reV zeroT at *
  unfold reL at hW2
  go_enter Try.func50, Try.ntmps50
  unfold reL
  go_wp2_with (first | rw [← hW2])
  refine wp_region_free 9 9 14 (fun u => BlkIs u w.heap.size 50 (reL k m A n c lo hi).toArray ∧ Below w.heap.size w u ∧ BlkIs u (w.heap.size + 1) 56 zeroT.toArray)
      (fun _ => #[]) (fun _ => 0) (by kernel_rfl) (by kernel_rfl) rfl ⟨H0.out.1.drew, H0.out.2.2.drew, H0.out.2.1.drew⟩ (fun u u' h hb => ⟨h.1.step hb, h.2.1.trans (hb.mono h.2.1.size), h.2.2.step hb⟩) (fun i o h1 h2 => absurd h1 (by omega)) ?_
  simp only [List.take_succ_cons, List.take_zero, List.drop_succ_cons, List.drop_zero]
  repeat
    refine freeW_step fun K hK => ?_
    go_simp
    apply Exists.intro
    refine ⟨fun u h1 _ _ => ?_, hK _ ?_⟩
    unfold reL at h1
    obtain ⟨c0, c1, c2, c3, c4, c5, c6, c7⟩ := h1.eight
    unfold freeAt
    go_simp
    exact free_val
    clear hK K
  refine freeW_nil ?_
  rintro g u ⟨_, k3, k4⟩ hb - -
  clear hb
  have HU := Lib.hid (And.intro k3 k4)
  clear k3 k4
  rw [Nat.sub_self, List.take_zero]
  unfold putNews
  go_wp2_with (first | refine wpList_store_mid rfl 56 (.tmp 4) (.tmp 13) rfl (w.heap.size + 1) 0 (txL y false m m).toArray rfl rfl HU.out.2.there info_tx (tx_all ⟨y, false, m, m⟩) ?_)
  obtain ⟨f1, f2⟩ := HRES.out u HU.out.2 HU.out.1
  exact bodyPost_ret (results_cell1 rfl rfl f1) rfl ⟨rfl, f2⟩


set_option maxRecDepth 20000 in
set_option maxHeartbeats 8000000 in
theorem catTexts_any (k : Int) (m : Nat → Bool) (A : Option Addr) (n c : Nat) (lo hi : Int) (B : Option Addr) (xs : List Tx) (d : Nat) (hl : xs.length ≤ 1099511627776) (w : World) (hx : TxRow w B xs) (hd : xs.length ≤ d) :
    Calls Try.prog 51 #[reV k m A n c lo hi, .slice B xs.length d] w fun e w' => e = .returned (xs.foldl thenX .one).V ∧ Below w.heap.size w w' := by
  obtain ⟨W2, hW2⟩ : ∃ W2, W2 = (w.alloc (.cells (reL k m A n c lo hi).toArray 50)).alloc (.cells zeroT.toArray 56) := ⟨_, rfl⟩
  have h0 := two_boxes w (reL k m A n c lo hi).toArray
  rw [← hW2] at h0
  have hsz : W2.heap.size = w.heap.size + 1 + 1 := by rw [hW2]; simp
  have hn := BlkIs.new W2 56 zeroT.toArray
  rw [hsz] at hn
  have hst : BlkIs ((W2.alloc (.cells zeroT.toArray 56)).setCells (w.heap.size + 1 + 1) 0 (Tx.one).L) (w.heap.size + 1 + 1) 56 (Tx.one).L.toArray ∧ BlkIs ((W2.alloc (.cells zeroT.toArray 56)).setCells (w.heap.size + 1 + 1) 0 (Tx.one).L) (w.heap.size + 1) 56 zeroT.toArray ∧
      Below w.heap.size w ((W2.alloc (.cells zeroT.toArray 56)).setCells (w.heap.size + 1 + 1) 0 (Tx.one).L) :=
    ⟨store_tx .one hn rfl, blk_cells (h0.2.1.alloc _) (by omega) _ _, below_cells _ _ 0 _ (by omega) (h0.2.2.alloc (by omega) _)⟩
  have HT := Lib.hid hn.there
  have H0 := Lib.hid h0
  have HS := Lib.hid hst
  have HX := Lib.hid hx
  clear h0 hn hst hx
  unfold reV zeroT at *
  unfold reL at hW2
  go_enter Try.func51, Try.ntmps51
  unfold reL
  go_wp2_with (first
    | rw [← hW2]
    | (refine wpList_store_mid rfl 56 (.tmp 5) (.tmp 8) rfl (w.heap.size + 1 + 1) 0 (Tx.one).L.toArray rfl (by rw [one_L]; rfl) HT.out info_tx (tx_all .one) ?_
       generalize hU : World.setCells _ _ _ _ = U1
       have HU := Lib.hid (hU ▸ HS.out)
       clear hU))
  go_loopw [11] (fun i wr => ∃ j : Nat, i = .int .i64 j ∧ j ≤ xs.length ∧ Hid (BlkIs wr (w.heap.size + 1 + 1) 56 ((xs.take j).foldl thenX .one).L.toArray ∧ BlkIs wr (w.heap.size + 1) 56 zeroT.toArray ∧ Below w.heap.size w wr)) (fun i _ => xs.length - (intOf i).toNat)
  case atStart => exact ⟨0, rfl, Nat.zero_le _, HU⟩
  case round =>
    obtain ⟨j, rfl, hj, HH⟩ := hrel
    by_cases hp : j < xs.length
    · have hdl : decide ((j : Int) < (xs.length : Int)) = true := by simp; omega
      obtain ⟨b, rfl, hb1, hb2⟩ := HX.out (by intro e; subst e; simp at hp)
      have hk1 : IntKind.i64.wrap ((j : Int) + 1) = ((j + 1 : Nat) : Int) := by rw [IntKind.wrap_i64]; omega
      have HR := Lib.hid (show wr.rangeAt b (j * 10) xs[j].L from fun q v hv => (HH.out.2.2.cell (p := ⟨b, j * 10 + q, none⟩) hb1).trans (hb2 j hp q v hv))
      have hfold : (xs.take (j + 1)).foldl thenX .one = thenX ((xs.take j).foldl thenX .one) xs[j] := by
        rw [← List.take_append_getElem hp, List.foldl_append]; rfl
      have HF := Lib.hid hfold
      have HZ := Lib.hid (BlkIs.new wr 56 zeroT.toArray)
      clear hfold hb2
      generalize xs[j] = x at *
      generalize (xs.take j).foldl thenX .one = acc at *
      have HL : Hid (BlkIs ((wr.alloc (.cells zeroT.toArray 56)).setCells wr.heap.size 0 x.L) wr.heap.size 56 x.L.toArray ∧ BlkIs ((wr.alloc (.cells zeroT.toArray 56)).setCells wr.heap.size 0 x.L) (w.heap.size + 1 + 1) 56 acc.L.toArray ∧
          BlkIs ((wr.alloc (.cells zeroT.toArray 56)).setCells wr.heap.size 0 x.L) (w.heap.size + 1) 56 zeroT.toArray ∧ Below w.heap.size w ((wr.alloc (.cells zeroT.toArray 56)).setCells wr.heap.size 0 x.L)) := Lib.hid ⟨store_tx x HZ.out rfl,
            blk_cells (HH.out.1.alloc _) (by have := HH.out.1.lt; omega) _ _, blk_cells (HH.out.2.1.alloc _) (by have := HH.out.2.1.lt; omega) _ _, below_cells _ _ 0 _ HH.out.2.2.size (HH.out.2.2.alloc HH.out.2.2.size _)⟩
      unfold zeroT at HL HZ
      go_wp2_with (first
        | refine wpList_load_mid rfl 56 (.tmp 13) rfl b (j * 10) rfl x.L _ HR.out Try.underlying56 rfl info_tx ?_
        | (refine wpList_store_mid rfl 56 (.tmp 7) (.tmp 14) rfl wr.heap.size 0 x.L.toArray rfl rfl HZ.out.there info_tx (tx_all x) ?_
           generalize hU : World.setCells _ _ _ _ = U2
           have HU2 := Lib.hid (hU ▸ HL.out)
           clear hU)
        | refine wpList_load_mid rfl 56 (.tmp 5) rfl (w.heap.size + 1 + 1) 0 rfl acc.L _ HU2.out.2.1.range Try.underlying56 rfl info_tx ?_
        | refine wpList_load_mid rfl 56 (.tmp 7) rfl wr.heap.size 0 rfl x.L _ HU2.out.1.range Try.underlying56 rfl info_tx ?_
        | (go_at_call 54
           go_must (refine (then_any acc x _).mono ?_)
           rintro e w3 ⟨rfl, hb3⟩
           have HU3 := Lib.hid (And.intro (HU2.out.2.1.step hb3) (And.intro (HU2.out.2.2.1.step hb3) (HU2.out.2.2.2.trans (hb3.mono HU2.out.2.2.2.size))))
           clear hb3)
        | (refine wpList_store_mid rfl 56 (.tmp 5) (.tmp 17) rfl (w.heap.size + 1 + 1) 0 (thenX acc x).L.toArray rfl rfl HU3.out.1.there info_tx (tx_all _) ?_
           generalize hU : World.setCells _ _ _ _ = U4
           have HU4 := Lib.hid hU
           clear hU))
      refine ⟨⟨j + 1, by go_num, by omega, Lib.hid ?_⟩, by simp [intOf]; omega⟩
      rw [HF.out, ← HU4.out]
      exact ⟨store_tx _ HU3.out.1 rfl, blk_cells HU3.out.2.1 (by omega) _ _, below_cells _ _ 0 _ (by omega) HU3.out.2.2⟩
    · have hdl : decide ((j : Int) < (xs.length : Int)) = false := by simp; omega
      obtain rfl : j = xs.length := by omega
      have HH2 := HH
      rw [List.take_length] at HH2
      clear HH
      generalize hacc : xs.foldl thenX .one = acc at *
      have HACC := Lib.hid hacc
      clear hacc
      go_wp2_with (first
        | refine wpList_load_mid rfl 56 (.tmp 5) rfl (w.heap.size + 1 + 1) 0 rfl acc.L _ HH2.out.1.range Try.underlying56 rfl info_tx ?_
        | refine wpList_store_mid rfl 56 (.tmp 4) (.tmp 19) rfl (w.heap.size + 1) 0 acc.L.toArray rfl rfl HH2.out.2.1.there info_tx (tx_all acc) ?_)
      obtain ⟨f1, f2⟩ := res_tx acc HH2.out.2.1 rfl HH2.out.2.2 (Nat.le_succ _)
      exact bodyPost_ret (results_cell1 rfl rfl f1) rfl ⟨by rw [HACC.out], f2⟩


set_option maxRecDepth 20000 in
set_option maxHeartbeats 8000000 in
theorem altTexts_any (k : Int) (m : Nat → Bool) (A : Option Addr) (n c : Nat) (lo hi : Int) (B : Option Addr) (xs : List Tx) (d : Nat) (hl : xs.length ≤ 1099511627776) (w : World) (hx : TxRow w B xs) (hd : xs.length ≤ d) :
    Calls Try.prog 52 #[reV k m A n c lo hi, .slice B xs.length d] w fun e w' => e = .returned (xs.foldl orX .none).V ∧ Below w.heap.size w w' := by
  obtain ⟨W2, hW2⟩ : ∃ W2, W2 = (w.alloc (.cells (reL k m A n c lo hi).toArray 50)).alloc (.cells zeroT.toArray 56) := ⟨_, rfl⟩
  have h0 := two_boxes w (reL k m A n c lo hi).toArray
  rw [← hW2] at h0
  have hsz : W2.heap.size = w.heap.size + 1 + 1 := by rw [hW2]; simp
  have hn := BlkIs.new W2 56 zeroT.toArray
  rw [hsz] at hn
  have hst : BlkIs ((W2.alloc (.cells zeroT.toArray 56)).setCells (w.heap.size + 1 + 1) 0 (Tx.none).L) (w.heap.size + 1 + 1) 56 (Tx.none).L.toArray ∧ BlkIs ((W2.alloc (.cells zeroT.toArray 56)).setCells (w.heap.size + 1 + 1) 0 (Tx.none).L) (w.heap.size + 1) 56 zeroT.toArray ∧
      Below w.heap.size w ((W2.alloc (.cells zeroT.toArray 56)).setCells (w.heap.size + 1 + 1) 0 (Tx.none).L) :=
    ⟨store_tx .none hn rfl, blk_cells (h0.2.1.alloc _) (by omega) _ _, below_cells _ _ 0 _ (by omega) (h0.2.2.alloc (by omega) _)⟩
  have HT := Lib.hid hn.there
  have H0 := Lib.hid h0
  have HS := Lib.hid hst
  have HX := Lib.hid hx
  clear h0 hn hst hx
  unfold reV zeroT at *
  unfold reL at hW2
  go_enter Try.func52, Try.ntmps52
  unfold reL
  go_wp2_with (first
    | rw [← hW2]
    | (refine wpList_store_mid rfl 56 (.tmp 5) (.tmp 8) rfl (w.heap.size + 1 + 1) 0 (Tx.none).L.toArray rfl (by rw [none_L]; rfl) HT.out info_tx (tx_all .none) ?_
       generalize hU : World.setCells _ _ _ _ = U1
       have HU := Lib.hid (hU ▸ HS.out)
       clear hU))
  go_loopw [11] (fun i wr => ∃ j : Nat, i = .int .i64 j ∧ j ≤ xs.length ∧ Hid (BlkIs wr (w.heap.size + 1 + 1) 56 ((xs.take j).foldl orX .none).L.toArray ∧ BlkIs wr (w.heap.size + 1) 56 zeroT.toArray ∧ Below w.heap.size w wr)) (fun i _ => xs.length - (intOf i).toNat)
  case atStart => exact ⟨0, rfl, Nat.zero_le _, HU⟩
  case round =>
    obtain ⟨j, rfl, hj, HH⟩ := hrel
    by_cases hp : j < xs.length
    · have hdl : decide ((j : Int) < (xs.length : Int)) = true := by simp; omega
      obtain ⟨b, rfl, hb1, hb2⟩ := HX.out (by intro e; subst e; simp at hp)
      have hk1 : IntKind.i64.wrap ((j : Int) + 1) = ((j + 1 : Nat) : Int) := by rw [IntKind.wrap_i64]; omega
      have HR := Lib.hid (show wr.rangeAt b (j * 10) xs[j].L from fun q v hv => (HH.out.2.2.cell (p := ⟨b, j * 10 + q, none⟩) hb1).trans (hb2 j hp q v hv))
      have hfold : (xs.take (j + 1)).foldl orX .none = orX ((xs.take j).foldl orX .none) xs[j] := by
        rw [← List.take_append_getElem hp, List.foldl_append]; rfl
      have HF := Lib.hid hfold
      have HZ := Lib.hid (BlkIs.new wr 56 zeroT.toArray)
      clear hfold hb2
      generalize xs[j] = x at *
      generalize (xs.take j).foldl orX .none = acc at *
      have HL : Hid (BlkIs ((wr.alloc (.cells zeroT.toArray 56)).setCells wr.heap.size 0 x.L) wr.heap.size 56 x.L.toArray ∧ BlkIs ((wr.alloc (.cells zeroT.toArray 56)).setCells wr.heap.size 0 x.L) (w.heap.size + 1 + 1) 56 acc.L.toArray ∧
          BlkIs ((wr.alloc (.cells zeroT.toArray 56)).setCells wr.heap.size 0 x.L) (w.heap.size + 1) 56 zeroT.toArray ∧ Below w.heap.size w ((wr.alloc (.cells zeroT.toArray 56)).setCells wr.heap.size 0 x.L)) := Lib.hid ⟨store_tx x HZ.out rfl,
            blk_cells (HH.out.1.alloc _) (by have := HH.out.1.lt; omega) _ _, blk_cells (HH.out.2.1.alloc _) (by have := HH.out.2.1.lt; omega) _ _, below_cells _ _ 0 _ HH.out.2.2.size (HH.out.2.2.alloc HH.out.2.2.size _)⟩
      unfold zeroT at HL HZ
      go_wp2_with (first
        | refine wpList_load_mid rfl 56 (.tmp 13) rfl b (j * 10) rfl x.L _ HR.out Try.underlying56 rfl info_tx ?_
        | (refine wpList_store_mid rfl 56 (.tmp 7) (.tmp 14) rfl wr.heap.size 0 x.L.toArray rfl rfl HZ.out.there info_tx (tx_all x) ?_
           generalize hU : World.setCells _ _ _ _ = U2
           have HU2 := Lib.hid (hU ▸ HL.out)
           clear hU)
        | refine wpList_load_mid rfl 56 (.tmp 5) rfl (w.heap.size + 1 + 1) 0 rfl acc.L _ HU2.out.2.1.range Try.underlying56 rfl info_tx ?_
        | refine wpList_load_mid rfl 56 (.tmp 7) rfl wr.heap.size 0 rfl x.L _ HU2.out.1.range Try.underlying56 rfl info_tx ?_
        | (go_at_call 55
           go_must (refine (or_any acc x _).mono ?_)
           rintro e w3 ⟨rfl, hb3⟩
           have HU3 := Lib.hid (And.intro (HU2.out.2.1.step hb3) (And.intro (HU2.out.2.2.1.step hb3) (HU2.out.2.2.2.trans (hb3.mono HU2.out.2.2.2.size))))
           clear hb3)
        | (refine wpList_store_mid rfl 56 (.tmp 5) (.tmp 17) rfl (w.heap.size + 1 + 1) 0 (orX acc x).L.toArray rfl rfl HU3.out.1.there info_tx (tx_all _) ?_
           generalize hU : World.setCells _ _ _ _ = U4
           have HU4 := Lib.hid hU
           clear hU))
      refine ⟨⟨j + 1, by go_num, by omega, Lib.hid ?_⟩, by simp [intOf]; omega⟩
      rw [HF.out, ← HU4.out]
      exact ⟨store_tx _ HU3.out.1 rfl, blk_cells HU3.out.2.1 (by omega) _ _, below_cells _ _ 0 _ (by omega) HU3.out.2.2⟩
    · have hdl : decide ((j : Int) < (xs.length : Int)) = false := by simp; omega
      obtain rfl : j = xs.length := by omega
      have HH2 := HH
      rw [List.take_length] at HH2
      clear HH
      generalize hacc : xs.foldl orX .none = acc at *
      have HACC := Lib.hid hacc
      clear hacc
      go_wp2_with (first
        | refine wpList_load_mid rfl 56 (.tmp 5) rfl (w.heap.size + 1 + 1) 0 rfl acc.L _ HH2.out.1.range Try.underlying56 rfl info_tx ?_
        | refine wpList_store_mid rfl 56 (.tmp 4) (.tmp 19) rfl (w.heap.size + 1) 0 acc.L.toArray rfl rfl HH2.out.2.1.there info_tx (tx_all acc) ?_)
      obtain ⟨f1, f2⟩ := res_tx acc HH2.out.2.1 rfl HH2.out.2.2 (Nat.le_succ _)
      exact bodyPost_ret (results_cell1 rfl rfl f1) rfl ⟨by rw [HACC.out], f2⟩

set_option maxRecDepth 20000 in
set_option maxHeartbeats 8000000 in
theorem repTexts_any (k : Int) (m : Nat → Bool) (A : Option Addr) (n c : Nat) (lo hi : Int) (B : Option Addr) (x : Tx) (d : Nat) (w : World) (hx : TxRow w B [x]) :
    Calls Try.prog 53 #[reV k m A n c lo hi, .slice B 1 d] w fun e w' => e = .returned (if hi = 0 then Tx.one else if lo = 0 then orX x .one else x).V ∧ Below w.heap.size w w' := by
  obtain ⟨W2, hW2⟩ : ∃ W2, W2 = (w.alloc (.cells (reL k m A n c lo hi).toArray 50)).alloc (.cells zeroT.toArray 56) := ⟨_, rfl⟩
  have h0 := two_boxes w (reL k m A n c lo hi).toArray
  rw [← hW2] at h0
  obtain ⟨b, rfl, hb1, hb2⟩ := hx (by simp)
  have HR := Lib.hid (show W2.rangeAt b 0 x.L from fun q v hv => (h0.2.2.cell (p := ⟨b, 0 + q, none⟩) hb1).trans (by have := hb2 0 (by simp) q v hv; simpa using this))
  have H0 := Lib.hid h0
  have hc := h0.1
  unfold reL at hc
  obtain ⟨c0, c1, c2, c3, c4, c5, c6, c7⟩ := hc.eight
  have HX := Lib.hid (fun u => or_any x .one u)
  have hone : Tx.one.V = .agg #[.bool false, .bool true, .int .u64 0, .int .u64 0, .int .u64 0, .int .u64 0, .int .u64 0, .int .u64 0, .int .u64 0, .int .u64 0] := by
    unfold Tx.V
    rw [one_L]
  rw [hone] at HX
  clear h0 hc hx hb2
  unfold reV zeroT at *
  unfold reL at hW2
  by_cases h1 : hi = 0
  · subst h1
    rw [if_pos rfl]
    go_enter Try.func53, Try.ntmps53
    unfold reL
    go_wp2_with (first
      | rw [← hW2]
      | refine wpList_store_mid rfl 56 (.tmp 4) (.tmp 9) rfl (w.heap.size + 1) 0 Tx.one.L.toArray rfl (by rw [one_L]; rfl) H0.out.2.1.there info_tx (tx_all .one) ?_)
    obtain ⟨f1, f2⟩ := res_tx .one H0.out.2.1 rfl H0.out.2.2 (Nat.le_succ _)
    exact bodyPost_ret (results_cell1 rfl rfl f1) rfl ⟨rfl, f2⟩
  rw [if_neg h1]
  have e1 : (hi == 0) = false := by simp [h1]
  by_cases h2 : lo = 0
  · subst h2
    rw [if_pos rfl]
    go_enter Try.func53, Try.ntmps53
    unfold reL
    go_wp2_with (first
      | rw [← hW2]
      | refine wpList_load_mid rfl 56 (.tmp 15) rfl b 0 rfl x.L _ HR.out Try.underlying56 rfl info_tx ?_
      | (go_at_call 55
         go_must (refine (HX.out _).mono ?_)
         rintro e w3 ⟨rfl, hb3⟩
         have HU3 := Lib.hid (And.intro (H0.out.2.1.step hb3) (H0.out.2.2.trans (hb3.mono H0.out.2.2.size)))
         clear hb3)
      | refine wpList_store_mid rfl 56 (.tmp 4) (.tmp 18) rfl (w.heap.size + 1) 0 (orX x .one).L.toArray rfl rfl HU3.out.1.there info_tx (tx_all _) ?_)
    obtain ⟨f1, f2⟩ := res_tx (orX x .one) HU3.out.1 rfl HU3.out.2 (Nat.le_succ _)
    exact bodyPost_ret (results_cell1 rfl rfl f1) rfl ⟨rfl, f2⟩
  rw [if_neg h2]
  have e2 : (lo == 0) = false := by simp [h2]
  go_enter Try.func53, Try.ntmps53
  unfold reL
  go_wp2_with (first
    | rw [← hW2]
    | refine wpList_load_mid rfl 56 (.tmp 20) rfl b 0 rfl x.L _ HR.out Try.underlying56 rfl info_tx ?_
    | refine wpList_store_mid rfl 56 (.tmp 4) (.tmp 21) rfl (w.heap.size + 1) 0 x.L.toArray rfl rfl H0.out.2.1.there info_tx (tx_all _) ?_)
  obtain ⟨f1, f2⟩ := res_tx x H0.out.2.1 rfl H0.out.2.2 (Nat.le_succ _)
  exact bodyPost_ret (results_cell1 rfl rfl f1) rfl ⟨rfl, f2⟩

/-! ### the array of them -/
def tellersA : Array Value := #[.func (.func 49) #[] #[], .func (.func 50) #[] #[], .func (.func 51) #[] #[], .func (.func 52) #[] #[], .func (.func 53) #[] #[]]
theorem info_tellers : (Try.prog.info? 72).map (·.size) = some 5 := by kernel_rfl
theorem tellersOne : tellersA.all (·.oneCell') = true := by simp [tellersA, Value.oneCell']
theorem tellers_any (w : World) : Calls Try.prog 48 #[] w fun e w' => e = .returned (.agg tellersA) ∧ Below w.heap.size w w' := by
  have hr := BlkIs.new w 72 #[Value.nilFunc, Value.nilFunc, Value.nilFunc, Value.nilFunc, Value.nilFunc]
  have hw := hr.fill (new := tellersA) rfl
  have hB := below_cells w.heap.size tellersA.toList 0 _ (Nat.le_refl _) ((Below.refl w.heap.size w).alloc (Nat.le_refl _) (.cells #[Value.nilFunc, Value.nilFunc, Value.nilFunc, Value.nilFunc, Value.nilFunc] 72))
  have hl := run_loadVar_mid (P := Try.prog) _ w.heap.size 0 72 tellersA.toList _ hw.range Try.underlying72 rfl info_tellers
  have HB := Lib.hid hB
  have HL := Lib.hid hl
  have HR := Lib.hid hr
  clear hw hB hl hr
  go_enter Try.func48, Try.ntmps48
  go_wp2_with (first | refine wpList_store_mid rfl 72 (.tmp 0) (.tmp 1) rfl w.heap.size 0 tellersA rfl rfl HR.out.there info_tellers tellersOne ?_)
  exact bodyPost_ret (results_cell1 rfl rfl HL.out) rfl ⟨rfl, HB.out⟩

end Go.Proofs.Ytfodpkciahkehaa

