/-
  WHAT textsOf, Void, Empty, First, Last OF PACKAGE rx ANSWER: contracts. Condition: the tree has at most 2^40 nodes.
-/
import Derived.Test.YtfodpkciahkehaaTx5
import Derived.Test.YtfodpkciahkehaaMayt
namespace Go.Proofs.Ytfodpkciahkehaa
open Go.RowKit

theorem field_tx (v e : Bool) (f l : Nat → Bool) (u : World) :
    (Instr.field 56 (.agg (txL v e f l).toArray) 0).run Try.prog u = .ok (.bool v) u ∧ (Instr.field 56 (.agg (txL v e f l).toArray) 1).run Try.prog u = .ok (.bool e) u ∧
    (Instr.field 56 (.agg (txL v e f l).toArray) 2).run Try.prog u = .ok (.agg (setL f).toArray) u ∧ (Instr.field 56 (.agg (txL v e f l).toArray) 3).run Try.prog u = .ok (.agg (setL l).toArray) u :=
  ⟨by kernel_rfl, by kernel_rfl, by kernel_rfl, by kernel_rfl⟩

def Tree.txOf (T : Tree) : Tx := if T.mayN = true then T.tx else .zero

/-- a box of the tree, and one for the result -/
theorem re_boxes (w : World) (cs zs : Array Value) (ty : TypeId) :
    BlkIs ((w.alloc (.cells cs 27)).alloc (.cells zs ty)) w.heap.size 27 cs ∧ BlkIs ((w.alloc (.cells cs 27)).alloc (.cells zs ty)) (w.heap.size + 1) ty zs ∧
      Below w.heap.size w ((w.alloc (.cells cs 27)).alloc (.cells zs ty)) := by
  have h1 := BlkIs.new (w.alloc (.cells cs 27)) ty zs
  rw [World.size_alloc] at h1
  exact ⟨(BlkIs.new w _ _).alloc _, h1, ((Below.refl _ _).alloc (Nat.le_refl _) _).alloc (by simp) _⟩

set_option maxRecDepth 20000 in
set_option maxHeartbeats 4000000 in
theorem textsOf_any (T : Tree) (v : Value) (w : World) (hat : T.At w v) (hn : T.nodes ≤ 1099511627776) : Calls Try.prog 35 #[v] w fun e w' => e = .returned T.txOf.V ∧ Below w.heap.size w w' := by
  obtain ⟨A, n, c, rfl⟩ := hat.form
  have HM := Lib.hid (fun u (hu : Below w.heap.size w u) => may_any T _ u (hat.step hu) (Nat.le_trans (deep_nodes T) hn))
  have HT := Lib.hid (fun u (hu : Below w.heap.size w u) (hok : T.ok = true) => texts_any T _ u hok hn (hat.step hu))
  have hmo : T.mayN = true → T.ok = true := fun h => by
    unfold Tree.mayN at h
    rw [Bool.and_eq_true, Bool.and_eq_true] at h
    exact h.2.2
  have HMO := Lib.hid hmo
  clear hat hmo hn
  unfold Tree.txOf
  generalize T.kind = k at *
  generalize T.set = m at *
  generalize T.lo = lo at *
  generalize T.hi = hi at *
  generalize T.tx = y at *
  obtain ⟨W2, hW2⟩ : ∃ W2, W2 = (w.alloc (.cells (reL k m A n c lo hi).toArray 27)).alloc (.cells zeroT.toArray 56) := ⟨_, rfl⟩
  have h0 := re_boxes w (reL k m A n c lo hi).toArray zeroT.toArray 56
  rw [← hW2] at h0
  have H0 := Lib.hid h0
  have hc0 := h0.1
  unfold reL at hc0
  obtain ⟨c0, c1, c2, c3, c4, c5, c6, c7⟩ := hc0.eight
  clear h0 hc0
  unfold reV reL zeroT at *
  have hz : Tx.zero.L = [.bool false, .bool false, .int .u64 0, .int .u64 0, .int .u64 0, .int .u64 0, .int .u64 0, .int .u64 0, .int .u64 0, .int .u64 0] := by rw [← zeroT_is]; rfl
  go_enter Try.func35, Try.ntmps35
  by_cases hm : T.mayN = true
  · rw [if_pos hm]
    have HOK := Lib.hid (HMO.out hm)
    rw [hm] at HM
    go_wp2_with (first
      | rw [← hW2]
      | (go_at_call 8
         go_must (refine (HM.out _ H0.out.2.2).mono ?_)
         rintro e w3 ⟨rfl, hb3⟩
         have H3 := Lib.hid (And.intro (H0.out.2.1.step hb3) (H0.out.2.2.trans (hb3.mono H0.out.2.2.size)))
         have h13 := H0.out.1.step hb3
         obtain ⟨e0, e1, e2, e3, e4, e5, e6, e7⟩ := h13.eight
         clear hb3 h13)
      | (go_at_call 43
         go_must (refine (HT.out _ H3.out.2 HOK.out).mono ?_)
         rintro e w4 ⟨rfl, hb4⟩
         have H4 := Lib.hid (And.intro (H3.out.1.step hb4) (H3.out.2.trans (hb4.mono H3.out.2.size)))
         clear hb4)
      | refine wpList_store_mid rfl 56 (.tmp 2) (.tmp 8) rfl (w.heap.size + 1) 0 y.L.toArray rfl rfl H4.out.1.there info_tx (tx_all y) ?_)
    obtain ⟨f1, f2⟩ := res_tx y H4.out.1 rfl H4.out.2 (Nat.le_succ _)
    exact bodyPost_ret (results_cell1 rfl rfl f1) rfl ⟨rfl, f2⟩
  · rw [if_neg hm]
    have hm2 : T.mayN = false := by simpa using hm
    rw [hm2] at HM
    go_wp2_with (first
      | rw [← hW2]
      | (go_at_call 8
         go_must (refine (HM.out _ H0.out.2.2).mono ?_)
         rintro e w3 ⟨rfl, hb3⟩
         have H3 := Lib.hid (And.intro (H0.out.2.1.step hb3) (H0.out.2.2.trans (hb3.mono H0.out.2.2.size)))
         clear hb3)
      | refine wpList_store_mid rfl 56 (.tmp 2) (.tmp 6) rfl (w.heap.size + 1) 0 Tx.zero.L.toArray rfl (by rw [hz]; rfl) H3.out.1.there info_tx (tx_all .zero) ?_)
    obtain ⟨f1, f2⟩ := res_tx .zero H3.out.1 rfl H3.out.2 (Nat.le_succ _)
    exact bodyPost_ret (results_cell1 rfl rfl f1) rfl ⟨rfl, f2⟩


set_option maxRecDepth 20000 in
set_option maxHeartbeats 2000000 in
theorem first_any (T : Tree) (v : Value) (w : World) (hat : T.At w v) (hn : T.nodes ≤ 1099511627776) : Calls Try.prog 17 #[v] w fun e w' => e = .returned (setV T.txOf.f) ∧ Below w.heap.size w w' := by
  obtain ⟨A, n, c, rfl⟩ := hat.form
  have HT := Lib.hid (fun u (hu : Below w.heap.size w u) => textsOf_any T _ u (hat.step hu) hn)
  clear hat hn
  generalize T.kind = k at *
  generalize T.set = m at *
  generalize T.lo = lo at *
  generalize T.hi = hi at *
  generalize T.txOf = y at *
  obtain ⟨W2, hW2⟩ : ∃ W2, W2 = (w.alloc (.cells (reL k m A n c lo hi).toArray 27)).alloc (.cells #[.int .u64 0, .int .u64 0, .int .u64 0, .int .u64 0] 24) := ⟨_, rfl⟩
  have h0 := re_boxes w (reL k m A n c lo hi).toArray #[.int .u64 0, .int .u64 0, .int .u64 0, .int .u64 0] 24
  rw [← hW2] at h0
  have H0 := Lib.hid h0
  have hc0 := h0.1
  unfold reL at hc0
  obtain ⟨c0, c1, c2, c3, c4, c5, c6, c7⟩ := hc0.eight
  clear h0 hc0
  obtain ⟨yv, ye, yf, yl⟩ := y
  have hfd := fun u => (field_tx yv ye yf yl u).2.2.1
  unfold txL setL at hfd
  unfold Tx.V Tx.L txL at HT
  dsimp only at HT ⊢
  unfold reV reL at *
  go_enter Try.func17, Try.ntmps17
  go_wp2_with (first
    | rw [← hW2]
    | (go_at_call 35
       go_must (refine (HT.out _ H0.out.2.2).mono ?_)
       rintro e w3 ⟨rfl, hb3⟩
       have H3 := Lib.hid (And.intro (H0.out.2.1.step hb3) (H0.out.2.2.trans (hb3.mono H0.out.2.2.size)))
       clear hb3)
    | refine wpList_store_mid rfl 24 (.tmp 2) (.tmp 5) rfl (w.heap.size + 1) 0 (setL yf).toArray rfl rfl H3.out.1.there info_set4 (set_all _) ?_)
  have hb := H3.out.1.fill (new := (setL yf).toArray) rfl
  have hl := run_loadVar_mid (P := Try.prog) _ (w.heap.size + 1) 0 24 (setL yf) _ hb.range Try.underlying24 rfl info_set4
  exact bodyPost_ret (results_cell1 rfl rfl hl) rfl ⟨rfl, below_cells _ _ 0 _ (Nat.le_succ _) H3.out.2⟩

set_option maxRecDepth 20000 in
set_option maxHeartbeats 2000000 in
theorem last_any (T : Tree) (v : Value) (w : World) (hat : T.At w v) (hn : T.nodes ≤ 1099511627776) : Calls Try.prog 29 #[v] w fun e w' => e = .returned (setV T.txOf.l) ∧ Below w.heap.size w w' := by
  obtain ⟨A, n, c, rfl⟩ := hat.form
  have HT := Lib.hid (fun u (hu : Below w.heap.size w u) => textsOf_any T _ u (hat.step hu) hn)
  clear hat hn
  generalize T.kind = k at *
  generalize T.set = m at *
  generalize T.lo = lo at *
  generalize T.hi = hi at *
  generalize T.txOf = y at *
  obtain ⟨W2, hW2⟩ : ∃ W2, W2 = (w.alloc (.cells (reL k m A n c lo hi).toArray 27)).alloc (.cells #[.int .u64 0, .int .u64 0, .int .u64 0, .int .u64 0] 24) := ⟨_, rfl⟩
  have h0 := re_boxes w (reL k m A n c lo hi).toArray #[.int .u64 0, .int .u64 0, .int .u64 0, .int .u64 0] 24
  rw [← hW2] at h0
  have H0 := Lib.hid h0
  have hc0 := h0.1
  unfold reL at hc0
  obtain ⟨c0, c1, c2, c3, c4, c5, c6, c7⟩ := hc0.eight
  clear h0 hc0
  obtain ⟨yv, ye, yf, yl⟩ := y
  have hfd := fun u => (field_tx yv ye yf yl u).2.2.2
  unfold txL setL at hfd
  unfold Tx.V Tx.L txL at HT
  dsimp only at HT ⊢
  unfold reV reL at *
  go_enter Try.func29, Try.ntmps29
  go_wp2_with (first
    | rw [← hW2]
    | (go_at_call 35
       go_must (refine (HT.out _ H0.out.2.2).mono ?_)
       rintro e w3 ⟨rfl, hb3⟩
       have H3 := Lib.hid (And.intro (H0.out.2.1.step hb3) (H0.out.2.2.trans (hb3.mono H0.out.2.2.size)))
       clear hb3)
    | refine wpList_store_mid rfl 24 (.tmp 2) (.tmp 5) rfl (w.heap.size + 1) 0 (setL yl).toArray rfl rfl H3.out.1.there info_set4 (set_all _) ?_)
  have hb := H3.out.1.fill (new := (setL yl).toArray) rfl
  have hl := run_loadVar_mid (P := Try.prog) _ (w.heap.size + 1) 0 24 (setL yl) _ hb.range Try.underlying24 rfl info_set4
  exact bodyPost_ret (results_cell1 rfl rfl hl) rfl ⟨rfl, below_cells _ _ 0 _ (Nat.le_succ _) H3.out.2⟩

end Go.Proofs.Ytfodpkciahkehaa

