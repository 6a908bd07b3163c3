/-
  WHAT Cat OF PACKAGE rx ANSWERS lies in new memory alone: a contract. Condition: at most 2^40 nodes.
-/
import Derived.Test.YtkladjjeacjgpaaDoorQG06
import Derived.Test.YtkladjjeacjgpaaDoorQRef4d
import Derived.Test.YtkladjjeacjgpaaDoorQG05
namespace Go.Proofs.YtkladjjeacjgpaaDoor
open Go.RowKit
set_option maxRecDepth 10000 in
set_option maxHeartbeats 2000000 in
theorem cat_own (l : List Tree) (A : Option Addr) (c : Nat) (w : World) (hat : l ≠ [] → ∃ b o, A = some ⟨b, o, none⟩ ∧ AllAt w l b o) (hn : nodesL l ≤ 1099511627776) :
    Calls Tryd.prog 36 #[.slice A l.length c] w fun e w' => ∃ v, e = .returned v ∧ Tree.At (hide w' (low w.heap.size)) (rowT 2 (.node 0 (fun _ => false) [] 0 0) l) v ∧ Below w.heap.size w w' := by
  have hb := BlkIs.new w 27 zeroL.toArray
  have h0 : Below w.heap.size w (w.alloc (.cells zeroL.toArray 27)) := (Below.refl _ _).alloc (Nat.le_refl _) _
  have hcl := clone_any l A c (w.alloc (.cells zeroL.toArray 27)) (fun hne => by obtain ⟨b, o, h1, h2⟩ := hat hne; exact ⟨b, o, h1, h2.step h0⟩) hn
  have HB := Lib.hid hb
  have H0 := Lib.hid h0
  have HCL := Lib.hid hcl
  clear hb h0 hcl hat
  obtain ⟨R, hR⟩ : ∃ R, R = rowT 2 (.node 0 (fun _ => false) [] 0 0) l := ⟨_, rfl⟩
  rw [← hR]
  have HRR := Lib.hid hR
  clear hR
  have hag : ∀ (w1 : World) (k : Nat), w.heap.size + 1 ≤ k → (hide w1 (low (w.heap.size + 1))).heap[k]? = w1.heap[k]? := fun w1 k hk => by
    rw [hide_get, low_no.2 hk]
    simp
  have HAG := Lib.hid hag
  clear hag
  unfold zeroL at *
  go_enter Tryd.func36, Tryd.ntmps36
  go_wp2_with (first
    | (go_at_call 52; go_must (refine HCL.out.mono ?_); rintro e w1 ⟨A', c', rfl, k1, k2, k3, hb1⟩)
    | (go_at_call 51; go_must (refine (row_zero 2 l A' c' w1 (hide w1 (low (w.heap.size + 1))) hide_less (fun hne => (k3 hne).imp fun g h => ⟨0, h.1, h.2.2 _ (fun k hk => HAG.out w1 k (by simpa using hk))⟩) ⟨k1, k2⟩).mono ?_); rintro e w3 ⟨v, rfl, hv, hb3⟩; obtain ⟨A2, n2, c2, rfl⟩ := hv.form; have hB3 := HB.out.step (hb1.trans (hb3.mono hb1.size)))
    | (refine wpList_store_mid rfl 27 (.tmp 2) (.tmp 6) rfl w.heap.size 0 (reL _ _ A2 n2 c2 _ _).toArray rfl rfl hB3.there info_re8 reL_all ?_))
  have hB := H0.out.trans ((hb1.trans (hb3.mono hb1.size)).mono H0.out.size)
  rw [← HRR.out] at hv ⊢
  have hl := load_re (store_re (k := R.kind) (m := R.set) (A := A2) (n := n2) (c := c2) (lo := R.lo) (hi := R.hi) hB3 rfl)
  have hB4 := below_cells w.heap.size (reL R.kind R.set A2 n2 c2 R.lo R.hi) 0 _ (Nat.le_refl _) hB
  refine bodyPost_ret (results_cell1 rfl rfl hl) rfl ⟨_, rfl, hv.sub (hide_sub fun k hk hn => ?_), hB4⟩
  rw [low_no] at hk ⊢
  exact ⟨by omega, (heap_cells w.heap.size k (by omega) _ 0 w3).trans (hb3.block k hn)⟩
end Go.Proofs.YtkladjjeacjgpaaDoor

/-
  WHAT Alt AND Rep OF PACKAGE rx ANSWER lies in new memory alone: contracts. Condition: at most 2^40 nodes.
-/
namespace Go.Proofs.YtkladjjeacjgpaaDoor
open Go.RowKit
set_option maxRecDepth 10000 in
set_option maxHeartbeats 2000000 in
theorem alt_own (l : List Tree) (A : Option Addr) (c : Nat) (w : World) (hat : l ≠ [] → ∃ b o, A = some ⟨b, o, none⟩ ∧ AllAt w l b o) (hn : nodesL l ≤ 1099511627776) :
    Calls Tryd.prog 39 #[.slice A l.length c] w fun e w' => ∃ v, e = .returned v ∧ Tree.At (hide w' (low w.heap.size)) (rowT 3 (.node 1 (fun _ => false) [] 0 0) l) v ∧ Below w.heap.size w w' := by
  have hb := BlkIs.new w 27 zeroL.toArray
  have h0 : Below w.heap.size w (w.alloc (.cells zeroL.toArray 27)) := (Below.refl _ _).alloc (Nat.le_refl _) _
  have hcl := clone_any l A c (w.alloc (.cells zeroL.toArray 27)) (fun hne => by obtain ⟨b, o, h1, h2⟩ := hat hne; exact ⟨b, o, h1, h2.step h0⟩) hn
  have HB := Lib.hid hb
  have H0 := Lib.hid h0
  have HCL := Lib.hid hcl
  clear hb h0 hcl hat
  obtain ⟨R, hR⟩ : ∃ R, R = rowT 3 (.node 1 (fun _ => false) [] 0 0) l := ⟨_, rfl⟩
  rw [← hR]
  have HRR := Lib.hid hR
  clear hR
  have hag : ∀ (w1 : World) (k : Nat), w.heap.size + 1 ≤ k → (hide w1 (low (w.heap.size + 1))).heap[k]? = w1.heap[k]? := fun w1 k hk => by
    rw [hide_get, low_no.2 hk]
    simp
  have HAG := Lib.hid hag
  clear hag
  unfold zeroL at *
  go_enter Tryd.func39, Tryd.ntmps39
  go_wp2_with (first
    | (go_at_call 52; go_must (refine HCL.out.mono ?_); rintro e w1 ⟨A', c', rfl, k1, k2, k3, hb1⟩)
    | (go_at_call 56; go_must (refine (byte_zero _).mono ?_); rintro e w2 ⟨rfl, hb2⟩)
    | (go_at_call 51; go_must (refine (row_any 3 l A' c' (.node 1 (fun _ => false) [] 0 0) 1 0 0 (fun _ => false) none 0 0 w2 (hide w1 (low (w.heap.size + 1))) (hide_less.trans (sub_below hb2)) (fun hne => (k3 hne).imp fun g h => ⟨0, h.1, h.2.2 _ (fun k hk => HAG.out w1 k (by simpa using hk))⟩) ⟨k1, k2⟩ (at_none 1 _)).mono ?_); rintro e w3 ⟨v, rfl, hv, hb3'⟩; obtain ⟨A2, n2, c2, rfl⟩ := hv.form; have hb3 := hb2.trans (hb3'.mono hb2.size); have hB3 := HB.out.step (hb1.trans (hb3.mono hb1.size)))
    | (refine wpList_store_mid rfl 27 (.tmp 2) (.tmp 7) rfl w.heap.size 0 (reL _ _ A2 n2 c2 _ _).toArray rfl rfl hB3.there info_re8 reL_all ?_))
  have hB := H0.out.trans ((hb1.trans (hb3.mono hb1.size)).mono H0.out.size)
  rw [← HRR.out] at hv ⊢
  have hl := load_re (store_re (k := R.kind) (m := R.set) (A := A2) (n := n2) (c := c2) (lo := R.lo) (hi := R.hi) hB3 rfl)
  have hB4 := below_cells w.heap.size (reL R.kind R.set A2 n2 c2 R.lo R.hi) 0 _ (Nat.le_refl _) hB
  refine bodyPost_ret (results_cell1 rfl rfl hl) rfl ⟨_, rfl, hv.sub (hide_sub fun k hk hn => ?_), hB4⟩
  rw [low_no] at hk ⊢
  exact ⟨by omega, (heap_cells w.heap.size k (by omega) _ 0 w3).trans (hb3.block k hn)⟩
set_option maxRecDepth 10000 in
set_option maxHeartbeats 2000000 in
theorem rep_own (T : Tree) (v : Value) (lo hi : Int) (w : World) (hat : Tree.At w T v) (hn : T.nodes ≤ 1099511627776) :
    Calls Tryd.prog 61 #[v, .int .i64 lo, .int .i64 hi] w fun e w' => ∃ v', e = .returned v' ∧ Tree.At (hide w' (low w.heap.size)) (.node 4 (fun _ => false) [T] lo hi) v' ∧ Below w.heap.size w w' := by
  obtain ⟨A, n, c, rfl⟩ := hat.form
  generalize hk : T.kind = k at *
  generalize hm : T.set = m at *
  generalize hl : T.lo = l at *
  generalize hh : T.hi = h at *
  obtain ⟨W2, hW2⟩ : ∃ W2, W2 = ((w.alloc (.cells (reL k m A n c l h).toArray 27)).alloc (.cells zeroL.toArray 27)).alloc (.cells (reL k m A n c l h).toArray 27) := ⟨_, rfl⟩
  have hB : Below w.heap.size w W2 := by rw [hW2]; exact (((Below.refl _ _).alloc (Nat.le_refl _) _).alloc (by simp) _).alloc (by simp; omega) _
  have hres : BlkIs W2 (w.heap.size + 1) 27 zeroL.toArray := by
    have := (BlkIs.new (w.alloc (.cells (reL k m A n c l h).toArray 27)) 27 zeroL.toArray).alloc (.cells (reL k m A n c l h).toArray 27)
    rw [World.size_alloc] at this
    rw [hW2]; exact this
  have harr : BlkIs W2 (w.heap.size + 1 + 1) 27 (reL k m A n c l h).toArray := by
    have := BlkIs.new ((w.alloc (.cells (reL k m A n c l h).toArray 27)).alloc (.cells zeroL.toArray 27)) 27 (reL k m A n c l h).toArray
    rw [World.size_alloc, World.size_alloc] at this
    rw [hW2]; exact this
  have hsz : W2.heap.size = w.heap.size + 3 := by rw [hW2]; simp
  have hcl := clone_any [T] (some ⟨w.heap.size + 1 + 1, 0, none⟩) 1 W2 (fun _ => ⟨_, 0, rfl, by
    refine AllAt.mk [T] _ 0 fun i hi => ?_
    obtain rfl : i = 0 := by simpa using hi
    refine ⟨reL k m A n c l h, hat.step hB, rfl, fun j v hv => ?_⟩
    have := harr.cell j
    simpa [hv] using this⟩) (by simpa [nodesL] using hn)
  have HB := Lib.hid hB
  have HR := Lib.hid hres
  have HCL := Lib.hid hcl
  have HW := Lib.hid hW2
  clear hB hres harr hcl hat
  simp only [List.length_cons, List.length_nil, Nat.zero_add] at HCL
  unfold zeroL at *
  unfold reV reL at *
  go_enter Tryd.func61, Tryd.ntmps61
  go_wp2_with (first
    | rw [← hW2]
    | (go_at_call 52; go_must (refine HCL.out.mono ?_); rintro e w1 ⟨A', c', rfl, k1, k2, k3, hb1⟩; have hB3 := HR.out.step hb1)
    | (refine wpList_store_mid rfl 27 (.tmp 6) (.tmp 12) rfl (w.heap.size + 1) 0 (reL 4 (fun _ => false) A' 1 c' lo hi).toArray rfl (by simp only [reL, wd_zero]; rfl) hB3.there info_re8 reL_all ?_))
  have hBe := HB.out.trans (hb1.mono HB.out.size)
  have hl := load_re (store_re (k := 4) (m := fun _ => false) (A := A') (n := 1) (c := c') (lo := lo) (hi := hi) hB3 rfl)
  have hB4 := below_cells (w.heap.size + 1) (reL 4 (fun _ => false) A' 1 c' lo hi) 0 _ (Nat.le_succ _) hBe
  refine bodyPost_ret (results_cell1 rfl rfl hl) rfl ⟨_, rfl, ?_, hB4⟩
  obtain ⟨g, rfl, hg, hall⟩ := k3 (by simp)
  unfold Tree.At
  refine ⟨some ⟨g, 0, none⟩, c', rfl, ⟨k1, k2⟩, fun _ => ⟨g, 0, rfl, (hall (hide w1 (low (w.heap.size + 2))) (fun k hk => by rw [hide_get, low_no.2 (by omega)]; simp)).sub (hide_sub fun k hk hn => ?_)⟩⟩
  rw [low_no] at hk ⊢
  exact ⟨by omega, heap_cells (w.heap.size + 1) k (by omega) _ 0 w1⟩

end Go.Proofs.YtkladjjeacjgpaaDoor

/-
  TREES OF FEW NODES: May of the reference; a tree is like itself. No condition.
-/
namespace Go.Proofs.YtkladjjeacjgpaaDoor
open Go.RowKit
mutual
theorem deepW_few : ∀ T : Tree, T.deepN ≤ 1099511627776 → T.deepW = (T.deepN : Int)
  | .node k m l lo hi => fun h => by
    have h1 := deepM_few l (by simp only [Tree.deepN] at h; omega)
    have h2 : Tree.deepW (.node k m l lo hi) = wrap64 (deepM l + 1) := by unfold Tree.deepW deepM; rfl
    rw [h2, h1]
    simp only [Tree.deepN] at h ⊢
    unfold wrap64
    omega
theorem deepM_few : ∀ l : List Tree, deepL l ≤ 1099511627776 → deepM l = (deepL l : Int)
  | [] => fun _ => rfl
  | t :: r => fun h => by
    simp only [deepL] at h
    have h1 := deepM_few r (by omega)
    have h2 := deepW_few t (by omega)
    have h3 : ∀ (xs : List Int) (a b : Int), 0 ≤ a → 0 ≤ b → (xs.foldl (fun d x => if d < x then x else d) (max a b)) = max a (xs.foldl (fun d x => if d < x then x else d) b) := by
      intro xs
      induction xs with
      | nil => intro a b _ _; rfl
      | cons y ys ih =>
        intro a b ha hb
        simp only [List.foldl_cons]
        by_cases hy : b < y
        · rw [if_pos hy]
          by_cases hy2 : max a b < y
          · rw [if_pos hy2]
            have := ih a y ha (by omega)
            rw [show max a y = y by omega] at this
            exact this
          · rw [if_neg hy2]
            have := ih a y ha (by omega)
            rw [← this]; congr 1; omega
        · rw [if_neg hy, if_neg (by omega)]
          exact ih a b ha hb
    unfold deepM at h1 ⊢
    simp only [deepsW, List.foldl_cons]
    have h4 : (if (0 : Int) < t.deepW then t.deepW else 0) = max t.deepW 0 := by rw [h2]; split <;> omega
    rw [h4, h3 _ _ _ (by rw [h2]; omega) (Int.le_refl _), h1, h2]
    simp only [deepL]
    omega
end
theorem may_few {T : Tree} (h : T.nodes ≤ 1099511627776) : T.may = T.mayN := by
  unfold Tree.may Tree.mayN
  have h1 := deepW_few T (Nat.le_trans (deep_nodes T) h)
  rw [h1]
  have h2 : wrap64 (T.nodes : Int) = (T.nodes : Int) := by unfold wrap64; omega
  rw [h2]
  congr 1
  · exact decide_eq_decide.2 (by omega)
  · congr 1
    exact decide_eq_decide.2 (by omega)
mutual
theorem like_self : ∀ T : Tree, T.same T = true
  | .node k m l lo hi => by
    unfold Tree.same
    simp [setEq_refl, likeL_self l]
theorem likeL_self : ∀ l : List Tree, sameL l l = true
  | [] => by unfold sameL; rfl
  | t :: r => by unfold sameL; rw [like_self t, likeL_self r]; rfl
end

end Go.Proofs.YtkladjjeacjgpaaDoor

