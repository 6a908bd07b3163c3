/-
  WHAT plain GIVES: the plain tree, in new memory: a contract. Condition: the tree has at most 2^40 nodes, a ReRep in it has a Sub.
-/
import Derived.Test.YtkladjjeacjgpaaDoorQTgat3
import Derived.Test.YtkladjjeacjgpaaDoorQTprep
namespace Go.Proofs.YtkladjjeacjgpaaDoor
open Go.RowKit

def plainNode (k : Int) (m : Nat → Bool) (ps : List Tree) (lo hi : Int) : Tree :=
  if k = 2 then rowT 2 emptyT (catStay (flatT 2 ps)) else if k = 3 then rowT 3 voidT (altStay (flatT 3 ps)) else if k = 4 then repPlain (ps.headD emptyT) lo hi else .node k m [] 0 0
mutual
def Tree.plain : Tree → Tree
  | .node k m l lo hi => plainNode k m (plainL l) lo hi
def plainL : List Tree → List Tree
  | [] => []
  | t :: r => t.plain :: plainL r
end
theorem plainL_len : ∀ l : List Tree, (plainL l).length = l.length
  | [] => by simp [plainL]
  | t :: r => by simp [plainL, plainL_len r]
theorem plainL_get : ∀ (l : List Tree) (i : Nat) (h : i < l.length) (h' : i < (plainL l).length), (plainL l)[i] = (l[i]).plain
  | t :: r, 0, _, _ => by simp [plainL]
  | t :: r, i + 1, h, h' => by
    simp only [plainL, List.getElem_cons_succ]
    exact plainL_get r i _ _
theorem row_nodes {k : Int} {z : Tree} {l : List Tree} (hz : z.nodes ≤ 1) : (rowT k z l).nodes ≤ nodesL l + 1 := by
  match l with
  | [] => simpa [rowT, nodesL] using hz
  | [t] => simp only [rowT, nodesL]; omega
  | a :: b :: r => simp only [rowT, Tree.nodes]; omega
theorem rep_nodes {t : Tree} {lo hi : Int} : (repPlain t lo hi).nodes ≤ t.nodes + 1 := by
  unfold repPlain
  split
  · simp only [emptyT, Tree.nodes, nodesL]; omega
  · split
    · omega
    · simp only [Tree.nodes, nodesL]; omega
theorem plainNode_nodes {k : Int} {m : Nat → Bool} {ps : List Tree} {lo hi : Int} (h : k = 4 → ps ≠ []) : (plainNode k m ps lo hi).nodes ≤ nodesL ps + 1 := by
  unfold plainNode
  split
  · have h1 := catStay_nodes (flatT 2 ps)
    have h2 := flatT_nodes (kind := 2) ps
    have h3 := row_nodes (k := 2) (z := emptyT) (l := catStay (flatT 2 ps)) (by simp [emptyT, Tree.nodes, nodesL])
    omega
  · split
    · have h1 := altStay_nodes (flatT 3 ps)
      have h2 := flatT_nodes (kind := 3) ps
      have h3 := row_nodes (k := 3) (z := voidT) (l := altStay (flatT 3 ps)) (by simp [voidT, Tree.nodes, nodesL])
      omega
    · split
      · have h1 := rep_nodes (t := ps.headD emptyT) (lo := lo) (hi := hi)
        cases ps with
        | nil => exact absurd rfl (h (by assumption))
        | cons t r => simp only [List.headD_cons] at h1 ⊢; simp only [nodesL]; omega
      · simp only [Tree.nodes, nodesL]; omega
/- each ReRep has a Sub -/
mutual
def Tree.reps : Tree → Bool
  | .node k _ l _ _ => (!(k == 4) || decide (l ≠ [])) && repsL l
def repsL : List Tree → Bool
  | [] => true
  | t :: r => t.reps && repsL r
end
mutual
theorem plain_nodes : ∀ T : Tree, T.reps = true → T.plain.nodes ≤ T.nodes
  | .node k m l lo hi => fun h => by
    simp only [Tree.reps, Bool.and_eq_true] at h
    have h1 := plainL_nodes l h.2
    have h2 := plainNode_nodes (k := k) (m := m) (ps := plainL l) (lo := lo) (hi := hi) (fun hk e => by
      have := plainL_len l
      rw [e] at this
      have hl : l = [] := List.eq_nil_of_length_eq_zero this.symm
      subst hk hl
      simp at h)
    simp only [Tree.plain, Tree.nodes]
    omega
theorem plainL_nodes : ∀ l : List Tree, repsL l = true → nodesL (plainL l) ≤ nodesL l
  | [] => fun _ => by simp [plainL, nodesL]
  | t :: r => fun h => by
    simp only [repsL, Bool.and_eq_true] at h
    have h1 := plain_nodes t h.1
    have h2 := plainL_nodes r h.2
    simp only [plainL, nodesL]
    omega
end
theorem repsL_get : ∀ {l : List Tree}, repsL l = true → ∀ t ∈ l, t.reps = true
  | [] => fun _ _ h => by simp at h
  | t :: r => fun h => by
    simp only [repsL, Bool.and_eq_true] at h
    intro x hx
    rcases List.mem_cons.1 hx with rfl | hx
    · exact h.1
    · exact repsL_get h.2 x hx

theorem plain_2 (m : Nat → Bool) (l : List Tree) (lo hi : Int) : Tree.plain (.node 2 m l lo hi) = rowT 2 (.node 0 (fun _ => false) [] 0 0) (catStay (flatT 2 (plainL l))) := by
  unfold Tree.plain plainNode; rw [if_pos rfl]; rfl
theorem plain_3 (m : Nat → Bool) (l : List Tree) (lo hi : Int) : Tree.plain (.node 3 m l lo hi) = rowT 3 (.node 1 (fun _ => false) [] 0 0) (altStay (flatT 3 (plainL l))) := by
  unfold Tree.plain plainNode; rw [if_neg (by decide), if_pos rfl]; rfl
theorem plain_4 (m : Nat → Bool) (l : List Tree) (lo hi : Int) : Tree.plain (.node 4 m l lo hi) = repPlain ((plainL l).headD emptyT) lo hi := by
  unfold Tree.plain plainNode; rw [if_neg (by decide), if_neg (by decide), if_pos rfl]
theorem plain_0 (k : Int) (m : Nat → Bool) (l : List Tree) (lo hi : Int) (h2 : k ≠ 2) (h3 : k ≠ 3) (h4 : k ≠ 4) : Tree.plain (.node k m l lo hi) = .node k m [] 0 0 := by
  unfold Tree.plain plainNode; rw [if_neg h2, if_neg h3, if_neg h4]

theorem head_get : ∀ {l : List Tree} (h : 0 < l.length), l.headD emptyT = l[0]
  | _ :: _, _ => rfl
/-- what plain gives of a tree -/
def PlainOf (T : Tree) (v : Value) (w : World) : Prop := Calls Tryd.prog 21 #[v] w fun e w' => ∃ v', e = .returned v' ∧ T.plain.At (hide w' (low w.heap.size)) v' ∧ Below w.heap.size w w'
def PlainIs (l : List Tree) : Prop := ∀ (i : Nat) (h : i < l.length) (h' : i < (plainL l).length) (v : Value) (u : World), (l[i]).At u v → Calls Tryd.prog 21 #[v] u fun e u' => ∃ v', e = .returned v' ∧ ((plainL l)[i]).At (hide u' (low u.heap.size)) v' ∧ Below u.heap.size u u'

set_option maxRecDepth 20000 in
set_option maxHeartbeats 8000000 in
theorem plain_cat (m : Nat → Bool) (l : List Tree) (lo hi : Int) (v : Value) (w : World) (hat : Tree.At w (.node 2 m l lo hi) v) (hn : nodesL (plainL l) ≤ 1099511627776) (HPL : PlainIs l) : PlainOf (.node 2 m l lo hi) v w := by
  obtain ⟨A, n, c, rfl⟩ := hat.form
  have hb1 : Below w.heap.size w ((w.alloc (.cells (reL 2 m A n c lo hi).toArray 27)).alloc (.cells zeroL.toArray 27)) := ((Below.refl _ _).alloc (Nat.le_refl _) _).alloc (by simp) _
  have hbz : BlkIs ((w.alloc (.cells (reL 2 m A n c lo hi).toArray 27)).alloc (.cells zeroL.toArray 27)) (w.heap.size + 1) 27 zeroL.toArray := by
    have := BlkIs.new (w.alloc (.cells (reL 2 m A n c lo hi).toArray 27)) 27 zeroL.toArray
    rw [World.size_alloc] at this
    exact this
  have hg := gathered_cat m l lo hi _ _ (hat.step hb1) (plainL l) (plainL_len l) hn HPL
  have hsn := Nat.le_trans (catStay_nodes (flatT 2 (plainL l))) (Nat.le_trans (flatT_nodes _) hn)
  unfold PlainOf
  rw [plain_2]
  obtain ⟨R, hR⟩ : ∃ R, R = rowT 2 (.node 0 (fun _ => false) [] 0 0) (catStay (flatT 2 (plainL l))) := ⟨_, rfl⟩
  rw [← hR]
  have HB1 := Lib.hid hb1
  have HBZ := Lib.hid hbz
  have HG := Lib.hid hg
  have HRR := Lib.hid (And.intro hR hsn)
  clear hb1 hbz hg hR hat hsn hn HPL
  simp only [Tree.kind, Tree.set, Tree.lo, Tree.hi] at *
  unfold zeroL at *
  unfold reV reL at *
  go_enter Tryd.func21, Tryd.ntmps21
  go_wp2_with fail
  go_at_call 37
  refine HG.out.mono ?_
  rintro e u1 ⟨A1, c1, rfl, hc1, hl1, hb2⟩
  have HC := Lib.hid (cat_own _ A1 c1 u1 hl1 HRR.out.2)
  have HB2 := Lib.hid (And.intro (HB1.out.trans (hb2.mono HB1.out.size)) (HBZ.out.step hb2))
  clear hl1 hb2
  go_wp2_with fail
  go_at_call 36
  refine HC.out.mono ?_
  rintro e u2 ⟨v', rfl, hv', hb3⟩
  rw [← HRR.out.1] at hv'
  obtain ⟨A9, n9, c9, rfl⟩ := hv'.form
  have hB3 := HB2.out.2.step hb3
  have hbf := HB2.out.1.trans (hb3.mono HB2.out.1.size)
  have hlt9 := HB2.out.2.lt
  have HH9 := Lib.hid (And.intro hv' hbf)
  clear hv' hbf hb3
  go_wp2_with (refine wpList_store_mid rfl 27 (.tmp 2) (.tmp 9) rfl (w.heap.size + 1) 0 (reL R.kind R.set A9 n9 c9 R.lo R.hi).toArray rfl rfl hB3.there info_re8 reL_all ?_)
  have hl := load_re (store_re (k := R.kind) (m := R.set) (A := A9) (n := n9) (c := c9) (lo := R.lo) (hi := R.hi) hB3 rfl)
  have hb := below_cells (w.heap.size + 1) (reL R.kind R.set A9 n9 c9 R.lo R.hi) 0 _ (Nat.le_succ _) HH9.out.2
  refine bodyPost_ret (results_cell1 rfl rfl hl) rfl ⟨_, rfl, HH9.out.1.sub (hide_sub fun k h1 h2 => ?_), hb⟩
  rw [low_no] at h1 ⊢
  exact ⟨by omega, heap_cells (w.heap.size + 1) k (by omega) _ 0 _⟩

set_option maxRecDepth 20000 in
set_option maxHeartbeats 8000000 in
theorem plain_alt (m : Nat → Bool) (l : List Tree) (lo hi : Int) (v : Value) (w : World) (hat : Tree.At w (.node 3 m l lo hi) v) (hn : nodesL (plainL l) ≤ 1099511627776) (HPL : PlainIs l) : PlainOf (.node 3 m l lo hi) v w := by
  obtain ⟨A, n, c, rfl⟩ := hat.form
  have hb1 : Below w.heap.size w ((w.alloc (.cells (reL 3 m A n c lo hi).toArray 27)).alloc (.cells zeroL.toArray 27)) := ((Below.refl _ _).alloc (Nat.le_refl _) _).alloc (by simp) _
  have hbz : BlkIs ((w.alloc (.cells (reL 3 m A n c lo hi).toArray 27)).alloc (.cells zeroL.toArray 27)) (w.heap.size + 1) 27 zeroL.toArray := by
    have := BlkIs.new (w.alloc (.cells (reL 3 m A n c lo hi).toArray 27)) 27 zeroL.toArray
    rw [World.size_alloc] at this
    exact this
  have hg := gathered_alt m l lo hi _ _ (hat.step hb1) (plainL l) (plainL_len l) hn HPL
  have hsn := Nat.le_trans (altStay_nodes (flatT 3 (plainL l))) (Nat.le_trans (flatT_nodes _) hn)
  unfold PlainOf
  rw [plain_3]
  obtain ⟨R, hR⟩ : ∃ R, R = rowT 3 (.node 1 (fun _ => false) [] 0 0) (altStay (flatT 3 (plainL l))) := ⟨_, rfl⟩
  rw [← hR]
  have HB1 := Lib.hid hb1
  have HBZ := Lib.hid hbz
  have HG := Lib.hid hg
  have HRR := Lib.hid (And.intro hR hsn)
  clear hb1 hbz hg hR hat hsn hn HPL
  simp only [Tree.kind, Tree.set, Tree.lo, Tree.hi] at *
  unfold zeroL at *
  unfold reV reL at *
  go_enter Tryd.func21, Tryd.ntmps21
  go_wp2_with fail
  go_at_call 37
  refine HG.out.mono ?_
  rintro e u1 ⟨A1, c1, rfl, hc1, hl1, hb2⟩
  have HC := Lib.hid (alt_own _ A1 c1 u1 hl1 HRR.out.2)
  have HB2 := Lib.hid (And.intro (HB1.out.trans (hb2.mono HB1.out.size)) (HBZ.out.step hb2))
  clear hl1 hb2
  go_wp2_with fail
  go_at_call 39
  refine HC.out.mono ?_
  rintro e u2 ⟨v', rfl, hv', hb3⟩
  rw [← HRR.out.1] at hv'
  obtain ⟨A9, n9, c9, rfl⟩ := hv'.form
  have hB3 := HB2.out.2.step hb3
  have hbf := HB2.out.1.trans (hb3.mono HB2.out.1.size)
  have hlt9 := HB2.out.2.lt
  have HH9 := Lib.hid (And.intro hv' hbf)
  clear hv' hbf hb3
  go_wp2_with (refine wpList_store_mid rfl 27 (.tmp 2) (.tmp 14) rfl (w.heap.size + 1) 0 (reL R.kind R.set A9 n9 c9 R.lo R.hi).toArray rfl rfl hB3.there info_re8 reL_all ?_)
  have hl := load_re (store_re (k := R.kind) (m := R.set) (A := A9) (n := n9) (c := c9) (lo := R.lo) (hi := R.hi) hB3 rfl)
  have hb := below_cells (w.heap.size + 1) (reL R.kind R.set A9 n9 c9 R.lo R.hi) 0 _ (Nat.le_succ _) HH9.out.2
  refine bodyPost_ret (results_cell1 rfl rfl hl) rfl ⟨_, rfl, HH9.out.1.sub (hide_sub fun k h1 h2 => ?_), hb⟩
  rw [low_no] at h1 ⊢
  exact ⟨by omega, heap_cells (w.heap.size + 1) k (by omega) _ 0 _⟩

set_option maxRecDepth 20000 in
set_option maxHeartbeats 8000000 in
theorem plain_leaf (k : Int) (m : Nat → Bool) (l : List Tree) (lo hi : Int) (v : Value) (w : World) (hat : Tree.At w (.node k m l lo hi) v) (h2 : k ≠ 2) (h3 : k ≠ 3) (h4 : k ≠ 4) : PlainOf (.node k m l lo hi) v w := by
  obtain ⟨A, n, c, rfl⟩ := hat.form
  unfold PlainOf
  rw [plain_0 k m l lo hi h2 h3 h4]
  have e2 : (k == 2) = false := by simp [h2]
  have e3 : (k == 3) = false := by simp [h3]
  have e4 : (k == 4) = false := by simp [h4]
  have hb1 : Below w.heap.size w ((w.alloc (.cells (reL k m A n c lo hi).toArray 27)).alloc (.cells (reL k m none 0 0 0 0).toArray 27)) := ((Below.refl _ _).alloc (Nat.le_refl _) _).alloc (by simp) _
  have hbz : BlkIs ((w.alloc (.cells (reL k m A n c lo hi).toArray 27)).alloc (.cells (reL k m none 0 0 0 0).toArray 27)) (w.heap.size + 1) 27 (reL k m none 0 0 0 0).toArray := by
    have := BlkIs.new (w.alloc (.cells (reL k m A n c lo hi).toArray 27)) 27 (reL k m none 0 0 0 0).toArray
    rw [World.size_alloc] at this
    exact this
  have HB1 := Lib.hid hb1
  have HBZ := Lib.hid hbz
  clear hb1 hbz hat h2 h3 h4
  simp only [Tree.kind, Tree.set, Tree.lo, Tree.hi] at *
  unfold reV reL
  go_enter Tryd.func21, Tryd.ntmps21
  go_wp2
  exact bodyPost_ret (results_cell1 rfl rfl (load_re HBZ.out)) rfl ⟨_, rfl, by unfold Tree.At; exact ⟨none, 0, rfl, ⟨Nat.zero_le _, Nat.zero_le _⟩, fun h => absurd rfl h⟩, HB1.out⟩

set_option maxRecDepth 20000 in
set_option maxHeartbeats 8000000 in
theorem plain_rep (m : Nat → Bool) (l : List Tree) (lo hi : Int) (v : Value) (w : World) (hat : Tree.At w (.node 4 m l lo hi) v) (hn : nodesL (plainL l) ≤ 1099511627776) (HPL : PlainIs l) (hne : l ≠ []) : PlainOf (.node 4 m l lo hi) v w := by
  obtain ⟨A, c, rfl, hc, hsub⟩ := hat.open
  obtain ⟨b, o, rfl, hb, hall⟩ := hsub hne
  have hpos : 0 < l.length := List.length_pos_iff.2 hne
  obtain ⟨cs, hat0, hcs, hrow⟩ := hall 0 hpos
  obtain ⟨A2, c2, rfl, hc2, _⟩ := at_sub hat0
  have hpp : 0 < (plainL l).length := by rw [plainL_len]; exact hpos
  have hhd : (plainL l).headD emptyT = (plainL l)[0] := head_get hpp
  have hnt : ((plainL l)[0]).nodes ≤ 1099511627776 := Nat.le_trans (mem_nodes (List.getElem_mem hpp)) hn
  unfold PlainOf
  rw [plain_4, hhd]
  obtain ⟨P0, hP0⟩ : ∃ P0, P0 = (plainL l)[0] := ⟨_, rfl⟩
  have hpl := fun u (hu : Below w.heap.size w u) => HPL 0 hpos hpp _ u (hat0.step hu)
  rw [← hP0] at hpl hnt ⊢
  have HPL0 := Lib.hid hpl
  have HNT := Lib.hid hnt
  obtain ⟨R, hR⟩ : ∃ R, R = repPlain P0 lo hi := ⟨_, rfl⟩
  have HRR := Lib.hid hR
  rw [← hR]
  have hb1 : Below w.heap.size w ((w.alloc (.cells (reL 4 m (some ⟨b, o, none⟩) l.length c lo hi).toArray 27)).alloc (.cells zeroL.toArray 27)) := ((Below.refl _ _).alloc (Nat.le_refl _) _).alloc (by simp) _
  have hbx : BlkIs ((w.alloc (.cells (reL 4 m (some ⟨b, o, none⟩) l.length c lo hi).toArray 27)).alloc (.cells zeroL.toArray 27)) w.heap.size 27 (reL 4 m (some ⟨b, o, none⟩) l.length c lo hi).toArray := (BlkIs.new w _ _).alloc _
  have hbz : BlkIs ((w.alloc (.cells (reL 4 m (some ⟨b, o, none⟩) l.length c lo hi).toArray 27)).alloc (.cells zeroL.toArray 27)) (w.heap.size + 1) 27 zeroL.toArray := by
    have := BlkIs.new (w.alloc (.cells (reL 4 m (some ⟨b, o, none⟩) l.length c lo hi).toArray 27)) 27 zeroL.toArray
    rw [World.size_alloc] at this
    exact this
  have HB1 := Lib.hid hb1
  have HBX := Lib.hid hbx
  have HBZ := Lib.hid hbz
  have HROW := Lib.hid (fun u (hu : Below w.heap.size w u) => row_eight hrow hu)
  have hp0 : (0 : Int) < (l.length : Int) := by omega
  clear hb1 hbx hbz hat hn HPL hpl hP0 hR hhd hpp hcs hat0 hrow hall hsub hne hb hnt
  unfold zeroL at *
  unfold reV reL at *
  go_enter Tryd.func21, Tryd.ntmps21
  go_wp2_with fail
  refine wp_region_held_drew (S := fun u => Below w.heap.size w u ∧ BlkIs u w.heap.size 27 #[.int .i64 4, .int .u64 (wd m 0 : Nat), .int .u64 (wd m 1 : Nat), .int .u64 (wd m 2 : Nat), .int .u64 (wd m 3 : Nat), .slice (some ⟨b, o, none⟩) l.length c, .int .i64 lo, .int .i64 hi]) (by kernel_rfl) ⟨HB1.out.trans ((Below.refl _ _).drew), HBX.out.drew⟩ ?_
  intro hS0
  refine wpAnyH_take (i := 0) (v := .pointer (some ⟨w.heap.size, 5, none⟩)) rfl (by kernel_rfl) (by kernel_rfl) (by kernel_rfl) (fun _ _ _ h => h) (.inl ⟨rfl, fun u hu => by go_simp⟩) hS0 ?_
  refine wpAnyH_take (i := 1) (v := .slice (some ⟨b, o, none⟩) l.length c) rfl (by kernel_rfl) (by kernel_rfl) (by kernel_rfl) (fun _ _ _ h => h) (.inl ⟨rfl, fun u hu => by
    have e5 := hu.2.cell 5
    simp at e5
    go_simp⟩) hS0 ?_
  refine wpAnyH_take (i := 2) (v := .pointer (some ⟨b, o, none⟩)) rfl (by kernel_rfl) (by kernel_rfl) (by kernel_rfl) (fun _ _ _ h => h) (.inl ⟨rfl, fun u hu => by go_simp⟩) hS0 ?_
  refine wpAnyH_take (i := 3) (v := .agg #[.int .i64 l[0].kind, .int .u64 (wd l[0].set 0 : Nat), .int .u64 (wd l[0].set 1 : Nat), .int .u64 (wd l[0].set 2 : Nat), .int .u64 (wd l[0].set 3 : Nat), .slice A2 l[0].sub.length c2, .int .i64 l[0].lo, .int .i64 l[0].hi]) rfl (by kernel_rfl) (by kernel_rfl) (by kernel_rfl) (fun _ _ _ h => h) (.inl ⟨rfl, fun u hu => by
    obtain ⟨e0, e1, e2, e3, e4, e5, e6, e7⟩ := HROW.out u hu.1
    simp only [Nat.zero_mul, Nat.add_zero] at e0 e1 e2 e3 e4 e5 e6 e7
    go_simp⟩) hS0 ?_
  refine wpAnyH_take (i := 5) (v := .pointer (some ⟨w.heap.size, 6, none⟩)) rfl (by kernel_rfl) (by kernel_rfl) (by kernel_rfl) (fun _ _ _ h => h) (.inl ⟨rfl, fun u hu => by go_simp⟩) hS0 ?_
  refine wpAnyH_take (i := 6) (v := .int .i64 lo) rfl (by kernel_rfl) (by kernel_rfl) (by kernel_rfl) (fun _ _ _ h => h) (.inl ⟨rfl, fun u hu => by
    have e5 := hu.2.cell 6
    simp at e5
    go_simp⟩) hS0 ?_
  refine wpAnyH_take (i := 7) (v := .pointer (some ⟨w.heap.size, 7, none⟩)) rfl (by kernel_rfl) (by kernel_rfl) (by kernel_rfl) (fun _ _ _ h => h) (.inl ⟨rfl, fun u hu => by go_simp⟩) hS0 ?_
  refine wpAnyH_take (i := 8) (v := .int .i64 hi) rfl (by kernel_rfl) (by kernel_rfl) (by kernel_rfl) (fun _ _ _ h => h) (.inl ⟨rfl, fun u hu => by
    have e5 := hu.2.cell 7
    simp at e5
    go_simp⟩) hS0 ?_
  have hz0 : BlkIs (World.drew ((w.alloc (.cells #[.int .i64 4, .int .u64 (wd m 0 : Nat), .int .u64 (wd m 1 : Nat), .int .u64 (wd m 2 : Nat), .int .u64 (wd m 3 : Nat), .slice (some ⟨b, o, none⟩) l.length c, .int .i64 lo, .int .i64 hi] 27)).alloc (.cells #[.int .i64 0, .int .u64 0, .int .u64 0, .int .u64 0, .int .u64 0, .slice none 0 0, .int .i64 0, .int .i64 0] 27))) (w.heap.size + 1) 27 #[.int .i64 0, .int .u64 0, .int .u64 0, .int .u64 0, .int .u64 0, .slice none 0 0, .int .i64 0, .int .i64 0] := HBZ.out
  generalize hU0 : World.drew _ = U0 at *
  refine wpAnyH_ready (rs := [4]) (by kernel_rfl) (by simp) ?_
  refine AllReadyH.cons rfl (fun K hK => ?_) AllReadyH.nil
  have HPU := Lib.hid (HPL0.out U0 hS0.1)
  have HZ0 := Lib.hid hz0
  have hlU := hz0.lt
  clear hz0 hU0
  go_simp
  go_at_call 21
  refine HPU.out.mono ?_
  rintro e u1 ⟨v1, rfl, hv1, hb1⟩
  obtain ⟨A3, n3, c3, rfl⟩ := hv1.form
  refine hK.out _ _ ⟨hS0.1.trans (hb1.mono hS0.1.size), hS0.2.step hb1⟩ (fun hS1 => ?_)
  have HR1 := Lib.hid (plainRep_any P0 _ lo hi u1 U0.heap.size hv1 hb1.size HNT.out)
  rw [← HRR.out] at HR1
  have HZ1 := Lib.hid (And.intro (HZ0.out.step hb1) hS0.1.size)
  clear hK K hv1 hb1
  refine wpAnyH_ready (rs := [9]) (by kernel_rfl) (by simp) ?_
  refine AllReadyH.cons rfl (fun K hK => ?_) AllReadyH.nil
  unfold reV reL at HR1 ⊢
  go_simp
  go_at_call 41
  refine HR1.out.mono ?_
  rintro e u2 ⟨v2, rfl, hv2, hb2⟩
  obtain ⟨A4, n4, c4, rfl⟩ := hv2.form
  refine hK.out _ _ ⟨hS1.1.trans (hb2.mono hS1.1.size), hS1.2.step hb2⟩ (fun hS2 => ?_)
  have hz2 := HZ1.out.1.step hb2
  have HV2 := Lib.hid (And.intro hv2 (And.intro hS2.1 HZ1.out.2))
  clear hK K hv2 hb2 hS0 hS1
  obtain ⟨r0, r1, r2, r3, r4, r5, r6, r7⟩ := hz2.eight
  obtain ⟨q0, q1, q2, q3, q4, q5, q6, q7⟩ := hz2.thaw8
  refine wpAnyH_ready (rs := [10]) (by kernel_rfl) (by simp) ?_
  refine AllReadyH.cons rfl (fun K hK => ?_) AllReadyH.nil
  obtain ⟨W9, hW9⟩ : ∃ W9, u2.setCells (w.heap.size + 1) 0 (reL R.kind R.set A4 n4 c4 R.lo R.hi) = W9 := ⟨_, rfl⟩
  have hB4 := below_cells (w.heap.size + 1) (reL R.kind R.set A4 n4 c4 R.lo R.hi) 0 _ (Nat.le_succ _) HV2.out.2.1
  have hX4 := BlkIs.farCells (by omega : w.heap.size ≠ w.heap.size + 1) (reL R.kind R.set A4 n4 c4 R.lo R.hi) 0 _ hS2.2
  have hl := load_re (store_re (k := R.kind) (m := R.set) (A := A4) (n := n4) (c := c4) (lo := R.lo) (hi := R.hi) hz2 rfl)
  have hv9 : R.At (hide W9 (low w.heap.size)) (reV R.kind R.set A4 n4 c4 R.lo R.hi) := by
    rw [← hW9]
    refine HV2.out.1.sub (hide_sub fun k h1 h2 => ?_)
    rw [low_no] at h1 ⊢
    exact ⟨by omega, heap_cells (w.heap.size + 1) k (by omega) _ 0 _⟩
  rw [hW9] at hB4 hX4 hl
  have HL4 := Lib.hid (And.intro hl (And.intro hB4 (And.intro hX4 hv9)))
  clear hl hB4 hX4 hv9
  simp only [reL, World.setCells, Nat.reduceAdd, Nat.zero_add] at hW9
  unfold reV reL
  go_simp
  refine hK.out _ _ ⟨HL4.out.2.1, HL4.out.2.2.1⟩ (fun hS3 => ?_)
  clear hK K hS3 hS2 r0 r1 r2 r3 r4 r5 r6 r7 q0 q1 q2 q3 q4 q5 q6 q7 hz2 hW9
  refine wpAnyH_done (by kernel_rfl) ?_ _
  go_wp2
  exact bodyPost_ret (results_cell1 rfl rfl HL4.out.1) rfl ⟨_, rfl, HL4.out.2.2.2, HL4.out.2.1⟩

/-- the contract -/
theorem plain_any : ∀ (T : Tree) (v : Value) (w : World), T.At w v → T.reps = true → T.nodes ≤ 1099511627776 → PlainOf T v w := by
  refine Tree.ind ?_
  intro k m l lo hi IH v w hat hr hn
  have hr2 := hr
  simp only [Tree.reps, Bool.and_eq_true] at hr2
  have hnl : nodesL l ≤ 1099511627776 := by simp only [Tree.nodes] at hn; omega
  have hnp := Nat.le_trans (plainL_nodes l hr2.2) hnl
  have hp : PlainIs l := fun i h h' v u ha => by
    rw [plainL_get l i h h']
    exact IH _ (List.getElem_mem h) v u ha (repsL_get hr2.2 _ (List.getElem_mem h)) (Nat.le_trans (mem_nodes (List.getElem_mem h)) hnl)
  by_cases h2 : k = 2
  · subst h2; exact plain_cat m l lo hi v w hat hnp hp
  · by_cases h3 : k = 3
    · subst h3; exact plain_alt m l lo hi v w hat hnp hp
    · by_cases h4 : k = 4
      · subst h4
        exact plain_rep m l lo hi v w hat hnp hp (by simpa using hr2.1)
      · exact plain_leaf k m l lo hi v w hat h2 h3 h4

end Go.Proofs.YtkladjjeacjgpaaDoor

