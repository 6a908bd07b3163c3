/-
  WHAT Norm OF PACKAGE rxprint GIVES: a contract. Condition: the tree has at most 2^40 nodes.
-/
import Derived.Test.YtkladjjeacjgpaaDoorQTplain
import Derived.Test.YtkladjjeacjgpaaDoorQG07
namespace Go.Proofs.YtkladjjeacjgpaaDoor
open Go.RowKit

mutual
theorem ok_reps : ∀ T : Tree, T.ok = true → T.reps = true
  | .node k m l lo hi => fun h => by
    have hk := ok_open h
    simp only [Tree.ok, Bool.and_eq_true] at h
    simp only [Tree.reps, Bool.and_eq_true]
    refine ⟨?_, okL_reps l h.1⟩
    by_cases h4 : k = 4
    · subst h4
      have h2 := h.2
      unfold okNode at h2
      cases l with
      | nil => simp at h2
      | cons t r => simp
    · simp [h4]
theorem okL_reps : ∀ l : List Tree, allOk l = true → repsL l = true
  | [] => fun _ => rfl
  | t :: r => fun h => by
    simp only [allOk, Bool.and_eq_true] at h
    simp only [repsL, Bool.and_eq_true]
    exact ⟨ok_reps t h.1, okL_reps r h.2⟩
end
theorem mayN_ok {T : Tree} (h : T.mayN = true) : T.ok = true ∧ T.nodes ≤ 300 ∧ T.deepN ≤ 30 := by
  unfold Tree.mayN at h
  simp only [Bool.and_eq_true, decide_eq_true_eq] at h
  exact ⟨h.2.2, h.1, h.2.1⟩

theorem results_ct {fn : Func} {p q : Tmp} {ty : TypeId} {tmps : Array Value} {P : Program} {w : World} {a : Addr} {v : Value} (h : fn.results = #[.cell p ty, .tmp q])
    (hp : tmps.getD p undef = .pointer (some a)) (hl : (loadVar ty a).run P w = .ok v w) : (results fn tmps).run P w = .ok (.tuple #[v, tmps.getD q undef]) w := by
  have hp' : tmps[p]?.getD undef = .pointer (some a) := by rw [← hp]; simp
  unfold results
  rw [h]
  simp [hp', hl, Result.andThen, asAddr]

set_option maxRecDepth 20000 in
set_option maxHeartbeats 8000000 in
theorem norm_any (T : Tree) (v : Value) (w : World) (hat : T.At w v) (hn : T.nodes ≤ 1099511627776) : Calls Tryd.prog 8 #[v] w fun e w' => Below w.heap.size w w' ∧
    (T.mayN = true → ∃ v', e = .returned (.tuple #[v', .int .i64 0]) ∧ T.plain.At w' v') ∧ (T.mayN = false → e = .returned (.tuple #[.agg #[.int .i64 0, .int .u64 0, .int .u64 0, .int .u64 0, .int .u64 0, .slice none 0 0, .int .i64 0, .int .i64 0], .int .i64 1])) := by
  obtain ⟨A, n, c, rfl⟩ := hat.form
  obtain ⟨W2, hW2⟩ : ∃ W2, (w.alloc (.cells (reL T.kind T.set A n c T.lo T.hi).toArray 27)).alloc (.cells zeroL.toArray 27) = W2 := ⟨_, rfl⟩
  have hb1 : Below w.heap.size w W2 := by rw [← hW2]; exact ((Below.refl _ _).alloc (Nat.le_refl _) _).alloc (by simp) _
  have hbx : BlkIs W2 w.heap.size 27 (reL T.kind T.set A n c T.lo T.hi).toArray := by rw [← hW2]; exact (BlkIs.new w _ _).alloc _
  have hbz : BlkIs W2 (w.heap.size + 1) 27 zeroL.toArray := by
    have := BlkIs.new (w.alloc (.cells (reL T.kind T.set A n c T.lo T.hi).toArray 27)) 27 zeroL.toArray
    rw [World.size_alloc] at this
    rw [← hW2]; exact this
  have HB1 := Lib.hid hb1
  have HBX := Lib.hid hbx
  have HBZ := Lib.hid hbz
  have HM := Lib.hid (may_any T _ W2 (hat.step hb1) (Nat.le_trans (deep_nodes T) hn))
  have HP := Lib.hid (fun (h : T.mayN = true) (u : World) (hu : Below w.heap.size w u) => plain_any T _ u (hat.step hu) (ok_reps T (mayN_ok h).1) hn)
  obtain ⟨k0, k1, k2, k3, k4, k5, k6, k7⟩ := hbx.eight
  clear hb1 hbx hbz hat
  unfold zeroL at *
  unfold PlainOf at HP
  unfold reV reL at *
  cases hm : T.mayN with
  | false =>
    rw [hm] at HM
    have HZZ := Lib.hid (fun (u : World) (hu : Below W2.heap.size W2 u) => HBZ.out.step hu)
    go_enter Tryd.func8, Tryd.ntmps8
    go_wp2_with fail
    go_at_call 20
    refine HM.out.mono ?_
    rintro e u1 ⟨rfl, hb2⟩
    have hB3 := HZZ.out u1 hb2
    have HB3 := Lib.hid (HB1.out.trans (hb2.mono HB1.out.size))
    clear hb2 k0 k1 k2 k3 k4 k5 k6 k7 hW2
    go_wp2_with (refine wpList_store_mid rfl 27 (.tmp 2) (.tmp 7) rfl (w.heap.size + 1) 0 zeroL.toArray rfl rfl hB3.there info_re8 (by rw [zeroL_is]; exact reL_all) ?_)
    have hl := load_re (k := 0) (m := fun _ => false) (A := none) (n := 0) (c := 0) (lo := 0) (hi := 0) (store_re hB3 rfl)
    rw [← zeroL_is] at hl
    refine bodyPost_ret (results_ct rfl rfl hl) rfl ⟨below_cells (w.heap.size + 1) zeroL 0 _ (Nat.le_succ _) HB3.out, fun h => (Bool.noConfusion h), fun _ => ?_⟩
    have e : reV 0 (fun _ => false) none 0 0 0 0 = .agg zeroL.toArray := by unfold reV; rw [← zeroL_is]
    rw [e]
    rfl
  | true =>
    rw [hm] at HM
    have HPP := HP.out hm
    have HPH := Lib.hid HPP
    clear HPP
    go_enter Tryd.func8, Tryd.ntmps8
    go_wp2_with fail
    go_at_call 20
    refine HM.out.mono ?_
    rintro e u1 ⟨rfl, hb2⟩
    have hB2 := HB1.out.trans (hb2.mono HB1.out.size)
    have HB2 := Lib.hid (And.intro hB2 (And.intro (HBZ.out.step hb2) (HPH.out u1 hB2)))
    clear k0 k1 k2 k3 k4 k5 k6 k7 hW2 hB2
    obtain ⟨k0, k1, k2, k3, k4, k5, k6, k7⟩ := (HBX.out.step hb2).eight
    clear hb2
    go_wp2_with fail
    go_at_call 21
    refine HB2.out.2.2.mono ?_
    rintro e u2 ⟨v', rfl, hv', hb3⟩
    obtain ⟨A9, n9, c9, rfl⟩ := hv'.form
    have hB3 := HB2.out.2.1.step hb3
    have hlt9 := HB2.out.2.1.lt
    have HV := Lib.hid (And.intro hv' (HB2.out.1.trans (hb3.mono HB2.out.1.size)))
    clear hv' hb3
    go_wp2_with (refine wpList_store_mid rfl 27 (.tmp 2) (.tmp 9) rfl (w.heap.size + 1) 0 (reL T.plain.kind T.plain.set A9 n9 c9 T.plain.lo T.plain.hi).toArray rfl rfl hB3.there info_re8 reL_all ?_)
    have hl := load_re (store_re (k := T.plain.kind) (m := T.plain.set) (A := A9) (n := n9) (c := c9) (lo := T.plain.lo) (hi := T.plain.hi) hB3 rfl)
    refine bodyPost_ret (results_ct rfl rfl hl) rfl ⟨below_cells (w.heap.size + 1) _ 0 _ (Nat.le_succ _) HV.out.2, fun _ => ⟨_, rfl, HV.out.1.sub (fun p u hu => ?_)⟩, fun h => (Bool.noConfusion h)⟩
    obtain ⟨h1, h2⟩ := hide_cell hu
    rw [low_no] at h1
    exact (World.cell?_of_block (w := u2) (heap_cells (w.heap.size + 1) p.block (by omega) _ 0 _)).trans h2

end Go.Proofs.YtkladjjeacjgpaaDoor

