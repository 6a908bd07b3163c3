/-
  WHAT hackleref09.Subset ANSWERS: a contract. Condition: the automaton with choices may be, has at most 64 sets.
-/
import Derived.Test.YtkcnknhhabbomaaDoorQG18
import Derived.Test.YtkcnknhhabbomaaDoorQG19
namespace Go.Proofs.YtkcnknhhabbomaaDoor
open Go.RowKit

attribute [local irreducible] FreeW textFrame

theorem infoN89 : (Tryd.prog.info? 27).map (·.size) = some 6 := by kernel_rfl
theorem rowTo_few (N : Nf) (lb : Nat → Nat) (a : Nat) (L : List (List Int)) : ∀ k, (rowTo N lb a L k).2.length ≤ L.length + k
  | 0 => Nat.le_refl _
  | k + 1 => by
    have ih := rowTo_few N lb a L k
    show (oneX (rowTo N lb a L k).2 (stepX N (rowTo N lb a L k).2 a (lb k))).2.length ≤ _
    unfold oneX
    split
    · show (rowTo N lb a L k).2.length ≤ _; omega
    · split
      · show (rowTo N lb a L k).2.length ≤ _; omega
      · show ((rowTo N lb a L k).2 ++ [_]).length ≤ _
        rw [List.length_append]; simp; omega
theorem exec_built9 {o : Oper} {a : Act} {w : World} (t : TypeId) (parts : Array (Nat × Operand)) (ho : o.op = .build t parts) {cells : Array Value} (hc : Tryd.prog.built t (parts.map fun (i, x) => (i, a.eval x)).toList = some cells) : (execOp a.eval o).run Tryd.prog w = .ok (.value (.agg cells)) w := by
  unfold execOp
  simp only [ho, Sem.run_bind, Sem.run_pure, run_build w t _ cells hc, Result.andThen_ok]

set_option maxRecDepth 20000 in
set_option maxHeartbeats 32000000 in
theorem refSubset_any (N : Nf) (v : Value) (w : World) (h : NfaAt w N v) (hms : N.sets.length ≤ 64) (hmi : MayIs N) :
    Calls Tryd.prog 12 #[v] w fun e w' => (∀ L R, subZ N (lbN N) (clN N) = some (L, R) → ∃ vd, e = .returned (.tuple #[vd, .bool true]) ∧ DfAt w' ⟨ofN N, (clN N : Nat), R, tagsL N L⟩ vd) ∧ (subZ N (lbN N) (clN N) = none → e = .returned (.tuple #[.agg df0, .bool false])) ∧ Below w.heap.size w w' := by
  obtain ⟨A0, A1, A2, A3, A4, c0, c1, c2, c3, c4, rfl⟩ := h.form
  obtain ⟨csN, hcsN⟩ : ∃ csN : Array Value, #[.slice A0 N.sets.length c0, .slice A1 N.rules.length c1, .slice A2 N.first.length c2, .slice A3 N.follow.length c3, .slice A4 N.ends.length c4, .int .i64 N.empty] = csN := ⟨_, rfl⟩
  obtain ⟨W1, hW1⟩ : ∃ W1, w.alloc (.cells #[.slice A0 N.sets.length c0, .slice A1 N.rules.length c1, .slice A2 N.first.length c2, .slice A3 N.follow.length c3, .slice A4 N.ends.length c4, .int .i64 N.empty] 27) = W1 := ⟨_, rfl⟩
  obtain ⟨W2, hW2⟩ : ∃ W2, W1.alloc (.cells df0 44) = W2 := ⟨_, rfl⟩
  have hs1 : W1.heap.size = w.heap.size + 1 := by rw [← hW1]; simp
  have hs2 : W2.heap.size = w.heap.size + 2 := by rw [← hW2]; simp [hs1]
  have hb1 : Below w.heap.size w W1 := by rw [← hW1]; exact (Below.refl _ _).alloc (Nat.le_refl _) _
  have hb2 : Below w.heap.size w W2 := by rw [← hW2]; exact hb1.alloc (by omega) _
  have hx1 : BlkIs W1 w.heap.size 27 csN := by rw [← hW1, ← hcsN]; exact BlkIs.new _ _ _
  have hx2 : BlkIs W2 w.heap.size 27 csN := by rw [← hW2]; exact hx1.alloc _
  have hz2 : BlkIs W2 (w.heap.size + 1) 44 df0 := by rw [← hW2, ← hs1]; exact BlkIs.new _ _ _
  have HX := Lib.hid (show Below w.heap.size w W2 ∧ BlkIs W2 w.heap.size 27 csN ∧ BlkIs W2 (w.heap.size + 1) 44 df0 ∧ w.heap.size + 2 ≤ W2.heap.size from ⟨hb2, hx2, hz2, by omega⟩)
  have HCS := Lib.hid hcsN
  have HCS0 := Lib.hid hcsN.symm
  have HNF := Lib.hid h
  have HMI := Lib.hid hmi
  have hset : SetsV w N.sets (.slice A0 N.sets.length c0) := by
    obtain ⟨_, _, _, _, _, e, h0, _⟩ := h
    injection e with e
    injection e with e
    simp only [List.cons.injEq] at e
    obtain ⟨rfl, _⟩ := e
    exact h0
  have HPT := Lib.hid (fun (u : World) (hu : Below w.heap.size w u) => refPart_any N.sets (by omega) A0 c0 u (sets_row (hset.step hu)))
  have z := zeroDr
  obtain ⟨d0, hd0⟩ : ∃ d0, df0 = d0 := ⟨_, rfl⟩
  have HD0 := Lib.hid hd0
  rw [hd0] at z hW2
  clear h hms hmi hb1 hb2 hx1 hx2 hz2 hset hcsN hd0
  go_enter Tryd.func12, Tryd.ntmps12
  go_wp2_with fail
  refine wp_region_acts 8 90 (fun u => Hid (Below w.heap.size w u ∧ BlkIs u w.heap.size 27 csN ∧ BlkIs u (w.heap.size + 1) 44 df0 ∧ w.heap.size + 2 ≤ u.heap.size)) (fun _ u u' => Below u.heap.size u u')
    (fun i v u => match i with
      | 0 => v = .pointer (some ⟨w.heap.size, 0, none⟩)
      | 1 => v = .slice A0 N.sets.length c0
      | 2 => v = .agg (clsC (ofN N) (clN N : Nat))
      | 3 => v = .pointer (some ⟨w.heap.size, 5, none⟩)
      | 4 => v = .int .i64 N.empty
      | 5 => ∃ b, v = .slice (some ⟨b, 0, none⟩) 1 1 ∧ BlkIs u b 3 #[.int .i64 N.empty] ∧ w.heap.size + 2 ≤ b
      | 6 => ∃ b, v = .agg (dfC (ofN N) (clN N : Nat) (.slice none 0 0) (.slice (some ⟨b, 0, none⟩) 1 1)) ∧ BlkIs u b 3 #[.int .i64 N.empty] ∧ w.heap.size + 2 ≤ b
      | 7 => ∃ g, v = .pointer (some ⟨g, 0, none⟩) ∧ BlkIs u g 44 d0 ∧ w.heap.size + 2 ≤ g
      | _ => True) (by kernel_rfl) (by kernel_rfl) rfl (Lib.hid ⟨HX.out.1.drew, HX.out.2.1, HX.out.2.2.1, HX.out.2.2.2⟩) ?_ ?_ ?_ ?_
  · intro i u u' hix hC hr
    exact Lib.hid ⟨hC.out.1.trans (hr.mono hC.out.1.size), hC.out.2.1.step hr, hC.out.2.2.1.step hr, by have := hr.size; have := hC.out.2.2.2; omega⟩
  · intro i j v u u' hix hj hne hv hr
    match i, hix, hne, hv with
    | 0, _, _, hv => exact hv
    | 1, _, _, hv => exact hv
    | 2, _, _, hv => exact hv
    | 3, _, _, hv => exact hv
    | 4, _, _, hv => exact hv
    | 5, _, hne, hv =>
      obtain ⟨b, e1, e2, e3⟩ := hv
      exact ⟨b, e1, e2.step hr, e3⟩
    | 6, _, hne, hv =>
      obtain ⟨b, e1, e2, e3⟩ := hv
      exact ⟨b, e1, e2.step hr, e3⟩
    | 7, _, hne, hv =>
      obtain ⟨g, e1, e2, e3⟩ := hv
      exact ⟨g, e1, e2.step hr, e3⟩
    | i + 8, hix, _, _ => omega
  · intro i hix vs u hC hw oq ho
    match i, hix, hw, ho with
    | 0, _, hw, ho =>
      simp only [List.getElem?_toArray, List.getElem?_cons_zero, Option.some.injEq] at ho
      subst ho
      refine ⟨rfl, ?_⟩
      have k0 := hC.out.2.1.cell 0
      have k5 := hC.out.2.1.cell 5
      rw [HCS0.out] at k0 k5
      simp only [List.getElem?_toArray, List.getElem?_cons_zero, List.getElem?_cons_succ] at k0 k5
      clear hw
      simp only [textFrame_eq, tmpsTo]
      go_simp
      exact act_val (Below.refl _ _) rfl
    | 1, _, hw, ho =>
      have e0 : vs 0 = .pointer (some ⟨w.heap.size, 0, none⟩) := hw 0 (by omega) (by kernel_rfl)
      simp only [List.getElem?_toArray, List.getElem?_cons_zero, List.getElem?_cons_succ, Option.some.injEq] at ho
      subst ho
      refine ⟨rfl, ?_⟩
      have k0 := hC.out.2.1.cell 0
      have k5 := hC.out.2.1.cell 5
      rw [HCS0.out] at k0 k5
      simp only [List.getElem?_toArray, List.getElem?_cons_zero, List.getElem?_cons_succ] at k0 k5
      clear hw
      simp only [textFrame_eq, tmpsTo, putT, List.getElem?_toArray, List.getElem?_cons_zero, Option.bind_some, List.setIfInBounds_toArray, List.set_cons_zero, List.set_cons_succ]
      rw [e0]
      clear e0
      go_simp
      exact act_val (Below.refl _ _) rfl
    | 2, _, hw, ho =>
      have e1 : vs 1 = .slice A0 N.sets.length c0 := hw 1 (by omega) (by kernel_rfl)
      simp only [List.getElem?_toArray, List.getElem?_cons_zero, List.getElem?_cons_succ, Option.some.injEq] at ho
      subst ho
      refine ⟨rfl, ?_⟩
      have k0 := hC.out.2.1.cell 0
      have k5 := hC.out.2.1.cell 5
      rw [HCS0.out] at k0 k5
      simp only [List.getElem?_toArray, List.getElem?_cons_zero, List.getElem?_cons_succ] at k0 k5
      clear hw
      simp only [textFrame_eq, tmpsTo, putT, List.getElem?_toArray, List.getElem?_cons_zero, List.getElem?_cons_succ, Option.bind_some, List.setIfInBounds_toArray, List.set_cons_zero, List.set_cons_succ]
      rw [e1]
      clear e1
      go_simp
      refine act_call ((HPT.out u hC.out.1).mono ?_)
      rintro e u' ⟨rfl, hbu⟩
      exact ⟨_, rfl, hbu, rfl⟩
    | 3, _, hw, ho =>
      simp only [List.getElem?_toArray, List.getElem?_cons_zero, List.getElem?_cons_succ, Option.some.injEq] at ho
      subst ho
      refine ⟨rfl, ?_⟩
      have k0 := hC.out.2.1.cell 0
      have k5 := hC.out.2.1.cell 5
      rw [HCS0.out] at k0 k5
      simp only [List.getElem?_toArray, List.getElem?_cons_zero, List.getElem?_cons_succ] at k0 k5
      clear hw
      simp only [textFrame_eq, tmpsTo, putT, List.getElem?_toArray, List.getElem?_cons_zero, List.getElem?_cons_succ, Option.bind_some, List.setIfInBounds_toArray, List.set_cons_zero, List.set_cons_succ]
      go_simp
      exact act_val (Below.refl _ _) rfl
    | 4, _, hw, ho =>
      have e3 : vs 3 = .pointer (some ⟨w.heap.size, 5, none⟩) := hw 3 (by omega) (by kernel_rfl)
      simp only [List.getElem?_toArray, List.getElem?_cons_zero, List.getElem?_cons_succ, Option.some.injEq] at ho
      subst ho
      refine ⟨rfl, ?_⟩
      have k0 := hC.out.2.1.cell 0
      have k5 := hC.out.2.1.cell 5
      rw [HCS0.out] at k0 k5
      simp only [List.getElem?_toArray, List.getElem?_cons_zero, List.getElem?_cons_succ] at k0 k5
      clear hw
      simp only [textFrame_eq, tmpsTo, putT, List.getElem?_toArray, List.getElem?_cons_zero, List.getElem?_cons_succ, Option.bind_some, List.setIfInBounds_toArray, List.set_cons_zero, List.set_cons_succ]
      rw [e3]
      clear e3
      go_simp
      exact act_val (Below.refl _ _) rfl
    | 5, _, hw, ho =>
      have e4 : vs 4 = .int .i64 N.empty := hw 4 (by omega) (by kernel_rfl)
      simp only [List.getElem?_toArray, List.getElem?_cons_zero, List.getElem?_cons_succ, Option.some.injEq] at ho
      subst ho
      refine ⟨rfl, ?_⟩
      have k0 := hC.out.2.1.cell 0
      have k5 := hC.out.2.1.cell 5
      rw [HCS0.out] at k0 k5
      simp only [List.getElem?_toArray, List.getElem?_cons_zero, List.getElem?_cons_succ] at k0 k5
      clear hw
      simp only [textFrame_eq, tmpsTo, putT, List.getElem?_toArray, List.getElem?_cons_zero, List.getElem?_cons_succ, Option.bind_some, List.setIfInBounds_toArray, List.set_cons_zero, List.set_cons_succ]
      rw [e4]
      clear e4
      go_simp
      exact act_val ((Below.refl _ _).alloc (Nat.le_refl _) _) ⟨_, rfl, BlkIs.new _ _ _, hC.out.2.2.2⟩
    | 6, _, hw, ho =>
      have e2 : vs 2 = .agg (clsC (ofN N) (clN N : Nat)) := hw 2 (by omega) (by kernel_rfl)
      obtain ⟨b, e5, hb1, hb2⟩ : ∃ b, vs 5 = .slice (some ⟨b, 0, none⟩) 1 1 ∧ BlkIs u b 3 #[.int .i64 N.empty] ∧ w.heap.size + 2 ≤ b := hw 5 (by omega) (by kernel_rfl)
      simp only [List.getElem?_toArray, List.getElem?_cons_zero, List.getElem?_cons_succ, Option.some.injEq] at ho
      subst ho
      refine ⟨rfl, ?_⟩
      have k0 := hC.out.2.1.cell 0
      have k5 := hC.out.2.1.cell 5
      rw [HCS0.out] at k0 k5
      simp only [List.getElem?_toArray, List.getElem?_cons_zero, List.getElem?_cons_succ] at k0 k5
      clear hw
      simp only [textFrame_eq, tmpsTo, putT, List.getElem?_toArray, List.getElem?_cons_zero, List.getElem?_cons_succ, Option.bind_some, List.setIfInBounds_toArray, List.set_cons_zero, List.set_cons_succ]
      rw [e2]
      clear e2
      rw [e5]
      rw [exec_built9 44 #[(0, .tmp 14), (2, .tmp 17)] rfl (cells := dfC (ofN N) (clN N : Nat) (.slice none 0 0) (.slice (some ⟨b, 0, none⟩) 1 1)) (by kernel_rfl)]
      exact act_val (Below.refl _ _) ⟨b, rfl, hb1, hb2⟩
    | 7, _, hw, ho =>
      simp only [List.getElem?_toArray, List.getElem?_cons_zero, List.getElem?_cons_succ, Option.some.injEq] at ho
      subst ho
      refine ⟨rfl, ?_⟩
      have k0 := hC.out.2.1.cell 0
      have k5 := hC.out.2.1.cell 5
      rw [HCS0.out] at k0 k5
      simp only [List.getElem?_toArray, List.getElem?_cons_zero, List.getElem?_cons_succ] at k0 k5
      clear hw
      simp only [textFrame_eq, tmpsTo, putT, List.getElem?_toArray, List.getElem?_cons_zero, List.getElem?_cons_succ, Option.bind_some, List.setIfInBounds_toArray, List.set_cons_zero, List.set_cons_succ]
      go_simp
      exact act_val ((Below.refl _ _).alloc (Nat.le_refl _) _) ⟨_, rfl, BlkIs.new _ _ _, hC.out.2.2.2⟩
    | i + 8, hix, _, _ => omega
  intro vs1 u hC hV
  obtain ⟨bt, e6, hbt, hbt2⟩ : ∃ b, vs1 6 = .agg (dfC (ofN N) (clN N : Nat) (.slice none 0 0) (.slice (some ⟨b, 0, none⟩) 1 1)) ∧ BlkIs u b 3 #[.int .i64 N.empty] ∧ w.heap.size + 2 ≤ b := hV 6 (by omega)
  obtain ⟨gd, e7, hgd, hgd2⟩ : ∃ g, vs1 7 = .pointer (some ⟨g, 0, none⟩) ∧ BlkIs u g 44 d0 ∧ w.heap.size + 2 ≤ g := hV 7 (by omega)
  clear hV
  simp only [textFrame_eq, tmpsTo, putT, List.getElem?_toArray, List.getElem?_cons_zero, List.getElem?_cons_succ, Option.bind_some, List.setIfInBounds_toArray, List.set_cons_zero, List.set_cons_succ, List.drop_succ_cons, List.drop_zero]
  rw [e6, e7]
  clear e6 e7
  generalize vs1 0 = q0
  generalize vs1 1 = q1
  generalize vs1 2 = q2
  generalize vs1 3 = q3
  generalize vs1 4 = q4
  generalize vs1 5 = q5
  have hne : bt ≠ gd := fun e => by
    subst e
    have := hbt.symm.trans hgd
    injection this with this
    injection this with _ h2
    cases h2
  rw [← HD0.out] at hgd
  obtain ⟨W5, hsc, hg5, hw5⟩ := store_blk (P := Tryd.prog) hgd (new := dfC (ofN N) (clN N : Nat) (.slice none 0 0) (.slice (some ⟨bt, 0, none⟩) 1 1)) (by rw [dfC_size]; exact (dfC_size _ _ _ _).symm) (dfC_one _ _ _ _ rfl rfl)
  have hb5 := hw5.2.1 _ _ (by omega) hC.out.1
  have ht5 := hw5.blk hne hbt
  have hn5 := hw5.blk (show w.heap.size ≠ gd by omega) hC.out.2.1
  have hz5 := hw5.blk (show w.heap.size + 1 ≠ gd by omega) hC.out.2.2.1
  obtain ⟨W6, hW6⟩ : ∃ W6, W5.alloc (.cells #[.slice none 0 0] 23) = W6 := ⟨_, rfl⟩
  have hl6 : BlkIs W6 W5.heap.size 23 #[.slice none 0 0] := by rw [← hW6]; exact BlkIs.new _ _ _
  have hb56 : Below W5.heap.size W5 W6 := by rw [← hW6]; exact (Below.refl _ _).alloc (Nat.le_refl _) _
  have hs6 : W6.heap.size = W5.heap.size + 1 := by rw [← hW6]; simp
  have hgl : gd < W5.heap.size := BlkIs.lt hg5
  have hbl : bt < W5.heap.size := BlkIs.lt ht5
  have h26 : w.heap.size + 2 ≤ W5.heap.size := by rw [hw5.2.2]; exact hC.out.2.2.2
  have hrs : RS (pR w N csN gd) (fun k => if k = gd then 1 else if k = W5.heap.size then 2 else if k = bt then 3 else if k = w.heap.size then 6 else if k = w.heap.size + 1 then 7 else 0) ⟨[[]], [.slice none 0 0], [N.empty], [], [], []⟩ ⟨.slice (some ⟨W5.heap.size, 0, none⟩) 1 1, .slice (some ⟨bt, 0, none⟩) 1 1, .slice none 0 0, .slice none 0 0⟩ W6 := by
    refine ⟨hb5.trans (hb56.mono hb5.size), ⟨rfl, hgd2⟩, by rw [← HCS0.out] at *; exact HNF.out, hn5.step hb56, hz5.step hb56, fun _ => hg5.step hb56, fun _ => own_one9 hl6 (by show w.heap.size ≤ _; omega), fun _ => own_one9 (ht5.step hb56) (by show w.heap.size ≤ _; omega), fun _ => World.ownsRow_nil _ _ _ _, fun _ => World.ownsRow_nil _ _ _ _, ⟨rfl, fun i hi => ?_⟩, ⟨rfl, fun i hi => absurd hi (by simp)⟩, ⟨?_, ?_, if_pos rfl⟩, ⟨fun k hk => ?_, fun k hk => ?_, fun k hk => (by cases hk), fun k hk => (by cases hk)⟩⟩
    · match i, hi with
      | 0, _ => exact ⟨_, rfl, rfl, IntsV.nil _, fun b hb => by cases hb⟩
    · show (if w.heap.size = gd then 1 else if w.heap.size = W5.heap.size then 2 else if w.heap.size = bt then 3 else if w.heap.size = w.heap.size then 6 else if w.heap.size = w.heap.size + 1 then 7 else 0) = 6
      rw [if_neg (by omega), if_neg (by omega), if_neg (by omega), if_pos rfl]
    · show (if w.heap.size + 1 = gd then 1 else if w.heap.size + 1 = W5.heap.size then 2 else if w.heap.size + 1 = bt then 3 else if w.heap.size + 1 = w.heap.size then 6 else if w.heap.size + 1 = w.heap.size + 1 then 7 else 0) = 7
      rw [if_neg (by omega), if_neg (by omega), if_neg (by omega), if_neg (by omega), if_pos rfl]
    · obtain rfl : W5.heap.size = k := Option.some.inj hk
      show (if W5.heap.size = gd then 1 else if W5.heap.size = W5.heap.size then 2 else if W5.heap.size = bt then 3 else if W5.heap.size = w.heap.size then 6 else if W5.heap.size = w.heap.size + 1 then 7 else 0) = 2
      rw [if_neg (by omega), if_pos rfl]
    · obtain rfl : bt = k := Option.some.inj hk
      show (if bt = gd then 1 else if bt = W5.heap.size then 2 else if bt = bt then 3 else if bt = w.heap.size then 6 else if bt = w.heap.size + 1 then 7 else 0) = 3
      rw [if_neg hne, if_neg (by omega), if_pos rfl]
  have HRS0 := Lib.hid hrs
  have hds : (dfC (ofN N) (clN N : Nat) (.slice none 0 0) (.slice (some ⟨bt, 0, none⟩) 1 1)).size = 259 := dfC_size _ _ _ _
  generalize dfC (ofN N) (clN N : Nat) (.slice none 0 0) (.slice (some ⟨bt, 0, none⟩) 1 1) = d5 at *
  clear hC hbt hgd hg5 hw5 hb5 ht5 hn5 hz5 hl6 hb56 hrs HPT HX
  go_wp2
  clear hW1 hW2 hsc z hds hW6 hgl hbl h26 hne hbt2 hs1 hs2 hs6
  have F : ¬ False := fun h => h
  have hcl6 := clN_le N
  go_loopw [5, 6, 7, 8, 9, 10, 11] (fun sl si _ _ _ _ _ wr => ∃ ix : Nat, si = .int .i64 ix ∧ ix ≤ 600 ∧ Hid (∃ L R ρ S V, subTo N (lbN N) (clN N) ix = some (L, R) ∧ R.length = ix ∧ ix ≤ L.length ∧ RS (pR w N csN gd) ρ S V wr ∧ S.L = L ∧ S.R = R ∧ S.T = tagsL N L ∧ S.r = [] ∧ sl = V.vl)) (fun _ si _ _ _ _ _ _ => 601 - (intOf si).toNat)
  case atStart => exact ⟨0, rfl, by decide, Lib.hid ⟨_, _, _, _, _, rfl, rfl, by decide, HRS0.out, rfl, rfl, rfl, rfl, rfl⟩⟩
  case round =>
    obtain ⟨ix, rfl, hi6, HH⟩ := hrel
    obtain ⟨L, R, ρ1, S1, V1, hsub, hRl, hiL, hrs, hSL, hSR, hST, hSr, rfl⟩ := HH.out
    obtain ⟨hl1, hl6, _⟩ := subTo_small _ _ _ _ _ _ hsub
    obtain ⟨Al, cl, hvl, hcl⟩ := own_formD (hrs.l F)
    rw [hSL] at hvl
    have HSUB := Lib.hid hsub
    have HVL := Lib.hid hvl
    have HRS1 := Lib.hid hrs
    have HS1 := Lib.hid (And.intro hSL (And.intro hSR (And.intro hST hSr)))
    have HRL := Lib.hid hRl
    obtain ⟨w1, rfl⟩ : ∃ w1, w1 = wr := ⟨_, rfl⟩
    rw [hvl]
    clear HRS0 HH hsub hrs hSL hSR hST hSr hvl hRl
    by_cases hp : ix < L.length
    · have hk1 : IntKind.i64.wrap ((ix : Int) + 1) = ((ix + 1 : Nat) : Int) := by rw [IntKind.wrap_i64]; omega
      have hdl : decide ((ix : Int) < (L.length : Int)) = true := by simp; omega
      go_wp2
      have HI2 := Lib.hid (show ∃ ρ S V, RS (pR w N csN gd) ρ S V w1 ∧ S.L = (rowTo N (lbN N) ix L 0).2 ∧ S.R = R ∧ S.T = tagsL N S.L ∧ S.r = (rowTo N (lbN N) ix L 0).1 ∧ (.slice Al L.length cl : Value) = V.vl ∧ (.slice none 0 0 : Value) = V.vr from
        ⟨ρ1, { S1 with r := [] }, { V1 with vr := .slice none 0 0 }, ⟨HRS1.out.below, HRS1.out.low, HRS1.out.na, HRS1.out.nb, HRS1.out.zb, HRS1.out.blk, HRS1.out.l, HRS1.out.t, HRS1.out.n, fun _ => World.ownsRow_nil _ _ _ _, HRS1.out.rl, HRS1.out.rn, HRS1.out.r0, ⟨HRS1.out.ro.1, HRS1.out.ro.2.1, HRS1.out.ro.2.2.1, fun k hk => by cases hk⟩⟩, HS1.out.1, HS1.out.2.1, by rw [HS1.out.1]; exact HS1.out.2.2.1, rfl, HVL.out.symm, rfl⟩)
      go_loopw [5, 7, 8, 9, 10, 11] (fun sl sr sc _ _ _ wr => ∃ c : Nat, sc = .int .i64 c ∧ c ≤ clN N ∧ Hid (∃ ρ S V, RS (pR w N csN gd) ρ S V wr ∧ S.L = (rowTo N (lbN N) ix L c).2 ∧ S.R = R ∧ S.T = tagsL N S.L ∧ S.r = (rowTo N (lbN N) ix L c).1 ∧ sl = V.vl ∧ sr = V.vr)) (fun _ _ sc _ _ _ _ => clN N - (intOf sc).toNat)
      case atStart => exact ⟨0, rfl, Nat.zero_le _, HI2⟩
      case round =>
        obtain ⟨c, rfl, hc, HH2⟩ := hrel
        obtain ⟨ρ3, S3, V3, hrs3, h3L, h3R, h3T, h3r, rfl, rfl⟩ := HH2.out
        obtain ⟨w3, rfl⟩ : ∃ w3, w3 = wr := ⟨_, rfl⟩
        obtain ⟨Al3, cl3, hvl3, hcl3⟩ := own_formD (hrs3.l F)
        obtain ⟨Ar3, cr3, hvr3, hcr3⟩ := own_formD (hrs3.r F)
        have hblk3 := DfB.of (hrs3.blk F)
        have k256 : w3.cell? ⟨gd, 256, none⟩ = some (.int .i64 (clN N : Nat)) := hblk3.cells.1
        have HB3 := Lib.hid hblk3
        have HRS := Lib.hid hrs3
        have HS3 := Lib.hid (And.intro h3L (And.intro h3R (And.intro h3T h3r)))
        have HV3 := Lib.hid (And.intro hvl3 hvr3)
        rw [hvl3, hvr3]
        clear HI2 HH2 hrs3 h3L h3R h3T h3r hvl3 hvr3 hblk3
        by_cases hpc : c < clN N
        · have hck1 : IntKind.i64.wrap ((c : Int) + 1) = ((c + 1 : Nat) : Int) := by rw [IntKind.wrap_i64]; omega
          have hdc : decide ((c : Int) < (clN N : Int)) = true := by simp; omega
          obtain ⟨_, hlb1, hlb2, hlb3⟩ := lbN_is N hpc
          have HLB := Lib.hid (And.intro hlb2 hlb3)
          clear hlb2 hlb3
          go_wp2
          go_loopw [9] (fun sb wr => ∃ b : Nat, sb = .int .i64 b ∧ b ≤ lbN N c ∧ Hid (w3 = wr)) (fun sb _ => 256 - (intOf sb).toNat)
          case atStart => exact ⟨0, rfl, Nat.zero_le _, Lib.hid (by trivial)⟩
          case round =>
            obtain ⟨b, rfl, hb, HW3⟩ := hrel
            obtain rfl := HW3.out
            have hof := HB3.out.ofAt (show b < 256 by omega)
            have hbk1 : IntKind.i64.wrap ((b : Int) + 1) = ((b + 1 : Nat) : Int) := by rw [IntKind.wrap_i64]; omega
            have hbw : IntKind.i64.wrap ((ofN N b : Nat) : Int) = ((ofN N b : Nat) : Int) := by have := ofN_lt N b (by omega); rw [IntKind.wrap_i64]; omega
            have hbi : decide ((b : Int) < 256) = true := by simp; omega
            by_cases hbl : b < lbN N c
            · have hne : ofN N b ≠ c := HLB.out.2 b hbl
              have hneq : (((ofN N b : Nat) : Int) != (c : Int)) = true := by simp; omega
              clear hne
              go_wp2
              exact ⟨⟨b + 1, rfl, by omega, Lib.hid (by trivial)⟩, by simp [intOf]; omega⟩
            · obtain rfl : b = lbN N c := by omega
              have heq : ofN N (lbN N c) = c := HLB.out.1
              have hneq : (((ofN N (lbN N c) : Nat) : Int) != (c : Int)) = false := by rw [heq]; simp
              clear heq
              go_wp2
              obtain ⟨lpre, hpre⟩ := rowTo_pre N (lbN N) ix L c
              have hiL3 : ix < S3.L.length := by rw [HS3.out.1, hpre, List.length_append]; omega
              have hL3len : S3.L.length ≤ 600 + clN N := by
                have := rowTo_few N (lbN N) ix L c
                rw [HS3.out.1]; omega
              obtain ⟨gl, cl9, xv, hvl9, hglt, hxc, hxi⟩ := row_at9 (HRS.out.l F) HRS.out.rl hiL3
              have hvl8 := HV3.out.1
              rw [hvl9] at hvl8
              injection hvl8 with hA _ hc9
              subst hA
              subst hc9
              have hkept : ∀ x ∈ S3.L, Kept N x := by
                rw [HS3.out.1]
                exact rowTo_kept N (lbN N) ix L (subTo_kept N (lbN N) (clN N) _ _ _ HSUB.out) c
              have HKP := Lib.hid hkept
              have HST := Lib.hid (fun (u : World) (hu : Below w3.heap.size w3 u) => show Calls Tryd.prog 31 #[.agg csN, xv, .bool (decide (ix = 0)), .int .u8 (lbN N c : Nat)] u (fun e w' => ∃ v', e = .returned v' ∧ RowI u.heap.size w' v' (stepX N S3.L ix (lbN N c)) ∧ Below u.heap.size u w') by
                have hna : NfaAt u N (.agg csN) := (HRS.out.step hu).na.step (HRS.out.step hu).below
                have := refStepR_any N S3.L[ix] (decide (ix = 0)) (lbN N c) hlb1 (.agg csN) xv u hna (hxi.step hu) (fun p hp => by
                  rcases hkept _ (List.getElem_mem hiL3) with e | ⟨f, b, e⟩
                  · rw [e] at hp; cases hp
                  · rw [e] at hp; exact keep_in p hp) HMI.out.firsts.1 HMI.out.follow HMI.out.rows (by have := HMI.out.small; omega)
                unfold stepX
                rw [List.getD_eq_getElem?_getD, List.getElem?_eq_getElem hiL3]
                exact this)
              have HXV := Lib.hid (And.intro hglt (And.intro hxc hxi))
              have HIL := Lib.hid (show decide ((ix : Int) < (S3.L.length : Int)) = true by simp; omega)
              have HP0 := Lib.hid (show (0 : Int) ≤ (ix : Int) by omega)
              have HI0 := Lib.hid (show decide ((ix : Int) = 0) = decide (ix = 0) ∧ ((ix : Int) == 0) = decide (ix = 0) by
                constructor
                · rw [Bool.eq_iff_iff]; simp
                · rw [Bool.eq_iff_iff]; simp)
              have HLW := Lib.hid (show IntKind.u8.wrap ((lbN N c : Nat) : Int) = ((lbN N c : Nat) : Int) by rw [IntKind.wrap_u8]; omega)
              have HLN := Lib.hid (show ∀ (u : World), BlkIs u w.heap.size 27 csN → (Instr.loadAt 27 (.pointer (some ⟨w.heap.size, 0, none⟩))).run Tryd.prog u = .ok (.agg csN) u from fun u hu => by
                have := run_loadAt_mid (P := Tryd.prog) u w.heap.size 0 27 csN.toList _ hu.range Tryd.underlying27 rfl (by rw [infoN89, Array.length_toList, HCS0.out]; rfl)
                rw [this, Array.toArray_toList])
              have HRL9 := Lib.hid (show S3.r.length + 1 ≤ 1048576 by rw [HS3.out.2.2.2, rowTo_len]; omega)
              have HL3 := Lib.hid (show S3.L.length ≤ 1048576 by omega)
              have HL0 := Lib.hid (show 1 ≤ S3.L.length by omega)
              clear hpre lpre hL3len hvl9 hglt hxc hxi hkept hof hbk1 hbw hbi hneq hbl hb
              go_wp2_with fail
              refine wp_region_acts 10 90 (fun u => Hid (Below w3.heap.size w3 u)) (fun _ u u' => Below u.heap.size u u')
                (fun i v u => match i with
                  | 0 => v = .agg csN
                  | 1 => v = .slice (some ⟨gl, 0, none⟩) S3.L.length cl9
                  | 2 => v = .int .i64 (ix : Nat)
                  | 3 => v = .pointer (some ⟨gl, ix, none⟩)
                  | 4 => v = xv
                  | 5 => v = .int .i64 (ix : Nat)
                  | 6 => v = .bool (decide (ix = 0))
                  | 7 => v = .int .i64 (lbN N c : Nat)
                  | 8 => v = .int .u8 (lbN N c : Nat)
                  | 9 => RowI w3.heap.size u v (stepX N S3.L ix (lbN N c))
                  | _ => True) (by kernel_rfl) (by kernel_rfl) rfl (Lib.hid (Below.refl _ _).drew) ?_ ?_ ?_ ?_
              · intro i u u' hix hC hr
                exact Lib.hid (hC.out.trans (hr.mono hC.out.size))
              · intro i j v u u' hix hj hne hv hr
                match i, hix, hne, hv with
                | 0, _, _, hv => exact hv
                | 1, _, _, hv => exact hv
                | 2, _, _, hv => exact hv
                | 3, _, _, hv => exact hv
                | 4, _, _, hv => exact hv
                | 5, _, _, hv => exact hv
                | 6, _, _, hv => exact hv
                | 7, _, _, hv => exact hv
                | 8, _, _, hv => exact hv
                | 9, _, hne, hv =>
                  exact hv.step hr
                | i + 10, hix, _, _ => omega
              · intro i hix vs u hC hw oq ho
                match i, hix, hw, ho with
                | 0, _, hw, ho =>
                  simp only [List.getElem?_toArray, List.getElem?_cons_zero, Option.some.injEq] at ho
                  subst ho
                  refine ⟨rfl, ?_⟩
                  clear hw
                  simp only [textFrame_eq, tmpsTo]
                  rw [exec_loadDf9 27 (.tmp 1) _ rfl rfl (HLN.out u (HRS.out.step hC.out).nb)]
                  exact act_val (Below.refl _ _) rfl
                | 1, _, hw, ho =>
                  simp only [List.getElem?_toArray, List.getElem?_cons_zero, List.getElem?_cons_succ, Option.some.injEq] at ho
                  subst ho
                  refine ⟨rfl, ?_⟩
                  clear hw
                  simp only [textFrame_eq, tmpsTo, putT, List.getElem?_toArray, List.getElem?_cons_zero, Option.bind_some, List.setIfInBounds_toArray, List.set_cons_zero, List.set_cons_succ]
                  go_simp
                  exact act_val (Below.refl _ _) rfl
                | 2, _, hw, ho =>
                  simp only [List.getElem?_toArray, List.getElem?_cons_zero, List.getElem?_cons_succ, Option.some.injEq] at ho
                  subst ho
                  refine ⟨rfl, ?_⟩
                  clear hw
                  simp only [textFrame_eq, tmpsTo, putT, List.getElem?_toArray, List.getElem?_cons_zero, List.getElem?_cons_succ, Option.bind_some, List.setIfInBounds_toArray, List.set_cons_zero, List.set_cons_succ]
                  go_simp
                  exact act_val (Below.refl _ _) rfl
                | 3, _, hw, ho =>
                  have e1 : vs 1 = .slice (some ⟨gl, 0, none⟩) S3.L.length cl9 := hw 1 (by omega) (by kernel_rfl)
                  have e2 : vs 2 = .int .i64 (ix : Nat) := hw 2 (by omega) (by kernel_rfl)
                  simp only [List.getElem?_toArray, List.getElem?_cons_zero, List.getElem?_cons_succ, Option.some.injEq] at ho
                  subst ho
                  refine ⟨rfl, ?_⟩
                  clear hw
                  simp only [textFrame_eq, tmpsTo, putT, List.getElem?_toArray, List.getElem?_cons_zero, List.getElem?_cons_succ, Option.bind_some, List.setIfInBounds_toArray, List.set_cons_zero, List.set_cons_succ]
                  rw [e1, e2]
                  clear e1 e2
                  have hdl := HIL.out
                  have hp0 := HP0.out
                  go_simp
                  exact act_val (Below.refl _ _) rfl
                | 4, _, hw, ho =>
                  have e3 : vs 3 = .pointer (some ⟨gl, ix, none⟩) := hw 3 (by omega) (by kernel_rfl)
                  simp only [List.getElem?_toArray, List.getElem?_cons_zero, List.getElem?_cons_succ, Option.some.injEq] at ho
                  subst ho
                  refine ⟨rfl, ?_⟩
                  clear hw
                  simp only [textFrame_eq, tmpsTo, putT, List.getElem?_toArray, List.getElem?_cons_zero, List.getElem?_cons_succ, Option.bind_some, List.setIfInBounds_toArray, List.set_cons_zero, List.set_cons_succ]
                  rw [e3]
                  clear e3
                  have q3 := (hC.out.cell (p := ⟨gl, ix, none⟩) HXV.out.1).trans HXV.out.2.1
                  go_simp
                  exact act_val (Below.refl _ _) rfl
                | 5, _, hw, ho =>
                  simp only [List.getElem?_toArray, List.getElem?_cons_zero, List.getElem?_cons_succ, Option.some.injEq] at ho
                  subst ho
                  refine ⟨rfl, ?_⟩
                  clear hw
                  simp only [textFrame_eq, tmpsTo, putT, List.getElem?_toArray, List.getElem?_cons_zero, List.getElem?_cons_succ, Option.bind_some, List.setIfInBounds_toArray, List.set_cons_zero, List.set_cons_succ]
                  go_simp
                  exact act_val (Below.refl _ _) rfl
                | 6, _, hw, ho =>
                  have e5 : vs 5 = .int .i64 (ix : Nat) := hw 5 (by omega) (by kernel_rfl)
                  simp only [List.getElem?_toArray, List.getElem?_cons_zero, List.getElem?_cons_succ, Option.some.injEq] at ho
                  subst ho
                  refine ⟨rfl, ?_⟩
                  clear hw
                  simp only [textFrame_eq, tmpsTo, putT, List.getElem?_toArray, List.getElem?_cons_zero, List.getElem?_cons_succ, Option.bind_some, List.setIfInBounds_toArray, List.set_cons_zero, List.set_cons_succ]
                  rw [e5]
                  clear e5
                  have hi0 := HI0.out
                  go_simp
                  exact act_val (Below.refl _ _) rfl
                | 7, _, hw, ho =>
                  simp only [List.getElem?_toArray, List.getElem?_cons_zero, List.getElem?_cons_succ, Option.some.injEq] at ho
                  subst ho
                  refine ⟨rfl, ?_⟩
                  clear hw
                  simp only [textFrame_eq, tmpsTo, putT, List.getElem?_toArray, List.getElem?_cons_zero, List.getElem?_cons_succ, Option.bind_some, List.setIfInBounds_toArray, List.set_cons_zero, List.set_cons_succ]
                  go_simp
                  exact act_val (Below.refl _ _) rfl
                | 8, _, hw, ho =>
                  have e7 : vs 7 = .int .i64 (lbN N c : Nat) := hw 7 (by omega) (by kernel_rfl)
                  simp only [List.getElem?_toArray, List.getElem?_cons_zero, List.getElem?_cons_succ, Option.some.injEq] at ho
                  subst ho
                  refine ⟨rfl, ?_⟩
                  clear hw
                  simp only [textFrame_eq, tmpsTo, putT, List.getElem?_toArray, List.getElem?_cons_zero, List.getElem?_cons_succ, Option.bind_some, List.setIfInBounds_toArray, List.set_cons_zero, List.set_cons_succ]
                  rw [e7]
                  clear e7
                  have hlw := HLW.out
                  go_simp
                  exact act_val (Below.refl _ _) rfl
                | 9, _, hw, ho =>
                  have e0 : vs 0 = .agg csN := hw 0 (by omega) (by kernel_rfl)
                  have e4 : vs 4 = xv := hw 4 (by omega) (by kernel_rfl)
                  have e6 : vs 6 = .bool (decide (ix = 0)) := hw 6 (by omega) (by kernel_rfl)
                  have e8 : vs 8 = .int .u8 (lbN N c : Nat) := hw 8 (by omega) (by kernel_rfl)
                  simp only [List.getElem?_toArray, List.getElem?_cons_zero, List.getElem?_cons_succ, Option.some.injEq] at ho
                  subst ho
                  refine ⟨rfl, ?_⟩
                  clear hw
                  simp only [textFrame_eq, tmpsTo, putT, List.getElem?_toArray, List.getElem?_cons_zero, List.getElem?_cons_succ, Option.bind_some, List.setIfInBounds_toArray, List.set_cons_zero, List.set_cons_succ]
                  rw [e0, e4, e6, e8]
                  clear e0 e4 e6 e8
                  go_simp
                  refine act_call ((HST.out u hC.out).mono ?_)
                  rintro e u' ⟨v', rfl, hri, hbu⟩
                  exact ⟨_, rfl, hbu, hri.low hC.out.size⟩
                | i + 10, hix, _, _ => omega
              intro vs1 u hC hV
              have h9 : RowI w3.heap.size u (vs1 9) (stepX N S3.L ix (lbN N c)) := hV 9 (by omega)
              clear hV
              simp only [textFrame_eq, tmpsTo, putT, List.getElem?_toArray, List.getElem?_cons_zero, List.getElem?_cons_succ, Option.bind_some, List.setIfInBounds_toArray, List.set_cons_zero, List.set_cons_succ, List.drop_succ_cons, List.drop_zero]
              generalize vs1 9 = vx at *
              generalize vs1 0 = q0
              generalize vs1 1 = q1
              generalize vs1 2 = q2
              generalize vs1 3 = q3
              generalize vs1 4 = q4
              generalize vs1 5 = q5
              generalize vs1 6 = q6
              generalize vs1 7 = q7
              generalize vs1 8 = q8
              obtain ⟨Xl, hXl⟩ : ∃ Xl, stepX N S3.L ix (lbN N c) = Xl := ⟨_, rfl⟩
              rw [hXl] at h9
              have HXL := Lib.hid hXl
              obtain ⟨Ax, cx, rfl, hcx⟩ := own_formD h9
              obtain ⟨w4, rfl⟩ : ∃ w4, w4 = u := ⟨_, rfl⟩
              have HX4 := Lib.hid (show IntsV w4 Xl (.slice Ax Xl.length cx) ∧ (∀ b, (Value.slice Ax Xl.length cx).ownBlock = some b → Xl ≠ [] → (fun k => if k < w3.heap.size then ρ3 k else 0) b = 0 ∧ b < w4.heap.size) from ⟨h9.ints, fun b hb _ => by
                have := World.ownsRow.lt h9 b hb
                exact ⟨if_neg (by omega), this.2⟩⟩)
              have HR4 := Lib.hid (HRS.out.fresh.step hC.out)
              have hkx : Kept N Xl := by rw [← hXl]; unfold stepX; exact .inr ⟨_, _, rfl⟩
              have HKX := Lib.hid hkx
              clear hXl h9 hkx HST HXV HIL HI0 HLW hcx k256
              generalize (fun k => if k < w3.heap.size then ρ3 k else 0) = ρ4 at *
              by_cases hX : Xl = []
              · subst hX
                have HRQ := HR4
                have HEQ := Lib.hid (show S3.L = (oneX S3.L []).2 ∧ S3.R = R ∧ S3.T = tagsL N S3.L ∧ (oneX S3.L []).1 = -1 ∧ (.slice (some ⟨gl, 0, none⟩) S3.L.length cl9 : Value) = V3.vl from ⟨rfl, HS3.out.2.1, HS3.out.2.2.1, rfl, HV3.out.1.symm⟩)
                have hl0 : decide ((([] : List Int).length : Int) > 0) = false := by decide
                have hl0' : decide ((0 : Int) < (([] : List Int).length : Int)) = false := by decide
                obtain ⟨Ag, cg, Wg, hrun, ρg, hg⟩ : ∃ (A : Option Addr) (cc : Nat) (W' : World), (Builtin.append_ #[23, 23] 23 #[V3.vr, .slice (some ⟨w4.heap.size, 0, none⟩) 1 1]).run Tryd.prog (w4.alloc (.cells #[.int .i64 (-1)] 3)) = .ok (.slice A (S3.r.length + 1) cc) W' ∧
                    ∃ ρ', RS (pR w N csN gd) ρ' { (S3 : RD) with r := S3.r ++ [-1] } { (V3 : RV) with vr := .slice A (S3.r.length + 1) cc } W' := HRQ.out.gather (-1) (by show S3.r.length + 1 ≤ 1073741824; have := HRL9.out; omega)
                rw [HV3.out.2] at hrun
                have HG := Lib.hid hg
                clear hg
                go_wp2_with (refine wpList_app8 rfl _ _ 23 23 rfl rfl rfl hrun ?_)
                refine ⟨⟨c + 1, rfl, by omega, Lib.hid ⟨ρg, _, _, HG.out, ?_, HEQ.out.2.1, HEQ.out.2.2.1, ?_, HEQ.out.2.2.2.2, rfl⟩⟩, by simp [intOf]; omega⟩
                · show (S3 : RD).L = (oneX (rowTo N (lbN N) ix L c).2 (stepX N (rowTo N (lbN N) ix L c).2 ix (lbN N c))).2
                  rw [← HS3.out.1, HXL.out]; exact HEQ.out.1
                · show S3.r ++ [(-1)] = (rowTo N (lbN N) ix L c).1 ++ [(oneX (rowTo N (lbN N) ix L c).2 (stepX N (rowTo N (lbN N) ix L c).2 ix (lbN N c))).1]
                  rw [← HS3.out.1, HXL.out, HEQ.out.2.2.2.1, ← HS3.out.2.2.2]
              · have hpos : 0 < Xl.length := List.length_pos_iff.2 hX
                have hl0 : decide ((Xl.length : Int) > 0) = true := by simp; omega
                have hl0' : decide ((0 : Int) < (Xl.length : Int)) = true := by simp; omega
                have hl0n : decide (0 < Xl.length) = true := by simp; omega
                have hrows := rows_of9 (HR4.out.l F) HR4.out.rl
                rw [HV3.out.1] at hrows
                have HFI := Lib.hid (find_any S3.L Xl _ _ w4 hrows HX4.out.1 (by have := HL3.out; omega))
                have HNE := Lib.hid hX
                clear hrows hpos hX
                go_wp2_with fail
                go_at_call 32
                refine HFI.out.mono ?_
                rintro e w5 ⟨rfl, hb45⟩
                have HR5 := Lib.hid (HR4.out.step hb45)
                have HX5 := Lib.hid (show IntsV w5 Xl (.slice Ax Xl.length cx) ∧ (∀ b, (Value.slice Ax Xl.length cx).ownBlock = some b → Xl ≠ [] → ρ4 b = 0 ∧ b < w5.heap.size) from ⟨HX4.out.1.step hb45, fun b hb hne => ⟨(HX4.out.2 b hb hne).1, by have := (HX4.out.2 b hb hne).2; have := hb45.size; omega⟩⟩)
                clear hb45 HFI HX4 HR4
                cases hfl : findL S3.L Xl with
                | some j =>
                  have hfi : findI S3.L Xl = (j : Nat) := by unfold findI; rw [hfl]
                  rw [hfi]
                  have hj0 : decide ((j : Int) < 0) = false := decide_eq_false (by omega)
                  have HRQ := HR5
                  have HEQ := Lib.hid (show S3.L = (oneX S3.L Xl).2 ∧ S3.R = R ∧ S3.T = tagsL N S3.L ∧ (oneX S3.L Xl).1 = ((j : Nat) : Int) ∧ (.slice (some ⟨gl, 0, none⟩) S3.L.length cl9 : Value) = V3.vl from by
                    have e : oneX S3.L Xl = (((j : Nat) : Int), S3.L) := by unfold oneX; rw [if_neg HNE.out, hfl]
                    rw [e]
                    exact ⟨rfl, HS3.out.2.1, HS3.out.2.2.1, rfl, HV3.out.1.symm⟩)
                  clear hfi hfl
                  obtain ⟨Ag, cg, Wg, hrun, ρg, hg⟩ : ∃ (A : Option Addr) (cc : Nat) (W' : World), (Builtin.append_ #[23, 23] 23 #[V3.vr, .slice (some ⟨w5.heap.size, 0, none⟩) 1 1]).run Tryd.prog (w5.alloc (.cells #[.int .i64 (((j : Nat) : Int))] 3)) = .ok (.slice A (S3.r.length + 1) cc) W' ∧
                      ∃ ρ', RS (pR w N csN gd) ρ' { (S3 : RD) with r := S3.r ++ [((j : Nat) : Int)] } { (V3 : RV) with vr := .slice A (S3.r.length + 1) cc } W' := HRQ.out.gather (((j : Nat) : Int)) (by show S3.r.length + 1 ≤ 1073741824; have := HRL9.out; omega)
                  rw [HV3.out.2] at hrun
                  have HG := Lib.hid hg
                  clear hg
                  go_wp2_with (refine wpList_app8 rfl _ _ 23 23 rfl rfl rfl hrun ?_)
                  refine ⟨⟨c + 1, rfl, by omega, Lib.hid ⟨ρg, _, _, HG.out, ?_, HEQ.out.2.1, HEQ.out.2.2.1, ?_, HEQ.out.2.2.2.2, rfl⟩⟩, by simp [intOf]; omega⟩
                  · show (S3 : RD).L = (oneX (rowTo N (lbN N) ix L c).2 (stepX N (rowTo N (lbN N) ix L c).2 ix (lbN N c))).2
                    rw [← HS3.out.1, HXL.out]; exact HEQ.out.1
                  · show S3.r ++ [(((j : Nat) : Int))] = (rowTo N (lbN N) ix L c).1 ++ [(oneX (rowTo N (lbN N) ix L c).2 (stepX N (rowTo N (lbN N) ix L c).2 ix (lbN N c))).1]
                    rw [← HS3.out.1, HXL.out, HEQ.out.2.2.2.1, ← HS3.out.2.2.2]
                | none =>
                  have hfi : findI S3.L Xl = -1 := by unfold findI; rw [hfl]
                  rw [hfi]
                  have HON := Lib.hid (show oneX S3.L Xl = (((S3.L.length : Nat) : Int), S3.L ++ [Xl]) by unfold oneX; rw [if_neg HNE.out, hfl])
                  obtain ⟨An, cn, Wn, hrunL, ρn, hn, hxn, hxr⟩ := HR5.out.found (x := Xl) (vx := .slice Ax Xl.length cx) rfl HX5.out.1 HX5.out.2 (by have := HL3.out; omega)
                  rw [HV3.out.1] at hrunL
                  have HXN := Lib.hid (And.intro hxn hxr)
                  have HN := Lib.hid hn
                  clear hfi hfl hn hxn hxr HX5 HR5
                  obtain ⟨S5, hS5⟩ : ∃ S5 : RD, { S3 with L := S3.L ++ [Xl], hl := S3.hl ++ [Value.slice Ax Xl.length cx] } = S5 := ⟨_, rfl⟩
                  obtain ⟨V5, hV5⟩ : ∃ V5 : RV, { V3 with vl := .slice An (S3.L.length + 1) cn } = V5 := ⟨_, rfl⟩
                  rw [hS5, hV5] at HN
                  obtain ⟨tg, htg⟩ : ∃ tg, tagTo N (setOf Xl) N.rules.length = tg := ⟨_, rfl⟩
                  have HTL := Lib.hid (show S5.T.length + 1 ≤ 1073741824 by rw [← hS5]; show S3.T.length + 1 ≤ _; rw [HS3.out.2.2.1, tagsL_len]; have := HL3.out; omega)
                  have HC5 := Lib.hid (show Below w.heap.size w Wn ∧ RowI w.heap.size Wn V5.vt S5.T ∧ Wn.cell? ⟨gd, 258, none⟩ = some V5.vt ∧ BlkIs Wn w.heap.size 27 csN from ⟨HN.out.below, HN.out.t F, (DfB.of (HN.out.blk F)).cells.2.2, HN.out.nb⟩)
                  have hne51 : V5.vt.ownBlock ≠ some gd := fun e => by
                    have h1 := HN.out.ro.2.1 _ e
                    have h2 : ρn gd = 1 := HN.out.r0.2.2
                    rw [h1] at h2
                    cases h2
                  have hne52 : V5.vt.ownBlock ≠ some w.heap.size := fun e => by
                    have h1 := HN.out.ro.2.1 _ e
                    have h2 : ρn w.heap.size = 6 := HN.out.r0.1
                    rw [h1] at h2
                    cases h2
                  have HNE5 := Lib.hid (And.intro hne51 hne52)
                  clear hne51 hne52
                  have HOW := Lib.hid (show ∀ k, V5.vt.ownBlock = some k → k < Wn.heap.size from fun k hk => (World.ownsRow.lt (HN.out.t F) k hk).2)
                  have HWS5 := Lib.hid (show w.heap.size ≤ Wn.heap.size from HN.out.size)
                  have HTG := Lib.hid (fun (u : World) (ht : Tn V5.vt.ownBlock Wn u) (hu : Below w.heap.size w u) => show Calls Tryd.prog 33 #[.agg csN, .slice Ax Xl.length cx] u (fun e w' => e = .returned (.int .i64 tg) ∧ Below u.heap.size u w') by
                    have hna : NfaAt u N (.agg csN) := NfaAt.step (W := w) HN.out.na hu
                    have hxu : IntsV u Xl (.slice Ax Xl.length cx) := HXN.out.1.keep fun b hb hne => ht.2.1 b (HXN.out.2 b hb hne).2 fun e => by
                      have h1 := HN.out.ro.2.1 _ e
                      have h2 := (HXN.out.2 b hb hne).1
                      omega
                    have := refTag8_any N Xl (.agg csN) _ u hna hxu (fun p hp => by
                      rw [HMI.out.rules]
                      rcases HKX.out with e | ⟨f, b, e⟩
                      · rw [e] at hp; cases hp
                      · rw [e] at hp; exact keep_in p hp) (by rw [HMI.out.rules, HMI.out.ends])
                    rw [ref_tag9 HMI.out HKX.out, htg] at this
                    exact this)
                  have HTT := Lib.hid htg
                  clear htg
                  go_wp2_with (refine wpList_app8 rfl _ _ 24 24 rfl rfl rfl hrunL ?_)
                  refine wp_region_acts 7 90 (fun u => Hid (Tn V5.vt.ownBlock Wn u ∧ Below w.heap.size w u ∧ RowI w.heap.size u V5.vt S5.T ∧ u.cell? ⟨gd, 258, none⟩ = some V5.vt ∧ BlkIs u w.heap.size 27 csN)) (fun i u u' => (i = 6 → u.grownBy u' V5.vt.ownBlock ∧ RowI w.heap.size u' V5.vt S5.T) ∧ (i ≠ 6 → Below u.heap.size u u'))
                    (fun i v u => match i with
                      | 0 => v = .pointer (some ⟨gd, 258, none⟩)
                      | 1 => v = V5.vt
                      | 2 => v = .agg csN
                      | 3 => v = .slice Ax Xl.length cx
                      | 4 => v = .int .i64 tg
                      | 5 => ∃ b, v = .slice (some ⟨b, 0, none⟩) 1 1 ∧ u.cell? ⟨b, 0, none⟩ = some (.int .i64 tg) ∧ Wn.heap.size ≤ b
                      | 6 => RowI w.heap.size u v (S5.T ++ [tg]) ∧ (v.ownBlock = V5.vt.ownBlock ∨ ∃ b, v.ownBlock = some b ∧ Wn.heap.size ≤ b)
                      | _ => True) (by kernel_rfl) (by kernel_rfl) rfl (Lib.hid ⟨Tn.below (Below.refl _ _).drew, HC5.out.1.drew, ownI_heap HC5.out.2.1 (fun _ _ => rfl), HC5.out.2.2.1, HC5.out.2.2.2⟩) ?_ ?_ ?_ ?_
                  · intro i u u' hix hC hr
                    by_cases hi8 : i = 6
                    · obtain ⟨g1, g2⟩ := hr.1 hi8
                      have n1 : V5.vt.ownBlock ≠ some gd := HNE5.out.1
                      have n2 : V5.vt.ownBlock ≠ some w.heap.size := HNE5.out.2
                      exact Lib.hid ⟨hC.out.1.trans (Tn.grown g1), (Tn.grown g1).2.2 _ _ (by have := hC.out.1.1; have := HWS5.out; omega) (fun k hk => (World.ownsRow.lt hC.out.2.2.1 k hk).1) hC.out.2.1, g2, (cell_heap ((Tn.grown g1).2.1 _ (World.block_lt_of_cell? u ⟨gd, 258, none⟩ hC.out.2.2.2.1) n1)).trans hC.out.2.2.2.1, ((Tn.grown g1).2.1 _ (BlkIs.lt hC.out.2.2.2.2) n2).trans hC.out.2.2.2.2⟩
                    · have hb := hr.2 hi8
                      exact Lib.hid ⟨hC.out.1.trans (Tn.below hb), hC.out.2.1.trans (hb.mono (by have := hC.out.1.1; have := HWS5.out; omega)), ownI_heap hC.out.2.2.1 (fun k hk => hb.block k (World.ownsRow.lt hC.out.2.2.1 k hk).2), (hb.cell (p := ⟨gd, 258, none⟩) (World.block_lt_of_cell? u ⟨gd, 258, none⟩ hC.out.2.2.2.1)).trans hC.out.2.2.2.1, hC.out.2.2.2.2.step hb⟩
                  · intro i j v u u' hix hj hne hv hr
                    match i, hix, hne, hv with
                    | 0, _, _, hv => exact hv
                    | 1, _, _, hv => exact hv
                    | 2, _, _, hv => exact hv
                    | 3, _, _, hv => exact hv
                    | 4, _, _, hv => exact hv
                    | 5, _, hne, hv =>
                      obtain ⟨b, e1, e2, e3⟩ := hv
                      refine ⟨b, e1, ?_, e3⟩
                      by_cases hj8 : j = 6
                      · exact (cell_heap ((hr.1 hj8).1.block b (World.block_lt_of_cell? u ⟨b, 0, none⟩ e2) (fun e => by have := HOW.out b e.symm; omega))).trans e2
                      · exact ((hr.2 hj8).cell (p := ⟨b, 0, none⟩) (World.block_lt_of_cell? u ⟨b, 0, none⟩ e2)).trans e2
                    | 6, _, hne, hv =>
                      exact ⟨ownI_heap hv.1 fun k hk => (hr.2 (Ne.symm hne)).block k (World.ownsRow.lt hv.1 k hk).2, hv.2⟩
                    | i + 7, hix, _, _ => omega
                  · intro i hix vs u hC hw oq ho
                    match i, hix, hw, ho with
                    | 0, _, hw, ho =>
                      simp only [List.getElem?_toArray, List.getElem?_cons_zero, Option.some.injEq] at ho
                      subst ho
                      refine ⟨rfl, ?_⟩
                      have k258 := hC.out.2.2.2.1
                      clear hw
                      simp only [textFrame_eq, tmpsTo]
                      go_simp
                      exact act_val (Below.refl _ _) rfl
                    | 1, _, hw, ho =>
                      have e0 : vs 0 = .pointer (some ⟨gd, 258, none⟩) := hw 0 (by omega) (by kernel_rfl)
                      simp only [List.getElem?_toArray, List.getElem?_cons_zero, List.getElem?_cons_succ, Option.some.injEq] at ho
                      subst ho
                      refine ⟨rfl, ?_⟩
                      have k258 := hC.out.2.2.2.1
                      clear hw
                      simp only [textFrame_eq, tmpsTo, putT, List.getElem?_toArray, List.getElem?_cons_zero, Option.bind_some, List.setIfInBounds_toArray, List.set_cons_zero, List.set_cons_succ]
                      rw [e0]
                      clear e0
                      go_simp
                      exact act_val (Below.refl _ _) rfl
                    | 2, _, hw, ho =>
                      simp only [List.getElem?_toArray, List.getElem?_cons_zero, List.getElem?_cons_succ, Option.some.injEq] at ho
                      subst ho
                      refine ⟨rfl, ?_⟩
                      have k258 := hC.out.2.2.2.1
                      clear hw
                      simp only [textFrame_eq, tmpsTo, putT, List.getElem?_toArray, List.getElem?_cons_zero, List.getElem?_cons_succ, Option.bind_some, List.setIfInBounds_toArray, List.set_cons_zero, List.set_cons_succ]
                      rw [exec_loadDf9 27 (.tmp 1) _ rfl rfl (HLN.out u hC.out.2.2.2.2)]
                      exact act_val ⟨fun h => absurd h (by decide), fun _ => Below.refl _ _⟩ rfl
                    | 3, _, hw, ho =>
                      simp only [List.getElem?_toArray, List.getElem?_cons_zero, List.getElem?_cons_succ, Option.some.injEq] at ho
                      subst ho
                      refine ⟨rfl, ?_⟩
                      have k258 := hC.out.2.2.2.1
                      clear hw
                      simp only [textFrame_eq, tmpsTo, putT, List.getElem?_toArray, List.getElem?_cons_zero, List.getElem?_cons_succ, Option.bind_some, List.setIfInBounds_toArray, List.set_cons_zero, List.set_cons_succ]
                      go_simp
                      exact act_val (Below.refl _ _) rfl
                    | 4, _, hw, ho =>
                      have e2 : vs 2 = .agg csN := hw 2 (by omega) (by kernel_rfl)
                      have e3 : vs 3 = .slice Ax Xl.length cx := hw 3 (by omega) (by kernel_rfl)
                      simp only [List.getElem?_toArray, List.getElem?_cons_zero, List.getElem?_cons_succ, Option.some.injEq] at ho
                      subst ho
                      refine ⟨rfl, ?_⟩
                      have k258 := hC.out.2.2.2.1
                      clear hw
                      simp only [textFrame_eq, tmpsTo, putT, List.getElem?_toArray, List.getElem?_cons_zero, List.getElem?_cons_succ, Option.bind_some, List.setIfInBounds_toArray, List.set_cons_zero, List.set_cons_succ]
                      rw [e2, e3]
                      clear e2 e3
                      go_simp
                      refine act_call ((HTG.out u hC.out.1 hC.out.2.1).mono ?_)
                      rintro e u' ⟨rfl, hbu⟩
                      exact ⟨_, rfl, hbu, rfl⟩
                    | 5, _, hw, ho =>
                      have e4 : vs 4 = .int .i64 tg := hw 4 (by omega) (by kernel_rfl)
                      simp only [List.getElem?_toArray, List.getElem?_cons_zero, List.getElem?_cons_succ, Option.some.injEq] at ho
                      subst ho
                      refine ⟨rfl, ?_⟩
                      have k258 := hC.out.2.2.2.1
                      clear hw
                      simp only [textFrame_eq, tmpsTo, putT, List.getElem?_toArray, List.getElem?_cons_zero, List.getElem?_cons_succ, Option.bind_some, List.setIfInBounds_toArray, List.set_cons_zero, List.set_cons_succ]
                      rw [e4]
                      clear e4
                      go_simp
                      exact act_val ((Below.refl _ _).alloc (Nat.le_refl _) _) ⟨_, rfl, (BlkIs.new u 3 #[.int .i64 tg]).cell 0, hC.out.1.1⟩
                    | 6, _, hw, ho =>
                      have e1 : vs 1 = V5.vt := hw 1 (by omega) (by kernel_rfl)
                      obtain ⟨b, e5, hb1, hb2⟩ : ∃ b, vs 5 = .slice (some ⟨b, 0, none⟩) 1 1 ∧ u.cell? ⟨b, 0, none⟩ = some (.int .i64 tg) ∧ Wn.heap.size ≤ b := hw 5 (by omega) (by kernel_rfl)
                      simp only [List.getElem?_toArray, List.getElem?_cons_zero, List.getElem?_cons_succ, Option.some.injEq] at ho
                      subst ho
                      refine ⟨rfl, ?_⟩
                      have k258 := hC.out.2.2.2.1
                      clear hw
                      simp only [textFrame_eq, tmpsTo, putT, List.getElem?_toArray, List.getElem?_cons_zero, List.getElem?_cons_succ, Option.bind_some, List.setIfInBounds_toArray, List.set_cons_zero, List.set_cons_succ]
                      rw [e1]
                      clear e1
                      rw [e5]
                      obtain ⟨v', W', hrun, k1, k2, k3, k4⟩ := append_intK hC.out.2.2.1 hb1 (c := 1) (by have := HTL.out; omega) (by have := hC.out.1.1; have := HWS5.out; omega)
                      rw [exec_app8 (.tmp 68) (.tmp 72) 23 23 rfl rfl rfl hrun]
                      refine act_val ?_ ?_
                      · exact ⟨fun _ => ⟨k2, k3⟩, fun h => absurd rfl h⟩
                      · refine ⟨k1, ?_⟩
                        rcases k4 with k4 | k4
                        · exact .inl k4
                        · exact .inr ⟨_, k4, hC.out.1.1⟩
                    | i + 7, hix, _, _ => omega
                  intro vs1 u hC hV
                  have h6 : RowI w.heap.size u (vs1 6) (S5.T ++ [tg]) ∧ ((vs1 6).ownBlock = V5.vt.ownBlock ∨ ∃ b, (vs1 6).ownBlock = some b ∧ Wn.heap.size ≤ b) := hV 6 (by omega)
                  clear hV
                  simp only [textFrame_eq, tmpsTo, putT, List.getElem?_toArray, List.getElem?_cons_zero, List.getElem?_cons_succ, Option.bind_some, List.setIfInBounds_toArray, List.set_cons_zero, List.set_cons_succ, List.drop_succ_cons, List.drop_zero]
                  generalize vs1 6 = v6 at *
                  generalize vs1 0 = p0
                  generalize vs1 1 = p1
                  generalize vs1 2 = p2
                  generalize vs1 3 = p3
                  generalize vs1 4 = p4
                  generalize vs1 5 = p5
                  obtain ⟨⟨ρ6, h6rs⟩, ⟨y6, hc6⟩, fz6⟩ := RSx.pushT HN.out hC.out.1 h6.1 h6.2
                  obtain ⟨A6, c6, e6, _⟩ := own_formD h6.1
                  have hST5 : S5.T = S3.T := by rw [← hS5]
                  rw [show (S5.T ++ [tg]).length = S3.T.length + 1 by rw [hST5]; simp] at e6
                  subst e6
                  have hc6' : u.cell? ⟨gd, 258, none⟩ = some y6 := hc6
                  have fz6' : u.frozen? ⟨gd, 258, none⟩ = false := fz6
                  obtain ⟨w6, hw6⟩ : ∃ w6, u.setCell ⟨gd, 258, none⟩ (.slice A6 (S3.T.length + 1) c6) = w6 := ⟨_, rfl⟩
                  rw [show (pR w N csN gd).gd = gd from rfl, hw6] at h6rs
                  subst hS5
                  subst hV5
                  have HRQ := Lib.hid (show RS (pR w N csN gd) ρ6 { S3 with L := S3.L ++ [Xl], hl := S3.hl ++ [Value.slice Ax Xl.length cx], T := S3.T ++ [tg] } { V3 with vl := .slice An (S3.L.length + 1) cn, vt := .slice A6 (S3.T.length + 1) c6 } w6 from h6rs)
                  have HEQ := Lib.hid (show S3.L ++ [Xl] = (oneX S3.L Xl).2 ∧ S3.R = R ∧ S3.T ++ [tg] = tagsL N (S3.L ++ [Xl]) ∧ (oneX S3.L Xl).1 = ((S3.L.length : Nat) : Int) ∧ (.slice An (S3.L.length + 1) cn : Value) = .slice An (S3.L.length + 1) cn from by
                    rw [HON.out]
                    exact ⟨rfl, HS3.out.2.1, by rw [tagsL_app N S3.L Xl HL0.out, HTT.out, HS3.out.2.2.1], rfl, rfl⟩)
                  clear h6rs h6 hC hc6 fz6 HC5 HNE5 HOW HTG hrunL hST5
                  obtain ⟨Ag, cg, Wg, hrun, ρg, hg⟩ : ∃ (A : Option Addr) (cc : Nat) (W' : World), (Builtin.append_ #[23, 23] 23 #[V3.vr, .slice (some ⟨w6.heap.size, 0, none⟩) 1 1]).run Tryd.prog (w6.alloc (.cells #[.int .i64 (((S3.L.length : Nat) : Int))] 3)) = .ok (.slice A (S3.r.length + 1) cc) W' ∧
                      ∃ ρ', RS (pR w N csN gd) ρ' { ({ S3 with L := S3.L ++ [Xl], hl := S3.hl ++ [Value.slice Ax Xl.length cx], T := S3.T ++ [tg] } : RD) with r := S3.r ++ [((S3.L.length : Nat) : Int)] } { ({ V3 with vl := .slice An (S3.L.length + 1) cn, vt := .slice A6 (S3.T.length + 1) c6 } : RV) with vr := .slice A (S3.r.length + 1) cc } W' := HRQ.out.gather (((S3.L.length : Nat) : Int)) (by show S3.r.length + 1 ≤ 1073741824; have := HRL9.out; omega)
                  rw [HV3.out.2] at hrun
                  have HG := Lib.hid hg
                  clear hg
                  go_wp2_with (refine wpList_app8 rfl _ _ 23 23 rfl rfl rfl hrun ?_)
                  refine ⟨⟨c + 1, rfl, by omega, Lib.hid ⟨ρg, _, _, HG.out, ?_, HEQ.out.2.1, HEQ.out.2.2.1, ?_, HEQ.out.2.2.2.2, rfl⟩⟩, by simp [intOf]; omega⟩
                  · show ({ S3 with L := S3.L ++ [Xl], hl := S3.hl ++ [Value.slice Ax Xl.length cx], T := S3.T ++ [tg] } : RD).L = (oneX (rowTo N (lbN N) ix L c).2 (stepX N (rowTo N (lbN N) ix L c).2 ix (lbN N c))).2
                    rw [← HS3.out.1, HXL.out]; exact HEQ.out.1
                  · show S3.r ++ [(((S3.L.length : Nat) : Int))] = (rowTo N (lbN N) ix L c).1 ++ [(oneX (rowTo N (lbN N) ix L c).2 (stepX N (rowTo N (lbN N) ix L c).2 ix (lbN N c))).1]
                    rw [← HS3.out.1, HXL.out, HEQ.out.2.2.2.1, ← HS3.out.2.2.2]
        · have hdc : decide ((c : Int) < (clN N : Int)) = false := by simp; omega
          obtain rfl : c = clN N := by omega
          have k257 : w3.cell? ⟨gd, 257, none⟩ = some V3.vn := HB3.out.cells.2.1
          obtain ⟨Ah, ch, Wh, hrun, ⟨ρh, hh⟩, ⟨yh, cyh⟩, fzh⟩ := HRS.out.rowed (by rw [HS3.out.2.1, HRL.out]; omega)
          rw [HV3.out.2] at hrun
          have cyh' : Wh.cell? ⟨gd, 257, none⟩ = some yh := cyh
          have fzh' : Wh.frozen? ⟨gd, 257, none⟩ = false := fzh
          obtain ⟨Wk, hWk⟩ : ∃ Wk, Wh.setCell ⟨gd, 257, none⟩ (.slice Ah (S3.R.length + 1) ch) = Wk := ⟨_, rfl⟩
          rw [show (pR w N csN gd).gd = gd from rfl, hWk] at hh
          have HH9 := Lib.hid hh
          clear hh cyh fzh
          by_cases h600 : 600 < S3.L.length
          · have e6 : decide ((S3.L.length : Int) > 600) = true := by simp; omega
            have e6b : decide ((600 : Int) < (S3.L.length : Int)) = true := by simp; omega
            have e6n : decide (600 < S3.L.length) = true := by simp; omega
            have HZ := Lib.hid (show subZ N (lbN N) (clN N) = none from subZ_none N (lbN N) (clN N) (ix + 1) (by
              simp only [subTo]
              rw [HSUB.out]
              simp only
              rw [if_pos hp, if_pos (by rw [← HS3.out.1]; exact h600)]))
            obtain ⟨W9, hsc, hb9, hw9⟩ := store_blk (P := Tryd.prog) HH9.out.zb (new := df0) rfl (dfC_one _ _ _ _ rfl rfl)
            have hl9 := loadVarDr (DfB.of hb9)
            have HB9 := Lib.hid (show Below w.heap.size w W9 from hw9.2.1 _ _ (by show w.heap.size ≤ w.heap.size + 1; omega) HH9.out.below)
            have hs9 : df0.size = 259 := dfC_size _ _ _ _
            have z := zeroDr
            rw [HD0.out] at hsc hs9 z
            rw [show dfC (fun _ => 0) 0 (.slice none 0 0) (.slice none 0 0) = d0 from HD0.out] at hl9
            have hsc' : (storeCells ⟨w.heap.size + 1, 0, none⟩ d0.toList).run Tryd.prog Wk = .ok () W9 := hsc
            clear hb9 hw9 hsc h600
            go_wp2_with (refine wpList_app8 rfl _ _ 24 24 rfl rfl rfl hrun ?_)
            refine ⟨rfl, _, results_cell_two9 rfl rfl hl9, fun L R h => ?_, fun _ => ?_, HB9.out⟩
            · rw [HZ.out] at h; cases h
            · rw [HD0.out]; rfl
          · have e6 : decide ((S3.L.length : Int) > 600) = false := by simp; omega
            have e6b : decide ((600 : Int) < (S3.L.length : Int)) = false := by simp; omega
            have e6n : decide (600 < S3.L.length) = false := by simp; omega
            have HZ := Lib.hid (show subTo N (lbN N) (clN N) (ix + 1) = some (S3.L, R ++ [S3.r]) by
              simp only [subTo]
              rw [HSUB.out]
              simp only
              rw [if_pos hp, if_neg (by rw [← HS3.out.1]; exact h600), ← HS3.out.1, ← HS3.out.2.2.2])
            obtain ⟨lpre, hpre⟩ := rowTo_pre N (lbN N) ix L (clN N)
            have hle : ix + 1 ≤ S3.L.length := by rw [HS3.out.1, hpre, List.length_append]; omega
            clear h600 hpre lpre
            go_wp2_with (refine wpList_app8 rfl _ _ 24 24 rfl rfl rfl hrun ?_)
            exact ⟨⟨ix + 1, rfl, by omega, Lib.hid ⟨S3.L, R ++ [S3.r], ρh, _, _, HZ.out, by rw [List.length_append, HRL.out]; rfl, hle, HH9.out, rfl, by show S3.R ++ [S3.r] = _; rw [HS3.out.2.1], HS3.out.2.2.1, rfl, HV3.out.1.symm⟩⟩, by simp [intOf]; omega⟩
    · have hdl : decide ((ix : Int) < (L.length : Int)) = false := by simp; omega
      obtain rfl : ix = L.length := by omega
      have HZ := Lib.hid (subZ_some N (lbN N) (clN N) L.length HSUB.out (Nat.le_refl _))
      have hdf := DfB.of (HRS1.out.blk F)
      obtain ⟨An, cn, en, _⟩ := own_formD (HRS1.out.n F)
      obtain ⟨At, ct, et, _⟩ := own_formD (HRS1.out.t F)
      have hn1 : V1.vn.oneCell' = true := by rw [en]; rfl
      have ht1 : V1.vt.oneCell' = true := by rw [et]; rfl
      obtain ⟨W9, hsc, hb9, hw9⟩ := store_blk (P := Tryd.prog) HRS1.out.zb (new := dfC (ofN N) (clN N : Nat) V1.vn V1.vt) (by rw [dfC_size]; exact (dfC_size _ _ _ _).symm) (dfC_one _ _ _ _ hn1 ht1)
      have hl9 := loadVarDr (DfB.of hb9)
      have HB9 := Lib.hid (show Below w.heap.size w W9 from hw9.2.1 _ _ (by show w.heap.size ≤ w.heap.size + 1; omega) HRS1.out.below)
      have hs9 : (dfC (ofN N) (clN N : Nat) V1.vn V1.vt).size = 259 := dfC_size _ _ _ _
      have hrole : ∀ b, ρ1 b ≠ 7 → W9.heap[b]? = w1.heap[b]? := fun b hb => hw9.1 b (fun e => hb (by rw [e]; exact HRS1.out.r0.2.1))
      have HF := Lib.hid (show RowsI W9 R V1.vn ∧ IntsV W9 (tagsL N L) V1.vt from ⟨by
        rw [← HS1.out.2.1]
        exact rows_of9 (ownD_heap (HRS1.out.n F) fun k hk => hrole k (by rw [HRS1.out.ro.2.2.1 k hk]; decide)) (HRS1.out.rn.keep (by rw [hw9.2.2]; exact Nat.le_refl _) fun b _ h0 => hrole b (by rw [h0]; decide)), by
        rw [← HS1.out.2.2.1]
        exact RowI.ints (ownI_heap (HRS1.out.t F) fun k hk => hrole k (by rw [HRS1.out.ro.2.1 k hk]; decide))⟩)
      obtain ⟨d9, hd9⟩ : ∃ d9, dfC (ofN N) (clN N : Nat) V1.vn V1.vt = d9 := ⟨_, rfl⟩
      rw [hd9] at hsc hs9 hl9
      have hsc' : (storeCells ⟨w.heap.size + 1, 0, none⟩ d9.toList).run Tryd.prog w1 = .ok () W9 := hsc
      have HDF := Lib.hid (show DfB w1 gd (ofN N) (clN N : Nat) V1.vn V1.vt from hdf)
      have HD9 := Lib.hid hd9
      clear hb9 hw9 hsc hdf en et hn1 ht1 hrole hd9
      go_wp2_with ((with_reducible refine wpList_loadDr rfl (.tmp 4) ?_ ?_ HDF.out ?_); exact rfl; exact rfl; rw [HD9.out])
      refine ⟨rfl, _, results_cell_two9 rfl rfl hl9, fun L' R' h => ?_, fun h => ?_, HB9.out⟩
      · rw [HZ.out] at h
        injection h with h
        injection h with h1 h2
        subst h1
        subst h2
        exact ⟨_, rfl, V1.vn, V1.vt, by rw [HD9.out], HF.out.1, HF.out.2⟩
      · rw [HZ.out] at h; cases h
end Go.Proofs.YtkcnknhhabbomaaDoor

