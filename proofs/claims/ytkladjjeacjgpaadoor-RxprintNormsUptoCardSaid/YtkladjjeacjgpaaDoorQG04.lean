/-
  A TREE THAT CAME IN: what reads as data of api.Re is a tree in memory, and its nodes are no more than the datum's values. No condition.
-/
import Derived.ChangeArms
import Derived.ChangeSame
import Derived.DataReads
import Derived.Deep.Slices
import Derived.RangeFuncNested
import Derived.RangeFuncBound
import Derived.RangeFuncCalls
import Derived.RangeFuncLeaves
import Derived.Shelf.Abstract
import Derived.Shelf.RegionOpen
import Derived.WalkKit
import Derived.OwnWalkIn
import Derived.TacticsInMore
import Derived.LoopNIn
import Derived.LoopIn
import Derived.RangeFuncBox
import Derived.Maps.AppendAt
import Derived.Test.YtkladjjeacjgpaaDoorQRef4
import Derived.Test.YtkladjjeacjgpaaDoorQG02
namespace Go.Proofs.YtkladjjeacjgpaaDoor
open Go.ChangeShapes Go.WideShapes Go.ChangeAt Go.RowKit Go.Deep

instance : Inhabited Tree := ⟨.node 0 (fun _ => false) [] 0 0⟩

section
variable {H : Type} {enc : TypeId × Value → H} {W : World} {base : Nat} {spare : Nat → Bool} {held : Bool}

theorem cells_u64T : Tryd.prog.cellsOf 22 = 1 := by kernel_rfl
theorem wf_u64T {x : Int} (h : (Lit.int .u64 x).wf = true) : ∃ n : Nat, n < 18446744073709551616 ∧ x = (n : Int) := by
  have h2 : 0 ≤ x ∧ x < 18446744073709551616 := by
    simp [Lit.wf, IntKind.min, IntKind.max, IntKind.signed, IntKind.bits] at h
    omega
  exact ⟨x.toNat, by omega, by omega⟩
theorem set_cellsT {fuel : Nat} {c0 c1 c2 c3 : Value} {x : DataW H × List MemPlace} (hf : DataW.trod enc Tryd.prog W base spare held fuel 24 [c0, c1, c2, c3] = some x) :
    ∃ m, c0 = .int .u64 (wd m 0 : Nat) ∧ c1 = .int .u64 (wd m 1 : Nat) ∧ c2 = .int .u64 (wd m 2 : Nat) ∧ c3 = .int .u64 (wd m 3 : Nat) := by
  obtain ⟨y0, y1, y2, y3, k, _, hy0, hy1, hy2, hy3⟩ := trod_array4 Tryd.underlying24 cells_u64T hf
  obtain ⟨x0, e0, _, w0⟩ := DataW.trod_int Tryd.underlying22 hy0
  obtain ⟨x1, e1, _, w1⟩ := DataW.trod_int Tryd.underlying22 hy1
  obtain ⟨x2, e2, _, w2⟩ := DataW.trod_int Tryd.underlying22 hy2
  obtain ⟨x3, e3, _, w3⟩ := DataW.trod_int Tryd.underlying22 hy3
  simp at e0 e1 e2 e3
  subst e0 e1 e2 e3
  obtain ⟨n0, l0, rfl⟩ := wf_u64T w0
  obtain ⟨n1, l1, rfl⟩ := wf_u64T w1
  obtain ⟨n2, l2, rfl⟩ := wf_u64T w2
  obtain ⟨n3, l3, rfl⟩ := wf_u64T w3
  refine ⟨memOf n0 n1 n2 n3, ?_⟩
  exact ⟨by rw [← wd_memOf0 (a1 := n1) (a2 := n2) (a3 := n3) l0], by rw [← wd_memOf1 (a0 := n0) (a2 := n2) (a3 := n3) l1], by rw [← wd_memOf2 (a0 := n0) (a1 := n1) (a3 := n3) l2], by rw [← wd_memOf3 (a0 := n0) (a1 := n1) (a2 := n2) l3]⟩

theorem nodesL_le : ∀ (l : List Tree) (es : List (DataW H)), l.length = es.length → (∀ i (h : i < l.length) (h' : i < es.length), (l[i]).nodes ≤ Rows.uptoBulk es[i]) → nodesL l ≤ Rows.uptoBulkAll es
  | [], _, _, _ => by unfold nodesL; omega
  | t :: r, [], h, _ => by simp at h
  | t :: r, e :: es, h, hi => by
    unfold nodesL Rows.uptoBulkAll
    have h0 := hi 0 (by simp) (by simp)
    have h1 := nodesL_le r es (by simpa using h) (fun i a b => hi (i + 1) (by simpa using a) (by simpa using b))
    simp at h0
    omega

theorem eight_ofT {α : Type} (l : List α) (h : l.length = 8) : ∃ a b c d e f g i, l = [a, b, c, d, e, f, g, i] := by
  match l, h with
  | [a, b, c, d, e, f, g, i], _ => exact ⟨a, b, c, d, e, f, g, i, rfl⟩
theorem five_ofT {α : Type} (l : List α) (h : l.length = 5) : ∃ a b c d e, l = [a, b, c, d, e] := by
  match l, h with
  | [a, b, c, d, e], _ => exact ⟨a, b, c, d, e, rfl⟩
theorem cells_re : Tryd.prog.cellsOf 27 = 8 := by kernel_rfl
theorem cells_int : Tryd.prog.cellsOf 3 = 1 := by kernel_rfl
theorem cells_setT : Tryd.prog.cellsOf 24 = 4 := by kernel_rfl
theorem cells_sub : Tryd.prog.cellsOf 25 = 1 := by kernel_rfl

theorem trod_struct5 {P : Program} {t : TypeId} {f0 f1 f2 f3 f4 : Field} {fuel : Nat} {cs : List Value} {x : DataW H × List MemPlace} (ht : P.underlying t = some (.struct #[f0, f1, f2, f3, f4])) (h : DataW.trod enc P W base spare held fuel t cs = some x) :
    ∃ y0 y1 y2 y3 y4 n, fuel = n + 1 ∧ x.1 = .agg [y0.1, y1.1, y2.1, y3.1, y4.1] ∧ cs.length = P.cellsOf t ∧ DataW.trod enc P W base spare held n f0.type ((cs.drop f0.offset).take (P.cellsOf f0.type)) = some y0 ∧
      DataW.trod enc P W base spare held n f1.type ((cs.drop f1.offset).take (P.cellsOf f1.type)) = some y1 ∧ DataW.trod enc P W base spare held n f2.type ((cs.drop f2.offset).take (P.cellsOf f2.type)) = some y2 ∧
      DataW.trod enc P W base spare held n f3.type ((cs.drop f3.offset).take (P.cellsOf f3.type)) = some y3 ∧ DataW.trod enc P W base spare held n f4.type ((cs.drop f4.offset).take (P.cellsOf f4.type)) = some y4 := by
  obtain ⟨xs, n, hn, rfl, hl, hlen, hf⟩ := DataW.trod_struct ht h
  match xs, hlen with
  | [y0, y1, y2, y3, y4], _ => exact ⟨y0, y1, y2, y3, y4, n, hn, by simp, hl, by simpa using hf 0 f0 rfl, by simpa using hf 1 f1 rfl, by simpa using hf 2 f2 rfl, by simpa using hf 3 f3 rfl, by simpa using hf 4 f4 rfl⟩

theorem trod_re : ∀ (fuel : Nat) (cs : List Value) (x : DataW H × List MemPlace), DataW.trod enc Tryd.prog W base spare held fuel 27 cs = some x →
    ∃ T : Tree, T.At W (.agg cs.toArray) ∧ cs.length = 8 ∧ T.nodes ≤ Rows.uptoBulk x.1 := by
  intro fuel
  induction fuel using Nat.strongRecOn with
  | _ fuel ih =>
    intro cs x h
    obtain ⟨y0, y1, y2, y3, y4, n, rfl, hx1, hlen, f0, f1, f2, f3, f4⟩ := trod_struct5 Tryd.underlying27 h
    rw [cells_re] at hlen
    obtain ⟨c0, c1, c2, c3, c4, c5, c6, c7, rfl⟩ := eight_ofT cs hlen
    simp only [cells_int, cells_setT, cells_sub, List.drop_zero, List.drop_succ_cons, List.take_succ_cons, List.take_zero] at f0 f1 f2 f3 f4
    rw [hx1]
    obtain ⟨k, e0, _, _⟩ := DataW.trod_int Tryd.underlying3 f0
    obtain ⟨lo, e3, _, _⟩ := DataW.trod_int Tryd.underlying3 f3
    obtain ⟨hi, e4, _, _⟩ := DataW.trod_int Tryd.underlying3 f4
    obtain ⟨m, rfl, rfl, rfl, rfl⟩ := set_cellsT f1
    simp at e0 e3 e4
    subst e0 e3 e4
    rcases DataW.trod_slice Tryd.underlying25 f2 with ⟨e5, hx⟩ | ⟨a, len, cap, elems, rest, n', hn', e5, hx, _, hl, hm, hel, hcell, _, _⟩
    · simp at e5
      subst e5
      refine ⟨.node k m [] lo hi, ?_, rfl, ?_⟩
      · unfold Tree.At
        exact ⟨none, 0, rfl, ⟨Nat.le_refl _, by omega⟩, fun h => absurd rfl h⟩
      · simp [Tree.nodes, nodesL, Rows.uptoBulk]
    · simp at e5
      subst e5
      have hone : ∀ i, i < len → ∃ (T : Tree) (cs' : List Value), T.At W (.agg cs'.toArray) ∧ cs'.length = 8 ∧ W.cells? base (a.add (i * 8)) 8 = some cs' ∧ ∃ e, elems[i]? = some e ∧ T.nodes ≤ Rows.uptoBulk e.1 := fun i hi => by
        have h1 := hcell i hi
        rw [cells_re, List.getElem?_eq_getElem (by omega), Option.bind_eq_some_iff] at h1
        obtain ⟨cs', h2, h3⟩ := h1
        obtain ⟨T, g1, g2, g3⟩ := ih n' (by omega) cs' _ h3
        exact ⟨T, cs', g1, g2, h2, _, List.getElem?_eq_getElem (by omega), g3⟩
      have hone2 : ∀ i, i < len → ∃ q : Tree × List Value, q.1.At W (.agg q.2.toArray) ∧ q.2.length = 8 ∧ W.cells? base (a.add (i * 8)) 8 = some q.2 ∧ ∃ e, elems[i]? = some e ∧ q.1.nodes ≤ Rows.uptoBulk e.1 := fun i hi => by
        obtain ⟨T, cs', h⟩ := hone i hi
        exact ⟨(T, cs'), h⟩
      obtain ⟨F, hF⟩ := choose_lt hone2
      have hll : ((List.range len).map fun i => (F i).1).length = len := by simp
      have hcellx : ∀ i, i < len → ∀ j v, (F i).2[j]? = some v → W.cell? ((a.add (i * 8)).add j) = some v := fun i hi j v hv => by
        have h8 := (hF i hi).2.1
        have hj : j < 8 := by have := (List.getElem?_eq_some_iff.1 hv).1; omega
        rw [← hv]
        exact (World.cells?_some (hF i hi).2.2.1).2.2 j hj
      refine ⟨.node k m ((List.range len).map fun i => (F i).1) lo hi, ?_, rfl, ?_⟩
      · unfold Tree.At
        refine ⟨some a, cap, by rw [hll]; rfl, ⟨by rw [hll]; exact hl, by unfold maxLen at hm; omega⟩, fun hne => ?_⟩
        have hpos : 0 < len := by
          rcases Nat.eq_zero_or_pos len with h | h
          · subst h; simp at hne
          · exact h
        obtain ⟨ab, ao, spot⟩ := a
        have hspot : spot = none := by
          obtain ⟨v, r, hv⟩ : ∃ v r, (F 0).2 = v :: r := List.exists_cons_of_ne_nil (by intro e; have := (hF 0 hpos).2.1; rw [e] at this; simp at this)
          have h0 := hcellx 0 hpos 0 v (by rw [hv]; rfl)
          simpa [Addr.add] using World.cell?_spot h0
        subst hspot
        refine ⟨ab, ao, rfl, AllAt.mk _ ab ao fun i hi => ?_⟩
        have hi' : i < len := by simpa using hi
        refine ⟨(F i).2, ?_, (hF i hi').2.1, fun j v hv => ?_⟩
        · simpa using (hF i hi').1
        · have := hcellx i hi' j v hv
          rw [Addr.add_lit, Addr.add_lit] at this
          exact this
      · have hnl := nodesL_le ((List.range len).map fun i => (F i).1) (elems.map (·.1)) (by simp; omega) (fun i h h' => by
          have hi' : i < len := by simpa using h
          obtain ⟨e, he, hle⟩ := (hF i hi').2.2.2
          have he2 : elems[i]'(by simpa using h') = e := by
            have := List.getElem?_eq_getElem (l := elems) (i := i) (by simpa using h')
            rw [he] at this
            exact (Option.some.inj this).symm
          simp [he2]; exact hle)
        subst hx
        simp only [Tree.nodes, Rows.uptoBulk, Rows.uptoBulkAll]
        omega

set_option maxRecDepth 100000 in
/-- a tree -/
theorem arg_re {r : Reach} {b0 : Nat} {v : Value} {d : DataW H} {ps : List MemPlace} (hval : Value.okWide Tryd.prog W r b0 27 v) (hd : DataW.Trod enc Tryd.prog W base spare held 27 v d ps) : ∃ T : Tree, T.At W v ∧ T.nodes ≤ Rows.uptoBulk d := by
  obtain ⟨cs, rfl, _, _⟩ : ∃ cs, v = .agg cs ∧ cs.size = Tryd.prog.cellsOf 27 ∧ Row.okWide Tryd.prog W r b0 27 cs := by
    simpa [Value.okWide, Tryd.underlying27] using hval
  obtain ⟨fuel, hf⟩ := hd
  obtain ⟨T, h1, _, h3⟩ := trod_re fuel _ _ hf
  exact ⟨T, by simpa [Value.cells] using h1, h3⟩
end

end Go.Proofs.YtkladjjeacjgpaaDoor

/-
  WHAT THE WALKER OF PACKAGE rx TELLS: each node of a tree, ahead of its Subs, from the left: the iterator's contract, for every loop body that keeps the iterator's rows. Condition: the tree is at most 2^40 deep.
-/
namespace Go.Proofs.YtkladjjeacjgpaaDoor
open Go.RowKit

/-- the least number of which something is so -/
theorem least_is {p : Nat → Prop} (h : ∃ n, p n) : ∃ n, p n ∧ ∀ k, p k → n ≤ k := by
  obtain ⟨n, hn⟩ := h
  induction n using Nat.strongRecOn with
  | _ n ih =>
    by_cases hk : ∃ k, p k ∧ k < n
    · obtain ⟨k, h1, h2⟩ := hk
      exact ih k h2 h1
    · refine ⟨n, hn, fun k h1 => ?_⟩
      rcases Nat.lt_or_ge k n with h2 | h2
      · exact absurd ⟨k, h1, h2⟩ hk
      · exact h2
open Classical in
noncomputable def least (p : Nat → Prop) : Nat := if h : ∃ n, p n then (least_is h).choose else 0
theorem least_spec {p : Nat → Prop} (h : ∃ n, p n) : p (least p) := by
  unfold least
  rw [dif_pos h]
  exact (least_is h).choose_spec.1
theorem least_le {p : Nat → Prop} {n : Nat} (h : p n) : least p ≤ n := by
  unfold least
  rw [dif_pos ⟨n, h⟩]
  exact (least_is ⟨n, h⟩).choose_spec.2 n h

/-- trees that are still ahead, and where they lie -/
abbrev Row := List Tree × Nat × Nat
def RowV (r : Row) (v : Value) : Prop := ∃ A c, v = .slice A r.1.length c ∧ r.1.length ≤ c ∧ c ≤ 9223372036854775807 ∧ (r.1 ≠ [] → A = some ⟨r.2.1, r.2.2, none⟩)
def RowsV : List Row → List Value → Prop
  | [], [] => True
  | r :: st, v :: vs => RowV r v ∧ RowsV st vs
  | _, _ => False
theorem RowsV.len : ∀ {st : List Row} {vs : List Value}, RowsV st vs → vs.length = st.length
  | [], [], _ => rfl
  | _ :: _, _ :: _, h => by simp [RowsV.len h.2]
  | [], _ :: _, h => h.elim
  | _ :: _, [], h => h.elim

mutual
def Tree.deepN : Tree → Nat
  | .node _ _ l _ _ => deepL l + 1
def deepL : List Tree → Nat
  | [] => 0
  | t :: r => max t.deepN (deepL r)
end
/-- no row's trees reach deeper than D -/
def fitS (D : Nat) : List Row → Prop
  | [] => True
  | r :: st => st.length ≤ D ∧ st.length + deepL r.1 ≤ D ∧ fitS D st
def leftS : List Row → Nat
  | [] => 0
  | r :: st => nodesL r.1 + nodesL r.1 + 1 + leftS st
theorem left_push (t : Tree) (l : List Tree) (b o b' o' o2 : Nat) (st : List Row) : leftS ((t.sub, b', o') :: (l, b, o2) :: st) < leftS ((t :: l, b, o) :: st) := by
  cases t with
  | node k m s lo hi =>
    simp only [leftS, nodesL, Tree.nodes, Tree.sub]
    omega
theorem fit_push {D : Nat} {t : Tree} {l : List Tree} {b o b' o' o2 : Nat} {st : List Row} (h : fitS D ((t :: l, b, o) :: st)) : fitS D ((t.sub, b', o') :: (l, b, o2) :: st) := by
  cases t with
  | node k m s lo hi =>
    simp only [fitS, deepL, Tree.deepN, Tree.sub, List.length_cons] at h ⊢
    obtain ⟨h1, h2, h3⟩ := h
    exact ⟨by omega, by omega, by omega, by omega, h3⟩

/-- THE ITERATOR's OWN STEP: new blocks, and blocks of its rows, from B on -/
structure Mine (B : Nat) (W W' : World) : Prop where
  os : W'.os = W.os
  tape : W'.tape = W.tape
  output : W'.output = W.output
  size : W.heap.size ≤ W'.heap.size
  same : ∀ (k : Nat) (o : Obj), W.heap[k]? = some o → (k < B ∨ ∀ cs f, o ≠ .cells cs 25 f) → W'.heap[k]? = some o
theorem Mine.others {B : Nat} {W W' : World} (h : Mine B W W') : KeepsOthers W W' := ⟨h.size, fun k o hk ho => h.same k o hk (.inr fun cs f e => by subst e; cases ho)⟩
theorem Mine.of_grown {B : Nat} {W W' : World} {row : Option Nat} (hg : W.grownBy W' row) (hr : ∀ r, row = some r → B ≤ r ∧ ∃ cs f, W.heap[r]? = some (.cells cs 25 f)) : Mine B W W' :=
  ⟨hg.os, hg.tape, hg.output, hg.size, fun k o hk ho => (hg.block k (Array.getElem?_eq_some_iff.1 hk).1 (fun e => by
    obtain ⟨h1, cs, f, h2⟩ := hr k e.symm
    rw [hk] at h2
    cases h2
    rcases ho with h | h
    · omega
    · exact h cs f rfl)).trans hk⟩
theorem Mine.trans {B : Nat} {W W' W'' : World} (h : Mine B W W') (k : Mine B W' W'') : Mine B W W'' :=
  ⟨k.os.trans h.os, k.tape.trans h.tape, k.output.trans h.output, Nat.le_trans h.size k.size, fun i o hi ho => k.same i o (h.same i o hi ho) ho⟩
theorem Mine.alloc (B : Nat) (W : World) (o : Obj) : Mine B W (W.alloc o) := .of_grown (World.grownBy_alloc W o none) (by simp)
theorem own_row {W : World} {B : Nat} {v : Value} {n : Nat} {xs : List Value} (h : W.ownsRow B 25 1 v n xs) : ∀ r, v.ownBlock = some r → B ≤ r ∧ ∃ cs f, W.heap[r]? = some (.cells cs 25 f) := fun r e => by
  rcases h.2 with ⟨rfl, _⟩ | ⟨g, cap, cur, rfl, hb, hg, _⟩
  · simp [Value.ownBlock] at e
  · obtain rfl : g = r := by simpa [Value.ownBlock] using e
    exact ⟨hb, _, _, hg⟩

/-- what a body keeps: the rows of the iterator -/
def KeepsRows (W W' : World) : Prop := W.heap.size ≤ W'.heap.size ∧ ∀ (k : Nat) (cs : Array Value), W.heap[k]? = some (.cells cs 25 (0, 0)) → W'.heap[k]? = some (.cells cs 25 (0, 0))
theorem KeepsRows.trans {A B C : World} (h : KeepsRows A B) (k : KeepsRows B C) : KeepsRows A C := ⟨Nat.le_trans h.1 k.1, fun i cs hi => k.2 i cs (h.2 i cs hi)⟩
theorem KeepsRows.put (W : World) (l : Nat) (o o' : Obj) (hl : W.heap[l]? = some o) (ho : o.isCells = false) : KeepsRows W (W.putObj l o') :=
  ⟨by simp, fun k cs hk => (World.putObj_heap_other (fun e => by subst e; rw [hk] at hl; cases hl; cases ho)).trans hk⟩
theorem KeepsRows.own {W W' : World} (h : KeepsRows W W') {B : Nat} {v : Value} {n : Nat} {xs : List Value} (hr : W.ownsRow B 25 1 v n xs) : W'.ownsRow B 25 1 v n xs := by
  rcases hr with ⟨h1, h2 | ⟨g, cap, cur, rfl, hb, hg, h3⟩⟩
  · exact ⟨h1, .inl h2⟩
  · exact ⟨h1, .inr ⟨g, cap, cur, rfl, hb, h.2 g cur hg, h3⟩⟩

theorem own_pop {W : World} {B g n c : Nat} {xs : List Value} {x : Value} (h : W.ownsRow B 25 1 (.slice (some ⟨g, 0, none⟩) (n + 1) c) (n + 1) (xs ++ [x])) : W.ownsRow B 25 1 (.slice (some ⟨g, 0, none⟩) n c) n xs := by
  obtain ⟨h1, h2⟩ := h
  have hx : xs.length = n := by simp at h1; omega
  refine ⟨by omega, ?_⟩
  rcases h2 with ⟨h, _⟩ | ⟨g', c', cur, hv, hb, hg, hn, hm, hc, ht⟩
  · simp at h
  · injection hv with e1 e2 e3
    injection e1 with e1
    injection e1 with e1
    subst e1 e3
    refine .inr ⟨g, c, cur, rfl, hb, hg, by omega, hm, hc, ?_⟩
    have := congrArg (List.take n) ht
    rw [List.take_take, Nat.mul_one, Nat.min_eq_left (by omega), ← hx, List.take_left] at this
    rw [Nat.mul_one, ← hx]
    exact this

/-- behind a round: the node's Subs lie where its field says -/
def Told (J : List Row → World → Prop) (t : Tree) (l : List Tree) (b o : Nat) (st : List Row) (W : World) : Prop :=
  ∃ A c b' o', W.cell? ⟨b, o + 5, none⟩ = some (.slice A t.sub.length c) ∧ t.sub.length ≤ c ∧ c ≤ 9223372036854775807 ∧ (t.sub ≠ [] → A = some ⟨b', o', none⟩) ∧ J ((t.sub, b', o') :: (l, b, o + 8) :: st) W

attribute [local go_sem] Oper.semAt_some

theorem info_rows : (Tryd.prog.info? 25).map (fun i => (i.zero, i.size, i.bytes)) = some (some (.slice none 0 0), 1, 24) := by kernel_rfl

/-- the rows that are ahead, in memory -/
def NInv (B D : Nat) (J : List Row → World → Prop) (G : World → Prop) (v : Value) (wr : World) (m : Nat) : Prop :=
  ∃ g cp st vs, v = .slice (some ⟨g, 0, none⟩) st.length cp ∧ leftS st = m ∧ RowsV st vs ∧ fitS D st ∧ wr.ownsRow B 25 1 v st.length vs.reverse ∧ J st wr ∧ G wr ∧ st.length ≤ cp ∧ cp ≤ maxLen ∧ B ≤ wr.heap.size

set_option maxRecDepth 100000 in
set_option maxHeartbeats 2000000 in
theorem nodes_in (n : Nat) (hn : 1 ≤ n) (l D : Nat) (hD : D ≤ 1099511627776) (J : List Row → World → Prop) (G X : World → Prop) (W : World)
    (hJ : ∀ st A B, J st A → Mine W.heap.size A B → J st B) (hG : ∀ A B, G A → KeepsOthers A B → G B) (hpop : ∀ b o st A, J (([], b, o) :: st) A → J st A)
    (hY : ∀ t s b o st A, J ((t :: s, b, o) :: st) A → G A → st.length ≤ 1099511627776 → YieldAt Fence.wide (n - 1) Tryd.prog l #[.pointer (some ⟨b, o, none⟩), .int .i64 ((st.length : Int) + 1)] A fun e B =>
      (e = .returned (.bool true) ∧ Told J t s b o st B ∧ KeepsRows A B ∧ G B) ∨ (e = .returned (.bool false) ∧ X B))
    (ts : List Tree) (b o : Nat) (v : Value) (hv : RowV (ts, b, o) v) (hd : deepL ts ≤ D) (h0 : J [(ts, b, o)] W) (g0 : G W) :
    CallsIn Fence.wide n Tryd.prog 34 #[v, .func (.yield l) #[] #[]] W fun e W' => (∃ v, e = .returned v) ∧ ((J [] W' ∧ G W') ∨ X W') := by
  obtain ⟨i0, hi, hz0, hz1, hz2⟩ := info_parts info_rows
  have HY := Lib.hid hY
  have HJ := Lib.hid hJ
  have HG := Lib.hid hG
  have HP := Lib.hid hpop
  have H0 := Lib.hid (And.intro h0 g0)
  have HI0 := Lib.hid hi
  obtain ⟨A, c, rfl, hc1, hc2, hA⟩ := hv
  have HV := Lib.hid (show RowV (ts, b, o) (.slice A ts.length c) from ⟨A, c, rfl, hc1, hc2, hA⟩)
  clear hY hJ hG hpop h0 g0 hA
  refine callsIn_of_wp Tryd.func34 rfl trivial ?_ rfl
  simp only [Tryd.ntmps34, List.size_toArray, List.length_cons, List.length_nil, Nat.reduceAdd, Nat.reduceSub, Array.replicate_succ, Array.replicate_zero, List.push_toArray, List.append_toArray, List.nil_append, List.cons_append]
  gi_wp2
  gi_loopw [4] (fun v wr => ∃ m, NInv W.heap.size D J G v wr m) (fun v wr => least (NInv W.heap.size D J G v wr))
  case atStart =>
    refine ⟨_, W.heap.size, 1, [(ts, b, o)], [.slice A ts.length c], rfl, rfl, ⟨HV.out, trivial⟩, ⟨Nat.zero_le _, by simpa using hd, trivial⟩, ?_, HJ.out _ _ _ H0.out.1 (Mine.alloc _ _ _), HG.out _ _ H0.out.2 (KeepsOthers.alloc _ _), Nat.le_refl _, by unfold maxLen; omega, by simp⟩
    exact World.ownsRow_lit W #[.slice A ts.length c] 1 (Nat.le_refl _) (by unfold maxLen; omega) rfl
  case round =>
    obtain ⟨g, cp, st, vs, rfl, hm, hrows, hfit, hown, hj, hg, hcp1, hcp2, hsz⟩ := least_spec hrel
    have HM := Lib.hid hm
    clear hm hrel
    cases st with
    | nil =>
      clear hrows hown
      gi_wp2
      go_end0
      exact ⟨⟨_, rfl⟩, .inl ⟨hj, hg⟩⟩
    | cons r st =>
      cases vs with
      | nil => exact hrows.elim
      | cons x vs =>
        obtain ⟨s, b, o⟩ := r
        obtain ⟨⟨A, c, rfl, hsc, hcm, hA⟩, hrs⟩ := hrows
        have hvl := hrs.len
        have hk40 : st.length ≤ 1099511627776 := Nat.le_trans hfit.1 hD
        simp only [List.length_cons, List.reverse_cons] at *
        have hcell := hown.cellAt st.length (by omega)
        rw [List.getElem?_append_right (by simp; omega), List.length_reverse, hvl, Nat.sub_self] at hcell
        simp only [List.getElem?_cons_zero] at hcell
        have hfr := hown.frozenAt st.length
        have d1 : decide (((st.length + 1 : Nat) : Int) > 0) = true := decide_eq_true (by omega)
        have w1 : IntKind.i64.wrap (((st.length + 1 : Nat) : Int) - 1) = ((st.length : Nat) : Int) := by rw [IntKind.wrap_i64]; omega
        have w2 : (((st.length : Nat) : Int)).toNat = st.length := by omega
        have hlt : st.length < st.length + 1 := by omega
        have hlt2 : st.length ≤ cp := by omega
        have HR := Lib.hid (And.intro hrs (And.intro hfit hown))
        have HK := Lib.hid (And.intro hj hg)
        have HA := Lib.hid hA
        clear hrs hfit hown hj hg hA
        generalize hk : st.length = k at *
        cases s with
        | nil =>
          simp only [List.length_nil] at *
          gi_wp2
          have hlt : leftS st < least (NInv W.heap.size D J G (.slice (some ⟨g, 0, none⟩) (k + 1) cp) wr) := by
            rw [← HM.out]; simp only [leftS]; omega
          have hinv : NInv W.heap.size D J G (.slice (some ⟨g, 0, none⟩) k cp) wr (leftS st) :=
            ⟨g, cp, st, vs, by rw [hk], rfl, HR.out.1, HR.out.2.1.2.2, by rw [hk]; exact own_pop HR.out.2.2, HP.out _ _ _ _ HK.out.1, HK.out.2, by omega, hcp2, hsz⟩
          exact ⟨⟨_, hinv⟩, Nat.lt_of_le_of_lt (least_le hinv) hlt⟩
        | cons t s =>
          obtain rfl := HA.out (by simp)
          have d2 : (((s.length + 1 : Nat) : Int) == 0) = false := by simp; omega
          have hmine : ∀ x, Mine W.heap.size wr (wr.setCell ⟨g, k, none⟩ x) := fun x => Mine.of_grown (HR.out.2.2.stored k x).2 (own_row HR.out.2.2)
          have hset : ∀ x, ((vs.reverse ++ [Value.slice (some ⟨b, o, none⟩) (s.length + 1) c]).set k x) = vs.reverse ++ [x] := fun x => by
            rw [List.set_append_right _ _ (by simp; omega)]
            simp [hvl]
          have step : ∀ x, RowV (s, b, o + 8) x → ∃ fn tmps assign body, (Instr.yield l #[.pointer (some ⟨b, o, none⟩), .int .i64 ((k : Int) + 1)]).run Tryd.prog (wr.setCell ⟨g, k, none⟩ x) = .ok (.round l fn tmps assign body) (wr.setCell ⟨g, k, none⟩ x) ∧
              RoundIn Fence.wide (n - 1) Tryd.prog l fn tmps assign body (wr.setCell ⟨g, k, none⟩ x) fun e B => (e = .returned (.bool true) ∧ Told J t s b o st B ∧ (∀ m, m = wr.setCell ⟨g, k, none⟩ x → KeepsRows m B) ∧ G B) ∨ (e = .returned (.bool false) ∧ X B) := fun x hx => by
            have := HY.out t s b o st _ (HJ.out _ _ _ HK.out.1 (hmine x)) (HG.out _ _ HK.out.2 (hmine x).others) (by omega)
            rw [hk] at this
            obtain ⟨fn, tmps, assign, body, h1, h2⟩ := this
            exact ⟨fn, tmps, assign, body, h1, h2.mono fun e B h => h.imp (fun h => ⟨h.1, h.2.1, fun m e => e ▸ h.2.2.1, h.2.2.2⟩) id⟩
          have hstep := Lib.hid step
          simp only [List.length_cons] at *
          clear step
          obtain ⟨x', hx', hrow⟩ : ∃ x', RowV (s, b, o + 8) x' ∧ ((c = 1 ∧ x' = .slice (some ⟨b, o, none⟩) s.length 0) ∨ (c ≠ 1 ∧ x' = .slice (some ⟨b, o + 8, none⟩) s.length (c - 1))) := by
            by_cases hcc : c = 1
            · exact ⟨_, ⟨_, _, rfl, (by show s.length ≤ 0; omega), by omega, fun h => absurd (List.eq_nil_of_length_eq_zero (l := s) (by omega)) h⟩, .inl ⟨hcc, rfl⟩⟩
            · exact ⟨_, ⟨_, _, rfl, (by show s.length ≤ c - 1; omega), by omega, fun _ => rfl⟩, .inr ⟨hcc, rfl⟩⟩
          obtain ⟨fn, tmps, assign, body, hy2, hR⟩ := hstep.out x' hx'
          have hown2 := (HR.out.2.2.stored k x').1
          rw [hset x'] at hown2
          have HX := Lib.hid (And.intro hx' hown2)
          have HRR := Lib.hid hR
          clear hx' hown2 hR hmine hset hstep
          rcases hrow with ⟨hcc, rfl⟩ | ⟨hcc, rfl⟩
          all_goals
            gi_wp2
            refine HRR.out.mono ?_
            rintro e W3 (⟨rfl, ⟨A', c', b', o', hsub, hs1, hs2, hs3, hj3⟩, hkeep, hg3⟩ | ⟨rfl, hx3⟩)
            · have hkp := hkeep _ rfl
              have hown3 := hkp.own HX.out.2
              have hsz3 : W.heap.size ≤ W3.heap.size := Nat.le_trans (by simpa using hsz) hkp.1
              have hmt := own_row (hown3.alloc (.cells #[.slice A' t.sub.length c'] 25))
              have H3 := Lib.hid (And.intro hj3 (And.intro hg3 (And.intro hs3 hown3)))
              have HMT := Lib.hid hmt
              clear hkeep hkp hj3 hg3 hs3 hmt hown3 hy2 hcell
              gi_wp2_with (gi_at_builtin; refine wpListIn_append_own _ rfl _ _ 67 rfl W.heap.size 25 i0 (.slice none 0 0) 1 24 Tryd.underlying67 hi hz0 hz1 hz2 rfl (by decide) _ _ _ rfl (H3.out.2.2.2.alloc _) ⟨W3.heap.size, 0, none⟩ 1 1 [.slice A' t.sub.length c'] rfl rfl (cell_one_new _ _ _) (by simp [Value.oneCell']) (by unfold maxLen; omega) (by omega) (by simp; omega) ?_; intro v' w4 hown' hgrow _; obtain ⟨g', cap', rfl⟩ := ownsRow_succ hown')
              have hm4 : Mine W.heap.size W3 w4 := (Mine.alloc _ _ _).trans (Mine.of_grown hgrow HMT.out)
              have hcp : k + 1 + 1 ≤ cap' ∧ cap' ≤ maxLen := by
                rcases hown'.2 with ⟨h, _⟩ | ⟨_, _, _, h, _, _, h4, h5, _⟩
                · cases h
                · injection h with _ _ e
                  subst e
                  exact ⟨h4, h5⟩
              have hlt4 : leftS ((t.sub, b', o') :: (s, b, o + 8) :: st) < least (NInv W.heap.size D J G (.slice (some ⟨g, 0, none⟩) (k + 1) cp) wr) := by
                rw [← HM.out]
                exact left_push t s b o b' o' (o + 8) st
              have hinv : NInv W.heap.size D J G (.slice (some ⟨g', 0, none⟩) (k + 1 + 1) cap') w4 (leftS ((t.sub, b', o') :: (s, b, o + 8) :: st)) := by
                refine ⟨g', cap', (t.sub, b', o') :: (s, b, o + 8) :: st, _ :: _ :: vs, by simp [hk], rfl, ⟨⟨A', c', rfl, hs1, hs2, H3.out.2.2.1⟩, HX.out.1, HR.out.1⟩, fit_push HR.out.2.1, ?_, HJ.out _ _ _ H3.out.1 hm4, HG.out _ _ H3.out.2.1 hm4.others, by simp [hk]; omega, hcp.2, Nat.le_trans hsz3 hm4.size⟩
                simp only [List.reverse_cons, List.length_cons, hk]
                exact hown'
              exact ⟨⟨_, hinv⟩, Nat.lt_of_le_of_lt (least_le hinv) hlt4⟩
            · gi_wp2
              refine bodyPost_ret (results_none rfl _ _ _) rfl ?_
              exact ⟨⟨_, rfl⟩, .inr hx3⟩

end Go.Proofs.YtkladjjeacjgpaaDoor

/-
  LOOPS OVER THE NODES OF A TREE: the law for a loop over package rx's walker, and for one that only reads: what lies ahead stays where it lies. Condition: the tree is at most 2^40 deep.
-/
namespace Go.Proofs.YtkladjjeacjgpaaDoor
open Go.RowKit

/-- new blocks; and none but blocks from B on that are no cells, or cells of the iterator's rows, have turned -/
structure Loose (B : Nat) (W W' : World) : Prop where
  os : W'.os = W.os
  tape : W'.tape = W.tape
  output : W'.output = W.output
  size : W.heap.size ≤ W'.heap.size
  low : ∀ k, k < B → k < W.heap.size → W'.heap[k]? = W.heap[k]?
  same : ∀ (k : Nat) (cs : Array Value) (e : TypeId) (f : Nat × Nat), W.heap[k]? = some (.cells cs e f) → e ≠ 25 → W'.heap[k]? = some (.cells cs e f)
theorem Mine.loose {B B' : Nat} {W W' : World} (h : Mine B W W') (hB : B' ≤ B) : Loose B' W W' :=
  ⟨h.os, h.tape, h.output, h.size, fun k hk hs => by
    obtain ⟨o, ho⟩ : ∃ o, W.heap[k]? = some o := ⟨_, Array.getElem?_eq_getElem hs⟩
    rw [ho]
    exact h.same k o ho (.inl (by omega)), fun k _ _ _ hk he => h.same k _ hk (.inr fun cs' f' e' => he (by cases e'; rfl))⟩
theorem loose_put {B : Nat} {W : World} {l : Nat} {o : Obj} (o' : Obj) (hB : B ≤ l) (hl : W.heap[l]? = some o) (ho : o.isCells = false) : Loose B W (W.putObj l o') :=
  ⟨rfl, rfl, rfl, by simp, fun k hk _ => World.putObj_heap_other (by omega), fun k _ _ _ hk _ => (World.putObj_heap_other (fun e' => by subst e'; rw [hk] at hl; cases hl; cases ho)).trans hk⟩
theorem loose_below {W W' : World} (h : Below W.heap.size W W') : Loose W.heap.size W W' :=
  ⟨h.os, h.tape, h.output, h.size, fun k hk _ => h.block k hk, fun k _ _ _ hk _ => (h.block k (Array.getElem?_eq_some_iff.1 hk).1).trans hk⟩
theorem Loose.below {n₀ B : Nat} {w W W' : World} (h : Below n₀ w W) (hl : Loose B W W') (hn : n₀ ≤ B) (hs : n₀ ≤ W.heap.size) : Below n₀ w W' :=
  h.trans ⟨hl.os, hl.tape, hl.output, hl.size, fun k hk => hl.low k (by omega) (by omega)⟩
theorem Loose.blk {B : Nat} {W W' : World} (hl : Loose B W W') {g : Nat} {t : TypeId} {cs : Array Value} (h : BlkIs W g t cs) (ht : t ≠ 25) : BlkIs W' g t cs := hl.same g cs t (0, 0) h ht

/-- how a round over a node may be left -/
def nodeEnds (J : List Row → World → Prop) (Ix : Code → World → Prop) (t : Tree) (s : List Tree) (b o : Nat) (st : List Row) (W : World) : Exit → Act → World → Prop
  | .normal, _, W' => KeepsOthers W W' ∧ KeepsRows W W' ∧ Told J t s b o st W'
  | .ret, _, W' => KeepsOthers W W' ∧ Ix .ret W'
  | _, _, _ => False

abbrev NodeSt := Tree × List Tree × Nat × Nat × List Row

theorem range_nodes {g : Operand} {p1 p2 : Tmp} {assign body : Code} {Q : Exit → Act → World → Prop} {a : Act} {w : World} (n : Nat) (hn : 2 ≤ n) (D : Nat) (hD : D ≤ 1099511627776)
    (v : Value) (hg : a.eval g = .func (.func 34) #[v] #[]) (J : List Row → World → Prop) (Ix : Code → World → Prop)
    (hJ : ∀ st A A', J st A → Loose w.heap.size A A' → J st A') (hIx : ∀ c A A', Ix c A → Loose w.heap.size A A' → Ix c A') (hpop : ∀ b o st A, J (([], b, o) :: st) A → J st A)
    (ts : List Tree) (b o : Nat) (hv : RowV (ts, b, o) v) (hd : deepL ts ≤ D) (h0 : J [(ts, b, o)] w) (a₁ : Nat → Nat → Nat → Act)
    (hassign : ∀ (l b o d : Nat) (W : World) (K : Act → World → Prop), K (a₁ b o d) W →
      assign.wpIn (Fence.wide.inRound l) (n - 1 - 1) Tryd.prog (Exit.then K (fun _ _ _ => False)) { tmps := (a.tmps.setIfInBounds p1 (.pointer (some ⟨b, o, none⟩))).setIfInBounds p2 (.int .i64 ((d : Int) + 1)), defers := [] } W)
    (hbody : ∀ (l : Nat) (t : Tree) (s : List Tree) (b o : Nat) (st : List Row) (W : World), w.heap.size ≤ W.heap.size → st.length ≤ 1099511627776 → J ((t :: s, b, o) :: st) W →
      body.wpIn (Fence.wide.inRound l) (n - 1 - 1) Tryd.prog (nodeEnds J Ix t s b o st W) (a₁ b o st.length) W)
    (hdone : ∀ (d : Nat) (W : World), w.heap.size ≤ d → J [] W → W.heap[d]? = some (.deferred (some [])) → Q .normal { a with defers := { target := .collected d, args := #[] } :: a.defers } W)
    (hstop : ∀ (d : Nat) (W : World), w.heap.size ≤ d → Ix .ret W → W.heap[d]? = some (.deferred (some [])) → Code.ret.wpIn Fence.wide n Tryd.prog Q { a with defers := { target := .collected d, args := #[] } :: a.defers } W) :
    (Code.rangeFunc g #[p1, p2] assign body).wpIn Fence.wide n Tryd.prog Q a w := by
  refine range_own (σ := NodeSt) rfl (by omega) hg trivial (enters_of Tryd.func34 (by kernel_rfl) rfl)
    (fun s => #[.pointer (some ⟨s.2.2.1, s.2.2.2.1, none⟩), .int .i64 ((s.2.2.2.2.length : Int) + 1)]) (fun _ => rfl) KeepsRows KeepsRows.trans (fun W l o o' _ hl ho => KeepsRows.put W l o o' hl ho)
    (fun s W => J ((s.1 :: s.2.1, s.2.2.1, s.2.2.2.1) :: s.2.2.2.2) W ∧ s.2.2.2.2.length ≤ 1099511627776) (fun s W => Told J s.1 s.2.1 s.2.2.1 s.2.2.2.1 s.2.2.2.2 W) (fun c W => c = .ret ∧ Ix .ret W) (J [])
    ?_ ?_ ?_ ?_ ?_ (fun s => a₁ s.2.2.1 s.2.2.2.1 s.2.2.2.2.length) ?_ ?_ ?_ ?_
  · rintro s W l o o' ⟨h1, h2⟩ hB hl ho
    exact ⟨hJ _ _ _ h1 (loose_put o' hB hl ho), h2⟩
  · rintro s W l o o' ⟨A, c, b', o2, h1, h2, h3, h4, h5⟩ hB hl ho
    have hlo := loose_put (B := w.heap.size) o' hB hl ho
    refine ⟨A, c, b', o2, ?_, h2, h3, h4, hJ _ _ _ h5 hlo⟩
    rw [World.cell?_of_block (w := W)]
    · exact h1
    · refine World.putObj_heap_other (fun e => ?_)
      dsimp only at e
      rw [World.cell?] at h1
      dsimp only at h1
      rw [e, hl] at h1
      cases o <;> simp_all [Obj.isCells]
  · rintro c W l o o' ⟨h1, h2⟩ hB hl ho
    exact ⟨h1, hIx _ _ _ h2 (loose_put o' hB hl ho)⟩
  · rintro W l o o' h1 hB hl ho
    exact hJ _ _ _ h1 (loose_put o' hB hl ho)
  · intro l G X hG hY W hb hk hg
    exact nodes_in (n - 1) (by omega) l D hD J G X W (fun st A B h hm => hJ st A B h (hm.loose hb.size)) hG hpop
      (fun t s b o st A hj hg hl => (hY (t, s, b, o, st) A ⟨hj, hl⟩ hg).mono fun e B h => h) ts b o v hv hd (hJ _ _ _ h0 (loose_below hb)) hg
  · intro l s W K hK
    have hf : ((#[p1, p2] : Array Tmp).zip #[Value.pointer (some ⟨s.2.2.1, s.2.2.2.1, none⟩), Value.int .i64 ((s.2.2.2.2.length : Int) + 1)]).foldl (fun t (p, v) => t.setIfInBounds p v) a.tmps =
        (a.tmps.setIfInBounds p1 (.pointer (some ⟨s.2.2.1, s.2.2.2.1, none⟩))).setIfInBounds p2 (.int .i64 ((s.2.2.2.2.length : Int) + 1)) := by simp
    rw [hf]
    exact hassign l _ _ _ W K hK
  · rintro l ⟨t, s, b, o, st⟩ W hs ⟨hj, hl⟩
    refine wpIn_mono (hbody l t s b o st W hs hl hj) ?_
    intro e a' W' h
    cases e with
    | normal => exact ⟨h.1.from _, h.2.1, h.2.2⟩
    | ret => exact ⟨h.1.from _, rfl, h.2⟩
    | exit id => exact h.elim
    | goto t => exact h.elim
    | panic c => exact h.elim
    | outgrown => exact h.elim
  · exact hdone
  · rintro d c W hd' ⟨rfl, hx⟩ hk
    exact hstop d W hd' hx hk

/-! ### loops that only read -/
/-- the rows lie as the trees lay in w0 -/
def RowIn (w0 W : World) (r : Row) : Prop := r.1 ≠ [] → (r.2.1 < w0.heap.size ∨ ∃ cs : Array Value, W.heap[r.2.1]? = some (.cells cs 27 (0, 0))) ∧
  ∀ (i : Nat) (h : i < r.1.length), ∃ cs : List Value, Tree.At w0 r.1[i] (.agg cs.toArray) ∧ cs.length = 8 ∧ W.rangeAt r.2.1 (r.2.2 + i * 8) cs
def RowsIn (w0 : World) (st : List Row) (W : World) : Prop := Below w0.heap.size w0 W ∧ ∀ r ∈ st, RowIn w0 W r
/-- what a reader keeps -/
def KeepsTrees (w0 W W' : World) : Prop := Below w0.heap.size W W' ∧ ∀ (k : Nat) (cs : Array Value), W.heap[k]? = some (.cells cs 27 (0, 0)) → W'.heap[k]? = some (.cells cs 27 (0, 0))
theorem RowIn.keep {w0 W W' : World} {r : Row} (h : RowIn w0 W r) (hk : KeepsTrees w0 W W') : RowIn w0 W' r := fun hne => by
  obtain ⟨h1, h2⟩ := h hne
  have hsame : W'.heap[r.2.1]? = W.heap[r.2.1]? := by
    rcases h1 with h1 | ⟨cs, h1⟩
    · exact hk.1.block _ h1
    · rw [h1]; exact hk.2 _ _ h1
  refine ⟨h1.imp id fun ⟨cs, h1⟩ => ⟨cs, hsame.trans h1⟩, fun i hi => ?_⟩
  obtain ⟨cs, g1, g2, g3⟩ := h2 i hi
  exact ⟨cs, g1, g2, fun j v hv => (World.cell?_of_block (w := W) hsame).trans (g3 j v hv)⟩
theorem RowsIn.keep {w0 W W' : World} {st : List Row} (h : RowsIn w0 st W) (hk : KeepsTrees w0 W W') : RowsIn w0 st W' :=
  ⟨h.1.trans hk.1, fun r hr => (h.2 r hr).keep hk⟩
theorem Loose.trees {w0 : World} {B : Nat} {W W' : World} (h : Loose B W W') (hB : w0.heap.size ≤ B) (hW : w0.heap.size ≤ W.heap.size) : KeepsTrees w0 W W' :=
  ⟨⟨h.os, h.tape, h.output, h.size, fun k hk => h.low k (by omega) (by omega)⟩, fun k cs hk => h.same k cs _ _ hk (by decide)⟩
theorem RowsIn.loose {w0 : World} {B : Nat} {st : List Row} {W W' : World} (h : RowsIn w0 st W) (hl : Loose B W W') (hB : w0.heap.size ≤ B) : RowsIn w0 st W' := h.keep (hl.trees hB h.1.size)
theorem RowsIn.pop {w0 W : World} {r : Row} {st : List Row} (h : RowsIn w0 (r :: st) W) : RowsIn w0 st W := ⟨h.1, fun q hq => h.2 q (by simp [hq])⟩

/-- the node that is told, and its Subs -/
theorem RowsIn.head {w0 W : World} {t : Tree} {s : List Tree} {b o : Nat} {st : List Row} (h : RowsIn w0 ((t :: s, b, o) :: st) W) :
    ∃ A c, Tree.At w0 t (reV t.kind t.set A t.sub.length c t.lo t.hi) ∧ t.sub.length ≤ c ∧ c ≤ 9223372036854775807 ∧ W.rangeAt b o (reL t.kind t.set A t.sub.length c t.lo t.hi) ∧
      ∃ b' o', (t.sub ≠ [] → A = some ⟨b', o', none⟩) ∧ RowsIn w0 ((t.sub, b', o') :: (s, b, o + 8) :: st) W := by
  obtain ⟨h1, h2⟩ := h.2 (t :: s, b, o) (by simp) (by simp)
  obtain ⟨cs, g1, g2, g3⟩ := h2 0 (by simp)
  simp only [List.getElem_cons_zero, Nat.zero_mul, Nat.add_zero] at g1 g3
  have hs : RowIn w0 W (s, b, o + 8) := fun hne => by
    refine ⟨h1, fun i hi => ?_⟩
    obtain ⟨cs, k1, k2, k3⟩ := h2 (i + 1) (by simpa using hi)
    exact ⟨cs, by simpa using k1, k2, by rw [show o + 8 + i * 8 = o + (i + 1) * 8 by omega]; exact k3⟩
  cases t with
  | node k m l lo hi =>
    obtain ⟨A, c, he, ⟨hc1, hc2⟩, hA⟩ := g1.open
    have hcs : cs = reL k m A l.length c lo hi := by
      unfold reV at he
      injection he with he
      exact congrArg Array.toList he
    subst hcs
    refine ⟨A, c, g1, hc1, hc2, g3, ?_⟩
    by_cases hl : l = []
    · subst hl
      refine ⟨0, 0, fun h => absurd rfl h, h.1, fun r hr => ?_⟩
      simp only [List.mem_cons] at hr
      rcases hr with rfl | rfl | hr
      · exact fun hne => absurd rfl hne
      · exact hs
      · exact h.2 r (by simp [hr])
    · obtain ⟨b', o', rfl, hb', hg⟩ := hA hl
      refine ⟨b', o', fun _ => rfl, h.1, fun r hr => ?_⟩
      simp only [List.mem_cons] at hr
      rcases hr with rfl | rfl | hr
      · refine fun _ => ⟨.inl hb', fun i hi => ?_⟩
        obtain ⟨cs, k1, k2, k3⟩ := hg i hi
        exact ⟨cs, k1, k2, rangeAt_step k3 (by intro e; subst e; simp at k2) h.1⟩
      · exact hs
      · exact h.2 r (by simp [hr])

/-- a body that only reads the trees tells what the iterator asks -/
theorem RowsIn.told {w0 W W' : World} {t : Tree} {s : List Tree} {b o : Nat} {st : List Row} {J : List Row → World → Prop} (h : RowsIn w0 ((t :: s, b, o) :: st) W) (hk : KeepsTrees w0 W W')
    (hj : ∀ b' o', RowsIn w0 ((t.sub, b', o') :: (s, b, o + 8) :: st) W' → J ((t.sub, b', o') :: (s, b, o + 8) :: st) W') : Told J t s b o st W' := by
  obtain ⟨A, c, h1, h2, h3, h4, b', o', h5, h6⟩ := h.head
  have hsame : W'.heap[b]? = W.heap[b]? := by
    rcases (h.2 (t :: s, b, o) (by simp) (by simp)).1 with g | ⟨cs, g⟩
    · exact hk.1.block _ g
    · exact (hk.2 _ _ g).trans g.symm
  refine ⟨A, c, b', o', ?_, h2, h3, h5, hj b' o' (h6.keep hk)⟩
  rw [World.cell?_of_block (w := W) hsame]
  exact h4 5 _ rfl

/-- a tree in one new cell -/
theorem RowsIn.start {w0 W : World} {T : Tree} {cs : List Value} {g : Nat} (hT : Tree.At w0 T (.agg cs.toArray)) (h8 : cs.length = 8) (hb : Below w0.heap.size w0 W) (hg : W.heap[g]? = some (.cells cs.toArray 27 (0, 0))) : RowsIn w0 [([T], g, 0)] W := by
  refine ⟨hb, fun r hr => ?_⟩
  simp only [List.mem_singleton] at hr
  subst hr
  refine fun _ => ⟨.inr ⟨_, hg⟩, fun i hi => ?_⟩
  obtain rfl : i = 0 := by simpa using hi
  refine ⟨cs, hT, h8, fun j v hv => ?_⟩
  have : BlkIs W g 27 cs.toArray := hg
  have := this.cell j
  simpa [hv] using this

end Go.Proofs.YtkladjjeacjgpaaDoor

/-
  WHAT hackleref04's May and Same ANSWER, at every tree: contracts. No condition.
-/
namespace Go.Proofs.YtkladjjeacjgpaaDoor
open Go.RowKit

def Tree.may (T : Tree) : Bool := decide (wrap64 (T.nodes : Int) ≤ 300) && (decide (T.deepW ≤ 30) && T.ok)

theorem wrap_is (x : Int) : IntKind.i64.wrap x = wrap64 x := by unfold wrap64; exact IntKind.wrap_i64 x

set_option maxHeartbeats 1000000 in
theorem refMayRe_any (T : Tree) (v : Value) (w : World) (hat : T.At w v) : Calls Tryd.prog 9 #[v] w fun e w' => e = .returned (.bool T.may) ∧ Below w.heap.size w w' := by
  have H1 := Lib.hid (fun W (h : T.At W v) => refNodes_any T v W h)
  have H2 := Lib.hid (fun W (h : T.At W v) => refDeep_any T v W h)
  have H3 := Lib.hid (fun W (h : T.At W v) => refNode_any T v W h)
  simp only [wrap_is] at H1
  unfold Tree.may
  cases T with
  | node k m l lo hi =>
  have HAT := Lib.hid hat
  obtain ⟨A, c, rfl, _, _⟩ := hat.open
  generalize wrap64 ((Tree.node k m l lo hi).nodes : Int) = n at *
  generalize (Tree.node k m l lo hi).deepW = d at *
  generalize (Tree.node k m l lo hi).ok = q at *
  clear hat
  unfold reV reL at *
  have HA1 : ∀ u, Below w.heap.size w u → Tree.At u (.node k m l lo hi) (.agg (reL k m A l.length c lo hi).toArray) := fun u hb => HAT.out.step hb
  unfold reL at HA1
  have HAA := Lib.hid HA1
  clear HA1 HAT
  by_cases h1 : n ≤ 300
  · have e1 : decide (n ≤ 300) = true := by simp [h1]
    by_cases h2 : d ≤ 30
    · have e2 : decide (d ≤ 30) = true := by simp [h2]
      rw [e1, e2, Bool.true_and, Bool.true_and]
      go_enter Tryd.func9, Tryd.ntmps9
      go_wp2_with fail
      have hB0 : Below w.heap.size w (w.alloc (.cells (reL k m A l.length c lo hi).toArray 27)) := (Below.refl _ _).alloc (Nat.le_refl _) _
      have hX0 := BlkIs.new w 27 (reL k m A l.length c lo hi).toArray
      unfold reL at hB0 hX0
      refine (H1.out _ (HAA.out _ hB0)).mono ?_
      rintro e w1 ⟨rfl, hb1⟩
      have HB1 := Lib.hid (hB0.trans (hb1.mono hB0.size))
      have HX1 := hX0.step hb1
      obtain ⟨c0, c1, c2, c3, c4, c5, c6, c7⟩ := HX1.eight
      have HXX := Lib.hid HX1
      clear hb1 hB0 hX0 HX1
      go_wp2_with fail
      refine (H2.out _ (HAA.out _ HB1.out)).mono ?_
      rintro e w2 ⟨rfl, hb2⟩
      have HB2 := Lib.hid (HB1.out.trans (hb2.mono HB1.out.size))
      have HX2 := HXX.out.step hb2
      clear c0 c1 c2 c3 c4 c5 c6 c7
      obtain ⟨c0, c1, c2, c3, c4, c5, c6, c7⟩ := HX2.eight
      clear hb2 HX2
      go_wp2_with fail
      refine (H3.out _ (HAA.out _ HB2.out)).mono ?_
      rintro e w3 ⟨rfl, hb3⟩
      have HB3 := Lib.hid (HB2.out.trans (hb3.mono HB2.out.size))
      clear hb3
      go_wp2
      go_ret
      exact ⟨rfl, HB3.out⟩
    · have e2 : decide (d ≤ 30) = false := by simp; omega
      rw [e1, e2, Bool.true_and, Bool.false_and]
      go_enter Tryd.func9, Tryd.ntmps9
      go_wp2_with fail
      have hB0 : Below w.heap.size w (w.alloc (.cells (reL k m A l.length c lo hi).toArray 27)) := (Below.refl _ _).alloc (Nat.le_refl _) _
      have hX0 := BlkIs.new w 27 (reL k m A l.length c lo hi).toArray
      unfold reL at hB0 hX0
      refine (H1.out _ (HAA.out _ hB0)).mono ?_
      rintro e w1 ⟨rfl, hb1⟩
      have HB1 := Lib.hid (hB0.trans (hb1.mono hB0.size))
      have HX1 := hX0.step hb1
      obtain ⟨c0, c1, c2, c3, c4, c5, c6, c7⟩ := HX1.eight
      clear hb1 hB0 hX0 HX1
      go_wp2_with fail
      refine (H2.out _ (HAA.out _ HB1.out)).mono ?_
      rintro e w2 ⟨rfl, hb2⟩
      have HB2 := Lib.hid (HB1.out.trans (hb2.mono HB1.out.size))
      clear hb2
      go_wp2
      go_ret
      exact ⟨rfl, HB2.out⟩
  · have e1 : decide (n ≤ 300) = false := by simp; omega
    rw [e1, Bool.false_and]
    go_enter Tryd.func9, Tryd.ntmps9
    go_wp2_with fail
    have hB0 : Below w.heap.size w (w.alloc (.cells (reL k m A l.length c lo hi).toArray 27)) := (Below.refl _ _).alloc (Nat.le_refl _) _
    unfold reL at hB0
    refine (H1.out _ (HAA.out _ hB0)).mono ?_
    rintro e w1 ⟨rfl, hb1⟩
    have HB1 := Lib.hid (hB0.trans (hb1.mono hB0.size))
    clear hb1 hB0
    go_wp2
    go_ret
    exact ⟨rfl, HB1.out⟩

mutual
def Tree.same : Tree → Tree → Bool
  | .node k m l lo hi, .node k' m' l' lo' hi' => (k == k' && (setEq m m' && (lo == lo' && (hi == hi' && l.length == l'.length)))) && sameL l l'
def sameL : List Tree → List Tree → Bool
  | [], _ => true
  | _ :: _, [] => true
  | t :: r, t' :: r' => t.same t' && sameL r r'
end
theorem sameL_iff : ∀ {l l' : List Tree}, sameL l l' = true ↔ ∀ i (h : i < l.length) (h' : i < l'.length), (l[i]).same l'[i] = true
  | [], _ => by simp [sameL]
  | _ :: _, [] => by simp [sameL]
  | t :: r, t' :: r' => by
    simp only [sameL, Bool.and_eq_true, sameL_iff (l := r) (l' := r')]
    constructor
    · rintro ⟨h1, h2⟩ i h h'
      cases i with
      | zero => exact h1
      | succ i => exact h2 i (by simpa using h) (by simpa using h')
    · intro h
      exact ⟨h 0 (by simp) (by simp), fun i h1 h2 => h (i + 1) (by simpa using h1) (by simpa using h2)⟩
theorem sameL_take {l l' : List Tree} {j : Nat} (h : j < l.length) (h' : j < l'.length) (ha : sameL (l.take j) (l'.take j) = true) (hx : (l[j]).same l'[j] = true) : sameL (l.take (j + 1)) (l'.take (j + 1)) = true := by
  rw [sameL_iff] at ha ⊢
  intro i h1 h2
  rw [List.length_take] at h1 h2
  rw [List.getElem_take, List.getElem_take]
  by_cases e : i = j
  · subst e; exact hx
  · have := ha i (by rw [List.length_take]; omega) (by rw [List.length_take]; omega)
    rw [List.getElem_take, List.getElem_take] at this
    exact this
theorem sameL_bad {l l' : List Tree} {j : Nat} (h : j < l.length) (h' : j < l'.length) (hx : (l[j]).same l'[j] = false) : sameL l l' = false := by
  rw [Bool.eq_false_iff]; intro ha
  rw [sameL_iff] at ha
  rw [ha j h h'] at hx; cases hx
def headEq (k : Int) (m : Nat → Bool) (n : Nat) (lo hi k' : Int) (m' : Nat → Bool) (n' : Nat) (lo' hi' : Int) : Bool := k == k' && (setEq m m' && (lo == lo' && (hi == hi' && n == n')))
theorem same_eq (k : Int) (m : Nat → Bool) (l : List Tree) (lo hi k' : Int) (m' : Nat → Bool) (l' : List Tree) (lo' hi' : Int) :
    Tree.same (.node k m l lo hi) (.node k' m' l' lo' hi') = (headEq k m l.length lo hi k' m' l'.length lo' hi' && sameL l l') := by
  unfold Tree.same headEq; rfl

set_option maxRecDepth 100000 in
set_option maxHeartbeats 4000000 in
theorem refSame_any : ∀ (T T' : Tree) (v v' : Value) (w : World), T.At w v → T'.At w v' → Calls Tryd.prog 10 #[v, v'] w fun e w' => e = .returned (.bool (T.same T')) ∧ Below w.heap.size w w' := by
  intro T
  induction T using Tree.ind with
  | h k m l lo hi ih =>
    intro T' v v' w hat hat'
    cases T' with
    | node k' m' l' lo' hi' =>
    obtain ⟨A, c, rfl, hc, hs⟩ := hat.open
    obtain ⟨A', c', rfl, hc', hs'⟩ := hat'.open
    have HS := Lib.hid hs
    have HS' := Lib.hid hs'
    have IH := Lib.hid ih
    clear hat hs ih hat' hs'
    obtain ⟨R, hR⟩ : ∃ R, Tree.same (.node k m l lo hi) (.node k' m' l' lo' hi') = R := ⟨_, rfl⟩
    rw [hR]
    rw [same_eq] at hR
    have hne := ne_set m m'
    unfold setV at hne
    have hB0 : Below w.heap.size w ((w.alloc (.cells (reL k m A l.length c lo hi).toArray 27)).alloc (.cells (reL k' m' A' l'.length c' lo' hi').toArray 27)) := ((Below.refl _ _).alloc (Nat.le_refl _) _).alloc (by simp) _
    have hX0 := (BlkIs.new w 27 (reL k m A l.length c lo hi).toArray).alloc (.cells (reL k' m' A' l'.length c' lo' hi').toArray 27)
    have hY0 := BlkIs.new (w.alloc (.cells (reL k m A l.length c lo hi).toArray 27)) 27 (reL k' m' A' l'.length c' lo' hi').toArray
    rw [World.size_alloc] at hY0
    have HB0 := Lib.hid (And.intro hB0 (And.intro hX0 hY0))
    clear hB0 hX0 hY0
    unfold reV reL at *
    by_cases hh : headEq k m l.length lo hi k' m' l'.length lo' hi' = true
    · rw [hh, Bool.true_and] at hR
      unfold headEq at hh
      simp only [Bool.and_eq_true, beq_iff_eq] at hh
      obtain ⟨rfl, hset, rfl, rfl, hlen⟩ := hh
      have HR := Lib.hid hR
      have HLen := Lib.hid hlen
      have b1 : ((l.length : Int) != (l'.length : Int)) = false := by simp; omega
      clear hR hlen
      go_enter Tryd.func10, Tryd.ntmps10
      go_wp2
      go_loopw [5] (fun i wr => ∃ j : Nat, i = .int .i64 j ∧ j ≤ l.length ∧ Hid (Below w.heap.size w wr ∧ BlkIs wr w.heap.size 27 (reL k m A l.length c lo hi).toArray ∧ BlkIs wr (w.heap.size + 1) 27 (reL k m' A' l'.length c' lo hi).toArray ∧ sameL (l.take j) (l'.take j) = true)) (fun i _ => l.length - (intOf i).toNat)
      case atStart => exact ⟨0, rfl, Nat.zero_le _, Lib.hid ⟨HB0.out.1, HB0.out.2.1, HB0.out.2.2, rfl⟩⟩
      case round =>
        obtain ⟨j, rfl, hj, HH⟩ := hrel
        obtain ⟨hb, hx, hy, hall⟩ := HH.out
        have HB := Lib.hid HH.out
        unfold reL at hx hy
        obtain ⟨_, _, _, _, _, x5, _, _⟩ := hx.eight
        obtain ⟨_, _, _, _, _, y5, _, _⟩ := hy.eight
        by_cases hp : j < l.length
        · have hdl : decide ((j : Int) < (l.length : Int)) = true := by simp; omega
          have hp' : j < l'.length := by have := HLen.out; omega
          obtain ⟨b, o, rfl, hbw, hg⟩ := HS.out (by intro e; subst e; simp at hp)
          obtain ⟨b', o', rfl, hbw', hg'⟩ := HS'.out (by intro e; subst e; simp at hp')
          obtain ⟨cs, hcat, _, hrow⟩ := hg j hp
          obtain ⟨cs', hcat', _, hrow'⟩ := hg' j hp'
          obtain ⟨A1, n1, c1, rfl⟩ := hcat.eight
          obtain ⟨A2, n2, c2, rfl⟩ := hcat'.eight
          have hk1 : IntKind.i64.wrap ((j : Int) + 1) = ((j + 1 : Nat) : Int) := by rw [IntKind.wrap_i64]; omega
          have hcall : ∀ u, Below w.heap.size w u → Calls Tryd.prog 10 #[.agg (reL (l[j]).kind (l[j]).set A1 n1 c1 (l[j]).lo (l[j]).hi).toArray, .agg (reL (l'[j]).kind (l'[j]).set A2 n2 c2 (l'[j]).lo (l'[j]).hi).toArray] u fun e w' => e = .returned (.bool ((l[j]).same l'[j])) ∧ Below u.heap.size u w' :=
            fun u hu => IH.out _ (List.getElem_mem hp) _ _ _ u (hcat.step hu) (hcat'.step hu)
          have hrows : ∀ u, Below w.heap.size w u → _ := fun u hu => And.intro (row_eight hrow hu) (row_eight hrow' hu)
          have hcells : ∀ u, BlkIs u w.heap.size 27 (reL k m (some ⟨b, o, none⟩) l.length c lo hi).toArray → BlkIs u (w.heap.size + 1) 27 (reL k m' (some ⟨b', o', none⟩) l'.length c' lo hi).toArray →
              u.cell? ⟨w.heap.size, 5, none⟩ = some (.slice (some ⟨b, o, none⟩) l.length c) ∧ u.cell? ⟨w.heap.size + 1, 5, none⟩ = some (.slice (some ⟨b', o', none⟩) l'.length c') := fun u h1 h2 => ⟨h1.cell 5, h2.cell 5⟩
          unfold reL at hcall
          have HC := Lib.hid hcall
          have HRW := Lib.hid hrows
          have HCE := Lib.hid hcells
          clear hrow hrow' hcat hcat' hg hg' hcall hrows hcells y5 hx hy hb
          go_wp2_with fail
          refine wp_region_reads 60 (fun u => Below w.heap.size w u ∧ BlkIs u w.heap.size 27 (reL k m (some ⟨b, o, none⟩) l.length c lo hi).toArray ∧ BlkIs u (w.heap.size + 1) 27 (reL k m' (some ⟨b', o', none⟩) l'.length c' lo hi).toArray)
            (by kernel_rfl) (by kernel_rfl) rfl ⟨HB.out.1.drew, HB.out.2.1, HB.out.2.2.1⟩ (fun u u' h hb => ⟨h.1.trans (hb.mono h.1.size), h.2.1.step hb, h.2.2.step hb⟩) ?_
          clear x5 hdl
          repeat
            refine freeW_step fun K hK => ?_
            go_simp
            apply Exists.intro
            refine ⟨fun v hv1 hv2 hv3 => ?_, hK _ ?_⟩
            have hcl := HC.out v hv1
            obtain ⟨⟨r0, r1, r2, r3, r4, r5, r6, r7⟩, ⟨q0, q1, q2, q3, q4, q5, q6, q7⟩⟩ := HRW.out v hv1
            obtain ⟨x5, y5⟩ := HCE.out v hv2 hv3
            unfold freeAt
            first
              | (go_simp; exact free_val)
              | (go_simp; exact free_call hcl)
            clear hK K
          refine freeW_nil ?_
          rintro u ⟨hu1, hu2, hu3⟩ hb
          have HU := Lib.hid (And.intro hu1 (And.intro hu2 hu3))
          have HSB := Lib.hid (sameL_bad hp hp')
          have HST := Lib.hid (sameL_take hp hp' hall)
          clear hu1 hu2 hu3 hb hall
          generalize (l[j]).same l'[j] = x at *
          cases x with
          | true =>
            go_wp2
            exact ⟨⟨j + 1, by go_num, hp, Lib.hid ⟨HU.out.1, HU.out.2.1, HU.out.2.2, HST.out (by first | trivial | rfl)⟩⟩, by simp [intOf]; omega⟩
          | false =>
            go_wp2
            go_ret
            rw [← HR.out, HSB.out (by first | trivial | rfl)]
            exact ⟨rfl, HU.out.1⟩
        · have hdl : decide ((j : Int) < (l.length : Int)) = false := by simp; omega
          obtain rfl : j = l.length := by omega
          rw [List.take_length, List.take_of_length_le (Nat.le_of_eq HLen.out.symm)] at hall
          have HA := Lib.hid hall
          clear hall
          go_wp2
          go_ret
          rw [← HR.out, HA.out]
          exact ⟨rfl, hb⟩
    · have hh2 : headEq k m l.length lo hi k' m' l'.length lo' hi' = false := by simpa using hh
      rw [hh2, Bool.false_and] at hR
      subst hR
      unfold headEq at hh2
      clear hh
      go_enter Tryd.func10, Tryd.ntmps10
      go_wp2
      all_goals first
        | (go_ret; exact ⟨rfl, ((Below.refl _ _).alloc (Nat.le_refl _) _).alloc (by simp) _⟩)
        | (exfalso; clear hne HB0 HS HS' IH hc hc'; simp_all; omega)

end Go.Proofs.YtkladjjeacjgpaaDoor

/-
  WHAT hackleref04's Void AND Sets ANSWER, at every tree that may be: contracts. Condition: each node of the tree may be.
-/
namespace Go.Proofs.YtkladjjeacjgpaaDoor
open Go.RowKit

theorem okNode_kind {k : Int} {m : Nat → Bool} {n : Nat} {lo hi : Int} (h : okNode k m n lo hi = true) :
    (k = 0 ∧ n = 0) ∨ (k = 1 ∧ n = 0) ∨ (k = 2 ∧ 2 ≤ n) ∨ (k = 3 ∧ 2 ≤ n) ∨ (k = 4 ∧ n = 1 ∧ 0 ≤ lo ∧ lo ≤ 64 ∧ (hi = -1 ∨ lo ≤ hi ∧ hi ≤ 64)) := by
  unfold okNode at h
  split at h
  · cases h
  · split at h
    · rename_i h2; have := of_decide_eq_true h; omega
    · split at h
      · rename_i h2; have := of_decide_eq_true h; omega
      · split at h
        · have := of_decide_eq_true h; omega
        · cases h
theorem ok_open {k : Int} {m : Nat → Bool} {l : List Tree} {lo hi : Int} (h : Tree.ok (.node k m l lo hi) = true) : (∀ t ∈ l, t.ok = true) ∧ okNode k m l.length lo hi = true := by
  unfold Tree.ok at h
  rw [Bool.and_eq_true, allOk_iff] at h
  exact h

mutual
def Tree.void : Tree → Bool
  | .node k m l lo _ => if k = 0 then false else if k = 1 then setEq m (fun _ => false) else if k = 2 then anyVoid l else if k = 3 then allVoid l else (decide (0 < lo) && headVoid l)
def anyVoid : List Tree → Bool
  | [] => false
  | t :: r => t.void || anyVoid r
def allVoid : List Tree → Bool
  | [] => true
  | t :: r => t.void && allVoid r
def headVoid : List Tree → Bool
  | [] => false
  | t :: _ => t.void
end
theorem anyVoid_iff : ∀ {l : List Tree}, anyVoid l = true ↔ ∃ t ∈ l, t.void = true
  | [] => by simp [anyVoid]
  | a :: l => by simp only [anyVoid, Bool.or_eq_true, List.mem_cons, exists_eq_or_imp, anyVoid_iff (l := l)]
theorem allVoid_iff : ∀ {l : List Tree}, allVoid l = true ↔ ∀ t ∈ l, t.void = true
  | [] => by simp [allVoid]
  | a :: l => by simp only [allVoid, Bool.and_eq_true, List.mem_cons, forall_eq_or_imp, allVoid_iff (l := l)]
theorem mem_take_succ {l : List Tree} {i : Nat} (h : i < l.length) {t : Tree} (ht : t ∈ l.take (i + 1)) : t ∈ l.take i ∨ t = l[i] := by
  rw [← List.take_append_getElem h, List.mem_append] at ht
  rcases ht with ht | ht
  · exact .inl ht
  · exact .inr (by simpa using ht)

set_option maxHeartbeats 4000000 in
theorem refVoid_any : ∀ (T : Tree) (v : Value) (w : World), T.ok = true → T.At w v → Calls Tryd.prog 15 #[v] w fun e w' => e = .returned (.bool T.void) ∧ Below w.heap.size w w' := by
  intro T
  induction T using Tree.ind with
  | h k m l lo hi ih =>
    intro v w hok hat
    obtain ⟨A, c, rfl, hc, hs⟩ := hat.open
    obtain ⟨hoks, hn⟩ := ok_open hok
    have hkind := okNode_kind hn
    have HS := Lib.hid hs
    have IH := Lib.hid (fun t ht v w => ih t ht v w (hoks t ht))
    have hbox := BlkIs.new w 27 (reL k m A l.length c lo hi).toArray
    have hB0 : Below w.heap.size w (w.alloc (.cells (reL k m A l.length c lo hi).toArray 27)) := (Below.refl _ _).alloc (Nat.le_refl _) _
    have HB0 := Lib.hid (And.intro hB0 hbox)
    clear hat hs ih hok hoks hn hbox hB0
    unfold reV reL at *
    unfold Tree.void
    rcases hkind with ⟨rfl, hl⟩ | ⟨rfl, hl⟩ | ⟨rfl, hl⟩ | ⟨rfl, hl⟩ | ⟨rfl, hl, hlo⟩
    · rw [if_pos rfl]
      go_enter Tryd.func15, Tryd.ntmps15
      go_wp2
      go_ret
      exact ⟨rfl, (Below.refl _ _).alloc (Nat.le_refl _) _⟩
    · rw [if_neg (by decide), if_pos rfl]
      have he := eql_set m (fun _ => false)
      rw [set0_build] at he
      unfold setV at he
      generalize setEq m (fun _ => false) = q at *
      go_enter Tryd.func15, Tryd.ntmps15
      go_wp2
      go_ret
      exact ⟨rfl, (Below.refl _ _).alloc (Nat.le_refl _) _⟩
    · rw [if_neg (by decide), if_neg (by decide), if_pos rfl]
      obtain ⟨R, hR⟩ : ∃ R, anyVoid l = R := ⟨_, rfl⟩
      rw [hR]
      have HR := Lib.hid hR
      clear hR
      go_enter Tryd.func15, Tryd.ntmps15
      go_wp2
      go_loopw [3] (fun i wr => ∃ j : Nat, i = .int .i64 j ∧ j ≤ l.length ∧ Hid (Below w.heap.size w wr ∧ BlkIs wr w.heap.size 27 (reL 2 m A l.length c lo hi).toArray ∧ ∀ t ∈ l.take j, t.void = false)) (fun i _ => l.length - (intOf i).toNat)
      case atStart => exact ⟨0, rfl, Nat.zero_le _, Lib.hid ⟨HB0.out.1, HB0.out.2, by simp⟩⟩
      case round =>
        obtain ⟨j, rfl, hj, HH⟩ := hrel
        obtain ⟨hb, hbl, hall⟩ := HH.out
        have HB := Lib.hid HH.out
        unfold reL at hbl
        obtain ⟨_, _, _, _, _, c5, _, _⟩ := hbl.eight
        by_cases hp : j < l.length
        · have hdl : decide ((j : Int) < (l.length : Int)) = true := by simp; omega
          obtain ⟨b, o, rfl, hbw, hg⟩ := HS.out (by intro e; subst e; simp at hp)
          obtain ⟨cs, hcat, hlen, hrow⟩ := hg j hp
          obtain ⟨A', n', c', rfl⟩ := hcat.eight
          obtain ⟨r0, r1, r2, r3, r4, r5, r6, r7⟩ := row_eight hrow hb
          have hcall := IH.out _ (List.getElem_mem hp) _ wr (hcat.step hb)
          have hk1 : IntKind.i64.wrap ((j : Int) + 1) = ((j + 1 : Nat) : Int) := by rw [IntKind.wrap_i64]; omega
          by_cases hx : (l[j]).void = true
          · rw [hx] at hcall
            have HC := Lib.hid hcall
            have HA := Lib.hid (show R = true by rw [← HR.out, anyVoid_iff]; exact ⟨_, List.getElem_mem hp, hx⟩)
            clear hrow hcat hcall hg hb hbl hall hx
            go_wp2_with fail
            refine HC.out.mono ?_
            rintro e w1 ⟨rfl, hb1⟩
            have HB1 := Lib.hid hb1
            clear hb1
            go_wp2
            go_ret
            rw [HA.out]
            exact ⟨rfl, HB.out.1.trans (HB1.out.mono HB.out.1.size)⟩
          · have hx2 : (l[j]).void = false := by simpa using hx
            rw [hx2] at hcall
            have HC := Lib.hid hcall
            have HA := Lib.hid (show ∀ t ∈ l.take (j + 1), t.void = false from fun t ht => (mem_take_succ hp ht).elim (hall t) (fun e => e ▸ hx2))
            clear hrow hcat hcall hg hb hbl hall hx hx2
            go_wp2_with fail
            refine HC.out.mono ?_
            rintro e w1 ⟨rfl, hb1⟩
            have HB1 := Lib.hid hb1
            clear hb1
            go_wp2
            exact ⟨⟨j + 1, by go_num, hp, Lib.hid ⟨HB.out.1.trans (HB1.out.mono HB.out.1.size), HB.out.2.1.step HB1.out, HA.out⟩⟩, by simp [intOf]; omega⟩
        · have hdl : decide ((j : Int) < (l.length : Int)) = false := by simp; omega
          obtain rfl : j = l.length := by omega
          rw [List.take_length] at hall
          have HA := Lib.hid (show R = false by
            rw [← HR.out, Bool.eq_false_iff]; intro h
            rw [anyVoid_iff] at h
            obtain ⟨t, ht, hv⟩ := h
            rw [hall t ht] at hv; cases hv)
          clear hall hbl
          go_wp2
          go_ret
          rw [HA.out]
          exact ⟨rfl, hb⟩
    · rw [if_neg (by decide), if_neg (by decide), if_neg (by decide), if_pos rfl]
      obtain ⟨R, hR⟩ : ∃ R, allVoid l = R := ⟨_, rfl⟩
      rw [hR]
      have HR := Lib.hid hR
      clear hR
      go_enter Tryd.func15, Tryd.ntmps15
      go_wp2
      go_loopw [4] (fun i wr => ∃ j : Nat, i = .int .i64 j ∧ j ≤ l.length ∧ Hid (Below w.heap.size w wr ∧ BlkIs wr w.heap.size 27 (reL 3 m A l.length c lo hi).toArray ∧ ∀ t ∈ l.take j, t.void = true)) (fun i _ => l.length - (intOf i).toNat)
      case atStart => exact ⟨0, rfl, Nat.zero_le _, Lib.hid ⟨HB0.out.1, HB0.out.2, by simp⟩⟩
      case round =>
        obtain ⟨j, rfl, hj, HH⟩ := hrel
        obtain ⟨hb, hbl, hall⟩ := HH.out
        have HB := Lib.hid HH.out
        unfold reL at hbl
        obtain ⟨_, _, _, _, _, c5, _, _⟩ := hbl.eight
        by_cases hp : j < l.length
        · have hdl : decide ((j : Int) < (l.length : Int)) = true := by simp; omega
          obtain ⟨b, o, rfl, hbw, hg⟩ := HS.out (by intro e; subst e; simp at hp)
          obtain ⟨cs, hcat, hlen, hrow⟩ := hg j hp
          obtain ⟨A', n', c', rfl⟩ := hcat.eight
          obtain ⟨r0, r1, r2, r3, r4, r5, r6, r7⟩ := row_eight hrow hb
          have hcall := IH.out _ (List.getElem_mem hp) _ wr (hcat.step hb)
          have hk1 : IntKind.i64.wrap ((j : Int) + 1) = ((j + 1 : Nat) : Int) := by rw [IntKind.wrap_i64]; omega
          by_cases hx : (l[j]).void = true
          · rw [hx] at hcall
            have HC := Lib.hid hcall
            have HA := Lib.hid (show ∀ t ∈ l.take (j + 1), t.void = true from fun t ht => (mem_take_succ hp ht).elim (hall t) (fun e => e ▸ hx))
            clear hrow hcat hcall hg hb hbl hall hx
            go_wp2_with fail
            refine HC.out.mono ?_
            rintro e w1 ⟨rfl, hb1⟩
            have HB1 := Lib.hid hb1
            clear hb1
            go_wp2
            exact ⟨⟨j + 1, by go_num, hp, Lib.hid ⟨HB.out.1.trans (HB1.out.mono HB.out.1.size), HB.out.2.1.step HB1.out, HA.out⟩⟩, by simp [intOf]; omega⟩
          · have hx2 : (l[j]).void = false := by simpa using hx
            rw [hx2] at hcall
            have HC := Lib.hid hcall
            have HA := Lib.hid (show R = false by
              rw [← HR.out, Bool.eq_false_iff]; intro h
              rw [allVoid_iff] at h
              rw [h _ (List.getElem_mem hp)] at hx2; cases hx2)
            clear hrow hcat hcall hg hb hbl hall hx hx2
            go_wp2_with fail
            refine HC.out.mono ?_
            rintro e w1 ⟨rfl, hb1⟩
            have HB1 := Lib.hid hb1
            clear hb1
            go_wp2
            go_ret
            rw [HA.out]
            exact ⟨rfl, HB.out.1.trans (HB1.out.mono HB.out.1.size)⟩
        · have hdl : decide ((j : Int) < (l.length : Int)) = false := by simp; omega
          obtain rfl : j = l.length := by omega
          rw [List.take_length] at hall
          have HA := Lib.hid (show R = true by rw [← HR.out, allVoid_iff]; exact hall)
          clear hall hbl
          go_wp2
          go_ret
          rw [HA.out]
          exact ⟨rfl, hb⟩
    · rw [if_neg (by decide), if_neg (by decide), if_neg (by decide), if_neg (by decide)]
      obtain ⟨t, rfl⟩ : ∃ t, l = [t] := by
        match l, hl with
        | [t], _ => exact ⟨t, rfl⟩
      obtain ⟨b, o, rfl, hbw, hg⟩ := HS.out (by simp)
      obtain ⟨cs, hcat, hlen, hrow⟩ := hg 0 (by simp)
      obtain ⟨A', n', c', rfl⟩ := hcat.eight
      rw [show o + 0 * 8 = o by omega] at hrow
      simp only [List.getElem_cons_zero] at hcat hrow
      obtain ⟨r0, r1, r2, r3, r4, r5, r6, r7⟩ := row_eight hrow (Below.refl _ _)
      have hcall := IH.out t (by simp) _ _ (hcat.step HB0.out.1)
      have hhv : headVoid [t] = t.void := by unfold headVoid; rfl
      rw [hhv]
      unfold reL at hcall
      generalize t.void = q at *
      have HC := Lib.hid hcall
      clear hcall hrow hcat hg hc hlen hl hhv
      by_cases h0 : 0 < lo
      · have hd : decide (lo > 0) = true := by simp; omega
        rw [show decide (0 < lo) = true by simp [h0], Bool.true_and]
        go_enter Tryd.func15, Tryd.ntmps15
        go_wp2_with fail
        refine HC.out.mono ?_
        rintro e w1 ⟨rfl, hb1⟩
        have HB1 := Lib.hid hb1
        clear hb1
        go_wp2
        go_ret
        exact ⟨rfl, HB0.out.1.trans (HB1.out.mono HB0.out.1.size)⟩
      · have hd : decide (lo > 0) = false := by simp; omega
        rw [show decide (0 < lo) = false by simp; omega, Bool.false_and]
        go_enter Tryd.func15, Tryd.ntmps15
        go_wp2
        go_ret
        exact ⟨rfl, (Below.refl _ _).alloc (Nat.le_refl _) _⟩

end Go.Proofs.YtkladjjeacjgpaaDoor

