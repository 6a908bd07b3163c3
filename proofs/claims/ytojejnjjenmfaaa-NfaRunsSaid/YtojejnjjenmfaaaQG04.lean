/-
  A TREE THAT CAME IN: what reads as data of api.Re is a tree in memory, and its nodes are no more than the datum's values. No condition.
-/
import Derived.ChangeArms
import Derived.ChangeSame
import Derived.DataReads
import Derived.Deep.Slices
import Derived.ChangeSlices
import Derived.ProofKit
import Derived.OpenShut
import Derived.Deep.DeepHandedRow
import Derived.Stop.Joined
import Derived.JoinedCond
import Derived.LaidMore
import Derived.ChangeMaps5
import Derived.Test.YtojejnjjenmfaaaQG03
namespace Go.Proofs.Ytojejnjjenmfaaa
open Go.ChangeShapes Go.WideShapes Go.ChangeAt Go.RowKit Go.Deep

instance : Inhabited Tree := ⟨.node 0 (fun _ => false) [] 0 0⟩

section
variable {H : Type} {enc : TypeId × Value → H} {W : World} {base : Nat} {spare : Nat → Bool} {held : Bool}

theorem cells_u64T : Try.prog.cellsOf 35 = 1 := by kernel_rfl
theorem wf_u64T {x : Int} (h : (Lit.int .u64 x).wf = true) : ∃ n : Nat, n < 18446744073709551616 ∧ x = (n : Int) := by
  have h2 : 0 ≤ x ∧ x < 18446744073709551616 := by
    simp [Lit.wf, IntKind.min, IntKind.max, IntKind.signed, IntKind.bits] at h
    omega
  exact ⟨x.toNat, by omega, by omega⟩
theorem set_cellsT {fuel : Nat} {c0 c1 c2 c3 : Value} {x : DataW H × List MemPlace} (hf : DataW.trod enc Try.prog W base spare held fuel 37 [c0, c1, c2, c3] = some x) :
    ∃ m, c0 = .int .u64 (wd m 0 : Nat) ∧ c1 = .int .u64 (wd m 1 : Nat) ∧ c2 = .int .u64 (wd m 2 : Nat) ∧ c3 = .int .u64 (wd m 3 : Nat) := by
  obtain ⟨y0, y1, y2, y3, k, _, hy0, hy1, hy2, hy3⟩ := trod_array4 Try.underlying37 cells_u64T hf
  obtain ⟨x0, e0, _, w0⟩ := DataW.trod_int Try.underlying35 hy0
  obtain ⟨x1, e1, _, w1⟩ := DataW.trod_int Try.underlying35 hy1
  obtain ⟨x2, e2, _, w2⟩ := DataW.trod_int Try.underlying35 hy2
  obtain ⟨x3, e3, _, w3⟩ := DataW.trod_int Try.underlying35 hy3
  simp at e0 e1 e2 e3
  subst e0 e1 e2 e3
  obtain ⟨n0, l0, rfl⟩ := wf_u64T w0
  obtain ⟨n1, l1, rfl⟩ := wf_u64T w1
  obtain ⟨n2, l2, rfl⟩ := wf_u64T w2
  obtain ⟨n3, l3, rfl⟩ := wf_u64T w3
  refine ⟨memOf n0 n1 n2 n3, ?_⟩
  exact ⟨by rw [← wd_memOf0 (a1 := n1) (a2 := n2) (a3 := n3) l0], by rw [← wd_memOf1 (a0 := n0) (a2 := n2) (a3 := n3) l1], by rw [← wd_memOf2 (a0 := n0) (a1 := n1) (a3 := n3) l2], by rw [← wd_memOf3 (a0 := n0) (a1 := n1) (a2 := n2) l3]⟩

theorem nodesL_le : ∀ (l : List Tree) (es : List (DataW H)), l.length = es.length → (∀ i (h : i < l.length) (h' : i < es.length), (l[i]).nodes ≤ Rows.uptoBulk es[i]) → nodesL l ≤ Rows.uptoBulkAll es
  | [], _, _, _ => by unfold nodesL; omega
  | t :: r, [], h, _ => by simp at h
  | t :: r, e :: es, h, hi => by
    unfold nodesL Rows.uptoBulkAll
    have h0 := hi 0 (by simp) (by simp)
    have h1 := nodesL_le r es (by simpa using h) (fun i a b => hi (i + 1) (by simpa using a) (by simpa using b))
    simp at h0
    omega

theorem eight_ofT {α : Type} (l : List α) (h : l.length = 8) : ∃ a b c d e f g i, l = [a, b, c, d, e, f, g, i] := by
  match l, h with
  | [a, b, c, d, e, f, g, i], _ => exact ⟨a, b, c, d, e, f, g, i, rfl⟩
theorem five_ofT {α : Type} (l : List α) (h : l.length = 5) : ∃ a b c d e, l = [a, b, c, d, e] := by
  match l, h with
  | [a, b, c, d, e], _ => exact ⟨a, b, c, d, e, rfl⟩
theorem cells_re : Try.prog.cellsOf 39 = 8 := by kernel_rfl
theorem cells_int : Try.prog.cellsOf 3 = 1 := by kernel_rfl
theorem cells_setT : Try.prog.cellsOf 37 = 4 := by kernel_rfl
theorem cells_sub : Try.prog.cellsOf 22 = 1 := by kernel_rfl

theorem trod_struct5 {P : Program} {t : TypeId} {f0 f1 f2 f3 f4 : Field} {fuel : Nat} {cs : List Value} {x : DataW H × List MemPlace} (ht : P.underlying t = some (.struct #[f0, f1, f2, f3, f4])) (h : DataW.trod enc P W base spare held fuel t cs = some x) :
    ∃ y0 y1 y2 y3 y4 n, fuel = n + 1 ∧ x.1 = .agg [y0.1, y1.1, y2.1, y3.1, y4.1] ∧ cs.length = P.cellsOf t ∧ DataW.trod enc P W base spare held n f0.type ((cs.drop f0.offset).take (P.cellsOf f0.type)) = some y0 ∧
      DataW.trod enc P W base spare held n f1.type ((cs.drop f1.offset).take (P.cellsOf f1.type)) = some y1 ∧ DataW.trod enc P W base spare held n f2.type ((cs.drop f2.offset).take (P.cellsOf f2.type)) = some y2 ∧
      DataW.trod enc P W base spare held n f3.type ((cs.drop f3.offset).take (P.cellsOf f3.type)) = some y3 ∧ DataW.trod enc P W base spare held n f4.type ((cs.drop f4.offset).take (P.cellsOf f4.type)) = some y4 := by
  obtain ⟨xs, n, hn, rfl, hl, hlen, hf⟩ := DataW.trod_struct ht h
  match xs, hlen with
  | [y0, y1, y2, y3, y4], _ => exact ⟨y0, y1, y2, y3, y4, n, hn, by simp, hl, by simpa using hf 0 f0 rfl, by simpa using hf 1 f1 rfl, by simpa using hf 2 f2 rfl, by simpa using hf 3 f3 rfl, by simpa using hf 4 f4 rfl⟩

theorem trod_re : ∀ (fuel : Nat) (cs : List Value) (x : DataW H × List MemPlace), DataW.trod enc Try.prog W base spare held fuel 39 cs = some x →
    ∃ T : Tree, T.At W (.agg cs.toArray) ∧ cs.length = 8 ∧ T.nodes ≤ Rows.uptoBulk x.1 := by
  intro fuel
  induction fuel using Nat.strongRecOn with
  | _ fuel ih =>
    intro cs x h
    obtain ⟨y0, y1, y2, y3, y4, n, rfl, hx1, hlen, f0, f1, f2, f3, f4⟩ := trod_struct5 Try.underlying39 h
    rw [cells_re] at hlen
    obtain ⟨c0, c1, c2, c3, c4, c5, c6, c7, rfl⟩ := eight_ofT cs hlen
    simp only [cells_int, cells_setT, cells_sub, List.drop_zero, List.drop_succ_cons, List.take_succ_cons, List.take_zero] at f0 f1 f2 f3 f4
    rw [hx1]
    obtain ⟨k, e0, _, _⟩ := DataW.trod_int Try.underlying3 f0
    obtain ⟨lo, e3, _, _⟩ := DataW.trod_int Try.underlying3 f3
    obtain ⟨hi, e4, _, _⟩ := DataW.trod_int Try.underlying3 f4
    obtain ⟨m, rfl, rfl, rfl, rfl⟩ := set_cellsT f1
    simp at e0 e3 e4
    subst e0 e3 e4
    rcases DataW.trod_slice Try.underlying22 f2 with ⟨e5, hx⟩ | ⟨a, len, cap, elems, rest, n', hn', e5, hx, _, hl, hm, hel, hcell, _, _⟩
    · simp at e5
      subst e5
      refine ⟨.node k m [] lo hi, ?_, rfl, ?_⟩
      · unfold Tree.At
        exact ⟨none, 0, rfl, ⟨Nat.le_refl _, by omega⟩, fun h => absurd rfl h⟩
      · simp [Tree.nodes, nodesL, Rows.uptoBulk]
    · simp at e5
      subst e5
      have hone : ∀ i, i < len → ∃ (T : Tree) (cs' : List Value), T.At W (.agg cs'.toArray) ∧ cs'.length = 8 ∧ W.cells? base (a.add (i * 8)) 8 = some cs' ∧ ∃ e, elems[i]? = some e ∧ T.nodes ≤ Rows.uptoBulk e.1 := fun i hi => by
        have h1 := hcell i hi
        rw [cells_re, List.getElem?_eq_getElem (by omega), Option.bind_eq_some_iff] at h1
        obtain ⟨cs', h2, h3⟩ := h1
        obtain ⟨T, g1, g2, g3⟩ := ih n' (by omega) cs' _ h3
        exact ⟨T, cs', g1, g2, h2, _, List.getElem?_eq_getElem (by omega), g3⟩
      have hone2 : ∀ i, i < len → ∃ q : Tree × List Value, q.1.At W (.agg q.2.toArray) ∧ q.2.length = 8 ∧ W.cells? base (a.add (i * 8)) 8 = some q.2 ∧ ∃ e, elems[i]? = some e ∧ q.1.nodes ≤ Rows.uptoBulk e.1 := fun i hi => by
        obtain ⟨T, cs', h⟩ := hone i hi
        exact ⟨(T, cs'), h⟩
      obtain ⟨F, hF⟩ := choose_lt hone2
      have hll : ((List.range len).map fun i => (F i).1).length = len := by simp
      have hcellx : ∀ i, i < len → ∀ j v, (F i).2[j]? = some v → W.cell? ((a.add (i * 8)).add j) = some v := fun i hi j v hv => by
        have h8 := (hF i hi).2.1
        have hj : j < 8 := by have := (List.getElem?_eq_some_iff.1 hv).1; omega
        rw [← hv]
        exact (World.cells?_some (hF i hi).2.2.1).2.2 j hj
      refine ⟨.node k m ((List.range len).map fun i => (F i).1) lo hi, ?_, rfl, ?_⟩
      · unfold Tree.At
        refine ⟨some a, cap, by rw [hll]; rfl, ⟨by rw [hll]; exact hl, by unfold maxLen at hm; omega⟩, fun hne => ?_⟩
        have hpos : 0 < len := by
          rcases Nat.eq_zero_or_pos len with h | h
          · subst h; simp at hne
          · exact h
        obtain ⟨ab, ao, spot⟩ := a
        have hspot : spot = none := by
          obtain ⟨v, r, hv⟩ : ∃ v r, (F 0).2 = v :: r := List.exists_cons_of_ne_nil (by intro e; have := (hF 0 hpos).2.1; rw [e] at this; simp at this)
          have h0 := hcellx 0 hpos 0 v (by rw [hv]; rfl)
          simpa [Addr.add] using World.cell?_spot h0
        subst hspot
        refine ⟨ab, ao, rfl, AllAt.mk _ ab ao fun i hi => ?_⟩
        have hi' : i < len := by simpa using hi
        refine ⟨(F i).2, ?_, (hF i hi').2.1, fun j v hv => ?_⟩
        · simpa using (hF i hi').1
        · have := hcellx i hi' j v hv
          rw [Addr.add_lit, Addr.add_lit] at this
          exact this
      · have hnl := nodesL_le ((List.range len).map fun i => (F i).1) (elems.map (·.1)) (by simp; omega) (fun i h h' => by
          have hi' : i < len := by simpa using h
          obtain ⟨e, he, hle⟩ := (hF i hi').2.2.2
          have he2 : elems[i]'(by simpa using h') = e := by
            have := List.getElem?_eq_getElem (l := elems) (i := i) (by simpa using h')
            rw [he] at this
            exact (Option.some.inj this).symm
          simp [he2]; exact hle)
        subst hx
        simp only [Tree.nodes, Rows.uptoBulk, Rows.uptoBulkAll]
        omega

set_option maxRecDepth 100000 in
/-- a tree -/
theorem arg_re {r : Reach} {b0 : Nat} {v : Value} {d : DataW H} {ps : List MemPlace} (hval : Value.okWide Try.prog W r b0 39 v) (hd : DataW.Trod enc Try.prog W base spare held 39 v d ps) : ∃ T : Tree, T.At W v ∧ T.nodes ≤ Rows.uptoBulk d := by
  obtain ⟨cs, rfl, _, _⟩ : ∃ cs, v = .agg cs ∧ cs.size = Try.prog.cellsOf 39 ∧ Row.okWide Try.prog W r b0 39 cs := by
    simpa [Value.okWide, Try.underlying39] using hval
  obtain ⟨fuel, hf⟩ := hd
  obtain ⟨T, h1, _, h3⟩ := trod_re fuel _ _ hf
  exact ⟨T, by simpa [Value.cells] using h1, h3⟩
end

end Go.Proofs.Ytojejnjjenmfaaa

/-
  THE FRAME OF A LAW's PROOF over package rx: what a call that answers true and only makes memory gives its row; how arguments are opened. No condition.
-/
namespace Go.Proofs.Ytojejnjjenmfaaa
open Go.ChangeShapes Go.WideShapes Go.ChangeAt Go.RowKit

theorem ownKnobNone : ownKnob Try.prog.godebug = none := by kernel_rfl
theorem laidOutYes : laidOutB Try.prog = true := by kernel_rfl

section
variable {H : Type} {enc : TypeId × Value → H} {P : Program}

/-- arguments read as they did, where only memory was made -/
theorem args_keep (hl : laidOutB P = true) {W W' : World} (hb : Below W.heap.size W W') : ∀ (ts : List TypeId) (vs : List Value) (ds : List (DataW H)) (ps : List MemPlace),
    (∀ t ∈ ts, P.readableRec t = true ∧ t < P.types.size) → (∀ x ∈ ps, x.block < W.heap.size) → DataW.TrodAll enc P W 0 (fun _ => true) true ts vs ds ps →
    DataW.TrodAll enc P W' 0 (fun b => decide (b < W.heap.size)) true ts vs ds ps
  | [], vs, ds, ps, _, _, h => by
    obtain ⟨rfl, rfl, rfl⟩ := trodAll_nil h
    exact trodAll_mk0
  | t :: ts, vs, ds, ps, hr, hlt, h => by
    obtain ⟨v, vs', d, ds', p, q, rfl, rfl, rfl, h1, h2⟩ := trodAll_cons h
    have hrt := hr t (by simp)
    exact trodAll_cons_mk (WideElems.Trod_stays hl hrt.1 hrt.2 h1 (fun x hx => hb.same (hlt x (by simp [hx]))) (fun x hx => by simpa using hlt x (by simp [hx])))
      (args_keep hl hb ts vs' ds' q (fun u hu => hr u (by simp [hu])) (fun x hx => hlt x (by simp [hx])) h2)

/-- what a law's row asks behind the call -/
theorem law_post {f : Func} {s : ChangeSpec} {apart fresh handsOn : Bool} {W W' : World} {args : Array Value} {ds gs : List (DataW H)} {before : List MemPlace} {tb : TypeId}
    (hl : laidOutB P = true) (hr : ∀ t ∈ f.params.toList, P.readableRec t = true ∧ t < P.types.size) (hres : f.resultTypes = #[tb]) (htb : P.underlying tb = some .bool) (hvars : s.vars = [])
    (hW : DataW.Whole enc P f.params.toList s.vars apart W args.toList ds gs before) (hs : (s.fn H (ds ++ gs)) = { results := [.lit (.bool true)], args := ds }) (hb : Below W.heap.size W W') :
    s.post enc P f apart fresh handsOn false W args (.bool true) W' := by
  have hlt := hW.lt
  obtain ⟨p, q, hA, hV, hps, hfz, hnd⟩ := hW
  have hV0 := hV
  rw [hvars] at hV0
  obtain ⟨_, hq⟩ := trodVars_none hV0
  refine ⟨ds, gs, before, [], p, [], ⟨p, q, hA, hV, hps, hfz, hnd⟩, ?_, ?_, ?_, hb.frame _, fun h => by cases h⟩
  · rw [hs, hres]
    exact trodAll_mk1 (shut_bool htb true)
  · rw [hs]
    exact args_keep hl hb _ _ _ _ hr (fun x hx => hlt x (by rw [hps]; simp [hx])) hA
  · rw [hs, hvars]; rfl
end

section
variable {H : Type} {enc : TypeId × Value → H} {W : World} {r : Reach} {base b0 : Nat} {spare : Nat → Bool} {held : Bool}
set_option maxRecDepth 100000 in
/-- a string -/
theorem arg_string {v : Value} {d : DataW H} {ps : List MemPlace} (hval : Value.okWide Try.prog W r b0 9 v) (hd : DataW.Trod enc Try.prog W base spare held 9 v d ps) : ∃ s : ByteArray, s.size ≤ 9223372036854775807 ∧ v = .string s := by
  obtain ⟨s, rfl, _, _, hs⟩ := Go.ChangeMaps.open_string Try.underlying9 hval hd
  exact ⟨s, by unfold maxLen at hs; omega, rfl⟩
end

/-- A WORLD FOR THE WITNESS -/
noncomputable def laidWorld (os : Os) : World := World.holding Try.prog os ⟨#[], #[], []⟩
/-- the zero value of api.Re, and its datum -/
def re0 : Value := .agg #[.int .i64 0, .int .u64 0, .int .u64 0, .int .u64 0, .int .u64 0, .slice none 0 0, .int .i64 0, .int .i64 0]
def red0 {H : Type} : DataW H := .agg [.lit (.int .i64 0), .agg [.lit (.int .u64 0), .lit (.int .u64 0), .lit (.int .u64 0), .lit (.int .u64 0)], .nil, .lit (.int .i64 0), .lit (.int .i64 0)]

end Go.Proofs.Ytojejnjjenmfaaa

