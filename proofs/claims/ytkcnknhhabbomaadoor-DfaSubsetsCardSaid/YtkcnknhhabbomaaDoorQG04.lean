/-
  THE FRAME OF A LAW's PROOF: what a call that answers true and only makes memory gives its row; the one laid table. No condition.
-/
import Derived.Test.YtkcnknhhabbomaaDoorCards
import Derived.Test.YtkcnknhhabbomaaDoorTie
import Derived.ChangeSlices
import Derived.ProofKit
import Derived.OpenShut
import Derived.Deep.DeepHandedRow
import Derived.Lib.LaidTab
import Derived.Test.YtkcnknhhabbomaaDoorRows
import Derived.Lib.Hide
import Derived.Deep.SlicePairs
import Derived.LoopTactic
import Derived.ChangeArms
import Derived.ChangeSame
import Derived.DataReads
import Derived.Deep.Slices
import Derived.Test.YtkcnknhhabbomaaDoorQG03
import Derived.Test.YtkcnknhhabbomaaDoorQG02
import Derived.Test.YtkcnknhhabbomaaDoorQG01
import Derived.Test.YtkcnknhhabbomaaDoorQRef1
namespace Go.Proofs.YtkcnknhhabbomaaDoor
open Go.ChangeShapes Go.WideShapes Go.ChangeAt Go.RowKit

theorem ownKnobNone : ownKnob Tryd.prog.godebug = none := by kernel_rfl
theorem laidOutYes : laidOutB Tryd.prog = true := by kernel_rfl

section
variable {H : Type} {enc : TypeId × Value → H} {P : Program}

theorem args_keep (hl : laidOutB P = true) {W W' : World} (hb : Below W.heap.size W W') : ∀ (ts : List TypeId) (vs : List Value) (ds : List (DataW H)) (ps : List MemPlace),
    (∀ t ∈ ts, P.readableRec t = true ∧ t < P.types.size) → (∀ x ∈ ps, x.block < W.heap.size) → DataW.TrodAll enc P W 0 (fun _ => true) true ts vs ds ps →
    DataW.TrodAll enc P W' 0 (fun b => decide (b < W.heap.size)) true ts vs ds ps
  | [], vs, ds, ps, _, _, h => by
    obtain ⟨rfl, rfl, rfl⟩ := trodAll_nil h
    exact trodAll_mk0
  | t :: ts, vs, ds, ps, hr, hlt, h => by
    obtain ⟨v, vs', d, ds', p, q, rfl, rfl, rfl, h1, h2⟩ := trodAll_cons h
    have hrt := hr t (by simp)
    exact trodAll_cons_mk (WideElems.Trod_stays hl hrt.1 hrt.2 h1 (fun x hx => hb.same (hlt x (by simp [hx]))) (fun x hx => by simpa using hlt x (by simp [hx])))
      (args_keep hl hb ts vs' ds' q (fun u hu => hr u (by simp [hu])) (fun x hx => hlt x (by simp [hx])) h2)

theorem law_post {f : Func} {s : ChangeSpec} {apart fresh handsOn : Bool} {W W' : World} {args : Array Value} {ds gs : List (DataW H)} {before : List MemPlace} {tb : TypeId}
    (hl : laidOutB P = true) (hr : ∀ t ∈ f.params.toList, P.readableRec t = true ∧ t < P.types.size) (hres : f.resultTypes = #[tb]) (htb : P.underlying tb = some .bool) (hvars : s.vars = [])
    (hW : DataW.Whole enc P f.params.toList s.vars apart W args.toList ds gs before) (hs : (s.fn H (ds ++ gs)) = { results := [.lit (.bool true)], args := ds }) (hb : Below W.heap.size W W') :
    s.post enc P f apart fresh handsOn false W args (.bool true) W' := by
  have hlt := hW.lt
  obtain ⟨p, q, hA, hV, hps, hfz, hnd⟩ := hW
  have hV0 := hV
  rw [hvars] at hV0
  obtain ⟨_, hq⟩ := trodVars_none hV0
  refine ⟨ds, gs, before, [], p, [], ⟨p, q, hA, hV, hps, hfz, hnd⟩, ?_, ?_, ?_, hb.frame _, fun h => by cases h⟩
  · rw [hs, hres]
    exact trodAll_mk1 (shut_bool htb true)
  · rw [hs]
    exact args_keep hl hb _ _ _ _ hr (fun x hx => hlt x (by rw [hps]; simp [hx])) hA
  · rw [hs, hvars]; rfl
end

theorem tab_of {W : World} (h : laidMetH Tryd.prog [("math/bits.deBruijn64tab", Rows.laid_math_bits_deBruijn64tab)] W) : Tab W := by
  have ht : Lib.TabIs Tryd.prog W "math/bits.deBruijn64tab" .u8 (Lib.deBruijn64tab.map fun (n : Nat) => (n : Int)) :=
    Lib.tabIs_of_head (rest := []) (g := 0) (t := 179) (by kernel_rfl) (by kernel_rfl) Tryd.underlying179 Tryd.underlying5 (by kernel_rfl) (by kernel_rfl) h
  intro j hj
  have hc := ht.cell (g := 0) (by kernel_rfl) j (by simpa [Lib.deBruijn64tab] using hj)
  rw [hc]
  have hlen : Lib.deBruijn64tab.length = 64 := rfl
  simp [List.getD, hlen, hj]

noncomputable def laidWorld (os : Os) : World :=
  { World.holding Tryd.prog os ⟨#[], #[], []⟩ with heap := (World.holding Tryd.prog os ⟨#[], #[], []⟩).heap.modify 0 fun
      | .cells _ t frozen => .cells (Lib.deBruijn64tab.map fun (n : Nat) => Value.int .u8 (n : Int)).toArray t frozen
      | o => o }

end Go.Proofs.YtkcnknhhabbomaaDoor

namespace Go.Proofs.YtkcnknhhabbomaaDoor
open Go.RowKit

inductive Tree where
  | node (kind : Int) (m : Nat → Bool) (sub : List Tree) (lo hi : Int)

theorem Tree.ind {C : Tree → Prop} (h : ∀ k m l lo hi, (∀ t ∈ l, C t) → C (.node k m l lo hi)) : ∀ T, C T
  | .node k m l lo hi => h k m l lo hi fun t _ => Tree.ind h t
termination_by T => SizeOf.sizeOf T

namespace Tree
def kind : Tree → Int | .node k _ _ _ _ => k
def set : Tree → Nat → Bool | .node _ m _ _ _ => m
def sub : Tree → List Tree | .node _ _ l _ _ => l
def lo : Tree → Int | .node _ _ _ a _ => a
def hi : Tree → Int | .node _ _ _ _ b => b
end Tree

def reL (k : Int) (m : Nat → Bool) (A : Option Addr) (n c : Nat) (lo hi : Int) : List Value :=
  [.int .i64 k, .int .u64 (wd m 0 : Nat), .int .u64 (wd m 1 : Nat), .int .u64 (wd m 2 : Nat), .int .u64 (wd m 3 : Nat), .slice A n c, .int .i64 lo, .int .i64 hi]
def reV (k : Int) (m : Nat → Bool) (A : Option Addr) (n c : Nat) (lo hi : Int) : Value := .agg (reL k m A n c lo hi).toArray

mutual
def Tree.At (W : World) : Tree → Value → Prop
  | .node k m l lo hi, v => ∃ A c, v = reV k m A l.length c lo hi ∧ (l.length ≤ c ∧ c ≤ 9223372036854775807) ∧ (l ≠ [] → ∃ b o, A = some ⟨b, o, none⟩ ∧ AllAt W l b o)
def AllAt (W : World) : List Tree → Nat → Nat → Prop
  | [], _, _ => True
  | t :: r, b, o => (∃ cs : List Value, Tree.At W t (.agg cs.toArray) ∧ cs.length = 8 ∧ W.rangeAt b o cs) ∧ AllAt W r b (o + 8)
end

theorem AllAt.get {W : World} : ∀ (l : List Tree) (b o : Nat), AllAt W l b o → ∀ (i : Nat) (h : i < l.length), ∃ cs : List Value, Tree.At W l[i] (.agg cs.toArray) ∧ cs.length = 8 ∧ W.rangeAt b (o + i * 8) cs
  | [], _, _, _, i, h => by simp at h
  | t :: r, b, o, ha, i, h => by
    unfold AllAt at ha
    cases i with
    | zero => simpa using ha.1
    | succ i =>
      have := AllAt.get r b (o + 8) ha.2 i (by simpa using h)
      rw [show o + (i + 1) * 8 = o + 8 + i * 8 by omega]
      simpa using this
theorem AllAt.mk {W : World} : ∀ (l : List Tree) (b o : Nat), (∀ (i : Nat) (h : i < l.length), ∃ cs : List Value, Tree.At W l[i] (.agg cs.toArray) ∧ cs.length = 8 ∧ W.rangeAt b (o + i * 8) cs) → AllAt W l b o
  | [], _, _, _ => by unfold AllAt; trivial
  | t :: r, b, o, ha => by
    unfold AllAt
    refine ⟨by have := ha 0 (by simp); rw [Nat.zero_mul, Nat.add_zero] at this; exact this, AllAt.mk r b (o + 8) fun i h => ?_⟩
    have := ha (i + 1) (by simpa using h)
    rw [show o + (i + 1) * 8 = o + 8 + i * 8 by omega] at this
    simpa using this

theorem rangeAt_step {W W' : World} {b o : Nat} {cs : List Value} (h : W.rangeAt b o cs) (hn : cs ≠ []) (hb : Below W.heap.size W W') : W'.rangeAt b o cs := by
  obtain ⟨v, r, rfl⟩ := List.exists_cons_of_ne_nil hn
  have hlt : b < W.heap.size := World.block_lt_of_cell? W ⟨b, o + 0, none⟩ (h 0 v rfl)
  intro j x hx
  exact (hb.cell (p := ⟨b, o + j, none⟩) hlt).trans (h j x hx)

theorem Tree.At.step {W W' : World} (hb : Below W.heap.size W W') : ∀ (T : Tree) {v : Value}, Tree.At W T v → Tree.At W' T v := by
  intro T
  induction T using Tree.ind with
  | h k m l lo hi ih =>
    intro v h
    unfold Tree.At at h ⊢
    obtain ⟨A, c, rfl, hc, hs⟩ := h
    refine ⟨A, c, rfl, hc, fun hne => ?_⟩
    obtain ⟨b, o, rfl, ha⟩ := hs hne
    refine ⟨b, o, rfl, AllAt.mk l b o fun i hi => ?_⟩
    obtain ⟨cs, h1, h2, h3⟩ := AllAt.get l b o ha i hi
    exact ⟨cs, ih _ (List.getElem_mem hi) h1, h2, rangeAt_step h3 (by intro e; subst e; simp at h2) hb⟩

theorem BlkIs.eight {w : World} {g : Nat} {t : TypeId} {a b c d e f x y : Value} (h : BlkIs w g t #[a, b, c, d, e, f, x, y]) : w.cell? ⟨g, 0, none⟩ = some a ∧ w.cell? ⟨g, 1, none⟩ = some b ∧ w.cell? ⟨g, 2, none⟩ = some c ∧ w.cell? ⟨g, 3, none⟩ = some d ∧
    w.cell? ⟨g, 4, none⟩ = some e ∧ w.cell? ⟨g, 5, none⟩ = some f ∧ w.cell? ⟨g, 6, none⟩ = some x ∧ w.cell? ⟨g, 7, none⟩ = some y :=
  ⟨h.cell 0, h.cell 1, h.cell 2, h.cell 3, h.cell 4, h.cell 5, h.cell 6, h.cell 7⟩

theorem Tree.At.eight {W : World} {T : Tree} {cs : List Value} (h : Tree.At W T (.agg cs.toArray)) : ∃ A n c, cs = reL T.kind T.set A n c T.lo T.hi := by
  cases T with
  | node k m l lo hi =>
    unfold Tree.At at h
    obtain ⟨A, c, he, _⟩ := h
    unfold reV at he
    injection he with he
    exact ⟨A, l.length, c, by have := congrArg Array.toList he; simp only at this; exact this⟩

theorem row_eight {W W' : World} {b o : Nat} {k lo hi : Int} {m : Nat → Bool} {A : Option Addr} {n c : Nat} (h : W.rangeAt b o (reL k m A n c lo hi)) (hb : Below W.heap.size W W') :
    W'.cell? ⟨b, o, none⟩ = some (.int .i64 k) ∧ W'.cell? ⟨b, o + 1, none⟩ = some (.int .u64 (wd m 0 : Nat)) ∧ W'.cell? ⟨b, o + 2, none⟩ = some (.int .u64 (wd m 1 : Nat)) ∧ W'.cell? ⟨b, o + 3, none⟩ = some (.int .u64 (wd m 2 : Nat)) ∧
    W'.cell? ⟨b, o + 4, none⟩ = some (.int .u64 (wd m 3 : Nat)) ∧ W'.cell? ⟨b, o + 5, none⟩ = some (.slice A n c) ∧ W'.cell? ⟨b, o + 6, none⟩ = some (.int .i64 lo) ∧ W'.cell? ⟨b, o + 7, none⟩ = some (.int .i64 hi) := by
  have h2 := rangeAt_step h (by simp [reL]) hb
  exact ⟨h2 0 _ rfl, h2 1 _ rfl, h2 2 _ rfl, h2 3 _ rfl, h2 4 _ rfl, h2 5 _ rfl, h2 6 _ rfl, h2 7 _ rfl⟩

theorem Tree.At.open {W : World} {k : Int} {m : Nat → Bool} {l : List Tree} {lo hi : Int} {v : Value} (h : Tree.At W (.node k m l lo hi) v) :
    ∃ A c, v = reV k m A l.length c lo hi ∧ (l.length ≤ c ∧ c ≤ 9223372036854775807) ∧ (l ≠ [] → ∃ b o, A = some ⟨b, o, none⟩ ∧ b < W.heap.size ∧ ∀ (i : Nat) (h : i < l.length), ∃ cs : List Value, Tree.At W l[i] (.agg cs.toArray) ∧ cs.length = 8 ∧ W.rangeAt b (o + i * 8) cs) := by
  unfold Tree.At at h
  obtain ⟨A, c, rfl, hc, hs⟩ := h
  refine ⟨A, c, rfl, hc, fun hne => ?_⟩
  obtain ⟨b, o, rfl, ha⟩ := hs hne
  have hg := AllAt.get l b o ha
  refine ⟨b, o, rfl, ?_, hg⟩
  have h0 : 0 < l.length := List.length_pos_iff.2 hne
  obtain ⟨cs, _, h2, h3⟩ := hg 0 h0
  obtain ⟨x, r, rfl⟩ : ∃ x r, cs = x :: r := List.exists_cons_of_ne_nil (by intro e; subst e; simp at h2)
  exact World.block_lt_of_cell? W ⟨b, o + 0 * 8 + 0, none⟩ (h3 0 x rfl)

end Go.Proofs.YtkcnknhhabbomaaDoor

namespace Go.Proofs.YtkcnknhhabbomaaDoor
open Go.RowKit

mutual
def Tree.nodes : Tree → Nat
  | .node _ _ l _ _ => nodesL l + 1
def nodesL : List Tree → Nat
  | [] => 0
  | t :: r => t.nodes + nodesL r
end
mutual
def Tree.deepW : Tree → Int
  | .node _ _ l _ _ => wrap64 ((deepsW l).foldl (fun d x => if d < x then x else d) 0 + 1)
def deepsW : List Tree → List Int
  | [] => []
  | t :: r => t.deepW :: deepsW r
end
def okNode (k : Int) (m : Nat → Bool) (n : Nat) (lo hi : Int) : Bool :=
  if ((k != 1 && !setEq m (fun _ => false)) || (k != 4 && (lo != 0 || hi != 0))) = true then false
  else if k = 0 ∨ k = 1 then decide (n = 0)
  else if k = 2 ∨ k = 3 then decide (2 ≤ n)
  else if k = 4 then decide (n = 1 ∧ 0 ≤ lo ∧ lo ≤ 64 ∧ (hi = -1 ∨ lo ≤ hi ∧ hi ≤ 64))
  else false
mutual
def Tree.ok : Tree → Bool
  | .node k m l lo hi => allOk l && okNode k m l.length lo hi
def allOk : List Tree → Bool
  | [] => true
  | t :: r => t.ok && allOk r
end
theorem allOk_iff : ∀ {l : List Tree}, allOk l = true ↔ ∀ t ∈ l, t.ok = true
  | [] => by simp [allOk]
  | a :: l => by simp only [allOk, Bool.and_eq_true, List.mem_cons, forall_eq_or_imp, allOk_iff (l := l)]
theorem set0_build : setV (fun _ => false) = .agg #[.int .u64 0, .int .u64 0, .int .u64 0, .int .u64 0] := by
  have : ∀ i, i < 4 → wd (fun _ => false) i = 0 := by decide +kernel
  unfold setV
  rw [this 0 (by omega), this 1 (by omega), this 2 (by omega), this 3 (by omega)]; rfl

end Go.Proofs.YtkcnknhhabbomaaDoor

namespace Go.Proofs.YtkcnknhhabbomaaDoor
open Go.ChangeShapes Go.WideShapes Go.ChangeAt Go.RowKit Go.Deep

instance : Inhabited Tree := ⟨.node 0 (fun _ => false) [] 0 0⟩

section
variable {H : Type} {enc : TypeId × Value → H} {W : World} {base : Nat} {spare : Nat → Bool} {held : Bool}

theorem cells_u64T : Tryd.prog.cellsOf 59 = 1 := by kernel_rfl
theorem wf_u64T {x : Int} (h : (Lit.int .u64 x).wf = true) : ∃ n : Nat, n < 18446744073709551616 ∧ x = (n : Int) := by
  have h2 : 0 ≤ x ∧ x < 18446744073709551616 := by
    simp [Lit.wf, IntKind.min, IntKind.max, IntKind.signed, IntKind.bits] at h
    omega
  exact ⟨x.toNat, by omega, by omega⟩
theorem set_cellsT {fuel : Nat} {c0 c1 c2 c3 : Value} {x : DataW H × List MemPlace} (hf : DataW.trod enc Tryd.prog W base spare held fuel 61 [c0, c1, c2, c3] = some x) :
    ∃ m, c0 = .int .u64 (wd m 0 : Nat) ∧ c1 = .int .u64 (wd m 1 : Nat) ∧ c2 = .int .u64 (wd m 2 : Nat) ∧ c3 = .int .u64 (wd m 3 : Nat) := by
  obtain ⟨y0, y1, y2, y3, k, _, hy0, hy1, hy2, hy3⟩ := trod_array4 Tryd.underlying61 cells_u64T hf
  obtain ⟨x0, e0, _, w0⟩ := DataW.trod_int Tryd.underlying59 hy0
  obtain ⟨x1, e1, _, w1⟩ := DataW.trod_int Tryd.underlying59 hy1
  obtain ⟨x2, e2, _, w2⟩ := DataW.trod_int Tryd.underlying59 hy2
  obtain ⟨x3, e3, _, w3⟩ := DataW.trod_int Tryd.underlying59 hy3
  simp at e0 e1 e2 e3
  subst e0 e1 e2 e3
  obtain ⟨n0, l0, rfl⟩ := wf_u64T w0
  obtain ⟨n1, l1, rfl⟩ := wf_u64T w1
  obtain ⟨n2, l2, rfl⟩ := wf_u64T w2
  obtain ⟨n3, l3, rfl⟩ := wf_u64T w3
  refine ⟨memOf n0 n1 n2 n3, ?_⟩
  exact ⟨by rw [← wd_memOf0 (a1 := n1) (a2 := n2) (a3 := n3) l0], by rw [← wd_memOf1 (a0 := n0) (a2 := n2) (a3 := n3) l1], by rw [← wd_memOf2 (a0 := n0) (a1 := n1) (a3 := n3) l2], by rw [← wd_memOf3 (a0 := n0) (a1 := n1) (a2 := n2) l3]⟩

theorem cells_int : Tryd.prog.cellsOf 3 = 1 := by kernel_rfl
theorem cells_setT : Tryd.prog.cellsOf 61 = 4 := by kernel_rfl
end

end Go.Proofs.YtkcnknhhabbomaaDoor

namespace Go.Proofs.YtkcnknhhabbomaaDoor
open Go.RowKit

theorem wanted_guard {o : Oper} {ops : Array Oper} {tmps : Array Value} {i d : Nat} {b b' : Bool} (hg : o.guard = some (i, b)) (hi : (ops[i]?).bind (·.dst) = some d) (hv : tmps.getD d undef = .bool b') : Region.wanted o (yielded ops tmps) = (b' == b) := by
  have h2 : tmps[d]? = some (.bool b') := by
    cases h : tmps[d]? with
    | none => rw [Array.getD_eq_getD_getElem?, h] at hv; cases hv
    | some x => rw [Array.getD_eq_getD_getElem?, h] at hv; exact congrArg some hv
  unfold Region.wanted yielded
  rw [hg]
  simp [hi, h2]
theorem freeW_yes {P : Program} {C : World → Prop} {o : Oper} {a : Act} {ops : Array Oper} {K : Act → Prop} (i d : Nat) (b : Bool) (hg : o.guard = some (i, b)) (hi : (ops[i]?).bind (·.dst) = some d) (hv : a.tmps.getD d undef = .bool b) (h1 : ∃ v, (∀ w, C w → freeAt P o a w v) ∧ K (a.put o.dst v)) :
    if Region.wanted o (yielded ops a.tmps) = true then ∃ v, (∀ w, C w → freeAt P o a w v) ∧ K (a.put o.dst v) else K (a.put o.dst undef) := by rw [if_pos (by rw [wanted_guard hg hi hv]; simp)]; exact h1
theorem freeW_no {P : Program} {C : World → Prop} {o : Oper} {a : Act} {ops : Array Oper} {K : Act → Prop} (i d : Nat) (b : Bool) (hg : o.guard = some (i, b)) (hi : (ops[i]?).bind (·.dst) = some d) (hv : a.tmps.getD d undef = .bool (!b)) (h1 : K (a.put o.dst undef)) :
    if Region.wanted o (yielded ops a.tmps) = true then ∃ v, (∀ w, C w → freeAt P o a w v) ∧ K (a.put o.dst v) else K (a.put o.dst undef) := by rw [if_neg (by rw [wanted_guard hg hi hv]; cases b <;> simp)]; exact h1

end Go.Proofs.YtkcnknhhabbomaaDoor

namespace Go.Proofs.YtkcnknhhabbomaaDoor
open Go.RowKit

attribute [local irreducible] FreeW

def IntsV (W : World) (l : List Int) (v : Value) : Prop := ∃ A c, v = .slice A l.length c ∧ (l.length ≤ c ∧ c ≤ 9223372036854775807) ∧ (l ≠ [] → ∃ b o, A = some ⟨b, o, none⟩ ∧ b < W.heap.size ∧ ∀ (i : Nat) (h : i < l.length), W.cell? ⟨b, o + i, none⟩ = some (.int .i64 l[i]))
theorem IntsV.step {W W' : World} {l : List Int} {v : Value} (h : IntsV W l v) (hb : Below W.heap.size W W') : IntsV W' l v := by
  obtain ⟨A, c, e, hc, hs⟩ := h
  refine ⟨A, c, e, hc, fun hne => ?_⟩
  obtain ⟨b, o, e2, hlt, hg⟩ := hs hne
  exact ⟨b, o, e2, Nat.lt_of_lt_of_le hlt hb.size, fun i hi => (hb.cell (p := ⟨b, o + i, none⟩) hlt).trans (hg i hi)⟩
theorem IntsV.nil (W : World) : IntsV W [] (.slice none 0 0) := ⟨none, 0, rfl, ⟨Nat.le_refl _, by decide⟩, fun h => absurd rfl h⟩
def risesB (all : Int) : Int → List Int → Bool
  | _, [] => true
  | a, p :: r => (decide (a < p) && decide (p < all)) && risesB all p r

set_option maxHeartbeats 2000000 in
theorem rising_any (l : List Int) (v : Value) (all : Int) (w : World) (hv : IntsV w l v) : Calls Tryd.prog 47 #[v, .int .i64 all] w fun e w' => e = .returned (.bool (risesB all (-1) l)) ∧ w' = w := by
  obtain ⟨A, c, rfl, hc, hs⟩ := hv
  have HS := Lib.hid hs
  obtain ⟨R, hR⟩ : ∃ R, R = risesB all (-1) l := ⟨_, rfl⟩
  rw [← hR]
  have HR := Lib.hid hR
  clear hs hR
  go_enter Tryd.func47, Tryd.ntmps47
  go_wp2
  go_loopw [5, 10] (fun s i wr => ∃ (j : Nat) (a : Int), s = .int .i64 a ∧ i = .int .i64 j ∧ j ≤ l.length ∧ Hid (wr = w ∧ R = risesB all a (l.drop j))) (fun _ i _ => l.length - (intOf i).toNat)
  case atStart => exact ⟨0, -1, rfl, rfl, Nat.zero_le _, Lib.hid ⟨rfl, HR.out⟩⟩
  case round =>
    obtain ⟨j, a, rfl, rfl, hj, HH⟩ := hrel
    obtain ⟨rfl, hRR⟩ := HH.out
    have HH := Lib.hid hRR
    clear hRR
    by_cases hp : j < l.length
    · have hk1 : IntKind.i64.wrap ((j : Int) + 1) = ((j + 1 : Nat) : Int) := by rw [IntKind.wrap_i64]; omega
      have hdl : decide ((j : Int) < (l.length : Int)) = true := by simp; omega
      obtain ⟨b, o, rfl, hlt, hg⟩ := HS.out (by intro e; subst e; simp at hp)
      have hcell := hg j hp
      have hd := HH.out
      rw [List.drop_eq_getElem_cons hp] at hd
      unfold risesB at hd
      clear hg
      generalize l[j] = p at *
      have HD := Lib.hid hd
      clear hd
      by_cases h1 : a < p
      · have e1 : decide (p ≤ a) = false := by simp; omega
        by_cases h2 : p < all
        · have e2 : decide (p ≥ all) = false := by simp; omega
          have e2b : decide (all ≤ p) = false := by simp; omega
          have HN := Lib.hid (show R = risesB all p (l.drop (j + 1)) by rw [HD.out]; simp [h1, h2])
          clear h1 h2
          go_wp2
          exact ⟨⟨j + 1, p, rfl, rfl, hp, Lib.hid ⟨by trivial, HN.out⟩⟩, by simp [intOf]; omega⟩
        · have e2 : decide (p ≥ all) = true := by simp; omega
          have e2b : decide (all ≤ p) = true := by simp; omega
          have HN := Lib.hid (show R = false by rw [HD.out]; simp [h2])
          clear h1 h2
          go_wp2
          go_ret
          exact ⟨by rw [HN.out]; rfl, rfl⟩
      · have e1 : decide (p ≤ a) = true := by simp; omega
        have HN := Lib.hid (show R = false by rw [HD.out]; simp [h1])
        clear h1
        go_wp2
        go_ret
        exact ⟨by rw [HN.out]; rfl, rfl⟩
    · have hdl : decide ((j : Int) < (l.length : Int)) = false := by simp; omega
      have HN := Lib.hid (show R = true by rw [HH.out, List.drop_eq_nil_of_le (by omega)]; rfl)
      go_wp2
      go_ret
      exact ⟨by rw [HN.out]; rfl, rfl⟩

theorem six {w : World} {g : Nat} {t : TypeId} {a b c d e f : Value} (h : BlkIs w g t #[a, b, c, d, e, f]) : w.cell? ⟨g, 0, none⟩ = some a ∧ w.cell? ⟨g, 1, none⟩ = some b ∧ w.cell? ⟨g, 2, none⟩ = some c ∧ w.cell? ⟨g, 3, none⟩ = some d ∧ w.cell? ⟨g, 4, none⟩ = some e ∧ w.cell? ⟨g, 5, none⟩ = some f := by
  refine ⟨?_, ?_, ?_, ?_, ?_, ?_⟩
  · simpa using h.cell 0
  · simpa using h.cell 1
  · simpa using h.cell 2
  · simpa using h.cell 3
  · simpa using h.cell 4
  · simpa using h.cell 5
set_option maxRecDepth 20000 in
set_option maxHeartbeats 4000000 in
theorem refRising_any (l : List Int) (v : Value) (A0 A1 A2 A3 A4 : Option Addr) (n0 n1 n2 n3 n4 c0 c1 c2 c3 c4 : Nat) (em : Int) (w : World) (hv : IntsV w l v) :
    Calls Tryd.prog 30 #[.agg #[.slice A0 n0 c0, .slice A1 n1 c1, .slice A2 n2 c2, .slice A3 n3 c3, .slice A4 n4 c4, .int .i64 em], v] w fun e w' => e = .returned (.bool (risesB n0 (-1) l)) ∧ Below w.heap.size w w' := by
  obtain ⟨A, c, rfl, hc, hs⟩ := hv
  have HS := Lib.hid hs
  have hb0 : Below w.heap.size w (w.alloc (.cells #[.slice A0 n0 c0, .slice A1 n1 c1, .slice A2 n2 c2, .slice A3 n3 c3, .slice A4 n4 c4, .int .i64 em] 27)) := (Below.refl _ _).alloc (Nat.le_refl _) _
  have H0 := Lib.hid (And.intro hb0 (BlkIs.new w 27 #[.slice A0 n0 c0, .slice A1 n1 c1, .slice A2 n2 c2, .slice A3 n3 c3, .slice A4 n4 c4, .int .i64 em]))
  obtain ⟨R, hR⟩ : ∃ R, R = risesB n0 (-1) l := ⟨_, rfl⟩
  rw [← hR]
  have HR := Lib.hid hR
  clear hs hR hb0
  go_enter Tryd.func30, Tryd.ntmps30
  go_wp2
  go_loopw [5, 6] (fun s i wr => ∃ (j : Nat) (a : Int), s = .int .i64 a ∧ i = .int .i64 j ∧ j ≤ l.length ∧ Hid ((Below w.heap.size w wr ∧ BlkIs wr w.heap.size 27 #[.slice A0 n0 c0, .slice A1 n1 c1, .slice A2 n2 c2, .slice A3 n3 c3, .slice A4 n4 c4, .int .i64 em]) ∧ R = risesB n0 a (l.drop j))) (fun _ i _ => l.length - (intOf i).toNat)
  case atStart => exact ⟨0, -1, rfl, rfl, Nat.zero_le _, Lib.hid ⟨H0.out, HR.out⟩⟩
  case round =>
    obtain ⟨j, a, rfl, rfl, hj, HH⟩ := hrel
    by_cases hp : j < l.length
    · have hk1 : IntKind.i64.wrap ((j : Int) + 1) = ((j + 1 : Nat) : Int) := by rw [IntKind.wrap_i64]; omega
      have hdl : decide ((j : Int) < (l.length : Int)) = true := by simp; omega
      have hjI : (j : Int) < (l.length : Int) := by omega
      obtain ⟨b, o, rfl, hlt, hg⟩ := HS.out (by intro e; subst e; simp at hp)
      have hcell := hg j hp
      have HB := Lib.hid (fun u (h : Below w.heap.size w u) => (h.cell (p := ⟨b, o + j, none⟩) hlt).trans hcell)
      have hd := HH.out.2
      rw [List.drop_eq_getElem_cons hp] at hd
      unfold risesB at hd
      clear hg hcell
      generalize l[j] = p at *
      have HD := Lib.hid hd
      clear hd
      by_cases h1 : a < p
      · have e1 : decide (p ≤ a) = false := by simp; omega
        by_cases h2 : p < (n0 : Int)
        · have e2 : decide (p ≥ (n0 : Int)) = false := by simp; omega
          have e2b : decide ((n0 : Int) ≤ p) = false := by simp; omega
          have HN := Lib.hid (show R = risesB n0 p (l.drop (j + 1)) by rw [HD.out]; simp [h1, h2])
          clear h1 h2
          go_wp2_with fail
          refine wp_region_reads 33 (fun u => Hid (Below w.heap.size w u ∧ BlkIs u w.heap.size 27 #[.slice A0 n0 c0, .slice A1 n1 c1, .slice A2 n2 c2, .slice A3 n3 c3, .slice A4 n4 c4, .int .i64 em])) (by kernel_rfl) (by kernel_rfl) rfl (Lib.hid ⟨HH.out.1.1.drew, HH.out.1.2.drew⟩) (fun u u' h hb => Lib.hid ⟨h.out.1.trans (hb.mono h.out.1.size), h.out.2.step hb⟩) ?_
          repeat
            refine freeW_step fun K hK => ?_
            (first
              | (refine freeW_yes 6 19 false rfl rfl ?_ ?_; (focus (go_simp; done)))
              | skip)
            go_simp
            apply Exists.intro
            refine ⟨fun u h1 => ?_, hK _ ?_⟩
            · have y0 := (HB.out u h1.out.1)
              obtain ⟨k0, k1, k2, k3, k4, k5⟩ := six h1.out.2
              unfold freeAt
              go_simp
              first
                | exact free_val
                | (apply free_call
                   first
                     | fail
                   )
            clear hK K
          refine freeW_nil ?_
          intro u hC hb2
          have HC := Lib.hid hC.out
          have y0 := HB.out u hC.out.1
          clear hC hb2
          go_wp2
          exact ⟨⟨j + 1, p, rfl, rfl, hp, Lib.hid ⟨HC.out, HN.out⟩⟩, by simp [intOf]; omega⟩
        · have e2 : decide (p ≥ (n0 : Int)) = true := by simp; omega
          have e2b : decide ((n0 : Int) ≤ p) = true := by simp; omega
          have HN := Lib.hid (show R = false by rw [HD.out]; simp [h2])
          clear h1 h2
          go_wp2_with fail
          refine wp_region_reads 33 (fun u => Hid (Below w.heap.size w u ∧ BlkIs u w.heap.size 27 #[.slice A0 n0 c0, .slice A1 n1 c1, .slice A2 n2 c2, .slice A3 n3 c3, .slice A4 n4 c4, .int .i64 em])) (by kernel_rfl) (by kernel_rfl) rfl (Lib.hid ⟨HH.out.1.1.drew, HH.out.1.2.drew⟩) (fun u u' h hb => Lib.hid ⟨h.out.1.trans (hb.mono h.out.1.size), h.out.2.step hb⟩) ?_
          repeat
            refine freeW_step fun K hK => ?_
            (first
              | (refine freeW_yes 6 19 false rfl rfl ?_ ?_; (focus (go_simp; done)))
              | skip)
            go_simp
            apply Exists.intro
            refine ⟨fun u h1 => ?_, hK _ ?_⟩
            · have y0 := (HB.out u h1.out.1)
              obtain ⟨k0, k1, k2, k3, k4, k5⟩ := six h1.out.2
              unfold freeAt
              go_simp
              first
                | exact free_val
                | (apply free_call
                   first
                     | fail
                   )
            clear hK K
          refine freeW_nil ?_
          intro u hC hb2
          have HC := Lib.hid hC.out
          have y0 := HB.out u hC.out.1
          clear hC hb2
          go_wp2
          go_ret
          exact ⟨by rw [HN.out]; rfl, HC.out.1⟩
      · have e1 : decide (p ≤ a) = true := by simp; omega
        have HN := Lib.hid (show R = false by rw [HD.out]; simp [h1])
        clear h1
        go_wp2_with fail
        refine wp_region_reads 33 (fun u => Hid (Below w.heap.size w u ∧ BlkIs u w.heap.size 27 #[.slice A0 n0 c0, .slice A1 n1 c1, .slice A2 n2 c2, .slice A3 n3 c3, .slice A4 n4 c4, .int .i64 em])) (by kernel_rfl) (by kernel_rfl) rfl (Lib.hid ⟨HH.out.1.1.drew, HH.out.1.2.drew⟩) (fun u u' h hb => Lib.hid ⟨h.out.1.trans (hb.mono h.out.1.size), h.out.2.step hb⟩) ?_
        repeat
          refine freeW_step fun K hK => ?_
          first
            | ((first
                  | (refine freeW_no 6 19 false rfl rfl ?_ ?_; (focus (go_simp; done))))
               have HK := Go.Lib.hid hK
               clear hK
               go_simp
               have hK := HK.out
               clear HK
               refine hK _ ?_
               clear hK K)
            | (skip
               (first
                 | skip)
               go_simp
               apply Exists.intro
               refine ⟨fun u h1 => ?_, hK _ ?_⟩
               · have y0 := (HB.out u h1.out.1)
                 obtain ⟨k0, k1, k2, k3, k4, k5⟩ := six h1.out.2
                 unfold freeAt
                 go_simp
                 first
                   | exact free_val
                   | (apply free_call
                      first
                        | fail
                      )
               clear hK K)
        refine freeW_nil ?_
        intro u hC hb2
        have HC := Lib.hid hC.out
        have y0 := HB.out u hC.out.1
        clear hC hb2
        go_wp2
        go_ret
        exact ⟨by rw [HN.out]; rfl, HC.out.1⟩
    · have hdl : decide ((j : Int) < (l.length : Int)) = false := by simp; omega
      have HN := Lib.hid (show R = true by rw [HH.out.2, List.drop_eq_nil_of_le (by omega)]; rfl)
      go_wp2
      go_ret
      exact ⟨by rw [HN.out]; rfl, HH.out.1.1⟩
end Go.Proofs.YtkcnknhhabbomaaDoor

