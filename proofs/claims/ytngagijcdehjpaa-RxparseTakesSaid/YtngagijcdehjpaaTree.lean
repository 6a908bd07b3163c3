/-
  TREES (api.Re) AS DATA: a tree, how it lies in memory, what keeps it there; how an argument is opened. No condition.
-/
import Derived.Test.YtngagijcdehjpaaRows
import Derived.Test.YtngagijcdehjpaaKit
import Derived.Test.YtngagijcdehjpaaBools
import Derived.Test.YtngagijcdehjpaaOcts2
import Derived.Lib.Hide
import Derived.Deep.SlicePairs
import Derived.ChangeSlices
import Derived.OpenShut
namespace Go.Proofs.Ytngagijcdehjpaa
open Go.RowKit

inductive Tree where
  | node (kind : Int) (m : Nat → Bool) (sub : List Tree) (lo hi : Int)

theorem Tree.ind {C : Tree → Prop} (h : ∀ k m l lo hi, (∀ t ∈ l, C t) → C (.node k m l lo hi)) : ∀ T, C T
  | .node k m l lo hi => h k m l lo hi fun t _ => Tree.ind h t
termination_by T => SizeOf.sizeOf T

namespace Tree
def kind : Tree → Int | .node k _ _ _ _ => k
def set : Tree → Nat → Bool | .node _ m _ _ _ => m
def sub : Tree → List Tree | .node _ _ l _ _ => l
def lo : Tree → Int | .node _ _ _ a _ => a
def hi : Tree → Int | .node _ _ _ _ b => b
end Tree

/-- a node's value -/
def reL (k : Int) (m : Nat → Bool) (A : Option Addr) (n c : Nat) (lo hi : Int) : List Value :=
  [.int .i64 k, .int .u64 (wd m 0 : Nat), .int .u64 (wd m 1 : Nat), .int .u64 (wd m 2 : Nat), .int .u64 (wd m 3 : Nat), .slice A n c, .int .i64 lo, .int .i64 hi]
def reV (k : Int) (m : Nat → Bool) (A : Option Addr) (n c : Nat) (lo hi : Int) : Value := .agg (reL k m A n c lo hi).toArray

mutual
/-- v is the tree in W -/
def Tree.At (W : World) : Tree → Value → Prop
  | .node k m l lo hi, v => ∃ A c, v = reV k m A l.length c lo hi ∧ (l.length ≤ c ∧ c ≤ 9223372036854775807) ∧ (l ≠ [] → ∃ b o, A = some ⟨b, o, none⟩ ∧ AllAt W l b o)
/-- trees one behind the other from place o of block b on -/
def AllAt (W : World) : List Tree → Nat → Nat → Prop
  | [], _, _ => True
  | t :: r, b, o => (∃ cs : List Value, Tree.At W t (.agg cs.toArray) ∧ cs.length = 8 ∧ W.rangeAt b o cs) ∧ AllAt W r b (o + 8)
end

theorem AllAt.get {W : World} : ∀ (l : List Tree) (b o : Nat), AllAt W l b o → ∀ (i : Nat) (h : i < l.length), ∃ cs : List Value, Tree.At W l[i] (.agg cs.toArray) ∧ cs.length = 8 ∧ W.rangeAt b (o + i * 8) cs
  | [], _, _, _, i, h => by simp at h
  | t :: r, b, o, ha, i, h => by
    unfold AllAt at ha
    cases i with
    | zero => simpa using ha.1
    | succ i =>
      have := AllAt.get r b (o + 8) ha.2 i (by simpa using h)
      rw [show o + (i + 1) * 8 = o + 8 + i * 8 by omega]
      simpa using this
theorem AllAt.mk {W : World} : ∀ (l : List Tree) (b o : Nat), (∀ (i : Nat) (h : i < l.length), ∃ cs : List Value, Tree.At W l[i] (.agg cs.toArray) ∧ cs.length = 8 ∧ W.rangeAt b (o + i * 8) cs) → AllAt W l b o
  | [], _, _, _ => by unfold AllAt; trivial
  | t :: r, b, o, ha => by
    unfold AllAt
    refine ⟨by have := ha 0 (by simp); rw [Nat.zero_mul, Nat.add_zero] at this; exact this, AllAt.mk r b (o + 8) fun i h => ?_⟩
    have := ha (i + 1) (by simpa using h)
    rw [show o + (i + 1) * 8 = o + 8 + i * 8 by omega] at this
    simpa using this

theorem rangeAt_step {W W' : World} {b o : Nat} {cs : List Value} (h : W.rangeAt b o cs) (hn : cs ≠ []) (hb : Below W.heap.size W W') : W'.rangeAt b o cs := by
  obtain ⟨v, r, rfl⟩ := List.exists_cons_of_ne_nil hn
  have hlt : b < W.heap.size := World.block_lt_of_cell? W ⟨b, o + 0, none⟩ (h 0 v rfl)
  intro j x hx
  exact (hb.cell (p := ⟨b, o + j, none⟩) hlt).trans (h j x hx)

theorem Tree.At.step {W W' : World} (hb : Below W.heap.size W W') : ∀ (T : Tree) {v : Value}, Tree.At W T v → Tree.At W' T v := by
  intro T
  induction T using Tree.ind with
  | h k m l lo hi ih =>
    intro v h
    unfold Tree.At at h ⊢
    obtain ⟨A, c, rfl, hc, hs⟩ := h
    refine ⟨A, c, rfl, hc, fun hne => ?_⟩
    obtain ⟨b, o, rfl, ha⟩ := hs hne
    refine ⟨b, o, rfl, AllAt.mk l b o fun i hi => ?_⟩
    obtain ⟨cs, h1, h2, h3⟩ := AllAt.get l b o ha i hi
    exact ⟨cs, ih _ (List.getElem_mem hi) h1, h2, rangeAt_step h3 (by intro e; subst e; simp at h2) hb⟩

/-- a block of eight cells -/
theorem BlkIs.eight {w : World} {g : Nat} {t : TypeId} {a b c d e f x y : Value} (h : BlkIs w g t #[a, b, c, d, e, f, x, y]) : w.cell? ⟨g, 0, none⟩ = some a ∧ w.cell? ⟨g, 1, none⟩ = some b ∧ w.cell? ⟨g, 2, none⟩ = some c ∧ w.cell? ⟨g, 3, none⟩ = some d ∧
    w.cell? ⟨g, 4, none⟩ = some e ∧ w.cell? ⟨g, 5, none⟩ = some f ∧ w.cell? ⟨g, 6, none⟩ = some x ∧ w.cell? ⟨g, 7, none⟩ = some y :=
  ⟨h.cell 0, h.cell 1, h.cell 2, h.cell 3, h.cell 4, h.cell 5, h.cell 6, h.cell 7⟩

/-- a node's value, cell by cell, is that of a list of eight -/
theorem Tree.At.eight {W : World} {T : Tree} {cs : List Value} (h : Tree.At W T (.agg cs.toArray)) : ∃ A n c, cs = reL T.kind T.set A n c T.lo T.hi := by
  cases T with
  | node k m l lo hi =>
    unfold Tree.At at h
    obtain ⟨A, c, he, _⟩ := h
    unfold reV at he
    injection he with he
    exact ⟨A, l.length, c, by have := congrArg Array.toList he; simp only at this; exact this⟩

/-- the eight cells of a node in a slice -/
theorem row_eight {W W' : World} {b o : Nat} {k lo hi : Int} {m : Nat → Bool} {A : Option Addr} {n c : Nat} (h : W.rangeAt b o (reL k m A n c lo hi)) (hb : Below W.heap.size W W') :
    W'.cell? ⟨b, o, none⟩ = some (.int .i64 k) ∧ W'.cell? ⟨b, o + 1, none⟩ = some (.int .u64 (wd m 0 : Nat)) ∧ W'.cell? ⟨b, o + 2, none⟩ = some (.int .u64 (wd m 1 : Nat)) ∧ W'.cell? ⟨b, o + 3, none⟩ = some (.int .u64 (wd m 2 : Nat)) ∧
    W'.cell? ⟨b, o + 4, none⟩ = some (.int .u64 (wd m 3 : Nat)) ∧ W'.cell? ⟨b, o + 5, none⟩ = some (.slice A n c) ∧ W'.cell? ⟨b, o + 6, none⟩ = some (.int .i64 lo) ∧ W'.cell? ⟨b, o + 7, none⟩ = some (.int .i64 hi) := by
  have h2 := rangeAt_step h (by simp [reL]) hb
  exact ⟨h2 0 _ rfl, h2 1 _ rfl, h2 2 _ rfl, h2 3 _ rfl, h2 4 _ rfl, h2 5 _ rfl, h2 6 _ rfl, h2 7 _ rfl⟩

/-- a node taken apart -/
theorem Tree.At.open {W : World} {k : Int} {m : Nat → Bool} {l : List Tree} {lo hi : Int} {v : Value} (h : Tree.At W (.node k m l lo hi) v) :
    ∃ A c, v = reV k m A l.length c lo hi ∧ (l.length ≤ c ∧ c ≤ 9223372036854775807) ∧ (l ≠ [] → ∃ b o, A = some ⟨b, o, none⟩ ∧ b < W.heap.size ∧ ∀ (i : Nat) (h : i < l.length), ∃ cs : List Value, Tree.At W l[i] (.agg cs.toArray) ∧ cs.length = 8 ∧ W.rangeAt b (o + i * 8) cs) := by
  unfold Tree.At at h
  obtain ⟨A, c, rfl, hc, hs⟩ := h
  refine ⟨A, c, rfl, hc, fun hne => ?_⟩
  obtain ⟨b, o, rfl, ha⟩ := hs hne
  have hg := AllAt.get l b o ha
  refine ⟨b, o, rfl, ?_, hg⟩
  have h0 : 0 < l.length := List.length_pos_iff.2 hne
  obtain ⟨cs, _, h2, h3⟩ := hg 0 h0
  obtain ⟨x, r, rfl⟩ : ∃ x r, cs = x :: r := List.exists_cons_of_ne_nil (by intro e; subst e; simp at h2)
  exact World.block_lt_of_cell? W ⟨b, o + 0 * 8 + 0, none⟩ (h3 0 x rfl)

/-! ### sets compared -/
theorem ne_set (m n : Nat → Bool) (w : World) : (binOp .neq 28 (setV m) (setV n)).run Try.prog w = .ok (.bool (!setEq m n)) w := by
  have h := eql_set m n w
  have h1 := run_eql_struct (P := Try.prog) w 28 #[.int .u64 (wd m 0 : Nat), .int .u64 (wd m 1 : Nat), .int .u64 (wd m 2 : Nat), .int .u64 (wd m 3 : Nat)]
      #[.int .u64 (wd n 0 : Nat), .int .u64 (wd n 1 : Nat), .int .u64 (wd n 2 : Nat), .int .u64 (wd n 3 : Nat)]
  have h2 := run_neq_struct (P := Try.prog) w 28 #[.int .u64 (wd m 0 : Nat), .int .u64 (wd m 1 : Nat), .int .u64 (wd m 2 : Nat), .int .u64 (wd m 3 : Nat)]
      #[.int .u64 (wd n 0 : Nat), .int .u64 (wd n 1 : Nat), .int .u64 (wd n 2 : Nat), .int .u64 (wd n 3 : Nat)]
  have h3 := h1.symm.trans h
  refine h2.trans ?_
  generalize (Op.equalIn 10000 28 _ _).run Try.prog w = r at *
  cases r with
  | ok b w' =>
    simp only [Result.andThen_ok, Result.ok.injEq, Value.bool.injEq] at h3
    obtain ⟨rfl, rfl⟩ := h3
    rfl
  | halt x w' => simp [Result.andThen] at h3
end Go.Proofs.Ytngagijcdehjpaa

