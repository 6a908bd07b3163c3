/-
  WHAT Nodes, Deep, May OF PACKAGE rx ANSWER: contracts. Condition: the tree is at most 2^40 deep.
-/
import Derived.Test.YtngagijcdehjpaaWalk
import Derived.Test.YtngagijcdehjpaaMayn
import Derived.Test.YtngagijcdehjpaaRef4b
namespace Go.Proofs.Ytngagijcdehjpaa
open Go.RowKit

def nodesS : List Row → Nat
  | [] => 0
  | r :: st => nodesL r.1 + nodesS st
theorem nodesS_push (t : Tree) (s : List Tree) (b o b' o' o2 : Nat) (st : List Row) : nodesS ((t :: s, b, o) :: st) = nodesS ((t.sub, b', o') :: (s, b, o2) :: st) + 1 := by
  cases t with
  | node k m l lo hi => simp only [nodesS, nodesL, Tree.nodes, Tree.sub]; omega

attribute [local go_sem] Oper.semAt_some

theorem wrap_add1 (x : Nat) : wrap64 (wrap64 (x : Int) + 1) = wrap64 ((x + 1 : Nat) : Int) := by unfold wrap64; omega

/-- the world behind 'w := walker{re}', a box ahead and one behind -/
theorem start_rows {w : World} {T : Tree} {cs : List Value} (hT : T.At w (.agg cs.toArray)) (h8 : cs.length = 8) (y : Value) (t : TypeId) :
    RowsIn w [([T], w.heap.size + 1, 0)] (((w.alloc (.cells cs.toArray 31)).alloc (.cells cs.toArray 31)).alloc (.cells #[y] t)) ∧
      BlkIs (((w.alloc (.cells cs.toArray 31)).alloc (.cells cs.toArray 31)).alloc (.cells #[y] t)) (w.heap.size + 2) t #[y] ∧ (((w.alloc (.cells cs.toArray 31)).alloc (.cells cs.toArray 31)).alloc (.cells #[y] t)).heap.size = w.heap.size + 3 := by
  have h1 := (BlkIs.new (w.alloc (.cells cs.toArray 31)) 31 cs.toArray).alloc (.cells #[y] t)
  have h2 := BlkIs.new ((w.alloc (.cells cs.toArray 31)).alloc (.cells cs.toArray 31)) t #[y]
  rw [World.size_alloc] at h1
  rw [World.size_alloc, World.size_alloc] at h2
  refine ⟨RowsIn.start hT h8 ((((Below.refl _ _).alloc (Nat.le_refl _) _).alloc (by simp) _).alloc (by simp; omega) _) h1, h2, by simp⟩

/-- a body that writes one box of its own keeps the trees and the iterator's rows -/
theorem keeps_set {w0 W : World} {g : Nat} {t : TypeId} {cs : Array Value} (hb : BlkIs W g t cs) (hg : w0.heap.size ≤ g) (h1 : t ≠ 31) (i : Nat) (v : Value) : KeepsTrees w0 W (W.setCell ⟨g, i, none⟩ v) := by
  refine ⟨(Below.refl _ W).setCell (p := ⟨g, i, none⟩) hg v, fun k c hk => (Below.heap_setCell W ⟨g, i, none⟩ v k (fun e => ?_)).trans hk⟩
  dsimp only at e
  subst e
  have := hk.symm.trans (show W.heap[k]? = some (.cells cs t (0, 0)) from hb)
  injection this with this
  injection this with _ e
  exact h1 e.symm
theorem keepsRows_set {W : World} {g : Nat} {t : TypeId} {cs : Array Value} (hb : BlkIs W g t cs) (h1 : t ≠ 29) (i : Nat) (v : Value) : KeepsRows W (W.setCell ⟨g, i, none⟩ v) := by
  refine ⟨(KeepsOthers.setCell W _ v).size, fun k c hk => (Below.heap_setCell W ⟨g, i, none⟩ v k (fun e => ?_)).trans hk⟩
  dsimp only at e
  subst e
  have := hk.symm.trans (show W.heap[k]? = some (.cells cs t (0, 0)) from hb)
  injection this with this
  injection this with _ e
  exact h1 e.symm

/-- so many nodes are counted -/
def CountJ (w : World) (N : Nat) (st : List Row) (W : World) : Prop := RowsIn w st W ∧ ∃ x : Nat, x + nodesS st = N ∧ BlkIs W (w.heap.size + 2) 3 #[.int .i64 (wrap64 (x : Nat))]

/-- how deep what is ahead reaches -/
def deepS : List Row → Nat
  | [] => 0
  | r :: st => max (if r.1 = [] then 0 else st.length + deepL r.1) (deepS st)
theorem deepS_push (t : Tree) (s : List Tree) (b o b' o' o2 : Nat) (st : List Row) : max (st.length + 1) (deepS ((t.sub, b', o') :: (s, b, o2) :: st)) = deepS ((t :: s, b, o) :: st) := by
  cases t with
  | node k m l lo hi =>
    simp only [deepS, deepL, Tree.deepN, Tree.sub, List.length_cons]
    cases l with
    | nil => cases s <;> simp [deepL] <;> omega
    | cons a l => cases s <;> simp [deepL] <;> omega
theorem deepS_some (t : Tree) (s : List Tree) (b o : Nat) (st : List Row) : st.length + 1 ≤ deepS ((t :: s, b, o) :: st) := by
  cases t with
  | node k m l lo hi => simp [deepS, deepL, Tree.deepN]; omega
/-- the deepest till now -/
def DeepJ (w : World) (N : Nat) (st : List Row) (W : World) : Prop := RowsIn w st W ∧ ∃ x : Nat, max x (deepS st) = N ∧ BlkIs W (w.heap.size + 2) 3 #[.int .i64 (x : Nat)]

set_option maxRecDepth 100000 in
set_option maxHeartbeats 1000000 in
theorem deep_any (T : Tree) (v : Value) (w : World) (hat : T.At w v) (hd : T.deepN ≤ 1099511627776) :
    Calls Try.prog 30 #[v] w fun e w' => e = .returned (.int .i64 (T.deepN : Nat)) ∧ Below w.heap.size w w' := by
  cases T with
  | node k m l lo hi =>
  obtain ⟨A, c, rfl, _, _⟩ := hat.open
  have HAT := Lib.hid hat
  clear hat
  unfold reV reL at *
  refine (callsIn_wide (n := 3)).1 ?_
  refine callsIn_of_wp_marks Try.func30 rfl trivial ?_ rfl
  simp only [Try.ntmps30, List.size_toArray, List.length_cons, List.length_nil, Nat.reduceAdd, Nat.reduceSub, Array.replicate_succ, Array.replicate_zero, List.push_toArray, List.append_toArray, List.nil_append, List.cons_append]
  refine wpIn_wide.2 ?_
  go_wp2
  have hs := start_rows (cs := reL k m A l.length c lo hi) (by unfold reL; exact HAT.out) rfl (.int .i64 0) 3
  unfold reL at hs
  generalize ((w.alloc _).alloc _).alloc _ = W2 at *
  have HS := Lib.hid hs
  have hsz := hs.2.2
  clear hs
  refine (wpIn_wide (n := 3)).1 ?_
  refine range_nodes 3 (by omega) 1099511627776 (Nat.le_refl _) (.slice (some ⟨w.heap.size + 1, 0, none⟩) 1 1) rfl (DeepJ w (Tree.node k m l lo hi).deepN) (fun _ _ => False) ?hJ (fun _ _ _ h _ => h.elim) ?pop
    [Tree.node k m l lo hi] (w.heap.size + 1) 0 ⟨_, _, rfl, Nat.le_refl _, by omega, fun _ => rfl⟩ (by simpa [deepL] using hd) ?start
    (fun b o d => { tmps := #[.agg #[.int .i64 k, .int .u64 (wd m 0 : Nat), .int .u64 (wd m 1 : Nat), .int .u64 (wd m 2 : Nat), .int .u64 (wd m 3 : Nat), .slice A l.length c, .int .i64 lo, .int .i64 hi], .pointer (some ⟨w.heap.size, 0, none⟩), .int .i64 0,
      .slice (some ⟨w.heap.size + 1, 0, none⟩) 1 1, .pointer (some ⟨w.heap.size + 1 + 1, 0, none⟩), undef, .int .i64 ((d : Int) + 1), .agg #[.int .i64 k, .int .u64 (wd m 0 : Nat), .int .u64 (wd m 1 : Nat), .int .u64 (wd m 2 : Nat), .int .u64 (wd m 3 : Nat), .slice A l.length c, .int .i64 lo, .int .i64 hi],
      .slice (some ⟨w.heap.size + 1, 0, none⟩) 1 1, .slice (some ⟨w.heap.size + 1, 0, none⟩) 1 1, .func (.func 37) #[.slice (some ⟨w.heap.size + 1, 0, none⟩) 1 1] #[], .pointer (some ⟨b, o, none⟩), .int .i64 ((d : Int) + 1), undef, undef, undef, undef], defers := [] })
    ?assign ?body ?done ?stop
  case hJ =>
    rintro st X Y ⟨h1, x, h2, h3⟩ hl
    exact ⟨h1.loose hl (by omega), x, h2, hl.blk h3 (by decide)⟩
  case pop =>
    rintro b o st X ⟨h1, x, h2, h3⟩
    exact ⟨h1.pop, x, by simpa [deepS, deepL] using h2, h3⟩
  case start => exact ⟨HS.out.1, 0, by simp [deepS, deepL], HS.out.2.1⟩
  case assign =>
    intro l b o d W K hK
    gi_wp2
    exact hK
  case body =>
    rintro l' t s b o st W hsz' hlen ⟨h1, x, h2, h3⟩
    have c0 := h3.cell 0
    have f0 := h3.frozen 0
    simp only [List.getElem?_toArray, List.getElem?_cons_zero] at c0
    have hmx : (if ((x : Nat) : Int) < ((st.length : Nat) : Int) + 1 then ((st.length : Nat) : Int) + 1 else ((x : Nat) : Int)) = ((max x (st.length + 1) : Nat) : Int) := by split <;> omega
    gi_wp2
    refine ⟨KeepsOthers.setCell _ _ _, keepsRows_set h3 (by decide) _ _, h1.told (keeps_set h3 (by omega) (by decide) _ _) fun b' o' hr => ⟨hr, max x (st.length + 1), by have := deepS_push t s b o b' o' (o + 8) st; omega, ?_⟩⟩
    simpa using h3.put 0 (.int .i64 ((max x (st.length + 1) : Nat) : Int))
  case done =>
    rintro d W hd' ⟨h1, x, h2, h3⟩ hk
    have c0 := h3.cell 0
    simp only [List.getElem?_toArray, List.getElem?_cons_zero] at c0
    go_wp2
    refine ⟨by simp, .inl ⟨_, _, rfl, run_takeDeferred hk, ?_⟩⟩
    refine ⟨_, results_tmp rfl _ _ _, ?_, h1.1.trans (belowK_b (w := w) (Nat.le_refl _) W d _ (.deferred none) (by omega) hk rfl rfl)⟩
    simp only [deepS, Nat.max_zero] at h2
    subst h2
    rfl
  case stop => exact fun _ _ _ h _ => h.elim

end Go.Proofs.Ytngagijcdehjpaa

