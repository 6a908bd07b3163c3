/-
  WHAT hackleref04's May and Same ANSWER, at every tree: contracts. No condition.
-/
import Derived.Test.YtojejnjjenmfaaaQG03
import Derived.Test.YtojejnjjenmfaaaQG02
import Derived.Test.YtojejnjjenmfaaaQG09
import Derived.Test.YtojejnjjenmfaaaQMayn
namespace Go.Proofs.Ytojejnjjenmfaaa
open Go.RowKit

def Tree.may (T : Tree) : Bool := decide (wrap64 (T.nodes : Int) ≤ 300) && (decide (T.deepW ≤ 30) && T.ok)

theorem wrap_is (x : Int) : IntKind.i64.wrap x = wrap64 x := by unfold wrap64; exact IntKind.wrap_i64 x

set_option maxHeartbeats 1000000 in
theorem refMayRe_any (T : Tree) (v : Value) (w : World) (hat : T.At w v) : Calls Try.prog 9 #[v] w fun e w' => e = .returned (.bool T.may) ∧ Below w.heap.size w w' := by
  have H1 := Lib.hid (fun W (h : T.At W v) => refNodes_any T v W h)
  have H2 := Lib.hid (fun W (h : T.At W v) => refDeep_any T v W h)
  have H3 := Lib.hid (fun W (h : T.At W v) => refNode_any T v W h)
  simp only [wrap_is] at H1
  unfold Tree.may
  cases T with
  | node k m l lo hi =>
  have HAT := Lib.hid hat
  obtain ⟨A, c, rfl, _, _⟩ := hat.open
  generalize wrap64 ((Tree.node k m l lo hi).nodes : Int) = n at *
  generalize (Tree.node k m l lo hi).deepW = d at *
  generalize (Tree.node k m l lo hi).ok = q at *
  clear hat
  unfold reV reL at *
  have HA1 : ∀ u, Below w.heap.size w u → Tree.At u (.node k m l lo hi) (.agg (reL k m A l.length c lo hi).toArray) := fun u hb => HAT.out.step hb
  unfold reL at HA1
  have HAA := Lib.hid HA1
  clear HA1 HAT
  by_cases h1 : n ≤ 300
  · have e1 : decide (n ≤ 300) = true := by simp [h1]
    by_cases h2 : d ≤ 30
    · have e2 : decide (d ≤ 30) = true := by simp [h2]
      rw [e1, e2, Bool.true_and, Bool.true_and]
      go_enter Try.func9, Try.ntmps9
      go_wp2_with fail
      have hB0 : Below w.heap.size w (w.alloc (.cells (reL k m A l.length c lo hi).toArray 39)) := (Below.refl _ _).alloc (Nat.le_refl _) _
      have hX0 := BlkIs.new w 39 (reL k m A l.length c lo hi).toArray
      unfold reL at hB0 hX0
      refine (H1.out _ (HAA.out _ hB0)).mono ?_
      rintro e w1 ⟨rfl, hb1⟩
      have HB1 := Lib.hid (hB0.trans (hb1.mono hB0.size))
      have HX1 := hX0.step hb1
      obtain ⟨c0, c1, c2, c3, c4, c5, c6, c7⟩ := HX1.eight
      have HXX := Lib.hid HX1
      clear hb1 hB0 hX0 HX1
      go_wp2_with fail
      refine (H2.out _ (HAA.out _ HB1.out)).mono ?_
      rintro e w2 ⟨rfl, hb2⟩
      have HB2 := Lib.hid (HB1.out.trans (hb2.mono HB1.out.size))
      have HX2 := HXX.out.step hb2
      clear c0 c1 c2 c3 c4 c5 c6 c7
      obtain ⟨c0, c1, c2, c3, c4, c5, c6, c7⟩ := HX2.eight
      clear hb2 HX2
      go_wp2_with fail
      refine (H3.out _ (HAA.out _ HB2.out)).mono ?_
      rintro e w3 ⟨rfl, hb3⟩
      have HB3 := Lib.hid (HB2.out.trans (hb3.mono HB2.out.size))
      clear hb3
      go_wp2
      go_ret
      exact ⟨rfl, HB3.out⟩
    · have e2 : decide (d ≤ 30) = false := by simp; omega
      rw [e1, e2, Bool.true_and, Bool.false_and]
      go_enter Try.func9, Try.ntmps9
      go_wp2_with fail
      have hB0 : Below w.heap.size w (w.alloc (.cells (reL k m A l.length c lo hi).toArray 39)) := (Below.refl _ _).alloc (Nat.le_refl _) _
      have hX0 := BlkIs.new w 39 (reL k m A l.length c lo hi).toArray
      unfold reL at hB0 hX0
      refine (H1.out _ (HAA.out _ hB0)).mono ?_
      rintro e w1 ⟨rfl, hb1⟩
      have HB1 := Lib.hid (hB0.trans (hb1.mono hB0.size))
      have HX1 := hX0.step hb1
      obtain ⟨c0, c1, c2, c3, c4, c5, c6, c7⟩ := HX1.eight
      clear hb1 hB0 hX0 HX1
      go_wp2_with fail
      refine (H2.out _ (HAA.out _ HB1.out)).mono ?_
      rintro e w2 ⟨rfl, hb2⟩
      have HB2 := Lib.hid (HB1.out.trans (hb2.mono HB1.out.size))
      clear hb2
      go_wp2
      go_ret
      exact ⟨rfl, HB2.out⟩
  · have e1 : decide (n ≤ 300) = false := by simp; omega
    rw [e1, Bool.false_and]
    go_enter Try.func9, Try.ntmps9
    go_wp2_with fail
    have hB0 : Below w.heap.size w (w.alloc (.cells (reL k m A l.length c lo hi).toArray 39)) := (Below.refl _ _).alloc (Nat.le_refl _) _
    unfold reL at hB0
    refine (H1.out _ (HAA.out _ hB0)).mono ?_
    rintro e w1 ⟨rfl, hb1⟩
    have HB1 := Lib.hid (hB0.trans (hb1.mono hB0.size))
    clear hb1 hB0
    go_wp2
    go_ret
    exact ⟨rfl, HB1.out⟩

mutual
def Tree.same : Tree → Tree → Bool
  | .node k m l lo hi, .node k' m' l' lo' hi' => (k == k' && (setEq m m' && (lo == lo' && (hi == hi' && l.length == l'.length)))) && sameL l l'
def sameL : List Tree → List Tree → Bool
  | [], _ => true
  | _ :: _, [] => true
  | t :: r, t' :: r' => t.same t' && sameL r r'
end
theorem sameL_iff : ∀ {l l' : List Tree}, sameL l l' = true ↔ ∀ i (h : i < l.length) (h' : i < l'.length), (l[i]).same l'[i] = true
  | [], _ => by simp [sameL]
  | _ :: _, [] => by simp [sameL]
  | t :: r, t' :: r' => by
    simp only [sameL, Bool.and_eq_true, sameL_iff (l := r) (l' := r')]
    constructor
    · rintro ⟨h1, h2⟩ i h h'
      cases i with
      | zero => exact h1
      | succ i => exact h2 i (by simpa using h) (by simpa using h')
    · intro h
      exact ⟨h 0 (by simp) (by simp), fun i h1 h2 => h (i + 1) (by simpa using h1) (by simpa using h2)⟩
theorem sameL_take {l l' : List Tree} {j : Nat} (h : j < l.length) (h' : j < l'.length) (ha : sameL (l.take j) (l'.take j) = true) (hx : (l[j]).same l'[j] = true) : sameL (l.take (j + 1)) (l'.take (j + 1)) = true := by
  rw [sameL_iff] at ha ⊢
  intro i h1 h2
  rw [List.length_take] at h1 h2
  rw [List.getElem_take, List.getElem_take]
  by_cases e : i = j
  · subst e; exact hx
  · have := ha i (by rw [List.length_take]; omega) (by rw [List.length_take]; omega)
    rw [List.getElem_take, List.getElem_take] at this
    exact this
theorem sameL_bad {l l' : List Tree} {j : Nat} (h : j < l.length) (h' : j < l'.length) (hx : (l[j]).same l'[j] = false) : sameL l l' = false := by
  rw [Bool.eq_false_iff]; intro ha
  rw [sameL_iff] at ha
  rw [ha j h h'] at hx; cases hx
def headEq (k : Int) (m : Nat → Bool) (n : Nat) (lo hi k' : Int) (m' : Nat → Bool) (n' : Nat) (lo' hi' : Int) : Bool := k == k' && (setEq m m' && (lo == lo' && (hi == hi' && n == n')))
theorem same_eq (k : Int) (m : Nat → Bool) (l : List Tree) (lo hi k' : Int) (m' : Nat → Bool) (l' : List Tree) (lo' hi' : Int) :
    Tree.same (.node k m l lo hi) (.node k' m' l' lo' hi') = (headEq k m l.length lo hi k' m' l'.length lo' hi' && sameL l l') := by
  unfold Tree.same headEq; rfl

end Go.Proofs.Ytojejnjjenmfaaa

/-
  WHAT Nodes, Deep, May OF PACKAGE rx ANSWER: contracts. Condition: the tree is at most 2^40 deep.
-/
namespace Go.Proofs.Ytojejnjjenmfaaa
open Go.RowKit

def nodesS : List Row → Nat
  | [] => 0
  | r :: st => nodesL r.1 + nodesS st
theorem nodesS_push (t : Tree) (s : List Tree) (b o b' o' o2 : Nat) (st : List Row) : nodesS ((t :: s, b, o) :: st) = nodesS ((t.sub, b', o') :: (s, b, o2) :: st) + 1 := by
  cases t with
  | node k m l lo hi => simp only [nodesS, nodesL, Tree.nodes, Tree.sub]; omega

attribute [local go_sem] Oper.semAt_some

theorem wrap_add1 (x : Nat) : wrap64 (wrap64 (x : Int) + 1) = wrap64 ((x + 1 : Nat) : Int) := by unfold wrap64; omega

/-- the world behind 'w := walker{re}', a box ahead and one behind -/
theorem start_rows {w : World} {T : Tree} {cs : List Value} (hT : T.At w (.agg cs.toArray)) (h8 : cs.length = 8) (y : Value) (t : TypeId) :
    RowsIn w [([T], w.heap.size + 1, 0)] (((w.alloc (.cells cs.toArray 39)).alloc (.cells cs.toArray 39)).alloc (.cells #[y] t)) ∧
      BlkIs (((w.alloc (.cells cs.toArray 39)).alloc (.cells cs.toArray 39)).alloc (.cells #[y] t)) (w.heap.size + 2) t #[y] ∧ (((w.alloc (.cells cs.toArray 39)).alloc (.cells cs.toArray 39)).alloc (.cells #[y] t)).heap.size = w.heap.size + 3 := by
  have h1 := (BlkIs.new (w.alloc (.cells cs.toArray 39)) 39 cs.toArray).alloc (.cells #[y] t)
  have h2 := BlkIs.new ((w.alloc (.cells cs.toArray 39)).alloc (.cells cs.toArray 39)) t #[y]
  rw [World.size_alloc] at h1
  rw [World.size_alloc, World.size_alloc] at h2
  refine ⟨RowsIn.start hT h8 ((((Below.refl _ _).alloc (Nat.le_refl _) _).alloc (by simp) _).alloc (by simp; omega) _) h1, h2, by simp⟩

/-- a body that writes one box of its own keeps the trees and the iterator's rows -/
theorem keeps_set {w0 W : World} {g : Nat} {t : TypeId} {cs : Array Value} (hb : BlkIs W g t cs) (hg : w0.heap.size ≤ g) (h1 : t ≠ 39) (i : Nat) (v : Value) : KeepsTrees w0 W (W.setCell ⟨g, i, none⟩ v) := by
  refine ⟨(Below.refl _ W).setCell (p := ⟨g, i, none⟩) hg v, fun k c hk => (Below.heap_setCell W ⟨g, i, none⟩ v k (fun e => ?_)).trans hk⟩
  dsimp only at e
  subst e
  have := hk.symm.trans (show W.heap[k]? = some (.cells cs t (0, 0)) from hb)
  injection this with this
  injection this with _ e
  exact h1 e.symm
theorem keepsRows_set {W : World} {g : Nat} {t : TypeId} {cs : Array Value} (hb : BlkIs W g t cs) (h1 : t ≠ 22) (i : Nat) (v : Value) : KeepsRows W (W.setCell ⟨g, i, none⟩ v) := by
  refine ⟨(KeepsOthers.setCell W _ v).size, fun k c hk => (Below.heap_setCell W ⟨g, i, none⟩ v k (fun e => ?_)).trans hk⟩
  dsimp only at e
  subst e
  have := hk.symm.trans (show W.heap[k]? = some (.cells cs t (0, 0)) from hb)
  injection this with this
  injection this with _ e
  exact h1 e.symm

/-- so many nodes are counted -/
def CountJ (w : World) (N : Nat) (st : List Row) (W : World) : Prop := RowsIn w st W ∧ ∃ x : Nat, x + nodesS st = N ∧ BlkIs W (w.heap.size + 2) 3 #[.int .i64 (wrap64 (x : Nat))]

/-- how deep what is ahead reaches -/
def deepS : List Row → Nat
  | [] => 0
  | r :: st => max (if r.1 = [] then 0 else st.length + deepL r.1) (deepS st)
theorem deepS_push (t : Tree) (s : List Tree) (b o b' o' o2 : Nat) (st : List Row) : max (st.length + 1) (deepS ((t.sub, b', o') :: (s, b, o2) :: st)) = deepS ((t :: s, b, o) :: st) := by
  cases t with
  | node k m l lo hi =>
    simp only [deepS, deepL, Tree.deepN, Tree.sub, List.length_cons]
    cases l with
    | nil => cases s <;> simp [deepL] <;> omega
    | cons a l => cases s <;> simp [deepL] <;> omega
theorem deepS_some (t : Tree) (s : List Tree) (b o : Nat) (st : List Row) : st.length + 1 ≤ deepS ((t :: s, b, o) :: st) := by
  cases t with
  | node k m l lo hi => simp [deepS, deepL, Tree.deepN]; omega
/-- the deepest till now -/
def DeepJ (w : World) (N : Nat) (st : List Row) (W : World) : Prop := RowsIn w st W ∧ ∃ x : Nat, max x (deepS st) = N ∧ BlkIs W (w.heap.size + 2) 3 #[.int .i64 (x : Nat)]

end Go.Proofs.Ytojejnjjenmfaaa

/-
  WHAT May OF PACKAGE rx ANSWERS: a contract. Condition: the tree is at most 2^40 deep.
-/
namespace Go.Proofs.Ytojejnjjenmfaaa
open Go.RowKit

attribute [local go_sem] Oper.semAt_some

/-! ### May -/
def okS : List Row → Bool
  | [] => true
  | r :: st => allOk r.1 && okS st
theorem okS_push (t : Tree) (s : List Tree) (b o b' o' o2 : Nat) (st : List Row) : okS ((t :: s, b, o) :: st) = (okNode t.kind t.set t.sub.length t.lo t.hi && okS ((t.sub, b', o') :: (s, b, o2) :: st)) := by
  cases t with
  | node k m l lo hi =>
    simp only [okS, allOk, Tree.ok, Tree.sub, Tree.kind, Tree.set, Tree.lo, Tree.hi]
    cases okNode k m l.length lo hi <;> cases allOk l <;> cases allOk s <;> cases okS st <;> rfl
theorem wrap_small (x : Nat) (h : x ≤ 300) : wrap64 ((x : Int) + 1) = (x : Int) + 1 ∧ IntKind.i64.wrap ((x : Int) + 1) = (x : Int) + 1 := by
  constructor
  · unfold wrap64; omega
  · rw [IntKind.wrap_i64]; omega
def Tree.mayN (T : Tree) : Bool := decide (T.nodes ≤ 300) && (decide (T.deepN ≤ 30) && T.ok)
/-- till now all may be -/
def MayJ (w : World) (T : Tree) (st : List Row) (W : World) : Prop := RowsIn w st W ∧ ∃ x : Nat, x + nodesS st = T.nodes ∧ x ≤ 300 ∧ (decide (deepS st ≤ 30) && okS st) = (decide (T.deepN ≤ 30) && T.ok) ∧
  BlkIs W (w.heap.size + 1 + 1 + 1) 3 #[.int .i64 (x : Nat)] ∧ BlkIs W (w.heap.size + 1) 4 #[.bool false]
def MayX (w : World) (T : Tree) (W : World) : Prop := Below w.heap.size w W ∧ T.mayN = false ∧ BlkIs W (w.heap.size + 1) 4 #[.bool false]
theorem others_below {W W' : World} (h : Below W.heap.size W W') : KeepsOthers W W' := ⟨h.size, fun k _ hk _ => (h.block k (Array.getElem?_eq_some_iff.1 hk).1).trans hk⟩
theorem rows_below {W W' : World} (h : Below W.heap.size W W') : KeepsRows W W' := ⟨h.size, fun k _ hk => (h.block k (Array.getElem?_eq_some_iff.1 hk).1).trans hk⟩
theorem load_bool {w : World} {g : Nat} {t : TypeId} {x : Bool} (h : BlkIs w g t #[.bool x]) : (loadVar 4 ⟨g, 0, none⟩).run Try.prog w = .ok (.bool x) w := by
  have c := h.cell 0
  simp at c
  go_simp
theorem blk_putObj {W : World} {l : Nat} {o : Obj} (o' : Obj) {g : Nat} {t : TypeId} {cs : Array Value} (h : BlkIs W g t cs) (hl : W.heap[l]? = some o) (ho : o.isCells = false) : BlkIs (W.putObj l o') g t cs :=
  (World.putObj_heap_other (fun e => by subst e; unfold BlkIs at h; rw [h] at hl; cases hl; cases ho)).trans h

theorem start_rows4 {w : World} {T : Tree} {cs : List Value} (hT : T.At w (.agg cs.toArray)) (h8 : cs.length = 8) :
    RowsIn w [([T], w.heap.size + 1 + 1, 0)] ((((w.alloc (.cells cs.toArray 39)).alloc (.cells #[.bool false] 4)).alloc (.cells cs.toArray 39)).alloc (.cells #[.int .i64 0] 3)) ∧
      BlkIs ((((w.alloc (.cells cs.toArray 39)).alloc (.cells #[.bool false] 4)).alloc (.cells cs.toArray 39)).alloc (.cells #[.int .i64 0] 3)) (w.heap.size + 1 + 1 + 1) 3 #[.int .i64 0] ∧
      BlkIs ((((w.alloc (.cells cs.toArray 39)).alloc (.cells #[.bool false] 4)).alloc (.cells cs.toArray 39)).alloc (.cells #[.int .i64 0] 3)) (w.heap.size + 1) 4 #[.bool false] ∧
      ((((w.alloc (.cells cs.toArray 39)).alloc (.cells #[.bool false] 4)).alloc (.cells cs.toArray 39)).alloc (.cells #[.int .i64 0] 3)).heap.size = w.heap.size + 4 := by
  have h0 := ((BlkIs.new (w.alloc (.cells cs.toArray 39)) 4 #[.bool false]).alloc (.cells cs.toArray 39)).alloc (.cells #[.int .i64 0] 3)
  have h1 := (BlkIs.new ((w.alloc (.cells cs.toArray 39)).alloc (.cells #[.bool false] 4)) 39 cs.toArray).alloc (.cells #[.int .i64 0] 3)
  have h2 := BlkIs.new (((w.alloc (.cells cs.toArray 39)).alloc (.cells #[.bool false] 4)).alloc (.cells cs.toArray 39)) 3 #[.int .i64 0]
  simp only [World.size_alloc] at h0 h1 h2
  refine ⟨RowsIn.start hT h8 (((((Below.refl _ _).alloc (Nat.le_refl _) _).alloc (by simp) _).alloc (by simp; omega) _).alloc (by simp; omega) _) h1, h2, h0, by simp⟩

set_option maxRecDepth 100000 in
set_option maxHeartbeats 2000000 in
theorem may_any (T : Tree) (v : Value) (w : World) (hat : T.At w v) (hd : T.deepN ≤ 1099511627776) :
    Calls Try.prog 37 #[v] w fun e w' => e = .returned (.bool T.mayN) ∧ Below w.heap.size w w' := by
  cases T with
  | node k m l lo hi =>
  obtain ⟨A, c, rfl, _, _⟩ := hat.open
  have HAT := Lib.hid hat
  clear hat
  unfold reV reL at *
  refine (callsIn_wide (n := 3)).1 ?_
  refine callsIn_of_wp_marks Try.func37 rfl trivial ?_ rfl
  simp only [Try.ntmps37, List.size_toArray, List.length_cons, List.length_nil, Nat.reduceAdd, Nat.reduceSub, Array.replicate_succ, Array.replicate_zero, List.push_toArray, List.append_toArray, List.nil_append, List.cons_append]
  refine wpIn_wide.2 ?_
  go_wp2
  have hs := start_rows4 (cs := reL k m A l.length c lo hi) (by unfold reL; exact HAT.out) rfl
  unfold reL at hs
  generalize (((w.alloc _).alloc _).alloc _).alloc _ = W2 at *
  have HS := Lib.hid hs
  have hsz := hs.2.2.2
  clear hs
  refine (wpIn_wide (n := 3)).1 ?_
  refine range_nodes 3 (by omega) 1099511627776 (Nat.le_refl _) (.slice (some ⟨w.heap.size + 1 + 1, 0, none⟩) 1 1) rfl (MayJ w (.node k m l lo hi)) (fun _ => MayX w (.node k m l lo hi)) ?hJ ?hIx ?pop
    [Tree.node k m l lo hi] (w.heap.size + 1 + 1) 0 ⟨_, _, rfl, Nat.le_refl _, by omega, fun _ => rfl⟩ (by simpa [deepL] using hd) ?start
    (fun b o d => { tmps := #[.agg #[.int .i64 k, .int .u64 (wd m 0 : Nat), .int .u64 (wd m 1 : Nat), .int .u64 (wd m 2 : Nat), .int .u64 (wd m 3 : Nat), .slice A l.length c, .int .i64 lo, .int .i64 hi], .pointer (some ⟨w.heap.size, 0, none⟩), .pointer (some ⟨w.heap.size + 1, 0, none⟩),
      .slice (some ⟨w.heap.size + 1 + 1, 0, none⟩) 1 1, .pointer (some ⟨w.heap.size + 1 + 1 + 1, 0, none⟩), .pointer (some ⟨b, o, none⟩), .int .i64 ((d : Int) + 1), .agg #[.int .i64 k, .int .u64 (wd m 0 : Nat), .int .u64 (wd m 1 : Nat), .int .u64 (wd m 2 : Nat), .int .u64 (wd m 3 : Nat), .slice A l.length c, .int .i64 lo, .int .i64 hi],
      .slice (some ⟨w.heap.size + 1 + 1, 0, none⟩) 1 1, .slice (some ⟨w.heap.size + 1 + 1, 0, none⟩) 1 1, .func (.func 57) #[.slice (some ⟨w.heap.size + 1 + 1, 0, none⟩) 1 1] #[], .pointer (some ⟨b, o, none⟩), .int .i64 ((d : Int) + 1), undef, undef, undef, undef, undef, undef, undef, undef, undef, undef, undef, undef, undef, undef, undef], defers := [] })
    ?assign ?body ?done ?stop
  case hJ =>
    rintro st X Y ⟨h1, x, h2, h3, h4, h5, h6⟩ hl
    exact ⟨h1.loose hl (by omega), x, h2, h3, h4, hl.blk h5 (by decide), hl.blk h6 (by decide)⟩
  case hIx =>
    rintro c X Y ⟨h1, h2, h3⟩ hl
    exact ⟨hl.below h1 (by omega) h1.size, h2, hl.blk h3 (by decide)⟩
  case pop =>
    rintro b o st X ⟨h1, x, h2, h3, h4, h5, h6⟩
    exact ⟨h1.pop, x, by simpa [nodesS, nodesL] using h2, h3, by rw [← h4]; simp [deepS, okS, allOk], h5, h6⟩
  case start => exact ⟨HS.out.1, 0, by simp [nodesS, nodesL], by omega, by simp [deepS, deepL, okS, allOk], HS.out.2.1, HS.out.2.2.1⟩
  case assign =>
    intro l b o d W K hK
    gi_wp2
    exact hK
  case body =>
    rintro l' t s b o st W hsz' hlen ⟨h1, x, h2, h3, h4, h5, h6⟩
    have c0 := h5.cell 0
    have f0 := h5.frozen 0
    simp only [List.getElem?_toArray, List.getElem?_cons_zero] at c0
    obtain ⟨hx1, hx2⟩ := wrap_small x h3
    have hK1 := keeps_set (w0 := w) h5 (by omega) (by decide) 0 (.int .i64 ((x : Int) + 1))
    have hR1 := h1.keep hK1
    obtain ⟨A1, cc, g1, g2, g3, g4, g5⟩ := hR1.head
    have h5' : BlkIs (W.setCell ⟨w.heap.size + 1 + 1 + 1, 0, none⟩ (.int .i64 ((x : Int) + 1))) (w.heap.size + 1 + 1 + 1) 3 #[.int .i64 ((x : Int) + 1)] := by simpa using h5.put 0 (.int .i64 ((x : Int) + 1))
    have h6' := h6.far (p := ⟨w.heap.size + 1 + 1 + 1, 0, none⟩) (by simp) (.int .i64 ((x : Int) + 1))
    have c1 := h5'.cell 0
    simp only [List.getElem?_toArray, List.getElem?_cons_zero] at c1
    have hbt := (hR1.1).size
    have c2 := h6'.cell 0
    have f2 := h6'.frozen 0
    simp only [List.getElem?_toArray, List.getElem?_cons_zero] at c2
    have hKO := KeepsOthers.setCell W ⟨w.heap.size + 1 + 1 + 1, 0, none⟩ (.int .i64 ((x : Int) + 1))
    have hKR := keepsRows_set h5 (by decide) 0 (.int .i64 ((x : Int) + 1))
    generalize hW1 : W.setCell ⟨w.heap.size + 1 + 1 + 1, 0, none⟩ (.int .i64 ((x : Int) + 1)) = W1 at *
    have HW1 := Lib.hid hW1
    have HA := Lib.hid (And.intro h1 (And.intro h2 (And.intro h3 (And.intro h4 (And.intro h5 h6)))))
    have HB := Lib.hid (And.intro hR1 (And.intro h5' (And.intro h6' (And.intro hbt (And.intro hKO hKR)))))
    have HC := Lib.hid hK1
    clear hK1 hR1 h5' h6' hbt hKO hKR hlen h1 h2 h3 h4 h5 h6 g1 g2 g3 g5
    have hds := Lib.hid (deepS_some t s b o st)
    have hns := Lib.hid (nodesS_push t s b o 0 0 0 st)
    have hok := Lib.hid (okS_push t s b o 0 0 0 st)
    have hfin : ∀ W3, KeepsOthers W1 W3 → Below w.heap.size W1 W3 → BlkIs W3 (w.heap.size + 1) 4 #[.bool false] → (Tree.node k m l lo hi).mayN = false → KeepsOthers W (W3.setCell ⟨w.heap.size + 1, 0, none⟩ (.bool false)) ∧ MayX w (.node k m l lo hi) (W3.setCell ⟨w.heap.size + 1, 0, none⟩ (.bool false)) := fun W3 k1 k2 k3 k4 =>
      ⟨(HB.out.2.2.2.2.1.trans k1).trans (KeepsOthers.setCell _ _ _), ((HB.out.1.1.trans k2).setCell (p := ⟨w.heap.size + 1, 0, none⟩) (Nat.le_succ _) _), k4, by simpa using k3.put 0 (.bool false)⟩
    have HF := Lib.hid hfin
    clear hfin
    by_cases hq1 : x + 1 > 300
    · have e1 : decide (((x : Int) + 1) > 300) = true := decide_eq_true (by omega)
      gi_wp2
      refine ⟨trivial, ?_⟩
      gi_wp2
      refine HF.out W1 (KeepsOthers.refl _) (Below.refl _ _) HB.out.2.2.1 ?_
      have h2 := HA.out.2.1
      have h3 := hns.out
      unfold Tree.mayN
      rw [decide_eq_false (by omega)]; rfl
    · have e1 : decide (((x : Int) + 1) > 300) = false := decide_eq_false (by omega)
      by_cases hq2 : st.length + 1 > 30
      · have e2 : decide (((st.length : Int) + 1) > 30) = true := decide_eq_true (by omega)
        gi_wp2
        refine ⟨trivial, ?_⟩
        gi_wp2
        refine HF.out W1 (KeepsOthers.refl _) (Below.refl _ _) HB.out.2.2.1 ?_
        have h4 := HA.out.2.2.2.1
        have h3 := hds.out
        rw [decide_eq_false (show ¬ deepS ((t :: s, b, o) :: st) ≤ 30 by omega)] at h4
        unfold Tree.mayN
        rw [← h4]; simp
      · have e2 : decide (((st.length : Int) + 1) > 30) = false := decide_eq_false (by omega)
        obtain ⟨r0, r1, r2, r3, r4, r5, r6, r7⟩ := row_eight g4 (Below.refl _ _)
        have HM := Lib.hid (nodeMay_any t.kind t.set A1 t.sub.length cc t.lo t.hi W1)
        unfold reV reL at HM
        have HO := Lib.hid (okS_push t s b o 0 0 0 st)
        generalize hq : okNode t.kind t.set t.sub.length t.lo t.hi = q at *
        have HQ := Lib.hid hq
        clear hq hok
        cases q
        · gi_wp2_with (first | (refine ⟨trivial, ?_⟩; gi_at_call 58; refine (CallsIn.inRound l' (callsIn_wide.2 HM.out)).mono ?_; rintro e W3 ⟨rfl, hb3⟩; have hbl3 := HB.out.2.2.1.step hb3; have cB3 := hbl3.cell 0; have fB3 := hbl3.frozen 0; simp only [List.getElem?_toArray, List.getElem?_cons_zero] at cB3))
          refine HF.out W3 (others_below hb3) (hb3.mono HB.out.2.2.2.1) hbl3 ?_
          have h4 := HA.out.2.2.2.1
          rw [HO.out, Bool.false_and, Bool.and_false] at h4
          unfold Tree.mayN
          rw [← h4, Bool.and_false]
        · gi_wp2_with (first | (refine ⟨trivial, ?_⟩; gi_at_call 58; refine (CallsIn.inRound l' (callsIn_wide.2 HM.out)).mono ?_; rintro e W3 ⟨rfl, hb3⟩; have hbl3 := HB.out.2.2.1.step hb3; have cB3 := hbl3.cell 0; have fB3 := hbl3.frozen 0; simp only [List.getElem?_toArray, List.getElem?_cons_zero] at cB3))
          have hkt : KeepsTrees w W1 W3 := (loose_below hb3).trees HB.out.2.2.2.1 HB.out.2.2.2.1
          refine ⟨HB.out.2.2.2.2.1.trans (others_below hb3), HB.out.2.2.2.2.2.trans (rows_below hb3), RowsIn.told HA.out.1 ⟨HC.out.1.trans hkt.1, fun k cs hk => hkt.2 k cs (HC.out.2 k cs hk)⟩ fun b' o' hr => ⟨hr, x + 1, ?_, by omega, ?_, ?_, hbl3⟩⟩
          · have h2 := HA.out.2.1
            have h3 := nodesS_push t s b o b' o' (o + 8) st
            omega
          · have h4 := HA.out.2.2.2.1
            have h3 := deepS_push t s b o b' o' (o + 8) st
            have h5 := okS_push t s b o b' o' (o + 8) st
            rw [← h4, ← h3, h5, HQ.out, Bool.true_and]
            congr 1
            exact decide_eq_decide.2 (by omega)
          · have := HB.out.2.1.step hb3
            rw [show ((x + 1 : Nat) : Int) = (x : Int) + 1 by omega]
            exact this
  case done =>
    rintro d W hd' ⟨h1, x, h2, h3, h4, h5, h6⟩ hk
    have c0 := h6.cell 0
    have f0 := h6.frozen 0
    simp only [List.getElem?_toArray, List.getElem?_cons_zero] at c0
    have HH := Lib.hid (And.intro h2 (And.intro h3 h4))
    have HB := Lib.hid h1.1
    clear h1 h2 h3 h4 h5
    go_wp2
    have hK' := (KeepsOthers.setCell W ⟨w.heap.size + 1, 0, none⟩ (.bool true)).same d _ hk rfl
    refine ⟨by simp, .inl ⟨_, _, rfl, run_takeDeferred hK', ?_⟩⟩
    have hb' : BlkIs (W.setCell ⟨w.heap.size + 1, 0, none⟩ (.bool true)) (w.heap.size + 1) 4 #[.bool true] := by simpa using h6.put 0 (.bool true)
    have hl := load_bool (blk_putObj (.deferred none) hb' hK' rfl)
    refine ⟨_, results_cell1 (p := 2) (ty := 4) rfl rfl hl, ?_, (HB.out.setCell (p := ⟨w.heap.size + 1, 0, none⟩) (Nat.le_succ _) _).trans (belowK_b (w := w) (Nat.le_refl _) _ d _ _ (by omega) hK' rfl rfl)⟩
    obtain ⟨h2, h3, h4⟩ := HH.out
    simp only [nodesS, Nat.add_zero] at h2
    simp only [deepS, okS, Bool.and_true] at h4
    unfold Tree.mayN
    rw [decide_eq_true (by omega), ← h4]; rfl
  case stop =>
    rintro d W hd' ⟨h1, h2, h3⟩ hk
    gi_wp2
    refine ⟨by simp, .inl ⟨_, _, rfl, run_takeDeferred hk, ?_⟩⟩
    have hl := load_bool (blk_putObj (.deferred none) h3 hk rfl)
    refine ⟨_, results_cell1 (p := 2) (ty := 4) rfl rfl hl, ?_, h1.trans (belowK_b (w := w) (Nat.le_refl _) _ d _ _ (by omega) hk rfl rfl)⟩
    rw [h2]

end Go.Proofs.Ytojejnjjenmfaaa

