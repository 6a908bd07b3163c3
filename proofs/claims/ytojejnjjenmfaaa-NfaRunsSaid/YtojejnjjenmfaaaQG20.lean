/-
  TREES LAID BY A LITERAL: rows of nodes in a new block; a node built; what a store into a zero variable leaves. No condition.
-/
import Derived.Test.YtojejnjjenmfaaaQG12
import Derived.Test.YtojejnjjenmfaaaQG14
import Derived.Test.YtojejnjjenmfaaaQG19
import Derived.Test.YtojejnjjenmfaaaQG07
import Derived.Test.YtojejnjjenmfaaaQG03
namespace Go.Proofs.Ytojejnjjenmfaaa
open Go.RowKit

theorem built_re (k : Int) (A : Option Addr) (n c : Nat) (lo hi : Int) : reV k (fun _ => false) A n c lo hi = .agg #[.int .i64 k, .int .u64 0, .int .u64 0, .int .u64 0, .int .u64 0, .slice A n c, .int .i64 lo, .int .i64 hi] := by
  unfold reV reL
  simp only [wd_zero]; rfl
/-- the cells of nodes, one behind the other -/
def cellsOf : List (List Value) → List Value
  | [] => []
  | c :: r => c ++ cellsOf r
theorem rows_at {W U : World} (hs : ∀ p v, W.cell? p = some v → U.cell? p = some v) {g : Nat} : ∀ (ts : List Tree) (css : List (List Value)) (pre : Nat), ts.length = css.length →
    (∀ (i : Nat) (h : i < ts.length) (h' : i < css.length), ts[i].At W (.agg css[i].toArray) ∧ css[i].length = 8) → (∀ j v, (cellsOf css)[j]? = some v → U.cell? ⟨g, pre + j, none⟩ = some v) → AllAt U ts g pre
  | [], _, _, _, _, _ => trivial
  | t :: r, [], _, h, _, _ => by simp at h
  | t :: r, c :: css, pre, hl, h, hc => by
    have h0 := h 0 (by simp) (by simp)
    refine ⟨⟨c, ?_, h0.2, fun j v hv => ?_⟩, ?_⟩
    · have h1 := h0.1
      exact Tree.At.sub hs _ h1
    · refine hc j v ?_
      show (c ++ cellsOf css)[j]? = some v
      rw [List.getElem?_append_left (List.getElem?_eq_some_iff.1 hv).1]; exact hv
    · refine rows_at hs r css (pre + 8) (by simpa using hl) (fun i h1 h2 => ?_) (fun j v hv => ?_)
      · have := h (i + 1) (by simpa using h1) (by simpa using h2)
        simpa using this
      · rw [Nat.add_assoc]
        refine hc (8 + j) v ?_
        show (c ++ cellsOf css)[8 + j]? = some v
        rw [List.getElem?_append_right (by have : c.length = 8 := h0.2; omega), show 8 + j - c.length = j by have : c.length = 8 := h0.2; omega]
        exact hv
/-- rows laid in a new block -/
theorem laid_rows {W : World} (t : TypeId) (ts : List Tree) (css : List (List Value)) (hl : ts.length = css.length) (h : ∀ (i : Nat) (h : i < ts.length) (h' : i < css.length), ts[i].At W (.agg css[i].toArray) ∧ css[i].length = 8) :
    AllAt (W.alloc (.cells (cellsOf css).toArray t)) ts W.heap.size 0 := by
  have hb : Below W.heap.size W (W.alloc (.cells (cellsOf css).toArray t)) := (Below.refl _ _).alloc (Nat.le_refl _) _
  refine rows_at (W := W) (fun p v hv => by rw [hb.cell (World.block_lt_of_cell? W p hv)]; exact hv) ts css 0 hl h (fun j v hv => ?_)
  have := (BlkIs.new W t (cellsOf css).toArray).cell j
  rw [Nat.zero_add, this]
  simpa using hv
/-- a node over a row -/
theorem node_at {W : World} {k : Int} {m : Nat → Bool} {l : List Tree} {lo hi : Int} {g c : Nat} (h : AllAt W l g 0) (hc : l.length ≤ c ∧ c ≤ 9223372036854775807) : Tree.At W (.node k m l lo hi) (reV k m (some ⟨g, 0, none⟩) l.length c lo hi) := by
  unfold Tree.At
  exact ⟨_, c, rfl, hc, fun _ => ⟨g, 0, rfl, h⟩⟩
theorem leaf_at {W : World} {k : Int} {m : Nat → Bool} : Tree.At W (.node k m [] 0 0) (reV k m none 0 0 0 0) := by
  unfold Tree.At
  exact ⟨none, 0, rfl, ⟨Nat.le_refl _, by decide⟩, fun h => absurd rfl h⟩

/-! ### a variable that holds nothing yet is no node's row -/
mutual
def Tree.lit : Tree → Bool
  | .node k _ l _ _ => (k != 0) && litL l
def litL : List Tree → Bool
  | [] => true
  | t :: r => t.lit && litL r
end
theorem zero_kind {W : World} {g j : Nat} {t : TypeId} (h : BlkIs W g t zeroL.toArray) {k : Int} (hk : k ≠ 0) : W.cell? ⟨g, j, none⟩ ≠ some (.int .i64 k) := by
  rw [h.cell j]
  intro e
  match j with
  | 0 => simp [zeroL] at e; exact hk e.symm
  | 1 => simp [zeroL] at e
  | 2 => simp [zeroL] at e
  | 3 => simp [zeroL] at e
  | 4 => simp [zeroL] at e
  | 5 => simp [zeroL] at e
  | 6 => simp [zeroL] at e; exact hk e.symm
  | 7 => simp [zeroL] at e; exact hk e.symm
  | j + 8 => simp [zeroL] at e
mutual
theorem lit_far {W U : World} {g : Nat} {t : TypeId} (hz : BlkIs W g t zeroL.toArray) (hs : ∀ p v, p.block ≠ g → W.cell? p = some v → U.cell? p = some v) : ∀ (T : Tree) {v : Value}, T.lit = true → Tree.At W T v → Tree.At U T v
  | .node k m l lo hi, v, hl, h => by
    simp only [Tree.lit, Bool.and_eq_true] at hl
    unfold Tree.At at h ⊢
    obtain ⟨A, c, h1, h2, h3⟩ := h
    refine ⟨A, c, h1, h2, fun hne => ?_⟩
    obtain ⟨b, o, h4, h5⟩ := h3 hne
    exact ⟨b, o, h4, litL_far hz hs l hl.2 h5⟩
theorem litL_far {W U : World} {g : Nat} {t : TypeId} (hz : BlkIs W g t zeroL.toArray) (hs : ∀ p v, p.block ≠ g → W.cell? p = some v → U.cell? p = some v) : ∀ (l : List Tree) {b o : Nat}, litL l = true → AllAt W l b o → AllAt U l b o
  | [], b, o, _, _ => trivial
  | .node k m s lo hi :: r, b, o, hl, h => by
    simp only [litL, Bool.and_eq_true] at hl
    obtain ⟨⟨cs, h1, h2, h3⟩, h4⟩ := h
    refine ⟨⟨cs, lit_far hz hs _ hl.1 h1, h2, fun j v hv => hs _ v ?_ (h3 j v hv)⟩, litL_far hz hs r hl.2 h4⟩
    intro e
    have e' : b = g := e
    subst e'
    obtain ⟨A, c, e1, _⟩ : ∃ A c, Value.agg cs.toArray = reV k m A s.length c lo hi ∧ _ := by
      unfold Tree.At at h1
      obtain ⟨A, c, h1, h1'⟩ := h1
      exact ⟨A, c, h1, h1'⟩
    have e2 : cs = reL k m A s.length c lo hi := by
      unfold reV at e1
      injection e1 with e1
      exact List.toArray_inj e1
    have h5 := h3 0 (.int .i64 k) (by rw [e2]; rfl)
    have hk : k ≠ 0 := by
      have := hl.1
      simp only [Tree.lit, Bool.and_eq_true] at this
      simpa using this.1
    exact zero_kind hz hk h5
end
theorem cells_far {u : World} {g : Nat} (vs : List Value) (p : Addr) (v : Value) (hp : p.block ≠ g) (h : u.cell? p = some v) : (u.setCells g 0 vs).cell? p = some v := by
  rw [World.cell?_of_block (w := u) (heap_cells g p.block hp vs 0 u)]
  exact h
end Go.Proofs.Ytojejnjjenmfaaa

/-
  THE DOCUMENT'S EXAMPLE OF LAYER 8, by plain functions. No condition.
-/
namespace Go.Proofs.Ytojejnjjenmfaaa
open Go.RowKit

def ltr8 (b : Int) : Tree := .node 1 (sRange b b) [] 0 0
def altA : Tree := .node 3 (fun _ => false) [ltr8 98, ltr8 99] 0 0
def starA : Tree := .node 4 (fun _ => false) [altA] 0 (-1)
def exA : Tree := .node 2 (fun _ => false) [ltr8 97, starA] 0 0
def optB : Tree := .node 4 (fun _ => false) [ltr8 98] 0 1
def exB : Tree := .node 2 (fun _ => false) [ltr8 97, optB] 0 0
theorem exA_may : exA.mayN = true := by decide +kernel
theorem exB_may : exB.mayN = true := by decide +kernel
theorem ex_once : exA.once = true ∧ exB.once = true := by decide +kernel
theorem ex_nodes : exA.nodes = 6 ∧ exB.nodes = 4 := by decide +kernel
theorem ex_sumN : sumN [exA, exB] = 5 := by decide +kernel
theorem ex_sumP : sumP [exA] = 3 ∧ sumP [exA, exB] = 5 := by decide +kernel
theorem ex_first : (buildN [exA, exB]).first = [0, 3] := by decide +kernel
theorem ex_len : (buildN [exA, exB]).sets.length = 5 ∧ (buildN [exA, exB]).follow.length = 5 := by decide +kernel
theorem ex_follow : (buildN [exA, exB]).follow.getD 1 [] = [1, 2] := by decide +kernel
theorem ex_may : (buildN [exA, exB]).may = true := by decide +kernel
end Go.Proofs.Ytojejnjjenmfaaa

/-
  TREES BY LITERALS in the text of layer 8; what hacklelaw08.letter ANSWERS: a contract. No condition.
-/
namespace Go.Proofs.Ytojejnjjenmfaaa
open Go.RowKit

theorem sizeS8 {W : World} {T : Tree} {k : Int} {m : Nat → Bool} {A : Option Addr} {n c : Nat} {lo hi : Int} (h : T.At W (reV k m A n c lo hi)) : T.At W (.agg (reL k m A n c lo hi).toArray) ∧ (reL k m A n c lo hi).length = 8 := ⟨h, rfl⟩
theorem ltr_at8 (W : World) (b : Int) : (ltr8 b).At W (reV 1 (sRange b b) none 0 0 0 0) := leaf_at
theorem rows28 {W : World} {T1 T2 : Tree} {k1 l1 h1 k2 l2 h2 : Int} {m1 m2 : Nat → Bool} {A1 A2 : Option Addr} {n1 c1 n2 c2 : Nat} (a1 : T1.At W (reV k1 m1 A1 n1 c1 l1 h1)) (a2 : T2.At W (reV k2 m2 A2 n2 c2 l2 h2)) :
    AllAt (W.alloc (.cells (reL k1 m1 A1 n1 c1 l1 h1 ++ reL k2 m2 A2 n2 c2 l2 h2).toArray 39)) [T1, T2] W.heap.size 0 := by
  have := laid_rows (W := W) 39 [T1, T2] [reL k1 m1 A1 n1 c1 l1 h1, reL k2 m2 A2 n2 c2 l2 h2] rfl (fun i h h' => by
    match i, h, h' with
    | 0, _, _ => exact sizeS8 a1
    | 1, _, _ => exact sizeS8 a2)
  exact this
theorem rows18 {W : World} {T1 : Tree} {k1 l1 h1 : Int} {m1 : Nat → Bool} {A1 : Option Addr} {n1 c1 : Nat} (a1 : T1.At W (reV k1 m1 A1 n1 c1 l1 h1)) :
    AllAt (W.alloc (.cells (reL k1 m1 A1 n1 c1 l1 h1).toArray 39)) [T1] W.heap.size 0 := by
  have := laid_rows (W := W) 39 [T1] [reL k1 m1 A1 n1 c1 l1 h1] rfl (fun i h h' => by
    match i, h, h' with
    | 0, _, _ => exact sizeS8 a1)
  exact this
theorem rows38 {W : World} {T1 T2 T3 : Tree} {k1 l1 h1 k2 l2 h2 k3 l3 h3 : Int} {m1 m2 m3 : Nat → Bool} {A1 A2 A3 : Option Addr} {n1 c1 n2 c2 n3 c3 : Nat} (a1 : T1.At W (reV k1 m1 A1 n1 c1 l1 h1)) (a2 : T2.At W (reV k2 m2 A2 n2 c2 l2 h2)) (a3 : T3.At W (reV k3 m3 A3 n3 c3 l3 h3)) :
    AllAt (W.alloc (.cells (reL k1 m1 A1 n1 c1 l1 h1 ++ (reL k2 m2 A2 n2 c2 l2 h2 ++ reL k3 m3 A3 n3 c3 l3 h3)).toArray 39)) [T1, T2, T3] W.heap.size 0 := by
  have := laid_rows (W := W) 39 [T1, T2, T3] [reL k1 m1 A1 n1 c1 l1 h1, reL k2 m2 A2 n2 c2 l2 h2, reL k3 m3 A3 n3 c3 l3 h3] rfl (fun i h h' => by
    match i, h, h' with
    | 0, _, _ => exact sizeS8 a1
    | 1, _, _ => exact sizeS8 a2
    | 2, _, _ => exact sizeS8 a3)
  exact this

/-- what lies there: a tree, in its box -/
def InBox8 (w : World) (T : Tree) (g : Nat) (A : Option Addr) (n c : Nat) (u : World) : Prop := T.At u (reV T.kind T.set A n c T.lo T.hi) ∧ BlkIs u g 39 (reL T.kind T.set A n c T.lo T.hi).toArray ∧ Below w.heap.size w u
theorem InBox8.step {w u u' : World} {T : Tree} {g : Nat} {A : Option Addr} {n c : Nat} (h : InBox8 w T g A n c u) (hb : Below u.heap.size u u') : InBox8 w T g A n c u' := ⟨h.1.step hb, h.2.1.step hb, h.2.2.trans (hb.mono h.2.2.size)⟩
theorem box_put8 {w u : World} {T : Tree} {g : Nat} {A : Option Addr} {n c : Nat} (hl : T.lit = true) (h : T.At u (reV T.kind T.set A n c T.lo T.hi)) (hz : BlkIs u g 39 zeroL.toArray) (hg : w.heap.size ≤ g) (hb : Below w.heap.size w u) :
    InBox8 w T g A n c (u.setCells g 0 (reL T.kind T.set A n c T.lo T.hi)) :=
  ⟨lit_far hz (fun p v hp hv => cells_far _ p v hp hv) T hl h, store_re hz rfl, below_cells g _ 0 _ hg hb⟩

/-- a node of two Subs, made by a literal, in its box -/
theorem lit_box28 {w u : World} {T1 T2 : Tree} {k k1 l1 h1 k2 l2 h2 : Int} {m1 m2 : Nat → Bool} {A1 A2 : Option Addr} {n1 c1 n2 c2 : Nat} (a1 : T1.At u (reV k1 m1 A1 n1 c1 l1 h1)) (a2 : T2.At u (reV k2 m2 A2 n2 c2 l2 h2)) (hb : Below w.heap.size w u) :
    InBox8 w (.node k (fun _ => false) [T1, T2] 0 0) (u.heap.size + 1) (some ⟨u.heap.size, 0, none⟩) 2 2 ((u.alloc (.cells (reL k1 m1 A1 n1 c1 l1 h1 ++ reL k2 m2 A2 n2 c2 l2 h2).toArray 39)).alloc
      (.cells #[.int .i64 k, .int .u64 0, .int .u64 0, .int .u64 0, .int .u64 0, .slice (some ⟨u.heap.size, 0, none⟩) 2 2, .int .i64 0, .int .i64 0] 39)) := by
  have hr := rows28 a1 a2
  have hn := node_at (k := k) (m := fun _ => false) (lo := 0) (hi := 0) (c := 2) hr ⟨Nat.le_refl _, by decide⟩
  generalize hU : u.alloc (.cells (reL k1 m1 A1 n1 c1 l1 h1 ++ reL k2 m2 A2 n2 c2 l2 h2).toArray 39) = U at *
  have hs : U.heap.size = u.heap.size + 1 := by rw [← hU]; simp
  have hbU : Below w.heap.size w U := by rw [← hU]; exact hb.alloc hb.size _
  have e := built_re k (some ⟨u.heap.size, 0, none⟩) 2 2 0 0
  unfold reV at e
  injection e with e
  have hx := BlkIs.new U 39 #[.int .i64 k, .int .u64 0, .int .u64 0, .int .u64 0, .int .u64 0, .slice (some ⟨u.heap.size, 0, none⟩) 2 2, .int .i64 0, .int .i64 0]
  rw [hs] at hx
  refine ⟨hn.step ((Below.refl _ _).alloc (Nat.le_refl _) _), ?_, hbU.alloc hbU.size _⟩
  rw [← e] at hx
  rw [← e]
  exact hx

set_option maxRecDepth 20000 in
set_option maxHeartbeats 2000000 in
theorem letter_any8 (b : Nat) (hb : b < 256) (w : World) : Calls Try.prog 30 #[.int .i64 b] w fun e w' => e = .returned (reV 1 (sRange b b) none 0 0 0 0) ∧ Below w.heap.size w w' := by
  have h0 : Below w.heap.size w (w.alloc (.cells zeroL.toArray 39)) := (Below.refl _ _).alloc (Nat.le_refl _) _
  have hz := BlkIs.new w 39 zeroL.toArray
  have HC := Lib.hid (refRange_any b b hb (w.alloc (.cells zeroL.toArray 39)))
  have H0 := Lib.hid (And.intro h0 hz)
  clear h0 hz
  unfold zeroL at *
  unfold setV at HC
  go_enter Try.func30, Try.ntmps30
  go_wp2_with (first
    | (go_at_call 55; go_must (refine HC.out.mono ?_); rintro e u ⟨rfl, hb2⟩; have hB3 := H0.out.2.step hb2; have HB2 := Lib.hid (H0.out.1.trans (hb2.mono H0.out.1.size)); clear hb2)
    | (refine wpList_store_mid rfl 39 (.tmp 2) (.tmp 6) rfl w.heap.size 0 (reL 1 (sRange b b) none 0 0 0 0).toArray rfl rfl hB3.there info_re8 reL_all ?_))
  have hl := load_re (store_re (k := 1) (m := sRange b b) (A := none) (n := 0) (c := 0) (lo := 0) (hi := 0) hB3 rfl)
  exact bodyPost_ret (results_cell1 rfl rfl hl) rfl ⟨rfl, below_cells w.heap.size _ 0 _ (Nat.le_refl _) HB2.out⟩

end Go.Proofs.Ytojejnjjenmfaaa

/-
  WHAT nfa.Build ANSWERS of the document's example of layer 8: a contract. No condition.
-/
namespace Go.Proofs.Ytojejnjjenmfaaa
open Go.RowKit

theorem may_okT {T : Tree} (h : T.mayN = true) : T.ok = true := by
  unfold Tree.mayN at h
  simp only [Bool.and_eq_true] at h
  exact h.2.2
theorem ex_parts : ∀ t ∈ [exA, exB], t.mayN = true ∧ PartIs t ∧ t.nodes ≤ 1048576 := by
  intro t ht
  simp only [List.mem_cons, List.not_mem_nil, or_false] at ht
  rcases ht with rfl | rfl
  · exact ⟨exA_may, part_once exA (may_okT exA_may) ex_once.1 (by rw [ex_nodes.1]; decide), by rw [ex_nodes.1]; decide⟩
  · exact ⟨exB_may, part_once exB (may_okT exB_may) ex_once.2 (by rw [ex_nodes.2]; decide), by rw [ex_nodes.2]; decide⟩
theorem ex_okTs : okTs [exA, exB] := by
  unfold okTs
  refine ⟨ok_okT exA (may_okT exA_may), ?_⟩
  unfold okTs
  refine ⟨ok_okT exB (may_okT exB_may), ?_⟩
  unfold okTs
  trivial
theorem ex_sums : ∀ j, 0 ≤ sumP ([exA, exB].take j) ∧ sumP ([exA, exB].take j) ≤ 2000
  | 0 => by simp [sumP]
  | 1 => by
    show 0 ≤ sumP [exA] ∧ sumP [exA] ≤ 2000
    rw [ex_sumP.1]; decide
  | j + 2 => by
    show 0 ≤ sumP (exA :: exB :: [].take j) ∧ sumP (exA :: exB :: [].take j) ≤ 2000
    rw [List.take_nil, ex_sumP.2]; decide
theorem exBuild_any (A : Option Addr) (c : Nat) (w : World) (hat : ∃ b o, A = some ⟨b, o, none⟩ ∧ AllAt w [exA, exB] b o) :
    Calls Try.prog 8 #[.slice A 2 c] w fun x w' => ∃ v, x = .returned (.tuple #[v, .int .i64 0]) ∧ NfaAt w' (buildN [exA, exB]) v ∧ Below w.heap.size w w' :=
  build_any [exA, exB] (by decide) (by decide) (fun t ht => (ex_parts t ht).1) (fun t ht => (ex_parts t ht).2.1) ex_okTs (fun t ht => (ex_parts t ht).2.2) (by rw [ex_sumN]; decide) ex_sums A c w (fun _ => hat)
theorem ex_ran : ranL (buildN [exA, exB]) ⟨#[97, 98]⟩ = [1, 4] ∧ ranT (buildN [exA, exB]) ⟨#[97, 98]⟩ = 0 := by decide +kernel
end Go.Proofs.Ytojejnjjenmfaaa

