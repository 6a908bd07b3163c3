/-
  LOOPS OVER THE NODES OF A TREE: the law for a loop over package rx's walker, and for one that only reads: what lies ahead stays where it lies. Condition: the tree is at most 2^40 deep.
-/
import Derived.Test.YtngagijcdehjpaaNodes
namespace Go.Proofs.Ytngagijcdehjpaa
open Go.RowKit

/-- new blocks; and none but blocks from B on that are no cells, or cells of the iterator's rows, have turned -/
structure Loose (B : Nat) (W W' : World) : Prop where
  os : W'.os = W.os
  tape : W'.tape = W.tape
  output : W'.output = W.output
  size : W.heap.size ≤ W'.heap.size
  low : ∀ k, k < B → k < W.heap.size → W'.heap[k]? = W.heap[k]?
  same : ∀ (k : Nat) (cs : Array Value) (e : TypeId) (f : Nat × Nat), W.heap[k]? = some (.cells cs e f) → e ≠ 29 → W'.heap[k]? = some (.cells cs e f)
theorem Mine.loose {B B' : Nat} {W W' : World} (h : Mine B W W') (hB : B' ≤ B) : Loose B' W W' :=
  ⟨h.os, h.tape, h.output, h.size, fun k hk hs => by
    obtain ⟨o, ho⟩ : ∃ o, W.heap[k]? = some o := ⟨_, Array.getElem?_eq_getElem hs⟩
    rw [ho]
    exact h.same k o ho (.inl (by omega)), fun k _ _ _ hk he => h.same k _ hk (.inr fun cs' f' e' => he (by cases e'; rfl))⟩
theorem loose_put {B : Nat} {W : World} {l : Nat} {o : Obj} (o' : Obj) (hB : B ≤ l) (hl : W.heap[l]? = some o) (ho : o.isCells = false) : Loose B W (W.putObj l o') :=
  ⟨rfl, rfl, rfl, by simp, fun k hk _ => World.putObj_heap_other (by omega), fun k _ _ _ hk _ => (World.putObj_heap_other (fun e' => by subst e'; rw [hk] at hl; cases hl; cases ho)).trans hk⟩
theorem loose_below {W W' : World} (h : Below W.heap.size W W') : Loose W.heap.size W W' :=
  ⟨h.os, h.tape, h.output, h.size, fun k hk _ => h.block k hk, fun k _ _ _ hk _ => (h.block k (Array.getElem?_eq_some_iff.1 hk).1).trans hk⟩
theorem Loose.below {n₀ B : Nat} {w W W' : World} (h : Below n₀ w W) (hl : Loose B W W') (hn : n₀ ≤ B) (hs : n₀ ≤ W.heap.size) : Below n₀ w W' :=
  h.trans ⟨hl.os, hl.tape, hl.output, hl.size, fun k hk => hl.low k (by omega) (by omega)⟩
theorem Loose.blk {B : Nat} {W W' : World} (hl : Loose B W W') {g : Nat} {t : TypeId} {cs : Array Value} (h : BlkIs W g t cs) (ht : t ≠ 29) : BlkIs W' g t cs := hl.same g cs t (0, 0) h ht

/-- how a round over a node may be left -/
def nodeEnds (J : List Row → World → Prop) (Ix : Code → World → Prop) (t : Tree) (s : List Tree) (b o : Nat) (st : List Row) (W : World) : Exit → Act → World → Prop
  | .normal, _, W' => KeepsOthers W W' ∧ KeepsRows W W' ∧ Told J t s b o st W'
  | .ret, _, W' => KeepsOthers W W' ∧ Ix .ret W'
  | _, _, _ => False

abbrev NodeSt := Tree × List Tree × Nat × Nat × List Row

theorem range_nodes {g : Operand} {p1 p2 : Tmp} {assign body : Code} {Q : Exit → Act → World → Prop} {a : Act} {w : World} (n : Nat) (hn : 2 ≤ n) (D : Nat) (hD : D ≤ 1099511627776)
    (v : Value) (hg : a.eval g = .func (.func 37) #[v] #[]) (J : List Row → World → Prop) (Ix : Code → World → Prop)
    (hJ : ∀ st A A', J st A → Loose w.heap.size A A' → J st A') (hIx : ∀ c A A', Ix c A → Loose w.heap.size A A' → Ix c A') (hpop : ∀ b o st A, J (([], b, o) :: st) A → J st A)
    (ts : List Tree) (b o : Nat) (hv : RowV (ts, b, o) v) (hd : deepL ts ≤ D) (h0 : J [(ts, b, o)] w) (a₁ : Nat → Nat → Nat → Act)
    (hassign : ∀ (l b o d : Nat) (W : World) (K : Act → World → Prop), K (a₁ b o d) W →
      assign.wpIn (Fence.wide.inRound l) (n - 1 - 1) Try.prog (Exit.then K (fun _ _ _ => False)) { tmps := (a.tmps.setIfInBounds p1 (.pointer (some ⟨b, o, none⟩))).setIfInBounds p2 (.int .i64 ((d : Int) + 1)), defers := [] } W)
    (hbody : ∀ (l : Nat) (t : Tree) (s : List Tree) (b o : Nat) (st : List Row) (W : World), w.heap.size ≤ W.heap.size → st.length ≤ 1099511627776 → J ((t :: s, b, o) :: st) W →
      body.wpIn (Fence.wide.inRound l) (n - 1 - 1) Try.prog (nodeEnds J Ix t s b o st W) (a₁ b o st.length) W)
    (hdone : ∀ (d : Nat) (W : World), w.heap.size ≤ d → J [] W → W.heap[d]? = some (.deferred (some [])) → Q .normal { a with defers := { target := .collected d, args := #[] } :: a.defers } W)
    (hstop : ∀ (d : Nat) (W : World), w.heap.size ≤ d → Ix .ret W → W.heap[d]? = some (.deferred (some [])) → Code.ret.wpIn Fence.wide n Try.prog Q { a with defers := { target := .collected d, args := #[] } :: a.defers } W) :
    (Code.rangeFunc g #[p1, p2] assign body).wpIn Fence.wide n Try.prog Q a w := by
  refine range_own (σ := NodeSt) rfl (by omega) hg trivial (enters_of Try.func37 (by kernel_rfl) rfl)
    (fun s => #[.pointer (some ⟨s.2.2.1, s.2.2.2.1, none⟩), .int .i64 ((s.2.2.2.2.length : Int) + 1)]) (fun _ => rfl) KeepsRows KeepsRows.trans (fun W l o o' _ hl ho => KeepsRows.put W l o o' hl ho)
    (fun s W => J ((s.1 :: s.2.1, s.2.2.1, s.2.2.2.1) :: s.2.2.2.2) W ∧ s.2.2.2.2.length ≤ 1099511627776) (fun s W => Told J s.1 s.2.1 s.2.2.1 s.2.2.2.1 s.2.2.2.2 W) (fun c W => c = .ret ∧ Ix .ret W) (J [])
    ?_ ?_ ?_ ?_ ?_ (fun s => a₁ s.2.2.1 s.2.2.2.1 s.2.2.2.2.length) ?_ ?_ ?_ ?_
  · rintro s W l o o' ⟨h1, h2⟩ hB hl ho
    exact ⟨hJ _ _ _ h1 (loose_put o' hB hl ho), h2⟩
  · rintro s W l o o' ⟨A, c, b', o2, h1, h2, h3, h4, h5⟩ hB hl ho
    have hlo := loose_put (B := w.heap.size) o' hB hl ho
    refine ⟨A, c, b', o2, ?_, h2, h3, h4, hJ _ _ _ h5 hlo⟩
    rw [World.cell?_of_block (w := W)]
    · exact h1
    · refine World.putObj_heap_other (fun e => ?_)
      dsimp only at e
      rw [World.cell?] at h1
      dsimp only at h1
      rw [e, hl] at h1
      cases o <;> simp_all [Obj.isCells]
  · rintro c W l o o' ⟨h1, h2⟩ hB hl ho
    exact ⟨h1, hIx _ _ _ h2 (loose_put o' hB hl ho)⟩
  · rintro W l o o' h1 hB hl ho
    exact hJ _ _ _ h1 (loose_put o' hB hl ho)
  · intro l G X hG hY W hb hk hg
    exact nodes_in (n - 1) (by omega) l D hD J G X W (fun st A B h hm => hJ st A B h (hm.loose hb.size)) hG hpop
      (fun t s b o st A hj hg hl => (hY (t, s, b, o, st) A ⟨hj, hl⟩ hg).mono fun e B h => h) ts b o v hv hd (hJ _ _ _ h0 (loose_below hb)) hg
  · intro l s W K hK
    have hf : ((#[p1, p2] : Array Tmp).zip #[Value.pointer (some ⟨s.2.2.1, s.2.2.2.1, none⟩), Value.int .i64 ((s.2.2.2.2.length : Int) + 1)]).foldl (fun t (p, v) => t.setIfInBounds p v) a.tmps =
        (a.tmps.setIfInBounds p1 (.pointer (some ⟨s.2.2.1, s.2.2.2.1, none⟩))).setIfInBounds p2 (.int .i64 ((s.2.2.2.2.length : Int) + 1)) := by simp
    rw [hf]
    exact hassign l _ _ _ W K hK
  · rintro l ⟨t, s, b, o, st⟩ W hs ⟨hj, hl⟩
    refine wpIn_mono (hbody l t s b o st W hs hl hj) ?_
    intro e a' W' h
    cases e with
    | normal => exact ⟨h.1.from _, h.2.1, h.2.2⟩
    | ret => exact ⟨h.1.from _, rfl, h.2⟩
    | exit id => exact h.elim
    | goto t => exact h.elim
    | panic c => exact h.elim
    | outgrown => exact h.elim
  · exact hdone
  · rintro d c W hd' ⟨rfl, hx⟩ hk
    exact hstop d W hd' hx hk

/-! ### loops that only read -/
/-- the rows lie as the trees lay in w0 -/
def RowIn (w0 W : World) (r : Row) : Prop := r.1 ≠ [] → (r.2.1 < w0.heap.size ∨ ∃ cs : Array Value, W.heap[r.2.1]? = some (.cells cs 31 (0, 0))) ∧
  ∀ (i : Nat) (h : i < r.1.length), ∃ cs : List Value, Tree.At w0 r.1[i] (.agg cs.toArray) ∧ cs.length = 8 ∧ W.rangeAt r.2.1 (r.2.2 + i * 8) cs
def RowsIn (w0 : World) (st : List Row) (W : World) : Prop := Below w0.heap.size w0 W ∧ ∀ r ∈ st, RowIn w0 W r
/-- what a reader keeps -/
def KeepsTrees (w0 W W' : World) : Prop := Below w0.heap.size W W' ∧ ∀ (k : Nat) (cs : Array Value), W.heap[k]? = some (.cells cs 31 (0, 0)) → W'.heap[k]? = some (.cells cs 31 (0, 0))
theorem RowIn.keep {w0 W W' : World} {r : Row} (h : RowIn w0 W r) (hk : KeepsTrees w0 W W') : RowIn w0 W' r := fun hne => by
  obtain ⟨h1, h2⟩ := h hne
  have hsame : W'.heap[r.2.1]? = W.heap[r.2.1]? := by
    rcases h1 with h1 | ⟨cs, h1⟩
    · exact hk.1.block _ h1
    · rw [h1]; exact hk.2 _ _ h1
  refine ⟨h1.imp id fun ⟨cs, h1⟩ => ⟨cs, hsame.trans h1⟩, fun i hi => ?_⟩
  obtain ⟨cs, g1, g2, g3⟩ := h2 i hi
  exact ⟨cs, g1, g2, fun j v hv => (World.cell?_of_block (w := W) hsame).trans (g3 j v hv)⟩
theorem RowsIn.keep {w0 W W' : World} {st : List Row} (h : RowsIn w0 st W) (hk : KeepsTrees w0 W W') : RowsIn w0 st W' :=
  ⟨h.1.trans hk.1, fun r hr => (h.2 r hr).keep hk⟩
theorem Loose.trees {w0 : World} {B : Nat} {W W' : World} (h : Loose B W W') (hB : w0.heap.size ≤ B) (hW : w0.heap.size ≤ W.heap.size) : KeepsTrees w0 W W' :=
  ⟨⟨h.os, h.tape, h.output, h.size, fun k hk => h.low k (by omega) (by omega)⟩, fun k cs hk => h.same k cs _ _ hk (by decide)⟩
theorem RowsIn.loose {w0 : World} {B : Nat} {st : List Row} {W W' : World} (h : RowsIn w0 st W) (hl : Loose B W W') (hB : w0.heap.size ≤ B) : RowsIn w0 st W' := h.keep (hl.trees hB h.1.size)
theorem RowsIn.pop {w0 W : World} {r : Row} {st : List Row} (h : RowsIn w0 (r :: st) W) : RowsIn w0 st W := ⟨h.1, fun q hq => h.2 q (by simp [hq])⟩

/-- the node that is told, and its Subs -/
theorem RowsIn.head {w0 W : World} {t : Tree} {s : List Tree} {b o : Nat} {st : List Row} (h : RowsIn w0 ((t :: s, b, o) :: st) W) :
    ∃ A c, Tree.At w0 t (reV t.kind t.set A t.sub.length c t.lo t.hi) ∧ t.sub.length ≤ c ∧ c ≤ 9223372036854775807 ∧ W.rangeAt b o (reL t.kind t.set A t.sub.length c t.lo t.hi) ∧
      ∃ b' o', (t.sub ≠ [] → A = some ⟨b', o', none⟩) ∧ RowsIn w0 ((t.sub, b', o') :: (s, b, o + 8) :: st) W := by
  obtain ⟨h1, h2⟩ := h.2 (t :: s, b, o) (by simp) (by simp)
  obtain ⟨cs, g1, g2, g3⟩ := h2 0 (by simp)
  simp only [List.getElem_cons_zero, Nat.zero_mul, Nat.add_zero] at g1 g3
  have hs : RowIn w0 W (s, b, o + 8) := fun hne => by
    refine ⟨h1, fun i hi => ?_⟩
    obtain ⟨cs, k1, k2, k3⟩ := h2 (i + 1) (by simpa using hi)
    exact ⟨cs, by simpa using k1, k2, by rw [show o + 8 + i * 8 = o + (i + 1) * 8 by omega]; exact k3⟩
  cases t with
  | node k m l lo hi =>
    obtain ⟨A, c, he, ⟨hc1, hc2⟩, hA⟩ := g1.open
    have hcs : cs = reL k m A l.length c lo hi := by
      unfold reV at he
      injection he with he
      exact congrArg Array.toList he
    subst hcs
    refine ⟨A, c, g1, hc1, hc2, g3, ?_⟩
    by_cases hl : l = []
    · subst hl
      refine ⟨0, 0, fun h => absurd rfl h, h.1, fun r hr => ?_⟩
      simp only [List.mem_cons] at hr
      rcases hr with rfl | rfl | hr
      · exact fun hne => absurd rfl hne
      · exact hs
      · exact h.2 r (by simp [hr])
    · obtain ⟨b', o', rfl, hb', hg⟩ := hA hl
      refine ⟨b', o', fun _ => rfl, h.1, fun r hr => ?_⟩
      simp only [List.mem_cons] at hr
      rcases hr with rfl | rfl | hr
      · refine fun _ => ⟨.inl hb', fun i hi => ?_⟩
        obtain ⟨cs, k1, k2, k3⟩ := hg i hi
        exact ⟨cs, k1, k2, rangeAt_step k3 (by intro e; subst e; simp at k2) h.1⟩
      · exact hs
      · exact h.2 r (by simp [hr])

/-- a body that only reads the trees tells what the iterator asks -/
theorem RowsIn.told {w0 W W' : World} {t : Tree} {s : List Tree} {b o : Nat} {st : List Row} {J : List Row → World → Prop} (h : RowsIn w0 ((t :: s, b, o) :: st) W) (hk : KeepsTrees w0 W W')
    (hj : ∀ b' o', RowsIn w0 ((t.sub, b', o') :: (s, b, o + 8) :: st) W' → J ((t.sub, b', o') :: (s, b, o + 8) :: st) W') : Told J t s b o st W' := by
  obtain ⟨A, c, h1, h2, h3, h4, b', o', h5, h6⟩ := h.head
  have hsame : W'.heap[b]? = W.heap[b]? := by
    rcases (h.2 (t :: s, b, o) (by simp) (by simp)).1 with g | ⟨cs, g⟩
    · exact hk.1.block _ g
    · exact (hk.2 _ _ g).trans g.symm
  refine ⟨A, c, b', o', ?_, h2, h3, h5, hj b' o' (h6.keep hk)⟩
  rw [World.cell?_of_block (w := W) hsame]
  exact h4 5 _ rfl

/-- a tree in one new cell -/
theorem RowsIn.start {w0 W : World} {T : Tree} {cs : List Value} {g : Nat} (hT : Tree.At w0 T (.agg cs.toArray)) (h8 : cs.length = 8) (hb : Below w0.heap.size w0 W) (hg : W.heap[g]? = some (.cells cs.toArray 31 (0, 0))) : RowsIn w0 [([T], g, 0)] W := by
  refine ⟨hb, fun r hr => ?_⟩
  simp only [List.mem_singleton] at hr
  subst hr
  refine fun _ => ⟨.inr ⟨_, hg⟩, fun i hi => ?_⟩
  obtain rfl : i = 0 := by simpa using hi
  refine ⟨cs, hT, h8, fun j v hv => ?_⟩
  have : BlkIs W g 31 cs.toArray := hg
  have := this.cell j
  simpa [hv] using this

end Go.Proofs.Ytngagijcdehjpaa

