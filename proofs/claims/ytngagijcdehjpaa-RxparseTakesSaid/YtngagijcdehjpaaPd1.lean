/-
  TREES THAT A PARSER ANSWERS: they lie beside its own blocks: a world with some blocks hidden; the fragments; how a reader of trees ends. Of no program but for the cells of a parser. No condition.
-/
import Derived.Test.YtngagijcdehjpaaPc6
import Derived.Test.YtngagijcdehjpaaPcb
namespace Go.Proofs.Ytngagijcdehjpaa
open Go.RowKit

/-- a world with some blocks hidden -/
def hide (W : World) (H : Nat → Bool) : World := { W with heap := W.heap.mapIdx fun k o => if H k then .deferred none else o }
theorem hide_get (W : World) (H : Nat → Bool) (k : Nat) : (hide W H).heap[k]? = (W.heap[k]?).map fun o => if H k then .deferred none else o := by
  unfold hide; simp
theorem hide_size (W : World) (H : Nat → Bool) : (hide W H).heap.size = W.heap.size := by unfold hide; simp
theorem hide_cell {W : World} {H : Nat → Bool} {p : Addr} {v : Value} (h : (hide W H).cell? p = some v) : H p.block = false ∧ W.cell? p = some v := by
  cases e : H p.block
  · refine ⟨rfl, ?_⟩
    rw [← h]
    refine (World.cell?_of_block (w := W) ?_).symm
    rw [hide_get]
    simp [e]
  · exfalso
    unfold World.cell? at h
    rw [hide_get, e] at h
    cases hb : W.heap[p.block]? with
    | none => rw [hb] at h; cases h
    | some x => rw [hb] at h; cases h
theorem hide_show {W : World} {H : Nat → Bool} {p : Addr} {v : Value} (e : H p.block = false) (h : W.cell? p = some v) : (hide W H).cell? p = some v := by
  rw [← h]
  refine World.cell?_of_block (w := W) ?_
  rw [hide_get]
  simp [e]
theorem hide_sub {W W' : World} {H H' : Nat → Bool} (h : ∀ k, H k = false → k < W.heap.size → H' k = false ∧ W'.heap[k]? = W.heap[k]?) : Sub (hide W H) (hide W' H') := fun p v hv => by
  obtain ⟨h1, h2⟩ := hide_cell hv
  obtain ⟨h3, h4⟩ := h _ h1 (World.block_lt_of_cell? W p h2)
  exact hide_show h3 ((World.cell?_of_block (w := W) h4).trans h2)
theorem hide_less {W : World} {H : Nat → Bool} : Sub (hide W H) W := fun _ _ hv => (hide_cell hv).2

/-- a parser's own blocks: from its own on to b, and a row's -/
def Hd (pb b : Nat) (R : Option Nat) (k : Nat) : Bool := (decide (pb ≤ k) && decide (k < b)) || decide (R = some k)
theorem Hd_no {pb b k : Nat} {R : Option Nat} : Hd pb b R k = false ↔ (k < pb ∨ b ≤ k) ∧ R ≠ some k := by
  unfold Hd
  simp only [Bool.or_eq_false_iff, Bool.and_eq_false_iff, decide_eq_false_iff_not, ne_eq, Nat.not_le, Nat.not_lt]
theorem Kept.get {pb : Nat} {W W' : World} (h : Kept pb W W') {k : Nat} (hk : k < W.heap.size) (hne : k ≠ pb) : W'.heap[k]? = W.heap[k]? := by
  rcases Nat.lt_or_ge k pb with h1 | h1
  · exact h.1.block k h1
  · exact h.2 k (by omega) hk
/-- the tree lies beside the blocks from pb on that are below b -/
def encTree (pb b : Nat) (W : World) (T : Tree) (v : Value) : Prop := T.At (hide W (Hd pb b none)) v
theorem encTree.kept {pb b b' : Nat} {W W' : World} {T : Tree} {v : Value} (h : encTree pb b W T v) (hk : Kept pb W W') (hb : b' ≤ b) (hpb : pb < b) : encTree pb b' W' T v :=
  h.sub (hide_sub fun k h1 h2 => by
    rw [Hd_no] at h1 ⊢
    exact ⟨⟨by omega, by simp⟩, hk.get h2 (by omega)⟩)
theorem encTree.at {pb b : Nat} {W : World} {T : Tree} {v : Value} (h : encTree pb b W T v) : T.At W v := Tree.At.sub hide_less T h
theorem encTree.byte {pb b : Nat} {W : World} (k : Int) (m : Nat → Bool) : encTree pb b W (.node k m [] 0 0) (reV k m none 0 0 0 0) := by
  unfold encTree Tree.At
  exact ⟨none, 0, rfl, ⟨Nat.le_refl _, by omega⟩, fun h => absurd rfl h⟩

/-- fragments in memory -/
def FrsAt (W : World) (fr : Frs) (F : Value) : Prop := ∃ A c, F = .slice A fr.length c ∧ (fr.length ≤ c ∧ c ≤ 9223372036854775807) ∧ (fr ≠ [] → ∃ b o, A = some ⟨b, o, none⟩ ∧
  ∀ (i : Nat) (h : i < fr.length), ∃ cs : List Value, (fr[i]).2.At W (.agg cs.toArray) ∧ cs.length = 8 ∧ W.rangeAt b (o + i * 9) (.string ⟨(fr[i]).1.toArray⟩ :: cs))
theorem FrsAt.sub {V W : World} {fr : Frs} {F : Value} (hs : Sub V W) (h : FrsAt V fr F) : FrsAt W fr F := by
  obtain ⟨A, c, h1, h2, h3⟩ := h
  refine ⟨A, c, h1, h2, fun hne => ?_⟩
  obtain ⟨b, o, h4, h5⟩ := h3 hne
  refine ⟨b, o, h4, fun i hi => ?_⟩
  obtain ⟨cs, h6, h7, h8⟩ := h5 i hi
  exact ⟨cs, h6.sub hs, h7, fun j v hv => hs _ _ (h8 j v hv)⟩
def frm (pb k : Nat) : Bool := decide (pb ≤ k)
theorem frm_no {pb k : Nat} : frm pb k = false ↔ k < pb := by unfold frm; simp

section
variable {pb : Nat} {s : ByteArray} {F : Value} {fr : Frs} {W W' : World} {i o j o' : Nat}
/-- a parser stands at place i, o groups are open, its fragments lie ahead of it -/
def Sf (pb : Nat) (s : ByteArray) (F : Value) (fr : Frs) (W : World) (i o : Nat) : Prop := St pb s F W W i o ∧ FrsAt (hide W (frm pb)) fr F
theorem Sf.st (h : Sf pb s F fr W i o) : St pb s F W W i o := h.1
theorem Sf.to (h : Sf pb s F fr W i o) (k : St pb s F W W' j o') : Sf pb s F fr W' j o' :=
  ⟨k.self, h.2.sub (hide_sub fun n h1 h2 => by
    rw [frm_no] at h1 ⊢
    exact ⟨h1, k.kept.get h2 (by omega)⟩)⟩
theorem Sf.lt (h : Sf pb s F fr W i o) : pb < W.heap.size := h.1.is.lt
theorem Sf.frs (h : Sf pb s F fr W i o) (b : Nat) : FrsAt (hide W (Hd pb b none)) fr F := h.2.sub (hide_sub fun n h1 h2 => by
  rw [frm_no] at h1
  rw [Hd_no]
  exact ⟨⟨Or.inl h1, by simp⟩, rfl⟩)

/-- a result laid and stored: how a reader of trees ends -/
theorem tree_ends {b j : Nat} {T : Tree} {k lo hi : Int} {m : Nat → Bool} {A : Option Addr} {n c : Nat} {Wk : World} (hp : pb < W.heap.size) (hb : W.heap.size < b) (hT : encTree pb b Wk T (reV k m A n c lo hi)) (hS : St pb s F W Wk j o) :
    EndsAs pb s F W (encTree pb W.heap.size) o (.ok (T, j)) (.returned (reV k m A n c lo hi)) (Wk.setCells W.heap.size 0 (reL k m A n c lo hi)) :=
  ⟨⟨_, rfl, hT.sub (hide_sub fun q h1 h2 => by
    rw [Hd_no] at h1 ⊢
    exact ⟨⟨by omega, by simp⟩, heap_cells _ _ (by omega) _ _ _⟩)⟩, hS.news hp (Nat.le_refl _) _ _⟩
theorem zero_new (W : World) : BlkIs (W.alloc (.cells zeroL.toArray 31)) W.heap.size 31 zeroL.toArray := BlkIs.new W _ _
theorem Sf.alloc (h : Sf pb s F fr W i o) (ob : Obj) : Sf pb s F fr (W.alloc ob) i o := h.to (h.st.step ((Below.refl _ _).alloc (Nat.le_refl _) ob))
theorem St.alloc (h : St pb s F W W' i o) (ob : Obj) : St pb s F W (W'.alloc ob) i o := h.step ((Below.refl _ _).alloc (Nat.le_refl _) ob)
end
end Go.Proofs.Ytngagijcdehjpaa

