/-
  WHAT clone OF PACKAGE rx ANSWERS: the trees in new memory: a contract. Condition: they have at most 2^40 nodes.
-/
import Derived.Maps.OwnIn
import Derived.Test.YtgbljnnmhmlifaaQG15
import Derived.Test.YtgbljnnmhmlifaaQG13
import Derived.Test.YtgbljnnmhmlifaaQG08
namespace Go.Proofs.Ytgbljnnmhmlifaa
open Go.RowKit

section
variable {F : Fence} {nF : Nat} {P : Program} {ops : Array Oper} {rest : List Oper} {op : Oper} {a : Act} {w : World} {Q : Exit → Act → World → Prop}
end

mutual
theorem deep_nodes : ∀ t : Tree, t.deepN ≤ t.nodes
  | .node k m l lo hi => by have := deepL_nodes l; simp [Tree.deepN, Tree.nodes]; omega
theorem deepL_nodes : ∀ l : List Tree, deepL l ≤ nodesL l
  | [] => Nat.le_refl _
  | t :: r => by have := deep_nodes t; have := deepL_nodes r; simp [deepL, nodesL]; omega
end

attribute [local go_sem] Oper.semAt_some

theorem CloneJ.keep {w W W' : World} {g : Nat} {l0 : List Tree} {st : List Row} {B : Nat} (h : CloneJ w g l0 st W) (hl : Loose B W W') (hB : w.heap.size ≤ B) : CloneJ w g l0 st W' := by
  obtain ⟨F, h1, h2⟩ := h
  exact ⟨F, h1, h2.keep ⟨hl.os, hl.tape, hl.output, hl.size, fun k hk => hl.low k (by omega) (by have := h2.low.size; omega)⟩ fun k cs hx => hl.blk hx (by decide)⟩

end Go.Proofs.Ytgbljnnmhmlifaa

namespace Go.Proofs.Ytgbljnnmhmlifaa
open Go.RowKit

theorem info_re8 : (Try.prog.info? 39).map (·.size) = some 8 := by kernel_rfl
theorem reL_all {k lo hi : Int} {m : Nat → Bool} {A : Option Addr} {n c : Nat} : (reL k m A n c lo hi).toArray.all (·.oneCell') = true := by simp [reL, Value.oneCell']
theorem load_re {w : World} {g : Nat} {t : TypeId} {k lo hi : Int} {m : Nat → Bool} {A : Option Addr} {n c : Nat} (h : BlkIs w g t (reL k m A n c lo hi).toArray) : (loadVar 39 ⟨g, 0, none⟩).run Try.prog w = .ok (reV k m A n c lo hi) w :=
  run_loadVar_mid (P := Try.prog) w g 0 39 (reL k m A n c lo hi) _ h.range Try.underlying39 rfl info_re8
theorem store_re {w : World} {g : Nat} {t : TypeId} {k lo hi : Int} {m : Nat → Bool} {A : Option Addr} {n c : Nat} {cs : Array Value} (h : BlkIs w g t cs) (hs : cs.size = 8) :
    BlkIs (w.setCells g 0 (reL k m A n c lo hi)) g t (reL k m A n c lo hi).toArray := h.fill (new := (reL k m A n c lo hi).toArray) (by rw [hs]; rfl)
def zeroL : List Value := [.int .i64 0, .int .u64 0, .int .u64 0, .int .u64 0, .int .u64 0, .slice none 0 0, .int .i64 0, .int .i64 0]
theorem wd_zero (i : Nat) : wd (fun _ => false) i = 0 := by
  refine (eq_wd (by decide) fun j _ => ?_).symm
  simp
def Sub (V W : World) : Prop := ∀ p v, V.cell? p = some v → W.cell? p = some v
theorem Sub.refl (W : World) : Sub W W := fun _ _ h => h
theorem Sub.trans {A B C : World} (h : Sub A B) (k : Sub B C) : Sub A C := fun p v hv => k p v (h p v hv)
theorem Tree.At.sub {V W : World} (hs : Sub V W) : ∀ (T : Tree) {v : Value}, Tree.At V T v → Tree.At W T v := by
  intro T
  induction T using Tree.ind with
  | h k m l lo hi ih =>
    intro v h
    unfold Tree.At at h ⊢
    obtain ⟨A, c, rfl, hc, hl⟩ := h
    refine ⟨A, c, rfl, hc, fun hne => ?_⟩
    obtain ⟨b, o, rfl, ha⟩ := hl hne
    refine ⟨b, o, rfl, AllAt.mk l b o fun i hi => ?_⟩
    obtain ⟨cs, h1, h2, h3⟩ := AllAt.get l b o ha i hi
    exact ⟨cs, ih _ (List.getElem_mem hi) h1, h2, fun j v hv => hs _ _ (h3 j v hv)⟩
theorem AllAt.sub {V W : World} (hs : Sub V W) {l : List Tree} {b o : Nat} (h : AllAt V l b o) : AllAt W l b o :=
  AllAt.mk l b o fun i hi => by
    obtain ⟨cs, h1, h2, h3⟩ := AllAt.get l b o h i hi
    exact ⟨cs, h1.sub hs, h2, fun j v hv => hs _ _ (h3 j v hv)⟩
def less (W : World) (g : Nat) : World := W.putObj g (.deferred none)
theorem Tree.At.form {W : World} {T : Tree} {v : Value} (h : Tree.At W T v) : ∃ A n c, v = reV T.kind T.set A n c T.lo T.hi := by
  cases T with
  | node k m l lo hi =>
    obtain ⟨A, c, rfl, _⟩ := h.open
    exact ⟨A, l.length, c, rfl⟩
theorem AllAt.step {W W' : World} {l : List Tree} {b o : Nat} (h : AllAt W l b o) (hb : Below W.heap.size W W') : AllAt W' l b o :=
  AllAt.mk l b o fun i hi => by
    obtain ⟨cs, h1, h2, h3⟩ := AllAt.get l b o h i hi
    exact ⟨cs, h1.step hb, h2, rangeAt_step h3 (by intro e; subst e; simp at h2) hb⟩
theorem heap_cells (g k : Nat) (hk : k ≠ g) : ∀ (vs : List Value) (o : Nat) (w : World), (w.setCells g o vs).heap[k]? = w.heap[k]?
  | [], _, _ => rfl
  | v :: r, o, w => by
    rw [World.setCells, heap_cells g k hk r (o + 1)]
    exact Below.heap_setCell w ⟨g, o, none⟩ v k hk
end Go.Proofs.Ytgbljnnmhmlifaa

namespace Go.Proofs.Ytgbljnnmhmlifaa
open Go.RowKit

end Go.Proofs.Ytgbljnnmhmlifaa

namespace Go.Proofs.Ytgbljnnmhmlifaa
open Go.RowKit

def hide (W : World) (H : Nat → Bool) : World := { W with heap := W.heap.mapIdx fun k o => if H k then .deferred none else o }
theorem hide_get (W : World) (H : Nat → Bool) (k : Nat) : (hide W H).heap[k]? = (W.heap[k]?).map fun o => if H k then .deferred none else o := by
  unfold hide; simp
theorem hide_size (W : World) (H : Nat → Bool) : (hide W H).heap.size = W.heap.size := by unfold hide; simp
theorem hide_cell {W : World} {H : Nat → Bool} {p : Addr} {v : Value} (h : (hide W H).cell? p = some v) : H p.block = false ∧ W.cell? p = some v := by
  cases e : H p.block
  · refine ⟨rfl, ?_⟩
    rw [← h]
    refine (World.cell?_of_block (w := W) ?_).symm
    rw [hide_get]
    simp [e]
  · exfalso
    unfold World.cell? at h
    rw [hide_get, e] at h
    cases hb : W.heap[p.block]? with
    | none => rw [hb] at h; cases h
    | some x => rw [hb] at h; cases h
theorem hide_show {W : World} {H : Nat → Bool} {p : Addr} {v : Value} (e : H p.block = false) (h : W.cell? p = some v) : (hide W H).cell? p = some v := by
  rw [← h]
  refine World.cell?_of_block (w := W) ?_
  rw [hide_get]
  simp [e]
theorem hide_sub {W W' : World} {H H' : Nat → Bool} (h : ∀ k, H k = false → k < W.heap.size → H' k = false ∧ W'.heap[k]? = W.heap[k]?) : Sub (hide W H) (hide W' H') := fun p v hv => by
  obtain ⟨h1, h2⟩ := hide_cell hv
  obtain ⟨h3, h4⟩ := h _ h1 (World.block_lt_of_cell? W p h2)
  exact hide_show h3 ((World.cell?_of_block (w := W) h4).trans h2)
theorem hide_less {W : World} {H : Nat → Bool} : Sub (hide W H) W := fun _ _ hv => (hide_cell hv).2

def low (n k : Nat) : Bool := decide (k < n)
theorem low_no {n k : Nat} : low n k = false ↔ n ≤ k := by unfold low; simp
end Go.Proofs.Ytgbljnnmhmlifaa

namespace Go.Proofs.Ytgbljnnmhmlifaa
open Go.RowKit

structure Nx (M M' : Nat → Bool) (W W' : World) : Prop where
  os : W'.os = W.os
  tape : W'.tape = W.tape
  output : W'.output = W.output
  size : W.heap.size ≤ W'.heap.size
  block : ∀ k, k < W.heap.size → M k = false → W'.heap[k]? = W.heap[k]?
  mine : ∀ k, k < W.heap.size → M' k = M k
theorem Nx.refl (M : Nat → Bool) (W : World) : Nx M M W W := ⟨rfl, rfl, rfl, Nat.le_refl _, fun _ _ _ => rfl, fun _ _ => rfl⟩
theorem Nx.trans {M1 M2 M3 : Nat → Bool} {A B C : World} (h : Nx M1 M2 A B) (k : Nx M2 M3 B C) : Nx M1 M3 A C :=
  ⟨k.os.trans h.os, k.tape.trans h.tape, k.output.trans h.output, Nat.le_trans h.size k.size, fun i hi hm => (k.block i (Nat.lt_of_lt_of_le hi h.size) (by rw [h.mine i hi]; exact hm)).trans (h.block i hi hm),
    fun i hi => (k.mine i (Nat.lt_of_lt_of_le hi h.size)).trans (h.mine i hi)⟩
theorem Nx.below {M : Nat → Bool} {W W' : World} (h : Below W.heap.size W W') : Nx M M W W' := ⟨h.os, h.tape, h.output, h.size, fun k hk _ => h.block k hk, fun _ _ => rfl⟩
theorem Nx.grown {M : Nat → Bool} {W W' : World} {row : Option Nat} (h : W.grownBy W' row) (hr : ∀ k, row = some k → M k = true) : Nx M M W W' :=
  ⟨h.os, h.tape, h.output, h.size, fun k hk hm => h.block k hk (fun e => by rw [hr k e.symm] at hm; cases hm), fun _ _ => rfl⟩
theorem Nx.put {M : Nat → Bool} {W : World} {p : Addr} (hp : M p.block = true) (u : Value) : Nx M M W (W.setCell p u) :=
  ⟨rfl, rfl, rfl, by simp [World.setCell], fun k _ hm => Below.heap_setCell _ _ _ _ (by intro e; rw [e, hp] at hm; cases hm), fun _ _ => rfl⟩
theorem Nx.more {M M' M2 : Nat → Bool} {W W' : World} (h : Nx M M' W W') (hm : ∀ k, k < W.heap.size → M2 k = M' k) : Nx M M2 W W' :=
  ⟨h.os, h.tape, h.output, h.size, h.block, fun k hk => (hm k hk).trans (h.mine k hk)⟩
def MK (M K : Nat → Bool) (k : Nat) : Bool := M k || K k
theorem MK_no {M K : Nat → Bool} {k : Nat} : MK M K k = false ↔ M k = false ∧ K k = false := by unfold MK; simp
theorem Nx.sub {M M' : Nat → Bool} {W W' : World} (h : Nx M M' W W') (K : Nat → Bool) : Sub (hide W (MK M K)) (hide W' (MK M' K)) := hide_sub fun k h1 h2 => by
  rw [MK_no] at h1 ⊢
  exact ⟨⟨(h.mine k h2).trans h1.1, h1.2⟩, h.block k h2 h1.1⟩
theorem Nx.sub1 {M M' : Nat → Bool} {W W' : World} (h : Nx M M' W W') : Sub (hide W M) (hide W' M') := hide_sub fun k h1 h2 => ⟨(h.mine k h2).trans h1, h.block k h2 h1⟩
theorem below_sub {W W' : World} (K : Nat → Bool) (h : Below W.heap.size W W') : Sub (hide W K) (hide W' K) := hide_sub fun k h1 h2 => ⟨h1, h.block k h2⟩

theorem IntsV.sub {V W : World} {l : List Int} {v : Value} (h : IntsV V l v) (hs : Sub V W) : IntsV W l v := by
  obtain ⟨A, c, e, hc, hx⟩ := h
  refine ⟨A, c, e, hc, fun hne => ?_⟩
  obtain ⟨b, o, e2, hlt, hg⟩ := hx hne
  have hg2 := fun i hi => hs _ _ (hg i hi)
  refine ⟨b, o, e2, ?_, hg2⟩
  exact World.block_lt_of_cell? W ⟨b, o + 0, none⟩ (hg2 0 (List.length_pos_iff.2 hne))
theorem IntsV.bare {W : World} {K : Nat → Bool} {l : List Int} {v : Value} (h : IntsV (hide W K) l v) : IntsV W l v := h.sub hide_less
theorem RowI.show {B : Nat} {W : World} {K : Nat → Bool} {l : List Int} {v : Value} (h : RowI B W v l) (hK : ∀ k, B ≤ k → K k = false) : IntsV (hide W K) l v := by
  obtain ⟨A, c, e, hc, hx⟩ := h.ints
  refine ⟨A, c, e, hc, fun hne => ?_⟩
  obtain ⟨b, o, e2, hlt, hg⟩ := hx hne
  have hb := (World.ownsRow.lt h b (by rw [e, e2]; rfl)).1
  exact ⟨b, o, e2, by rw [hide_size]; exact hlt, fun i hi => hide_show (hK b hb) (hg i hi)⟩

def PrtV (W : World) (p : Prt) (v : Value) : Prop := ∃ v1 v2, v = .agg #[v1, v2, .bool p.empty] ∧ IntsV W p.first v1 ∧ IntsV W p.ends v2
theorem PrtV.sub {V W : World} {p : Prt} {v : Value} (h : PrtV V p v) (hs : Sub V W) : PrtV W p v := by
  obtain ⟨v1, v2, e, h1, h2⟩ := h
  exact ⟨v1, v2, e, h1.sub hs, h2.sub hs⟩

def cellsS (ms : List (Nat → Bool)) : List Value := ms.flatMap fun m => [.int .u64 (wd m 0 : Nat), .int .u64 (wd m 1 : Nat), .int .u64 (wd m 2 : Nat), .int .u64 (wd m 3 : Nat)]
structure MkI (M K : Nat → Bool) (W : World) (pb : Nat) (S : Mk) (r f e m vs vf : Value) (xs : List Value) : Prop where
  blk : BlkIs W pb 53 #[vs, r, f, vf, e, m]
  mine : M pb = true
  own0 : W.ownsRow 0 37 4 vs S.sets.length (cellsS S.sets)
  own3 : W.ownsRow 0 26 1 vf S.follow.length xs
  far0 : ∀ k, vs.ownBlock = some k → M k = true ∧ k ≠ pb
  far3 : ∀ k, vf.ownBlock = some k → M k = true ∧ k ≠ pb ∧ vs.ownBlock ≠ some k
  rows : ∀ (i : Nat) (h : i < S.follow.length), ∃ x, xs[i]? = some x ∧ IntsV (hide W (MK M K)) S.follow[i] x
def MkAt (M K : Nat → Bool) (W : World) (pb : Nat) (S : Mk) (r f e m : Value) : Prop := ∃ vs vf xs, MkI M K W pb S r f e m vs vf xs
theorem ownsRow_heap {W W' : World} {B : Nat} {t : TypeId} {z n : Nat} {v : Value} {xs : List Value} (h : W.ownsRow B t z v n xs) (hk : ∀ k, v.ownBlock = some k → W'.heap[k]? = W.heap[k]?) : W'.ownsRow B t z v n xs := by
  refine ⟨h.1, h.2.imp id ?_⟩
  rintro ⟨g, cap, cur, rfl, h1, h2, h3⟩
  exact ⟨g, cap, cur, rfl, h1, (hk g rfl).trans h2, h3⟩
theorem MkI.step {M K : Nat → Bool} {W W' : World} {pb : Nat} {S : Mk} {r f e m vs vf : Value} {xs : List Value} (h : MkI M K W pb S r f e m vs vf xs) (hb : Below W.heap.size W W') : MkI M K W' pb S r f e m vs vf xs :=
  ⟨h.blk.step hb, h.mine, ownsRow_heap h.own0 fun k hk => hb.block k (World.ownsRow.lt h.own0 k hk).2, ownsRow_heap h.own3 fun k hk => hb.block k (World.ownsRow.lt h.own3 k hk).2, h.far0, h.far3,
    fun i hi => by obtain ⟨x, h1, h2⟩ := h.rows i hi; exact ⟨x, h1, h2.sub (below_sub _ hb)⟩⟩
theorem MkAt.step {M K : Nat → Bool} {W W' : World} {pb : Nat} {S : Mk} {r f e m : Value} (h : MkAt M K W pb S r f e m) (hb : Below W.heap.size W W') : MkAt M K W' pb S r f e m := by
  obtain ⟨vs, vf, xs, h⟩ := h
  exact ⟨vs, vf, xs, h.step hb⟩
theorem MkI.place {M K : Nat → Bool} {W : World} {pb : Nat} {S : Mk} {r f e m vs vf : Value} {xs : List Value} (h : MkI M K W pb S r f e m vs vf xs) (hne : S.follow ≠ []) :
    ∃ g c, vf = .slice (some ⟨g, 0, none⟩) S.follow.length c ∧ (S.follow.length ≤ c ∧ c ≤ 9223372036854775807) ∧ M g = true ∧ g ≠ pb ∧ g < W.heap.size ∧
      ∀ (i : Nat) (hi : i < S.follow.length), ∃ A n c', W.cell? ⟨g, i, none⟩ = some (.slice A n c') ∧ W.frozen? ⟨g, i, none⟩ = false ∧ IntsV (hide W (MK M K)) S.follow[i] (.slice A n c') := by
  have h0 := h.own3
  rcases h.own3.2 with ⟨h1, h2⟩ | ⟨g, cap, cur, rfl, h2, h3, h4, h5, h6, h7⟩
  · exact absurd (List.eq_nil_of_length_eq_zero h2) hne
  · have hf := h.far3 g rfl
    refine ⟨g, cap, rfl, ⟨h4, by unfold maxLen at h5; omega⟩, hf.1, hf.2.1, (Array.getElem?_eq_some_iff.1 h3).1, fun i hi => ?_⟩
    obtain ⟨x, hx1, hx2⟩ := h.rows i hi
    have hc := h0.cells (g := g) rfl i x hx1
    rw [Addr.add_lit, Nat.zero_add] at hc
    obtain ⟨A, c', rfl, hcc, hxx⟩ := hx2
    exact ⟨A, _, c', hc, World.ownsRow.frozenAt h0 i, A, c', rfl, hcc, hxx⟩
theorem MkI.put {M K : Nat → Bool} {W : World} {pb : Nat} {S : Mk} {r f e m vs : Value} {xs : List Value} {g c : Nat} (h : MkI M K W pb S r f e m vs (.slice (some ⟨g, 0, none⟩) S.follow.length c) xs) (i : Nat) {l : List Int} {v : Value} (hv : IntsV (hide W (MK M K)) l v) :
    MkI M K (W.setCell ⟨g, i, none⟩ v) pb ⟨S.sets, S.follow.set i l⟩ r f e m vs (.slice (some ⟨g, 0, none⟩) S.follow.length c) (xs.set i v) := by
  have hf := h.far3 g rfl
  have hsub : Sub (hide W (MK M K)) (hide (W.setCell ⟨g, i, none⟩ v) (MK M K)) := (Nx.put (M := M) (p := ⟨g, i, none⟩) hf.1 v).sub K
  refine ⟨h.blk.far (p := ⟨g, i, none⟩) (Ne.symm hf.2.1) v, h.mine, ownsRow_heap h.own0 fun k hk => Below.heap_setCell _ _ _ _ (by intro e; exact hf.2.2 (by rw [hk]; exact congrArg some e)), ?_, h.far0, h.far3, fun j hj => ?_⟩
  · have := (World.ownsRow.stored h.own3 i v).1
    simp only [List.length_set] at this ⊢
    exact this
  · simp only [List.length_set] at hj
    obtain ⟨x, h1, h2⟩ := h.rows j hj
    by_cases e : i = j
    · subst e
      have hlt : i < xs.length := (List.getElem?_eq_some_iff.1 h1).1
      exact ⟨v, by simp [hlt], by simpa using hv.sub hsub⟩
    · exact ⟨x, by rw [List.getElem?_set_ne e]; exact h1, by simp only [List.getElem_set_ne e]; exact h2.sub hsub⟩
end Go.Proofs.Ytgbljnnmhmlifaa

