/-
  WHAT Nodes, Deep, May OF PACKAGE rx ANSWER: contracts. Condition: the tree is at most 2^40 deep.
-/
import Derived.Maps.OwnIn
import Derived.Test.YtkladjjeacjgpaaDoorQG04
import Derived.Test.YtkladjjeacjgpaaDoorQMayn
namespace Go.Proofs.YtkladjjeacjgpaaDoor
open Go.RowKit

def nodesS : List Row → Nat
  | [] => 0
  | r :: st => nodesL r.1 + nodesS st
theorem nodesS_push (t : Tree) (s : List Tree) (b o b' o' o2 : Nat) (st : List Row) : nodesS ((t :: s, b, o) :: st) = nodesS ((t.sub, b', o') :: (s, b, o2) :: st) + 1 := by
  cases t with
  | node k m l lo hi => simp only [nodesS, nodesL, Tree.nodes, Tree.sub]; omega

attribute [local go_sem] Oper.semAt_some

theorem wrap_add1 (x : Nat) : wrap64 (wrap64 (x : Int) + 1) = wrap64 ((x + 1 : Nat) : Int) := by unfold wrap64; omega

/-- the world behind 'w := walker{re}', a box ahead and one behind -/
theorem start_rows {w : World} {T : Tree} {cs : List Value} (hT : T.At w (.agg cs.toArray)) (h8 : cs.length = 8) (y : Value) (t : TypeId) :
    RowsIn w [([T], w.heap.size + 1, 0)] (((w.alloc (.cells cs.toArray 27)).alloc (.cells cs.toArray 27)).alloc (.cells #[y] t)) ∧
      BlkIs (((w.alloc (.cells cs.toArray 27)).alloc (.cells cs.toArray 27)).alloc (.cells #[y] t)) (w.heap.size + 2) t #[y] ∧ (((w.alloc (.cells cs.toArray 27)).alloc (.cells cs.toArray 27)).alloc (.cells #[y] t)).heap.size = w.heap.size + 3 := by
  have h1 := (BlkIs.new (w.alloc (.cells cs.toArray 27)) 27 cs.toArray).alloc (.cells #[y] t)
  have h2 := BlkIs.new ((w.alloc (.cells cs.toArray 27)).alloc (.cells cs.toArray 27)) t #[y]
  rw [World.size_alloc] at h1
  rw [World.size_alloc, World.size_alloc] at h2
  refine ⟨RowsIn.start hT h8 ((((Below.refl _ _).alloc (Nat.le_refl _) _).alloc (by simp) _).alloc (by simp; omega) _) h1, h2, by simp⟩

/-- a body that writes one box of its own keeps the trees and the iterator's rows -/
theorem keeps_set {w0 W : World} {g : Nat} {t : TypeId} {cs : Array Value} (hb : BlkIs W g t cs) (hg : w0.heap.size ≤ g) (h1 : t ≠ 27) (i : Nat) (v : Value) : KeepsTrees w0 W (W.setCell ⟨g, i, none⟩ v) := by
  refine ⟨(Below.refl _ W).setCell (p := ⟨g, i, none⟩) hg v, fun k c hk => (Below.heap_setCell W ⟨g, i, none⟩ v k (fun e => ?_)).trans hk⟩
  dsimp only at e
  subst e
  have := hk.symm.trans (show W.heap[k]? = some (.cells cs t (0, 0)) from hb)
  injection this with this
  injection this with _ e
  exact h1 e.symm
theorem keepsRows_set {W : World} {g : Nat} {t : TypeId} {cs : Array Value} (hb : BlkIs W g t cs) (h1 : t ≠ 25) (i : Nat) (v : Value) : KeepsRows W (W.setCell ⟨g, i, none⟩ v) := by
  refine ⟨(KeepsOthers.setCell W _ v).size, fun k c hk => (Below.heap_setCell W ⟨g, i, none⟩ v k (fun e => ?_)).trans hk⟩
  dsimp only at e
  subst e
  have := hk.symm.trans (show W.heap[k]? = some (.cells cs t (0, 0)) from hb)
  injection this with this
  injection this with _ e
  exact h1 e.symm

/-- so many nodes are counted -/
def CountJ (w : World) (N : Nat) (st : List Row) (W : World) : Prop := RowsIn w st W ∧ ∃ x : Nat, x + nodesS st = N ∧ BlkIs W (w.heap.size + 2) 3 #[.int .i64 (wrap64 (x : Nat))]

/-- how deep what is ahead reaches -/
def deepS : List Row → Nat
  | [] => 0
  | r :: st => max (if r.1 = [] then 0 else st.length + deepL r.1) (deepS st)
theorem deepS_push (t : Tree) (s : List Tree) (b o b' o' o2 : Nat) (st : List Row) : max (st.length + 1) (deepS ((t.sub, b', o') :: (s, b, o2) :: st)) = deepS ((t :: s, b, o) :: st) := by
  cases t with
  | node k m l lo hi =>
    simp only [deepS, deepL, Tree.deepN, Tree.sub, List.length_cons]
    cases l with
    | nil => cases s <;> simp [deepL] <;> omega
    | cons a l => cases s <;> simp [deepL] <;> omega
theorem deepS_some (t : Tree) (s : List Tree) (b o : Nat) (st : List Row) : st.length + 1 ≤ deepS ((t :: s, b, o) :: st) := by
  cases t with
  | node k m l lo hi => simp [deepS, deepL, Tree.deepN]; omega
/-- the deepest till now -/
def DeepJ (w : World) (N : Nat) (st : List Row) (W : World) : Prop := RowsIn w st W ∧ ∃ x : Nat, max x (deepS st) = N ∧ BlkIs W (w.heap.size + 2) 3 #[.int .i64 (x : Nat)]

end Go.Proofs.YtkladjjeacjgpaaDoor

/-
  A COPY OF TREES WHILE IT IS MADE: what lies where, of no program: the rows that are ahead hold the old nodes; the nodes behind hold new Subs. No condition.
-/
namespace Go.Proofs.YtkladjjeacjgpaaDoor
open Go.RowKit

theorem range_set {W : World} {b i o : Nat} {t : TypeId} {cs : Array Value} {ls : List Value} (hb : BlkIs W b t cs) (h : W.rangeAt b o ls) (hi : i < o ∨ o + ls.length ≤ i) (u : Value) : (W.setCell ⟨b, i, none⟩ u).rangeAt b o ls := fun j v hv => by
  have hj : j < ls.length := (List.getElem?_eq_some_iff.1 hv).1
  have h1 := h j v hv
  rw [hb.cell] at h1
  rw [(hb.put i u).cell, Array.getElem?_setIfInBounds_ne (by omega)]
  exact h1
theorem range_far {W : World} {b k i o : Nat} {ls : List Value} (h : W.rangeAt k o ls) (hk : k ≠ b) (u : Value) : (W.setCell ⟨b, i, none⟩ u).rangeAt k o ls := fun j v hv =>
  (World.cell?_of_block (w := W) (Below.heap_setCell W ⟨b, i, none⟩ u k hk)).trans (h j v hv)

def NodePend (w W : World) (t : Tree) (b o : Nat) : Prop := ∃ cs : List Value, Tree.At w t (.agg cs.toArray) ∧ cs.length = 8 ∧ W.rangeAt b o cs
def Nd (F : List (Nat × List Tree)) (W : World) (t : Tree) (b o : Nat) : Prop :=
  ∃ A c, W.rangeAt b o (reL t.kind t.set A t.sub.length c t.lo t.hi) ∧ t.sub.length ≤ c ∧ c ≤ 9223372036854775807 ∧ (t.sub ≠ [] → ∃ b', A = some ⟨b', 0, none⟩ ∧ (b', t.sub) ∈ F)
def InSt (st : List Row) (t : Tree) (b i : Nat) : Prop := ∃ r ∈ st, r.2.1 = b ∧ ∃ (j : Nat) (hj : j < r.1.length), r.1[j] = t ∧ r.2.2 + j * 8 = i * 8
def Fresh (w W : World) (b : Nat) : Prop := w.heap.size ≤ b ∧ ∃ cs, BlkIs W b 27 cs

structure CloneF (w : World) (F : List (Nat × List Tree)) (st : List Row) (W : World) : Prop where
  low : Below w.heap.size w W
  rows : ∀ r ∈ st, r.1 ≠ [] → Fresh w W r.2.1 ∧ (∃ q, r.2.2 = q * 8) ∧ ∀ (j : Nat) (h : j < r.1.length), NodePend w W r.1[j] r.2.1 (r.2.2 + j * 8)
  apart : st.Pairwise fun r q => r.1 ≠ [] → q.1 ≠ [] → r.2.1 ≠ q.2.1
  all : ∀ p ∈ F, Fresh w W p.1 ∧ ∀ (i : Nat) (h : i < p.2.length), InSt st p.2[i] p.1 i ∨ (Nd F W p.2[i] p.1 (i * 8) ∧ ∀ r ∈ st, r.1 ≠ [] → r.2.1 = p.1 → i * 8 < r.2.2)
def CloneJ (w : World) (g : Nat) (l0 : List Tree) (st : List Row) (W : World) : Prop := ∃ F, (l0 ≠ [] → (g, l0) ∈ F) ∧ CloneF w F st W

/-- cells of new blocks stay -/
theorem Fresh.keep {w W W' : World} {b : Nat} (h : Fresh w W b) (hk : ∀ k cs, BlkIs W k 27 cs → BlkIs W' k 27 cs) : Fresh w W' b := by
  obtain ⟨h1, cs, h2⟩ := h
  exact ⟨h1, cs, hk _ _ h2⟩
theorem Fresh.range {w W W' : World} {b o : Nat} {ls : List Value} (h : Fresh w W b) (hk : ∀ k cs, BlkIs W k 27 cs → BlkIs W' k 27 cs) (hr : W.rangeAt b o ls) : W'.rangeAt b o ls := fun j v hv => by
  obtain ⟨_, cs, h2⟩ := h
  rw [(hk _ _ h2).cell, ← h2.cell]
  exact hr j v hv

theorem CloneF.keep {w W W' : World} {F : List (Nat × List Tree)} {st : List Row} (h : CloneF w F st W) (hb : Below w.heap.size W W') (hk : ∀ k cs, BlkIs W k 27 cs → BlkIs W' k 27 cs) : CloneF w F st W' where
  low := h.low.trans hb
  rows := fun r hr hne => by
    obtain ⟨h1, h2, h3⟩ := h.rows r hr hne
    refine ⟨h1.keep hk, h2, fun j hj => ?_⟩
    obtain ⟨cs, g1, g2, g3⟩ := h3 j hj
    exact ⟨cs, g1, g2, h1.range hk g3⟩
  apart := h.apart
  all := fun p hp => by
    obtain ⟨h1, h2⟩ := h.all p hp
    refine ⟨h1.keep hk, fun i hi => (h2 i hi).imp id fun ⟨⟨A, c, g1, g2, g3, g4⟩, g5⟩ => ⟨⟨A, c, h1.range hk g1, g2, g3, g4⟩, g5⟩⟩
theorem CloneF.pop {w W : World} {F : List (Nat × List Tree)} {b o : Nat} {st : List Row} (h : CloneF w F (([], b, o) :: st) W) : CloneF w F st W where
  low := h.low
  rows := fun r hr hne => h.rows r (by simp [hr]) hne
  apart := (List.pairwise_cons.1 h.apart).2
  all := fun p hp => by
    obtain ⟨h1, h2⟩ := h.all p hp
    refine ⟨h1, fun i hi => (h2 i hi).imp ?_ fun ⟨g1, g2⟩ => ⟨g1, fun r hr hne => g2 r (by simp [hr]) hne⟩⟩
    rintro ⟨r, hr, g1, j, hj, g2⟩
    rcases List.mem_cons.1 hr with rfl | hr
    · exact absurd hj (by simp)
    · exact ⟨r, hr, g1, j, hj, g2⟩

/-- the world behind: each row's trees lie there, and in new blocks alone -/
theorem CloneF.done {w W V : World} {F : List (Nat × List Tree)} (h : CloneF w F [] W) (hV : ∀ k, w.heap.size ≤ k → V.heap[k]? = W.heap[k]?) : ∀ (t : Tree) (b o : Nat), w.heap.size ≤ b → Nd F W t b o → ∃ cs : List Value, Tree.At V t (.agg cs.toArray) ∧ cs.length = 8 ∧ V.rangeAt b o cs := by
  intro t
  induction t using Tree.ind with
  | h k m l lo hi ih =>
    rintro b o hb ⟨A, c, h1, h2, h3, h4⟩
    refine ⟨_, ?_, rfl, fun j v hv => (World.cell?_of_block (w := W) (hV b hb)).trans (h1 j v hv)⟩
    unfold Tree.At
    refine ⟨A, c, rfl, ⟨h2, h3⟩, fun hne => ?_⟩
    obtain ⟨b', rfl, h5⟩ := h4 hne
    refine ⟨b', 0, rfl, AllAt.mk l b' 0 fun i hi => ?_⟩
    rw [Nat.zero_add]
    rcases (h.all _ h5).2 i hi with ⟨r, hr, _⟩ | ⟨g, _⟩
    · cases hr
    · exact ih _ (List.getElem_mem hi) _ _ (h.all _ h5).1.1 g
theorem CloneJ.done {w W V : World} {g : Nat} {l0 : List Tree} (h : CloneJ w g l0 [] W) (hne : l0 ≠ []) (hV : ∀ k, w.heap.size ≤ k → V.heap[k]? = W.heap[k]?) : AllAt V l0 g 0 := by
  obtain ⟨F, h1, h2⟩ := h
  refine AllAt.mk l0 g 0 fun i hi => ?_
  rw [Nat.zero_add]
  rcases (h2.all _ (h1 hne)).2 i hi with ⟨r, hr, _⟩ | ⟨g, _⟩
  · cases hr
  · exact h2.done hV _ _ _ (h2.all _ (h1 hne)).1.1 g

/-- THE STEP: the Subs of the node that is told are copied, and its field says where -/
theorem clone_step {w W W2 : World} {g : Nat} {l0 : List Tree} {t : Tree} {s : List Tree} {b o : Nat} {st : List Row} (h : CloneJ w g l0 ((t :: s, b, o) :: st) W) (hW : Below W.heap.size W W2) {A : Option Addr} {c : Nat}
    (hc1 : t.sub.length ≤ c) (hc2 : c ≤ 9223372036854775807) (b' : Nat) (hA : t.sub ≠ [] → A = some ⟨b', 0, none⟩ ∧ W.heap.size ≤ b' ∧ (∃ cs, BlkIs W2 b' 27 cs) ∧ ∀ (j : Nat) (h : j < t.sub.length), NodePend w W2 t.sub[j] b' (j * 8)) :
    Told (CloneJ w g l0) t s b o st (W2.setCell ⟨b, o + 5, none⟩ (.slice A t.sub.length c)) := by
  obtain ⟨F, h0, h⟩ := h
  have hk : ∀ k cs, BlkIs W k 27 cs → BlkIs W2 k 27 cs := fun k cs hb => hb.step hW
  have hlow := h.low
  have h2 := h.keep (hW.mono hlow.size) hk
  obtain ⟨hfb, ⟨q, rfl⟩, hpend⟩ := h2.rows (t :: s, b, o) (by simp) (by simp)
  obtain ⟨hbw, bcs, hbb⟩ := hfb
  dsimp only at hbw hbb hpend
  have hbW : b < W.heap.size := by
    obtain ⟨_, cs, hx⟩ := (h.rows (t :: s, b, q * 8) (by simp) (by simp)).1
    exact hx.lt
  have hfreshne : t.sub ≠ [] → b' ≠ b := fun hne => by have := (hA hne).2.1; omega
  -- the node that is told
  obtain ⟨ncs, hn1, hn2, hn3⟩ := hpend 0 (by simp)
  simp only [List.getElem_cons_zero, Nat.zero_mul, Nat.add_zero] at hn1 hn3
  obtain ⟨A0, n0, c0, rfl⟩ := hn1.eight
  have hcell5 : bcs[q * 8 + 5]? = some (.slice A0 n0 c0) := by rw [← hbb.cell]; exact hn3 5 _ rfl
  have hlt5 : q * 8 + 5 < bcs.size := by
    rcases Nat.lt_or_ge (q * 8 + 5) bcs.size with h | h
    · exact h
    · rw [Array.getElem?_eq_none h] at hcell5; cases hcell5
  have hb3 := hbb.put (q * 8 + 5) (.slice A t.sub.length c)
  generalize hW3 : W2.setCell ⟨b, q * 8 + 5, none⟩ (.slice A t.sub.length c) = W3 at *
  -- what stays
  have far : ∀ k cs, k ≠ b → BlkIs W2 k 27 cs → BlkIs W3 k 27 cs := fun k cs hkb hx => by rw [← hW3]; exact hx.far (p := ⟨b, q * 8 + 5, none⟩) hkb _
  have fresh : ∀ k, Fresh w W2 k → Fresh w W3 k := fun k ⟨f1, cs, f2⟩ => by
    by_cases e : k = b
    · subst e; exact ⟨f1, _, hb3⟩
    · exact ⟨f1, cs, far k cs e f2⟩
  have keepR : ∀ k o ls, (k = b → q * 8 + 5 < o ∨ o + ls.length ≤ q * 8 + 5) → W2.rangeAt k o ls → W3.rangeAt k o ls := fun k o ls hkb hx => by
    rw [← hW3]
    by_cases e : k = b
    · subst e; exact range_set hbb hx (hkb rfl) _
    · exact range_far hx e _
  have keepP : ∀ x k i, (k = b → q < i ∨ i < q) → NodePend w W2 x k (i * 8) → NodePend w W3 x k (i * 8) := fun x k i hki ⟨cs, p1, p2, p3⟩ => ⟨cs, p1, p2, keepR _ _ _ (fun e => by have := hki e; omega) p3⟩
  have hnode : W3.rangeAt b (q * 8) (reL t.kind t.set A t.sub.length c t.lo t.hi) := fun j v hv => by
    rw [hb3.cell]
    by_cases e : j = 5
    · subst e
      rw [Array.getElem?_setIfInBounds_self_of_lt hlt5]
      exact hv
    · rw [Array.getElem?_setIfInBounds_ne (by omega), ← hbb.cell]
      refine hn3 j v ?_
      rw [← hv]
      unfold reL
      match j, e with
      | 0, _ => rfl
      | 1, _ => rfl
      | 2, _ => rfl
      | 3, _ => rfl
      | 4, _ => rfl
      | 6, _ => rfl
      | 7, _ => rfl
      | j + 8, _ => rfl
  have hapart := List.pairwise_cons.1 h.apart
  refine ⟨A, c, b', 0, by have := hnode 5 _ rfl; exact this, hc1, hc2, fun hne => (hA hne).1, (if t.sub = [] then F else (b', t.sub) :: F), fun hne => ?_, ?_⟩
  · split
    · exact h0 hne
    · exact List.mem_cons_of_mem _ (h0 hne)
  have hsub : ∀ p, p ∈ F → p ∈ (if t.sub = [] then F else (b', t.sub) :: F) := fun p hp => by
    split
    · exact hp
    · exact List.mem_cons_of_mem _ hp
  have blockF : ∀ p ∈ F, p.1 < W.heap.size := fun p hp => by
    obtain ⟨_, cs, hx⟩ := (h.all p hp).1
    exact hx.lt
  have blockS : ∀ r ∈ st, r.1 ≠ [] → r.2.1 < W.heap.size := fun r hr hne => by
    obtain ⟨_, cs, hx⟩ := (h.rows r (by simp [hr]) hne).1
    exact hx.lt
  have rest : ∀ r ∈ st, r.1 ≠ [] → r.2.1 ≠ b := fun r hr hne e => hapart.1 r hr (by simp) hne e.symm
  refine { low := ?_, rows := ?_, apart := ?_, all := ?_ }
  · rw [← hW3]; exact h2.low.setCell (p := ⟨b, q * 8 + 5, none⟩) hbw _
  · intro r hr hne
    rcases List.mem_cons.1 hr with rfl | hr
    · obtain ⟨_, a2, ⟨cs, a3⟩, a4⟩ := hA hne
      refine ⟨⟨Nat.le_trans hlow.size a2, cs, far _ _ (hfreshne hne) a3⟩, ⟨0, by simp⟩, fun j hj => ?_⟩
      rw [show (0 : Nat) + j * 8 = j * 8 by omega]
      exact keepP _ _ _ (fun e => absurd e (hfreshne hne)) (a4 j hj)
    rcases List.mem_cons.1 hr with rfl | hr
    · refine ⟨fresh _ ⟨hbw, _, hbb⟩, ⟨q + 1, by simp; omega⟩, fun j hj => ?_⟩
      have := hpend (j + 1) (by simpa using hj)
      rw [show q * 8 + (j + 1) * 8 = (q + 1 + j) * 8 by omega] at this
      have h3 := keepP _ _ _ (fun _ => by omega) this
      rw [show q * 8 + 8 + j * 8 = (q + 1 + j) * 8 by omega]
      simpa using h3
    · obtain ⟨a1, a2, a3⟩ := h2.rows r (by simp [hr]) hne
      refine ⟨fresh _ a1, a2, fun j hj => ?_⟩
      obtain ⟨cs, p1, p2, p3⟩ := a3 j hj
      exact ⟨cs, p1, p2, keepR _ _ _ (fun e => absurd e (rest r hr hne)) p3⟩
  · refine List.pairwise_cons.2 ⟨fun r hr hne hne2 => ?_, List.pairwise_cons.2 ⟨fun r hr hne hne2 => hapart.1 r hr (by simp) hne2, hapart.2⟩⟩
    have h1 := (hA hne).2.1
    dsimp only
    rcases List.mem_cons.1 hr with rfl | hr
    · dsimp only; omega
    · have := blockS r hr hne2; omega
  · intro p hp
    by_cases hnew : t.sub ≠ [] ∧ p = (b', t.sub)
    · obtain ⟨hne, rfl⟩ := hnew
      obtain ⟨_, a2, ⟨cs, a3⟩, a4⟩ := hA hne
      exact ⟨⟨Nat.le_trans hlow.size a2, cs, far _ _ (hfreshne hne) a3⟩, fun i hi => .inl ⟨_, List.mem_cons_self .., rfl, i, hi, rfl, by simp⟩⟩
    have hpF : p ∈ F := by
      split at hp
      · exact hp
      · rename_i hne
        rcases List.mem_cons.1 hp with e | hp
        · exact absurd ⟨hne, e⟩ hnew
        · exact hp
    have hp1 := blockF p hpF
    obtain ⟨a1, a2⟩ := h2.all p hpF
    refine ⟨fresh _ a1, fun i hi => ?_⟩
    rcases a2 i hi with ⟨r, hr, e1, j, hj, e2, e3⟩ | ⟨⟨A1, c1, d1, d2, d3, d4⟩, d5⟩
    · rcases List.mem_cons.1 hr with rfl | hr
      · dsimp only at e1 e2 e3 hj
        subst e1
        cases j with
        | zero =>
          simp only [List.getElem_cons_zero] at e2
          have hqi : q * 8 = i * 8 := by omega
          refine .inr ⟨?_, fun r hr hne he => ?_⟩
          · rw [← e2, ← hqi]
            refine ⟨A, c, hnode, hc1, hc2, fun hne => ⟨b', (hA hne).1, ?_⟩⟩
            rw [if_neg hne]; exact List.mem_cons_self ..
          · rcases List.mem_cons.1 hr with rfl | hr
            · dsimp only at he hne
              exact absurd he (hfreshne hne)
            rcases List.mem_cons.1 hr with rfl | hr
            · dsimp only; omega
            · exact absurd he (rest r hr hne)
        | succ j =>
          refine .inl ⟨(s, p.1, q * 8 + 8), by simp, rfl, j, by simpa using hj, by simpa using e2, by dsimp only; omega⟩
      · exact .inl ⟨r, by simp [hr], e1, j, hj, e2, e3⟩
    · refine .inr ⟨⟨A1, c1, keepR _ _ _ (fun e => ?_) d1, d2, d3, fun hne => ?_⟩, fun r hr hne he => ?_⟩
      · have := d5 (t :: s, b, q * 8) (by simp) (by simp) e.symm
        dsimp only at this
        have h8 : (reL (p.2[i]).kind (p.2[i]).set A1 (p.2[i]).sub.length c1 (p.2[i]).lo (p.2[i]).hi).length = 8 := rfl
        omega
      · obtain ⟨b2, f1, f2⟩ := d4 hne
        exact ⟨b2, f1, hsub _ f2⟩
      · rcases List.mem_cons.1 hr with rfl | hr
        · dsimp only at he hne
          have := (hA hne).2.1
          omega
        rcases List.mem_cons.1 hr with rfl | hr
        · have := d5 (t :: s, b, q * 8) (by simp) (by simp) he
          dsimp only at this ⊢
          omega
        · exact d5 r (by simp [hr]) hne he

end Go.Proofs.YtkladjjeacjgpaaDoor

/-
  WHAT May OF PACKAGE rx ANSWERS: a contract. Condition: the tree is at most 2^40 deep.
-/
namespace Go.Proofs.YtkladjjeacjgpaaDoor
open Go.RowKit

attribute [local go_sem] Oper.semAt_some

/-! ### May -/
def okS : List Row → Bool
  | [] => true
  | r :: st => allOk r.1 && okS st
theorem okS_push (t : Tree) (s : List Tree) (b o b' o' o2 : Nat) (st : List Row) : okS ((t :: s, b, o) :: st) = (okNode t.kind t.set t.sub.length t.lo t.hi && okS ((t.sub, b', o') :: (s, b, o2) :: st)) := by
  cases t with
  | node k m l lo hi =>
    simp only [okS, allOk, Tree.ok, Tree.sub, Tree.kind, Tree.set, Tree.lo, Tree.hi]
    cases okNode k m l.length lo hi <;> cases allOk l <;> cases allOk s <;> cases okS st <;> rfl
theorem wrap_small (x : Nat) (h : x ≤ 300) : wrap64 ((x : Int) + 1) = (x : Int) + 1 ∧ IntKind.i64.wrap ((x : Int) + 1) = (x : Int) + 1 := by
  constructor
  · unfold wrap64; omega
  · rw [IntKind.wrap_i64]; omega
def Tree.mayN (T : Tree) : Bool := decide (T.nodes ≤ 300) && (decide (T.deepN ≤ 30) && T.ok)
/-- till now all may be -/
def MayJ (w : World) (T : Tree) (st : List Row) (W : World) : Prop := RowsIn w st W ∧ ∃ x : Nat, x + nodesS st = T.nodes ∧ x ≤ 300 ∧ (decide (deepS st ≤ 30) && okS st) = (decide (T.deepN ≤ 30) && T.ok) ∧
  BlkIs W (w.heap.size + 1 + 1 + 1) 3 #[.int .i64 (x : Nat)] ∧ BlkIs W (w.heap.size + 1) 4 #[.bool false]
def MayX (w : World) (T : Tree) (W : World) : Prop := Below w.heap.size w W ∧ T.mayN = false ∧ BlkIs W (w.heap.size + 1) 4 #[.bool false]
theorem others_below {W W' : World} (h : Below W.heap.size W W') : KeepsOthers W W' := ⟨h.size, fun k _ hk _ => (h.block k (Array.getElem?_eq_some_iff.1 hk).1).trans hk⟩
theorem rows_below {W W' : World} (h : Below W.heap.size W W') : KeepsRows W W' := ⟨h.size, fun k _ hk => (h.block k (Array.getElem?_eq_some_iff.1 hk).1).trans hk⟩
theorem load_bool {w : World} {g : Nat} {t : TypeId} {x : Bool} (h : BlkIs w g t #[.bool x]) : (loadVar 4 ⟨g, 0, none⟩).run Tryd.prog w = .ok (.bool x) w := by
  have c := h.cell 0
  simp at c
  go_simp
theorem blk_putObj {W : World} {l : Nat} {o : Obj} (o' : Obj) {g : Nat} {t : TypeId} {cs : Array Value} (h : BlkIs W g t cs) (hl : W.heap[l]? = some o) (ho : o.isCells = false) : BlkIs (W.putObj l o') g t cs :=
  (World.putObj_heap_other (fun e => by subst e; unfold BlkIs at h; rw [h] at hl; cases hl; cases ho)).trans h

theorem start_rows4 {w : World} {T : Tree} {cs : List Value} (hT : T.At w (.agg cs.toArray)) (h8 : cs.length = 8) :
    RowsIn w [([T], w.heap.size + 1 + 1, 0)] ((((w.alloc (.cells cs.toArray 27)).alloc (.cells #[.bool false] 4)).alloc (.cells cs.toArray 27)).alloc (.cells #[.int .i64 0] 3)) ∧
      BlkIs ((((w.alloc (.cells cs.toArray 27)).alloc (.cells #[.bool false] 4)).alloc (.cells cs.toArray 27)).alloc (.cells #[.int .i64 0] 3)) (w.heap.size + 1 + 1 + 1) 3 #[.int .i64 0] ∧
      BlkIs ((((w.alloc (.cells cs.toArray 27)).alloc (.cells #[.bool false] 4)).alloc (.cells cs.toArray 27)).alloc (.cells #[.int .i64 0] 3)) (w.heap.size + 1) 4 #[.bool false] ∧
      ((((w.alloc (.cells cs.toArray 27)).alloc (.cells #[.bool false] 4)).alloc (.cells cs.toArray 27)).alloc (.cells #[.int .i64 0] 3)).heap.size = w.heap.size + 4 := by
  have h0 := ((BlkIs.new (w.alloc (.cells cs.toArray 27)) 4 #[.bool false]).alloc (.cells cs.toArray 27)).alloc (.cells #[.int .i64 0] 3)
  have h1 := (BlkIs.new ((w.alloc (.cells cs.toArray 27)).alloc (.cells #[.bool false] 4)) 27 cs.toArray).alloc (.cells #[.int .i64 0] 3)
  have h2 := BlkIs.new (((w.alloc (.cells cs.toArray 27)).alloc (.cells #[.bool false] 4)).alloc (.cells cs.toArray 27)) 3 #[.int .i64 0]
  simp only [World.size_alloc] at h0 h1 h2
  refine ⟨RowsIn.start hT h8 (((((Below.refl _ _).alloc (Nat.le_refl _) _).alloc (by simp) _).alloc (by simp; omega) _).alloc (by simp; omega) _) h1, h2, h0, by simp⟩

set_option maxRecDepth 100000 in
set_option maxHeartbeats 2000000 in
theorem may_any (T : Tree) (v : Value) (w : World) (hat : T.At w v) (hd : T.deepN ≤ 1099511627776) :
    Calls Tryd.prog 20 #[v] w fun e w' => e = .returned (.bool T.mayN) ∧ Below w.heap.size w w' := by
  cases T with
  | node k m l lo hi =>
  obtain ⟨A, c, rfl, _, _⟩ := hat.open
  have HAT := Lib.hid hat
  clear hat
  unfold reV reL at *
  refine (callsIn_wide (n := 3)).1 ?_
  refine callsIn_of_wp_marks Tryd.func20 rfl trivial ?_ rfl
  simp only [Tryd.ntmps20, List.size_toArray, List.length_cons, List.length_nil, Nat.reduceAdd, Nat.reduceSub, Array.replicate_succ, Array.replicate_zero, List.push_toArray, List.append_toArray, List.nil_append, List.cons_append]
  refine wpIn_wide.2 ?_
  go_wp2
  have hs := start_rows4 (cs := reL k m A l.length c lo hi) (by unfold reL; exact HAT.out) rfl
  unfold reL at hs
  generalize (((w.alloc _).alloc _).alloc _).alloc _ = W2 at *
  have HS := Lib.hid hs
  have hsz := hs.2.2.2
  clear hs
  refine (wpIn_wide (n := 3)).1 ?_
  refine range_nodes 3 (by omega) 1099511627776 (Nat.le_refl _) (.slice (some ⟨w.heap.size + 1 + 1, 0, none⟩) 1 1) rfl (MayJ w (.node k m l lo hi)) (fun _ => MayX w (.node k m l lo hi)) ?hJ ?hIx ?pop
    [Tree.node k m l lo hi] (w.heap.size + 1 + 1) 0 ⟨_, _, rfl, Nat.le_refl _, by omega, fun _ => rfl⟩ (by simpa [deepL] using hd) ?start
    (fun b o d => { tmps := #[.agg #[.int .i64 k, .int .u64 (wd m 0 : Nat), .int .u64 (wd m 1 : Nat), .int .u64 (wd m 2 : Nat), .int .u64 (wd m 3 : Nat), .slice A l.length c, .int .i64 lo, .int .i64 hi], .pointer (some ⟨w.heap.size, 0, none⟩), .pointer (some ⟨w.heap.size + 1, 0, none⟩),
      .slice (some ⟨w.heap.size + 1 + 1, 0, none⟩) 1 1, .pointer (some ⟨w.heap.size + 1 + 1 + 1, 0, none⟩), .pointer (some ⟨b, o, none⟩), .int .i64 ((d : Int) + 1), .agg #[.int .i64 k, .int .u64 (wd m 0 : Nat), .int .u64 (wd m 1 : Nat), .int .u64 (wd m 2 : Nat), .int .u64 (wd m 3 : Nat), .slice A l.length c, .int .i64 lo, .int .i64 hi],
      .slice (some ⟨w.heap.size + 1 + 1, 0, none⟩) 1 1, .slice (some ⟨w.heap.size + 1 + 1, 0, none⟩) 1 1, .func (.func 34) #[.slice (some ⟨w.heap.size + 1 + 1, 0, none⟩) 1 1] #[], .pointer (some ⟨b, o, none⟩), .int .i64 ((d : Int) + 1), undef, undef, undef, undef, undef, undef, undef, undef, undef, undef, undef, undef, undef, undef, undef], defers := [] })
    ?assign ?body ?done ?stop
  case hJ =>
    rintro st X Y ⟨h1, x, h2, h3, h4, h5, h6⟩ hl
    exact ⟨h1.loose hl (by omega), x, h2, h3, h4, hl.blk h5 (by decide), hl.blk h6 (by decide)⟩
  case hIx =>
    rintro c X Y ⟨h1, h2, h3⟩ hl
    exact ⟨hl.below h1 (by omega) h1.size, h2, hl.blk h3 (by decide)⟩
  case pop =>
    rintro b o st X ⟨h1, x, h2, h3, h4, h5, h6⟩
    exact ⟨h1.pop, x, by simpa [nodesS, nodesL] using h2, h3, by rw [← h4]; simp [deepS, okS, allOk], h5, h6⟩
  case start => exact ⟨HS.out.1, 0, by simp [nodesS, nodesL], by omega, by simp [deepS, deepL, okS, allOk], HS.out.2.1, HS.out.2.2.1⟩
  case assign =>
    intro l b o d W K hK
    gi_wp2
    exact hK
  case body =>
    rintro l' t s b o st W hsz' hlen ⟨h1, x, h2, h3, h4, h5, h6⟩
    have c0 := h5.cell 0
    have f0 := h5.frozen 0
    simp only [List.getElem?_toArray, List.getElem?_cons_zero] at c0
    obtain ⟨hx1, hx2⟩ := wrap_small x h3
    have hK1 := keeps_set (w0 := w) h5 (by omega) (by decide) 0 (.int .i64 ((x : Int) + 1))
    have hR1 := h1.keep hK1
    obtain ⟨A1, cc, g1, g2, g3, g4, g5⟩ := hR1.head
    have h5' : BlkIs (W.setCell ⟨w.heap.size + 1 + 1 + 1, 0, none⟩ (.int .i64 ((x : Int) + 1))) (w.heap.size + 1 + 1 + 1) 3 #[.int .i64 ((x : Int) + 1)] := by simpa using h5.put 0 (.int .i64 ((x : Int) + 1))
    have h6' := h6.far (p := ⟨w.heap.size + 1 + 1 + 1, 0, none⟩) (by simp) (.int .i64 ((x : Int) + 1))
    have c1 := h5'.cell 0
    simp only [List.getElem?_toArray, List.getElem?_cons_zero] at c1
    have hbt := (hR1.1).size
    have c2 := h6'.cell 0
    have f2 := h6'.frozen 0
    simp only [List.getElem?_toArray, List.getElem?_cons_zero] at c2
    have hKO := KeepsOthers.setCell W ⟨w.heap.size + 1 + 1 + 1, 0, none⟩ (.int .i64 ((x : Int) + 1))
    have hKR := keepsRows_set h5 (by decide) 0 (.int .i64 ((x : Int) + 1))
    generalize hW1 : W.setCell ⟨w.heap.size + 1 + 1 + 1, 0, none⟩ (.int .i64 ((x : Int) + 1)) = W1 at *
    have HW1 := Lib.hid hW1
    have HA := Lib.hid (And.intro h1 (And.intro h2 (And.intro h3 (And.intro h4 (And.intro h5 h6)))))
    have HB := Lib.hid (And.intro hR1 (And.intro h5' (And.intro h6' (And.intro hbt (And.intro hKO hKR)))))
    have HC := Lib.hid hK1
    clear hK1 hR1 h5' h6' hbt hKO hKR hlen h1 h2 h3 h4 h5 h6 g1 g2 g3 g5
    have hds := Lib.hid (deepS_some t s b o st)
    have hns := Lib.hid (nodesS_push t s b o 0 0 0 st)
    have hok := Lib.hid (okS_push t s b o 0 0 0 st)
    have hfin : ∀ W3, KeepsOthers W1 W3 → Below w.heap.size W1 W3 → BlkIs W3 (w.heap.size + 1) 4 #[.bool false] → (Tree.node k m l lo hi).mayN = false → KeepsOthers W (W3.setCell ⟨w.heap.size + 1, 0, none⟩ (.bool false)) ∧ MayX w (.node k m l lo hi) (W3.setCell ⟨w.heap.size + 1, 0, none⟩ (.bool false)) := fun W3 k1 k2 k3 k4 =>
      ⟨(HB.out.2.2.2.2.1.trans k1).trans (KeepsOthers.setCell _ _ _), ((HB.out.1.1.trans k2).setCell (p := ⟨w.heap.size + 1, 0, none⟩) (Nat.le_succ _) _), k4, by simpa using k3.put 0 (.bool false)⟩
    have HF := Lib.hid hfin
    clear hfin
    by_cases hq1 : x + 1 > 300
    · have e1 : decide (((x : Int) + 1) > 300) = true := decide_eq_true (by omega)
      gi_wp2
      refine ⟨trivial, ?_⟩
      gi_wp2
      refine HF.out W1 (KeepsOthers.refl _) (Below.refl _ _) HB.out.2.2.1 ?_
      have h2 := HA.out.2.1
      have h3 := hns.out
      unfold Tree.mayN
      rw [decide_eq_false (by omega)]; rfl
    · have e1 : decide (((x : Int) + 1) > 300) = false := decide_eq_false (by omega)
      by_cases hq2 : st.length + 1 > 30
      · have e2 : decide (((st.length : Int) + 1) > 30) = true := decide_eq_true (by omega)
        gi_wp2
        refine ⟨trivial, ?_⟩
        gi_wp2
        refine HF.out W1 (KeepsOthers.refl _) (Below.refl _ _) HB.out.2.2.1 ?_
        have h4 := HA.out.2.2.2.1
        have h3 := hds.out
        rw [decide_eq_false (show ¬ deepS ((t :: s, b, o) :: st) ≤ 30 by omega)] at h4
        unfold Tree.mayN
        rw [← h4]; simp
      · have e2 : decide (((st.length : Int) + 1) > 30) = false := decide_eq_false (by omega)
        obtain ⟨r0, r1, r2, r3, r4, r5, r6, r7⟩ := row_eight g4 (Below.refl _ _)
        have HM := Lib.hid (nodeMay_any t.kind t.set A1 t.sub.length cc t.lo t.hi W1)
        unfold reV reL at HM
        have HO := Lib.hid (okS_push t s b o 0 0 0 st)
        generalize hq : okNode t.kind t.set t.sub.length t.lo t.hi = q at *
        have HQ := Lib.hid hq
        clear hq hok
        cases q
        · gi_wp2_with (first | (refine ⟨trivial, ?_⟩; gi_at_call 35; refine (CallsIn.inRound l' (callsIn_wide.2 HM.out)).mono ?_; rintro e W3 ⟨rfl, hb3⟩; have hbl3 := HB.out.2.2.1.step hb3; have cB3 := hbl3.cell 0; have fB3 := hbl3.frozen 0; simp only [List.getElem?_toArray, List.getElem?_cons_zero] at cB3))
          refine HF.out W3 (others_below hb3) (hb3.mono HB.out.2.2.2.1) hbl3 ?_
          have h4 := HA.out.2.2.2.1
          rw [HO.out, Bool.false_and, Bool.and_false] at h4
          unfold Tree.mayN
          rw [← h4, Bool.and_false]
        · gi_wp2_with (first | (refine ⟨trivial, ?_⟩; gi_at_call 35; refine (CallsIn.inRound l' (callsIn_wide.2 HM.out)).mono ?_; rintro e W3 ⟨rfl, hb3⟩; have hbl3 := HB.out.2.2.1.step hb3; have cB3 := hbl3.cell 0; have fB3 := hbl3.frozen 0; simp only [List.getElem?_toArray, List.getElem?_cons_zero] at cB3))
          have hkt : KeepsTrees w W1 W3 := (loose_below hb3).trees HB.out.2.2.2.1 HB.out.2.2.2.1
          refine ⟨HB.out.2.2.2.2.1.trans (others_below hb3), HB.out.2.2.2.2.2.trans (rows_below hb3), RowsIn.told HA.out.1 ⟨HC.out.1.trans hkt.1, fun k cs hk => hkt.2 k cs (HC.out.2 k cs hk)⟩ fun b' o' hr => ⟨hr, x + 1, ?_, by omega, ?_, ?_, hbl3⟩⟩
          · have h2 := HA.out.2.1
            have h3 := nodesS_push t s b o b' o' (o + 8) st
            omega
          · have h4 := HA.out.2.2.2.1
            have h3 := deepS_push t s b o b' o' (o + 8) st
            have h5 := okS_push t s b o b' o' (o + 8) st
            rw [← h4, ← h3, h5, HQ.out, Bool.true_and]
            congr 1
            exact decide_eq_decide.2 (by omega)
          · have := HB.out.2.1.step hb3
            rw [show ((x + 1 : Nat) : Int) = (x : Int) + 1 by omega]
            exact this
  case done =>
    rintro d W hd' ⟨h1, x, h2, h3, h4, h5, h6⟩ hk
    have c0 := h6.cell 0
    have f0 := h6.frozen 0
    simp only [List.getElem?_toArray, List.getElem?_cons_zero] at c0
    have HH := Lib.hid (And.intro h2 (And.intro h3 h4))
    have HB := Lib.hid h1.1
    clear h1 h2 h3 h4 h5
    go_wp2
    have hK' := (KeepsOthers.setCell W ⟨w.heap.size + 1, 0, none⟩ (.bool true)).same d _ hk rfl
    refine ⟨by simp, .inl ⟨_, _, rfl, run_takeDeferred hK', ?_⟩⟩
    have hb' : BlkIs (W.setCell ⟨w.heap.size + 1, 0, none⟩ (.bool true)) (w.heap.size + 1) 4 #[.bool true] := by simpa using h6.put 0 (.bool true)
    have hl := load_bool (blk_putObj (.deferred none) hb' hK' rfl)
    refine ⟨_, results_cell1 (p := 2) (ty := 4) rfl rfl hl, ?_, (HB.out.setCell (p := ⟨w.heap.size + 1, 0, none⟩) (Nat.le_succ _) _).trans (belowK_b (w := w) (Nat.le_refl _) _ d _ _ (by omega) hK' rfl rfl)⟩
    obtain ⟨h2, h3, h4⟩ := HH.out
    simp only [nodesS, Nat.add_zero] at h2
    simp only [deepS, okS, Bool.and_true] at h4
    unfold Tree.mayN
    rw [decide_eq_true (by omega), ← h4]; rfl
  case stop =>
    rintro d W hd' ⟨h1, h2, h3⟩ hk
    gi_wp2
    refine ⟨by simp, .inl ⟨_, _, rfl, run_takeDeferred hk, ?_⟩⟩
    have hl := load_bool (blk_putObj (.deferred none) h3 hk rfl)
    refine ⟨_, results_cell1 (p := 2) (ty := 4) rfl rfl hl, ?_, h1.trans (belowK_b (w := w) (Nat.le_refl _) _ d _ _ (by omega) hk rfl rfl)⟩
    rw [h2]

end Go.Proofs.YtkladjjeacjgpaaDoor

/-
  WHAT clone OF PACKAGE rx ANSWERS: the trees in new memory: a contract. Condition: they have at most 2^40 nodes.
-/
namespace Go.Proofs.YtkladjjeacjgpaaDoor
open Go.RowKit

theorem info_re : (Tryd.prog.info? 27).map (fun i => (i.size, i.bytes, i.zero.map (·.cells.size))) = some (8, 80, some 8) := by kernel_rfl
theorem info_re' : ∃ i z, Tryd.prog.info? 27 = some i ∧ i.zero = some z ∧ i.size = 8 ∧ i.bytes = 80 ∧ z.cells.size = 8 := by
  have h := info_re
  cases hi : Tryd.prog.info? 27 with
  | none => rw [hi] at h; cases h
  | some i =>
    rw [hi] at h
    simp only [Option.map_some, Option.some.injEq, Prod.mk.injEq] at h
    cases hz : i.zero with
    | none => rw [hz] at h; simp at h
    | some z => rw [hz] at h; exact ⟨i, z, rfl, hz, h.1, h.2.1, by simpa using h.2.2⟩

/-- the type of what is appended does not matter -/
theorem append_two (A : Option Addr) (n c : Nat) (x : Value) (w : World) (ty : TypeId) : (Builtin.append_ #[51, 25] ty #[.slice A n c, x]).run Tryd.prog w = (Builtin.append_ #[51, 51] ty #[.slice A n c, x]).run Tryd.prog w := by
  unfold Builtin.append_
  simp [Sem.run_bind, run_underlying Tryd.underlying51, run_underlying Tryd.underlying25, Result.andThen]

theorem one_reL {k lo hi : Int} {m : Nat → Bool} {A : Option Addr} {n c : Nat} : ∀ u ∈ reL k m A n c lo hi, u.oneCell' = true := by
  intro u hu
  simp only [reL, List.mem_cons, List.not_mem_nil, or_false] at hu
  rcases hu with rfl | rfl | rfl | rfl | rfl | rfl | rfl | rfl <;> rfl

/-- the cells of trees side by side -/
theorem news_of {w : World} : ∀ (l : List Tree) (b o : Nat), AllAt w l b o → ∃ news : List Value, news.length = l.length * 8 ∧ (∀ j u, news[j]? = some u → w.cell? ⟨b, o + j, none⟩ = some u) ∧ (∀ u ∈ news, u.oneCell' = true) ∧
    ∀ (i : Nat) (h : i < l.length), ∃ cs : List Value, Tree.At w l[i] (.agg cs.toArray) ∧ cs.length = 8 ∧ ∀ (j : Nat) (v : Value), cs[j]? = some v → news[i * 8 + j]? = some v
  | [], _, _, _ => ⟨[], rfl, by simp, by simp, fun i h => by simp at h⟩
  | t :: r, b, o, h => by
    unfold AllAt at h
    obtain ⟨⟨cs, h1, h2, h3⟩, h4⟩ := h
    obtain ⟨news, g1, g2, g3, g4⟩ := news_of r b (o + 8) h4
    refine ⟨cs ++ news, by simp [g1, h2]; omega, fun j u hu => ?_, fun u hu => ?_, fun i hi => ?_⟩
    · rcases Nat.lt_or_ge j 8 with hj | hj
      · rw [List.getElem?_append_left (by omega)] at hu
        exact h3 j u hu
      · rw [List.getElem?_append_right (by omega), h2] at hu
        have := g2 _ _ hu
        rwa [show o + 8 + (j - 8) = o + j by omega] at this
    · rcases List.mem_append.1 hu with hu | hu
      · obtain ⟨A, n, c, rfl⟩ := h1.eight
        exact one_reL u hu
      · exact g3 u hu
    · cases i with
      | zero => exact ⟨cs, h1, h2, fun j v hv => by rw [Nat.zero_mul, Nat.zero_add, List.getElem?_append_left (by have := (List.getElem?_eq_some_iff.1 hv).1; omega)]; exact hv⟩
      | succ i =>
        obtain ⟨cs', k1, k2, k3⟩ := g4 i (by simpa using hi)
        refine ⟨cs', by simpa using k1, k2, fun j v hv => ?_⟩
        have := k3 j v hv
        rw [List.getElem?_append_right (by omega), h2, show (i + 1) * 8 + j - 8 = i * 8 + j by omega]
        exact this

/-- a list copied: what append(nil, l...) makes -/
theorem copy_run (w0 : World) (l : List Tree) (b o c : Nat) (w : World) (t ty : TypeId) (ht : Tryd.prog.underlying t = some (.slice 27)) (hne : l ≠ []) (hl : l.length ≤ 1099511627776) (hat : AllAt w0 l b o) (hb : Below w0.heap.size w0 w) :
    ∃ (g c' : Nat) (w' : World), (Builtin.append_ #[t, t] ty #[.slice none 0 0, .slice (some ⟨b, o, none⟩) l.length c]).run Tryd.prog w = .ok (.slice (some ⟨g, 0, none⟩) l.length c') w' ∧ l.length ≤ c' ∧ c' ≤ 9223372036854775807 ∧
      w.heap.size ≤ g ∧ (∃ cs, BlkIs w' g 27 cs) ∧ (∀ (j : Nat) (h : j < l.length), NodePend w0 w' l[j] g (j * 8)) ∧ Below w.heap.size w w' := by
  obtain ⟨i, z, hi, hz, hs, hby, hzs⟩ := info_re'
  obtain ⟨news, h1, h2, h3, h4⟩ := news_of l b o hat
  have hlt : b < w0.heap.size := by
    obtain ⟨t, r, rfl⟩ := List.exists_cons_of_ne_nil hne
    unfold AllAt at hat
    obtain ⟨⟨cs, _, g2, g3⟩, _⟩ := hat
    obtain ⟨x, xs, rfl⟩ : ∃ x xs, cs = x :: xs := List.exists_cons_of_ne_nil (by intro e; subst e; simp at g2)
    exact World.block_lt_of_cell? w0 ⟨b, o + 0, none⟩ (g3 0 x rfl)
  obtain ⟨v', w', hr, hown, hg, hnil⟩ := run_append_own (P := Tryd.prog) w w.heap.size t ty 27 i z 8 80 ht hi hz hs hby hzs (by decide) (.slice none 0 0) 0 [] (World.ownsRow_nil _ _ _ _) ⟨b, o, none⟩ l.length c news h1
    (fun j u hu => by rw [show (⟨b, o, none⟩ : Addr).add j = ⟨b, o + j, none⟩ from by rw [Addr.add_lit], hb.cell (p := ⟨b, o + j, none⟩) hlt]; exact h2 j u hu) h3 (by unfold maxLen; omega) (by omega) (Nat.le_refl _)
  have hB : Below w.heap.size w w' := (Below.refl _ _).grown hg (Nat.le_refl _) (by simp [Value.ownBlock])
  rw [Nat.zero_add, List.nil_append] at hown
  obtain ⟨n, hn⟩ : ∃ n, l.length = n + 1 := ⟨l.length - 1, by have := List.length_pos_iff.2 hne; omega⟩
  rcases hown with ⟨_, ⟨_, h0⟩ | ⟨g, cap, cur, rfl, hbase, hblk, hc1, hc2, hcs, htake⟩⟩
  · omega
  refine ⟨g, cap, w', hr, hc1, by unfold maxLen at hc2; omega, hbase, ⟨cur, hblk⟩, fun j hj => ?_, hB⟩
  obtain ⟨cs, k1, k2, k3⟩ := h4 j hj
  refine ⟨cs, k1, k2, fun q v hv => ?_⟩
  have hq : q < 8 := by have := (List.getElem?_eq_some_iff.1 hv).1; omega
  have hx := k3 q v hv
  rw [← htake, List.getElem?_take, if_pos (by omega)] at hx
  rw [BlkIs.cell (show BlkIs w' g 27 cur from hblk)]
  simpa using hx

/-- a list of none copied -/
theorem copy_none (A : Option Addr) (c : Nat) (w : World) (t ty : TypeId) (ht : Tryd.prog.underlying t = some (.slice 27)) :
    (Builtin.append_ #[t, t] ty #[.slice none 0 0, .slice A 0 c]).run Tryd.prog w = .ok (.slice none 0 0) w := by
  obtain ⟨i, z, hi, hz, hs, hby, hzs⟩ := info_re'
  cases A <;> simp [Builtin.append_, run_underlying ht, sizeOf, typeInfo, hi, Builtin.lenOf, Builtin.firstCells, loadCells, loadCellsFrom, Result.andThen]

section
variable {F : Fence} {nF : Nat} {P : Program} {ops : Array Oper} {rest : List Oper} {op : Oper} {a : Act} {w : World} {Q : Exit → Act → World → Prop}
theorem wpListIn_append_run (hg : op.guard = none) (s x : Operand) (t t2 : TypeId) (hop : op.op = Op.call { callee := Callee.builtin Builtin.append, args := #[s, x], argTypes := #[t, t2] }) {v xv v' : Value} {w' : World} (hs : a.eval s = v) (hx : a.eval x = xv)
    (hrun : (Builtin.append_ #[t, t2] op.type #[v, xv]).run P w = .ok v' w') (h : wpListIn F nF P ops Q rest (a.put op.dst v') w') : wpListIn F nF P ops Q (op :: rest) a w := by
  refine wpListIn_plain hg fun K' hK' => ?_
  unfold Oper.wpIn
  refine ⟨by simp [Oper.about, hop, resolve, Target.leads, Sem.run_pure], ?_⟩
  rw [Oper.semAt_plain F _ _ (by rw [hop]; intro c hc'; cases hc')]
  simp [execOp, hop, resolve, invoke, builtin, hs, hx, hrun, Result.andThen]
  exact hK' _ _ h
end

theorem nodes_pos (t : Tree) : 0 < t.nodes := by cases t with | node k m l lo hi => simp [Tree.nodes]
theorem length_nodes : ∀ l : List Tree, l.length ≤ nodesL l
  | [] => Nat.le_refl _
  | t :: r => by have := nodes_pos t; have := length_nodes r; simp [nodesL]; omega
theorem mem_nodes : ∀ {l : List Tree} {t : Tree}, t ∈ l → t.nodes ≤ nodesL l
  | t :: r, x, h => by
    rcases List.mem_cons.1 h with rfl | h
    · simp [nodesL]
    · have := mem_nodes h; simp [nodesL]; omega
mutual
theorem deep_nodes : ∀ t : Tree, t.deepN ≤ t.nodes
  | .node k m l lo hi => by have := deepL_nodes l; simp [Tree.deepN, Tree.nodes]; omega
theorem deepL_nodes : ∀ l : List Tree, deepL l ≤ nodesL l
  | [] => Nat.le_refl _
  | t :: r => by have := deep_nodes t; have := deepL_nodes r; simp [deepL, nodesL]; omega
end

attribute [local go_sem] Oper.semAt_some

/-- a copy under way, and what is ahead is small -/
def CloneJN (w : World) (g : Nat) (l0 : List Tree) (st : List Row) (W : World) : Prop := CloneJ w g l0 st W ∧ nodesS st ≤ 1099511627776
theorem CloneJ.keep {w W W' : World} {g : Nat} {l0 : List Tree} {st : List Row} {B : Nat} (h : CloneJ w g l0 st W) (hl : Loose B W W') (hB : w.heap.size ≤ B) : CloneJ w g l0 st W' := by
  obtain ⟨F, h1, h2⟩ := h
  exact ⟨F, h1, h2.keep ⟨hl.os, hl.tape, hl.output, hl.size, fun k hk => hl.low k (by omega) (by have := h2.low.size; omega)⟩ fun k cs hx => hl.blk hx (by decide)⟩

set_option maxRecDepth 100000 in
set_option maxHeartbeats 2000000 in
theorem clone_any (l : List Tree) (A : Option Addr) (c : Nat) (w : World) (hat : l ≠ [] → ∃ b o, A = some ⟨b, o, none⟩ ∧ AllAt w l b o) (hn : nodesL l ≤ 1099511627776) :
    Calls Tryd.prog 52 #[.slice A l.length c] w fun e w' => ∃ A' c', e = .returned (.slice A' l.length c') ∧ l.length ≤ c' ∧ c' ≤ 9223372036854775807 ∧ (l ≠ [] → ∃ g, A' = some ⟨g, 0, none⟩ ∧ w.heap.size ≤ g ∧ ∀ V : World, (∀ k, w.heap.size ≤ k → V.heap[k]? = w'.heap[k]?) → AllAt V l g 0) ∧ Below w.heap.size w w' := by
  have hll := length_nodes l
  have hstart : ∃ A' c' b' w2, (Builtin.append_ #[51, 25] 51 #[.slice none 0 0, .slice A l.length c]).run Tryd.prog w = .ok (.slice A' l.length c') w2 ∧ l.length ≤ c' ∧ c' ≤ 9223372036854775807 ∧ (l ≠ [] → A' = some ⟨b', 0, none⟩ ∧ w.heap.size ≤ b') ∧
      Below w.heap.size w w2 ∧ CloneJ w b' l [(l, b', 0)] w2 := by
    by_cases hne : l = []
    · subst hne
      refine ⟨none, 0, 0, w, by rw [append_two]; exact copy_none A c w _ _ Tryd.underlying51, Nat.le_refl _, by omega, fun h => absurd rfl h, Below.refl _ _, [], fun h => absurd rfl h, Below.refl _ _, ?_, ?_, by simp⟩
      · intro r hr hne
        simp only [List.mem_singleton] at hr
        subst hr
        exact absurd rfl hne
      · simp
    · obtain ⟨b, o, rfl, ha⟩ := hat hne
      obtain ⟨g, c', w2, h1, h2, h3, h4, h5, h6, h7⟩ := copy_run w l b o c w 51 51 Tryd.underlying51 hne (by omega) ha (Below.refl _ _)
      refine ⟨some ⟨g, 0, none⟩, c', g, w2, by rw [append_two]; exact h1, h2, h3, fun _ => ⟨rfl, h4⟩, h7, [(g, l)], fun _ => by simp, h7, ?_, ?_, ?_⟩
      · intro r hr _
        simp only [List.mem_singleton] at hr
        subst hr
        exact ⟨⟨h4, h5⟩, ⟨0, rfl⟩, fun j hj => by rw [Nat.zero_add]; exact h6 j hj⟩
      · simp
      · intro p hp
        simp only [List.mem_singleton] at hp
        subst hp
        exact ⟨⟨h4, h5⟩, fun i hi => .inl ⟨(l, g, 0), by simp, rfl, i, hi, rfl, by simp⟩⟩
  obtain ⟨A', c', b', w2, hrun, hc1, hc2, hA', hB, hJ0⟩ := hstart
  have HRUN := Lib.hid hrun
  have H0 := Lib.hid (And.intro hA' (And.intro hB hJ0))
  clear hat hrun hA' hB hJ0 hll
  refine (callsIn_wide (n := 3)).1 ?_
  refine callsIn_of_wp_marks Tryd.func52 rfl trivial ?_ rfl
  simp only [Tryd.ntmps52, List.size_toArray, List.length_cons, List.length_nil, Nat.reduceAdd, Nat.reduceSub, Array.replicate_succ, Array.replicate_zero, List.push_toArray, List.append_toArray, List.nil_append, List.cons_append]
  gi_wp2_with (first | refine wpListIn_append_run rfl _ _ 51 25 rfl rfl rfl HRUN.out ?_)
  have hsz : w.heap.size ≤ w2.heap.size := H0.out.2.1.size
  refine range_nodes 3 (by omega) 1099511627776 (Nat.le_refl _) (.slice A' l.length c') rfl (CloneJN w b' l) (fun _ _ => False) ?hJ (fun _ _ _ h _ => h.elim) ?pop
    l b' 0 ⟨_, _, rfl, hc1, hc2, fun h => (H0.out.1 h).1⟩ (Nat.le_trans (deepL_nodes l) hn) ⟨H0.out.2.2, by simpa [nodesS] using hn⟩
    (fun b o d => { tmps := #[.slice A l.length c, undef, .slice none 0 0, .slice A' l.length c', .pointer (some ⟨b, o, none⟩), .slice A l.length c, .slice A' l.length c', .slice A' l.length c',
      .func (.func 34) #[.slice A' l.length c'] #[], .pointer (some ⟨b, o, none⟩), .int .i64 ((d : Int) + 1), undef, undef, undef, undef, undef, undef, undef, undef, undef], defers := [] })
    ?assign ?body ?done ?stop
  case hJ =>
    rintro st X Y ⟨h1, h2⟩ hl
    exact ⟨h1.keep hl hsz, h2⟩
  case pop =>
    rintro b o st X ⟨⟨F, h0, h1⟩, h2⟩
    exact ⟨⟨F, h0, h1.pop⟩, by simpa [nodesS, nodesL] using h2⟩
  case assign =>
    intro l b o d W K hK
    gi_wp2
    exact hK
  case body =>
    rintro l' t s b o st W hsz' hlen ⟨hj, hns⟩
    obtain ⟨F, h0, h1⟩ := hj
    have hlow := h1.low
    obtain ⟨⟨hbw, bcs, hbb⟩, hq, hpend⟩ := h1.rows (t :: s, b, o) (by simp) (by simp)
    obtain ⟨ncs, hn1, hn2, hn3⟩ := hpend 0 (by simp)
    simp only [List.getElem_cons_zero, Nat.zero_mul, Nat.add_zero] at hn1 hn3
    have hsub : t.sub.length ≤ 1099511627776 := by
      have h2 := length_nodes t.sub
      have h3 := nodesS_push t s b o 0 0 0 st
      simp only [nodesS] at h3 hns
      omega
    obtain ⟨A1, c1, hcs, hA1⟩ : ∃ A1 c1, ncs = reL t.kind t.set A1 t.sub.length c1 t.lo t.hi ∧ (t.sub ≠ [] → ∃ b o, A1 = some ⟨b, o, none⟩ ∧ AllAt w t.sub b o) := by
      cases t with
      | node k m sub lo hi =>
        unfold Tree.At at hn1
        obtain ⟨A1, c1, he, _, hs⟩ := hn1
        unfold reV at he
        injection he with he
        exact ⟨A1, c1, congrArg Array.toList he, hs⟩
    subst hcs
    have hcell := hn3 5 _ rfl
    -- the copy
    have hcopy : ∃ A2 c2 b2 W2, (Builtin.append_ #[25, 25] 25 #[.slice none 0 0, .slice A1 t.sub.length c1]).run Tryd.prog W = .ok (.slice A2 t.sub.length c2) W2 ∧ Below W.heap.size W W2 ∧ t.sub.length ≤ c2 ∧ c2 ≤ 9223372036854775807 ∧
        (t.sub ≠ [] → A2 = some ⟨b2, 0, none⟩ ∧ W.heap.size ≤ b2 ∧ (∃ cs, BlkIs W2 b2 27 cs) ∧ ∀ (j : Nat) (h : j < t.sub.length), NodePend w W2 t.sub[j] b2 (j * 8)) := by
      by_cases hne : t.sub = []
      · rw [hne]
        exact ⟨none, 0, 0, W, copy_none A1 c1 W _ _ Tryd.underlying25, Below.refl _ _, Nat.le_refl _, by omega, fun h => absurd rfl h⟩
      · obtain ⟨b3, o3, rfl, ha⟩ := hA1 hne
        obtain ⟨g, c2, W2, k1, k2, k3, k4, k5, k6, k7⟩ := copy_run w t.sub b3 o3 c1 W 25 25 Tryd.underlying25 hne hsub ha hlow
        exact ⟨_, c2, g, W2, k1, k7, k2, k3, fun _ => ⟨rfl, k4, k5, k6⟩⟩
    obtain ⟨A2, c2, b2, W2, hrun2, hB2, hc21, hc22, hA2⟩ := hcopy
    have hblk2 := hbb.step hB2
    have hf2 := hblk2.frozen (o + 5)
    have hc5 : W2.cell? ⟨b, o + 5, none⟩ = some (.slice A1 t.sub.length c1) := (hB2.cell (p := ⟨b, o + 5, none⟩) hbb.lt).trans hcell
    have HRUN2 := Lib.hid hrun2
    have HT := Lib.hid (clone_step (g := b') ⟨F, h0, h1⟩ hB2 hc21 hc22 b2 hA2)
    have HK := Lib.hid (And.intro ((others_below hB2).trans (KeepsOthers.setCell W2 ⟨b, o + 5, none⟩ (.slice A2 t.sub.length c2))) ((rows_below hB2).trans (keepsRows_set hblk2 (by decide) (o + 5) (.slice A2 t.sub.length c2))))
    have HN := Lib.hid (fun b' o' => nodesS_push t s b o b' o' (o + 8) st)
    clear hrun2 hA2 hpend hn1 hn2 hn3 hA1 hB2 h0 h1 hq hbb
    gi_wp2_with (first | refine wpListIn_append_run rfl _ _ 25 25 rfl rfl rfl HRUN2.out ?_)
    obtain ⟨A3, c3, b3, o3, t1, t2, t3, t4, t5⟩ := HT.out
    exact ⟨HK.out.1, HK.out.2, A3, c3, b3, o3, t1, t2, t3, t4, t5, by have := HN.out b3 o3; omega⟩
  case done =>
    rintro d W hd' ⟨hj, _⟩ hk
    have hlow : Below w.heap.size w W := by obtain ⟨F, _, h1⟩ := hj; exact h1.low
    have HJ := Lib.hid hj
    gi_wp2
    refine ⟨by simp, .inl ⟨_, _, rfl, run_takeDeferred hk, ?_⟩⟩
    refine ⟨_, results_tmp rfl _ _ _, A', c', rfl, hc1, hc2, fun hne => ⟨b', (H0.out.1 hne).1, (H0.out.1 hne).2, fun V hV => ?_⟩, hlow.trans (belowK_b (w := w) (Nat.le_refl _) W d _ (.deferred none) (by omega) hk rfl rfl)⟩
    refine CloneJ.done (w := w) (CloneJ.keep HJ.out (loose_put (B := w.heap.size) (.deferred none) (by omega) hk rfl) (Nat.le_refl _)) hne hV
  case stop => exact fun _ _ _ h _ => h.elim

end Go.Proofs.YtkladjjeacjgpaaDoor

/-
  WHAT Byte, row, Cat, Alt, Rep, Text OF PACKAGE rx ANSWER: contracts: what is made lies in new memory as the tree that the document says. Condition: what is handed in has at most 2^40 nodes.
-/
namespace Go.Proofs.YtkladjjeacjgpaaDoor
open Go.RowKit

theorem info_re8 : (Tryd.prog.info? 27).map (·.size) = some 8 := by kernel_rfl
theorem reL_all {k lo hi : Int} {m : Nat → Bool} {A : Option Addr} {n c : Nat} : (reL k m A n c lo hi).toArray.all (·.oneCell') = true := by simp [reL, Value.oneCell']
theorem load_re {w : World} {g : Nat} {t : TypeId} {k lo hi : Int} {m : Nat → Bool} {A : Option Addr} {n c : Nat} (h : BlkIs w g t (reL k m A n c lo hi).toArray) : (loadVar 27 ⟨g, 0, none⟩).run Tryd.prog w = .ok (reV k m A n c lo hi) w :=
  run_loadVar_mid (P := Tryd.prog) w g 0 27 (reL k m A n c lo hi) _ h.range Tryd.underlying27 rfl info_re8
theorem store_re {w : World} {g : Nat} {t : TypeId} {k lo hi : Int} {m : Nat → Bool} {A : Option Addr} {n c : Nat} {cs : Array Value} (h : BlkIs w g t cs) (hs : cs.size = 8) :
    BlkIs (w.setCells g 0 (reL k m A n c lo hi)) g t (reL k m A n c lo hi).toArray := h.fill (new := (reL k m A n c lo hi).toArray) (by rw [hs]; rfl)
/-- the zero value of api.Re -/
def zeroL : List Value := [.int .i64 0, .int .u64 0, .int .u64 0, .int .u64 0, .int .u64 0, .slice none 0 0, .int .i64 0, .int .i64 0]
theorem wd_zero (i : Nat) : wd (fun _ => false) i = 0 := by
  refine (eq_wd (by decide) fun j _ => ?_).symm
  simp
theorem zeroL_is : zeroL = reL 0 (fun _ => false) none 0 0 0 0 := by
  unfold zeroL reL
  simp only [wd_zero]; rfl

set_option maxHeartbeats 1000000 in
theorem byte_any (m : Nat → Bool) (w : World) : Calls Tryd.prog 56 #[setV m] w fun e w' => e = .returned (reV 1 m none 0 0 0 0) ∧ Below w.heap.size w w' := by
  unfold setV
  have hb := BlkIs.new (w.alloc (.cells #[.int .u64 (wd m 0 : Nat), .int .u64 (wd m 1 : Nat), .int .u64 (wd m 2 : Nat), .int .u64 (wd m 3 : Nat)] 24)) 27 zeroL.toArray
  rw [World.size_alloc] at hb
  have h0 : Below w.heap.size w ((w.alloc (.cells #[.int .u64 (wd m 0 : Nat), .int .u64 (wd m 1 : Nat), .int .u64 (wd m 2 : Nat), .int .u64 (wd m 3 : Nat)] 24)).alloc (.cells zeroL.toArray 27)) := ((Below.refl _ _).alloc (Nat.le_refl _) _).alloc (by simp) _
  have hl := load_re (store_re (k := 1) (m := m) (A := none) (n := 0) (c := 0) (lo := 0) (hi := 0) hb rfl)
  have HB := Lib.hid hb
  have H0 := Lib.hid (below_cells (w.heap.size + 1) (reL 1 m none 0 0 0 0) 0 _ (Nat.le_succ _) h0)
  have HL := Lib.hid hl
  clear hb h0 hl
  unfold zeroL at *
  go_enter Tryd.func56, Tryd.ntmps56
  go_wp2_with (first | refine wpList_store_mid rfl 27 (.tmp 2) (.tmp 4) rfl (w.heap.size + 1) 0 (reL 1 m none 0 0 0 0).toArray rfl rfl HB.out.there info_re8 reL_all ?_)
  exact bodyPost_ret (results_cell1 rfl rfl HL.out) rfl ⟨rfl, H0.out⟩

/-- V's cells lie so in W, too -/
def Sub (V W : World) : Prop := ∀ p v, V.cell? p = some v → W.cell? p = some v
theorem Sub.refl (W : World) : Sub W W := fun _ _ h => h
theorem Sub.trans {A B C : World} (h : Sub A B) (k : Sub B C) : Sub A C := fun p v hv => k p v (h p v hv)
theorem sub_below {W W' : World} (hb : Below W.heap.size W W') : Sub W W' := fun p _ hv => (hb.cell (World.block_lt_of_cell? W p hv)).trans hv
theorem Tree.At.sub {V W : World} (hs : Sub V W) : ∀ (T : Tree) {v : Value}, Tree.At V T v → Tree.At W T v := by
  intro T
  induction T using Tree.ind with
  | h k m l lo hi ih =>
    intro v h
    unfold Tree.At at h ⊢
    obtain ⟨A, c, rfl, hc, hl⟩ := h
    refine ⟨A, c, rfl, hc, fun hne => ?_⟩
    obtain ⟨b, o, rfl, ha⟩ := hl hne
    refine ⟨b, o, rfl, AllAt.mk l b o fun i hi => ?_⟩
    obtain ⟨cs, h1, h2, h3⟩ := AllAt.get l b o ha i hi
    exact ⟨cs, ih _ (List.getElem_mem hi) h1, h2, fun j v hv => hs _ _ (h3 j v hv)⟩
theorem AllAt.sub {V W : World} (hs : Sub V W) {l : List Tree} {b o : Nat} (h : AllAt V l b o) : AllAt W l b o :=
  AllAt.mk l b o fun i hi => by
    obtain ⟨cs, h1, h2, h3⟩ := AllAt.get l b o h i hi
    exact ⟨cs, h1.sub hs, h2, fun j v hv => hs _ _ (h3 j v hv)⟩
/-- a world without a block -/
def less (W : World) (g : Nat) : World := W.putObj g (.deferred none)
theorem less_cell {W : World} {g : Nat} {p : Addr} {v : Value} (h : (less W g).cell? p = some v) : p.block ≠ g ∧ W.cell? p = some v := by
  by_cases e : p.block = g
  · exfalso
    unfold less World.putObj World.cell? at h
    subst e
    by_cases hl : p.block < W.heap.size
    · simp [hl] at h
    · simp [hl] at h
  · refine ⟨e, ?_⟩
    rw [← h]
    exact (World.cell?_of_block (w := W) (World.putObj_heap_other e)).symm
theorem less_sub {W W' : World} {g : Nat} (h : ∀ k, k ≠ g → W.heap[k]? ≠ none → W'.heap[k]? = W.heap[k]?) : Sub (less W g) W' := fun p v hv => by
  obtain ⟨h1, h2⟩ := less_cell hv
  rw [World.cell?_of_block (w := W)]
  · exact h2
  · refine h _ h1 fun hn => ?_
    rw [World.cell?, hn] at h2
    cases h2

def rowT (kind : Int) (none : Tree) : List Tree → Tree
  | [] => none
  | [t] => t
  | l => .node kind (fun _ => false) l 0 0
theorem rowT_many (kind : Int) (z : Tree) {l : List Tree} (h : 2 ≤ l.length) : rowT kind z l = .node kind (fun _ => false) l 0 0 := by
  match l, h with
  | _ :: _ :: _, _ => rfl

set_option maxRecDepth 10000 in
set_option maxHeartbeats 2000000 in
theorem row_any (kind : Int) (l : List Tree) (A : Option Addr) (c : Nat) (z : Tree) (k0 lo0 hi0 : Int) (m0 : Nat → Bool) (A0 : Option Addr) (n0 c0 : Nat) (w V : World) (hV : Sub V w) (hat : l ≠ [] → ∃ b o, A = some ⟨b, o, none⟩ ∧ AllAt V l b o) (hc : l.length ≤ c ∧ c ≤ 9223372036854775807)
    (hz : Tree.At V z (reV k0 m0 A0 n0 c0 lo0 hi0)) :
    Calls Tryd.prog 51 #[.int .i64 kind, .slice A l.length c, reV k0 m0 A0 n0 c0 lo0 hi0] w fun e w' => ∃ v, e = .returned v ∧ Tree.At V (rowT kind z l) v ∧ Below w.heap.size w w' := by
  have hb := BlkIs.new (w.alloc (.cells (reL k0 m0 A0 n0 c0 lo0 hi0).toArray 27)) 27 zeroL.toArray
  rw [World.size_alloc] at hb
  have hb0 := (BlkIs.new w 27 (reL k0 m0 A0 n0 c0 lo0 hi0).toArray).alloc (.cells zeroL.toArray 27)
  have h0 : Below w.heap.size w ((w.alloc (.cells (reL k0 m0 A0 n0 c0 lo0 hi0).toArray 27)).alloc (.cells zeroL.toArray 27)) := ((Below.refl _ _).alloc (Nat.le_refl _) _).alloc (by simp) _
  obtain ⟨W2, hW2⟩ : ∃ W2, W2 = (w.alloc (.cells (reL k0 m0 A0 n0 c0 lo0 hi0).toArray 27)).alloc (.cells zeroL.toArray 27) := ⟨_, rfl⟩
  rw [← hW2] at hb hb0 h0
  have HB := Lib.hid hb
  have HB0 := Lib.hid hb0
  have H0 := Lib.hid h0
  have fin : ∀ (k lo hi : Int) (m : Nat → Bool) (A : Option Addr) (n c : Nat), (loadVar 27 ⟨w.heap.size + 1, 0, none⟩).run Tryd.prog (W2.setCells (w.heap.size + 1) 0 (reL k m A n c lo hi)) = .ok (reV k m A n c lo hi) (W2.setCells (w.heap.size + 1) 0 (reL k m A n c lo hi)) ∧ Below w.heap.size w (W2.setCells (w.heap.size + 1) 0 (reL k m A n c lo hi)) :=
    fun k lo hi m A n c => ⟨load_re (store_re HB.out rfl), below_cells (w.heap.size + 1) (reL k m A n c lo hi) 0 _ (Nat.le_succ _) H0.out⟩
  have HF := Lib.hid fin
  have HZ := Lib.hid hz
  have HAT := Lib.hid hat
  clear hb hb0 h0 fin hz hat
  have hr0 := HB0.out.range
  have c5 := HB0.out.eight
  have HW := Lib.hid hW2
  unfold zeroL reL at hW2
  unfold reL at c5
  obtain ⟨z0, z1, z2, z3, z4, z5, z6, z7⟩ := c5
  have hthere := HB.out.there
  match l with
  | [] =>
    have e0 : (((0 : Nat) : Int) == 0) = true := rfl
    simp only [List.length_nil]
    unfold reV reL at *
    go_enter Tryd.func51, Tryd.ntmps51
    go_wp2_with (first | rw [← hW2] | refine wpList_store_mid rfl 27 (.tmp 6) (.tmp 11) rfl (w.heap.size + 1) 0 (reL k0 m0 A0 n0 c0 lo0 hi0).toArray rfl rfl HB.out.there info_re8 reL_all ?_)
    obtain ⟨f1, f2⟩ := HF.out k0 lo0 hi0 m0 A0 n0 c0
    exact bodyPost_ret (results_cell1 rfl rfl f1) rfl ⟨_, rfl, HZ.out, f2⟩
  | [t] =>
    obtain ⟨b, o, rfl, ha⟩ := HAT.out (by simp)
    unfold AllAt at ha
    obtain ⟨⟨cs, h1, h2, h3⟩, _⟩ := ha
    obtain ⟨A1, n1, c1, rfl⟩ := h1.eight
    have HR := Lib.hid (rangeAt_step (W := w) (fun j v hv => hV _ _ (h3 j v hv)) (by simp [reL]) H0.out)
    have HH := Lib.hid h1
    clear h1 h2 h3
    have hcc : (1 : Nat) ≤ c := hc.1
    simp only [List.length_cons, List.length_nil, Nat.zero_add] at *
    unfold reV reL
    go_enter Tryd.func51, Tryd.ntmps51
    go_wp2_with (first | rw [← hW2] | refine wpList_load_mid rfl 27 (.tmp 15) rfl b o rfl (reL t.kind t.set A1 n1 c1 t.lo t.hi) _ HR.out Tryd.underlying27 rfl info_re8 ?_ | refine wpList_store_mid rfl 27 (.tmp 6) (.tmp 16) rfl (w.heap.size + 1) 0 (reL t.kind t.set A1 n1 c1 t.lo t.hi).toArray rfl rfl HB.out.there info_re8 reL_all ?_)
    obtain ⟨f1, f2⟩ := HF.out t.kind t.lo t.hi t.set A1 n1 c1
    exact bodyPost_ret (results_cell1 rfl rfl f1) rfl ⟨_, rfl, HH.out, f2⟩
  | t :: t2 :: r =>
    have e0 : (((t :: t2 :: r).length : Int) == 0) = false := by simp; omega
    have e1 : (((t :: t2 :: r).length : Int) == 1) = false := by simp; omega
    have hT : Tree.At V (rowT kind z (t :: t2 :: r)) (reV kind (fun _ => false) A (t :: t2 :: r).length c 0 0) := by
      rw [rowT_many kind z (by simp)]
      unfold Tree.At
      exact ⟨A, c, rfl, hc, HAT.out⟩
    have HT := Lib.hid hT
    clear hT
    generalize hn : (t :: t2 :: r).length = n at *
    unfold reV reL
    have hz4 : ∀ i, (wd (fun _ => false) i : Nat) = 0 := wd_zero
    go_enter Tryd.func51, Tryd.ntmps51
    go_wp2_with (first | rw [← hW2] | refine wpList_store_mid rfl 27 (.tmp 6) (.tmp 19) rfl (w.heap.size + 1) 0 (reL kind (fun _ => false) A n c 0 0).toArray rfl (by simp only [reL, hz4]; rfl) HB.out.there info_re8 reL_all ?_)
    obtain ⟨f1, f2⟩ := HF.out kind 0 0 (fun _ => false) A n c
    exact bodyPost_ret (results_cell1 rfl rfl f1) rfl ⟨_, rfl, HT.out, f2⟩

theorem Tree.At.form {W : World} {T : Tree} {v : Value} (h : Tree.At W T v) : ∃ A n c, v = reV T.kind T.set A n c T.lo T.hi := by
  cases T with
  | node k m l lo hi =>
    obtain ⟨A, c, rfl, _⟩ := h.open
    exact ⟨A, l.length, c, rfl⟩
theorem AllAt.step {W W' : World} {l : List Tree} {b o : Nat} (h : AllAt W l b o) (hb : Below W.heap.size W W') : AllAt W' l b o :=
  AllAt.mk l b o fun i hi => by
    obtain ⟨cs, h1, h2, h3⟩ := AllAt.get l b o h i hi
    exact ⟨cs, h1.step hb, h2, rangeAt_step h3 (by intro e; subst e; simp at h2) hb⟩
theorem at_none (k : Int) (w : World) : Tree.At w (.node k (fun _ => false) [] 0 0) (reV k (fun _ => false) none 0 0 0 0) := by
  unfold Tree.At
  exact ⟨none, 0, rfl, ⟨Nat.le_refl _, by omega⟩, fun h => absurd rfl h⟩
theorem less_other {W : World} {g n : Nat} (h : g < n) : ∀ k, n ≤ k → (less W g).heap[k]? = W.heap[k]? := fun k hk => World.putObj_heap_other (by omega)
theorem some_lt {W : World} {k : Nat} (h : W.heap[k]? ≠ none) : k < W.heap.size := by
  rcases Nat.lt_or_ge k W.heap.size with h1 | h1
  · exact h1
  · exact absurd (Array.getElem?_eq_none h1) h
theorem sub_two {W W' : World} {g : Nat} (hb : Below W.heap.size W W') : Sub (less W g) W' := less_sub fun k _ hn => hb.block k (some_lt hn)
theorem heap_cells (g k : Nat) (hk : k ≠ g) : ∀ (vs : List Value) (o : Nat) (w : World), (w.setCells g o vs).heap[k]? = w.heap[k]?
  | [], _, _ => rfl
  | v :: r, o, w => by
    rw [World.setCells, heap_cells g k hk r (o + 1)]
    exact Below.heap_setCell w ⟨g, o, none⟩ v k hk
theorem byte_zero (w : World) : Calls Tryd.prog 56 #[.agg #[.int .u64 0, .int .u64 0, .int .u64 0, .int .u64 0]] w fun e w' => e = .returned (reV 1 (fun _ => false) none 0 0 0 0) ∧ Below w.heap.size w w' := by
  have := byte_any (fun _ => false) w
  rwa [set0_build] at this
theorem row_zero (kind : Int) (l : List Tree) (A : Option Addr) (c : Nat) (w V : World) (hV : Sub V w) (hat : l ≠ [] → ∃ b o, A = some ⟨b, o, none⟩ ∧ AllAt V l b o) (hc : l.length ≤ c ∧ c ≤ 9223372036854775807) :
    Calls Tryd.prog 51 #[.int .i64 kind, .slice A l.length c, .agg #[.int .i64 0, .int .u64 0, .int .u64 0, .int .u64 0, .int .u64 0, .slice none 0 0, .int .i64 0, .int .i64 0]] w fun e w' => ∃ v, e = .returned v ∧ Tree.At V (rowT kind (.node 0 (fun _ => false) [] 0 0) l) v ∧ Below w.heap.size w w' := by
  have := row_any kind l A c (.node 0 (fun _ => false) [] 0 0) 0 0 0 (fun _ => false) none 0 0 w V hV hat hc (at_none 0 V)
  have hz : reV 0 (fun _ => false) none 0 0 0 0 = .agg #[.int .i64 0, .int .u64 0, .int .u64 0, .int .u64 0, .int .u64 0, .slice none 0 0, .int .i64 0, .int .i64 0] := by
    unfold reV
    rw [← zeroL_is]; rfl
  rwa [hz] at this

set_option maxRecDepth 10000 in
set_option maxHeartbeats 2000000 in
theorem cat_any (l : List Tree) (A : Option Addr) (c : Nat) (w : World) (hat : l ≠ [] → ∃ b o, A = some ⟨b, o, none⟩ ∧ AllAt w l b o) (hn : nodesL l ≤ 1099511627776) :
    Calls Tryd.prog 36 #[.slice A l.length c] w fun e w' => ∃ v, e = .returned v ∧ Tree.At w' (rowT 2 (.node 0 (fun _ => false) [] 0 0) l) v ∧ Below w.heap.size w w' := by
  have hb := BlkIs.new w 27 zeroL.toArray
  have h0 : Below w.heap.size w (w.alloc (.cells zeroL.toArray 27)) := (Below.refl _ _).alloc (Nat.le_refl _) _
  have hcl := clone_any l A c (w.alloc (.cells zeroL.toArray 27)) (fun hne => by obtain ⟨b, o, h1, h2⟩ := hat hne; exact ⟨b, o, h1, h2.step h0⟩) hn
  have HB := Lib.hid hb
  have H0 := Lib.hid h0
  have HCL := Lib.hid hcl
  clear hb h0 hcl hat
  obtain ⟨R, hR⟩ : ∃ R, R = rowT 2 (.node 0 (fun _ => false) [] 0 0) l := ⟨_, rfl⟩
  rw [← hR]
  have HRR := Lib.hid hR
  clear hR
  unfold zeroL at *
  go_enter Tryd.func36, Tryd.ntmps36
  go_wp2_with (first
    | (go_at_call 52; go_must (refine HCL.out.mono ?_); rintro e w1 ⟨A', c', rfl, k1, k2, k3, hb1⟩)
    | (go_at_call 51; go_must (refine (row_zero 2 l A' c' w1 (less w1 w.heap.size) (less_sub fun _ _ _ => rfl) (fun hne => (k3 hne).imp fun g h => ⟨0, h.1, h.2.2 _ (less_other (by simp))⟩) ⟨k1, k2⟩).mono ?_); rintro e w3 ⟨v, rfl, hv, hb3⟩; obtain ⟨A2, n2, c2, rfl⟩ := hv.form; have hB3 := HB.out.step (hb1.trans (hb3.mono hb1.size)))
    | (refine wpList_store_mid rfl 27 (.tmp 2) (.tmp 6) rfl w.heap.size 0 (reL _ _ A2 n2 c2 _ _).toArray rfl rfl hB3.there info_re8 reL_all ?_))
  have hB := H0.out.trans ((hb1.trans (hb3.mono hb1.size)).mono H0.out.size)
  rw [← HRR.out] at hv ⊢
  have hl := load_re (store_re (k := R.kind) (m := R.set) (A := A2) (n := n2) (c := c2) (lo := R.lo) (hi := R.hi) hB3 rfl)
  have hB4 := below_cells w.heap.size (reL R.kind R.set A2 n2 c2 R.lo R.hi) 0 _ (Nat.le_refl _) hB
  exact bodyPost_ret (results_cell1 rfl rfl hl) rfl ⟨_, rfl, hv.sub (less_sub fun k hk hn => (heap_cells w.heap.size k hk _ 0 w3).trans (hb3.block k (some_lt hn))), hB4⟩

set_option maxRecDepth 10000 in
set_option maxHeartbeats 2000000 in
theorem alt_any (l : List Tree) (A : Option Addr) (c : Nat) (w : World) (hat : l ≠ [] → ∃ b o, A = some ⟨b, o, none⟩ ∧ AllAt w l b o) (hn : nodesL l ≤ 1099511627776) :
    Calls Tryd.prog 39 #[.slice A l.length c] w fun e w' => ∃ v, e = .returned v ∧ Tree.At w' (rowT 3 (.node 1 (fun _ => false) [] 0 0) l) v ∧ Below w.heap.size w w' := by
  have hb := BlkIs.new w 27 zeroL.toArray
  have h0 : Below w.heap.size w (w.alloc (.cells zeroL.toArray 27)) := (Below.refl _ _).alloc (Nat.le_refl _) _
  have hcl := clone_any l A c (w.alloc (.cells zeroL.toArray 27)) (fun hne => by obtain ⟨b, o, h1, h2⟩ := hat hne; exact ⟨b, o, h1, h2.step h0⟩) hn
  have HB := Lib.hid hb
  have H0 := Lib.hid h0
  have HCL := Lib.hid hcl
  clear hb h0 hcl hat
  obtain ⟨R, hR⟩ : ∃ R, R = rowT 3 (.node 1 (fun _ => false) [] 0 0) l := ⟨_, rfl⟩
  rw [← hR]
  have HRR := Lib.hid hR
  clear hR
  unfold zeroL at *
  go_enter Tryd.func39, Tryd.ntmps39
  go_wp2_with (first
    | (go_at_call 52; go_must (refine HCL.out.mono ?_); rintro e w1 ⟨A', c', rfl, k1, k2, k3, hb1⟩)
    | (go_at_call 56; go_must (refine (byte_zero _).mono ?_); rintro e w2 ⟨rfl, hb2⟩)
    | (go_at_call 51; go_must (refine (row_any 3 l A' c' (.node 1 (fun _ => false) [] 0 0) 1 0 0 (fun _ => false) none 0 0 w2 (less w1 w.heap.size) (sub_two hb2) (fun hne => (k3 hne).imp fun g h => ⟨0, h.1, h.2.2 _ (less_other (by simp))⟩) ⟨k1, k2⟩ (at_none 1 _)).mono ?_); rintro e w3 ⟨v, rfl, hv, hb3'⟩; obtain ⟨A2, n2, c2, rfl⟩ := hv.form; have hb3 := hb2.trans (hb3'.mono hb2.size); have hB3 := HB.out.step (hb1.trans (hb3.mono hb1.size)))
    | (refine wpList_store_mid rfl 27 (.tmp 2) (.tmp 7) rfl w.heap.size 0 (reL _ _ A2 n2 c2 _ _).toArray rfl rfl hB3.there info_re8 reL_all ?_))
  have hB := H0.out.trans ((hb1.trans (hb3.mono hb1.size)).mono H0.out.size)
  rw [← HRR.out] at hv ⊢
  have hl := load_re (store_re (k := R.kind) (m := R.set) (A := A2) (n := n2) (c := c2) (lo := R.lo) (hi := R.hi) hB3 rfl)
  have hB4 := below_cells w.heap.size (reL R.kind R.set A2 n2 c2 R.lo R.hi) 0 _ (Nat.le_refl _) hB
  exact bodyPost_ret (results_cell1 rfl rfl hl) rfl ⟨_, rfl, hv.sub (less_sub fun k hk hn => (heap_cells w.heap.size k hk _ 0 w3).trans (hb3.block k (some_lt hn))), hB4⟩

end Go.Proofs.YtkladjjeacjgpaaDoor

