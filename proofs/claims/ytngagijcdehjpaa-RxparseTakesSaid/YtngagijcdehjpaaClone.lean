/-
  A COPY OF TREES WHILE IT IS MADE: what lies where, of no program: the rows that are ahead hold the old nodes; the nodes behind hold new Subs. No condition.
-/
import Derived.Test.YtngagijcdehjpaaTold
namespace Go.Proofs.Ytngagijcdehjpaa
open Go.RowKit

theorem range_set {W : World} {b i o : Nat} {t : TypeId} {cs : Array Value} {ls : List Value} (hb : BlkIs W b t cs) (h : W.rangeAt b o ls) (hi : i < o ∨ o + ls.length ≤ i) (u : Value) : (W.setCell ⟨b, i, none⟩ u).rangeAt b o ls := fun j v hv => by
  have hj : j < ls.length := (List.getElem?_eq_some_iff.1 hv).1
  have h1 := h j v hv
  rw [hb.cell] at h1
  rw [(hb.put i u).cell, Array.getElem?_setIfInBounds_ne (by omega)]
  exact h1
theorem range_far {W : World} {b k i o : Nat} {ls : List Value} (h : W.rangeAt k o ls) (hk : k ≠ b) (u : Value) : (W.setCell ⟨b, i, none⟩ u).rangeAt k o ls := fun j v hv =>
  (World.cell?_of_block (w := W) (Below.heap_setCell W ⟨b, i, none⟩ u k hk)).trans (h j v hv)

def NodePend (w W : World) (t : Tree) (b o : Nat) : Prop := ∃ cs : List Value, Tree.At w t (.agg cs.toArray) ∧ cs.length = 8 ∧ W.rangeAt b o cs
def Nd (F : List (Nat × List Tree)) (W : World) (t : Tree) (b o : Nat) : Prop :=
  ∃ A c, W.rangeAt b o (reL t.kind t.set A t.sub.length c t.lo t.hi) ∧ t.sub.length ≤ c ∧ c ≤ 9223372036854775807 ∧ (t.sub ≠ [] → ∃ b', A = some ⟨b', 0, none⟩ ∧ (b', t.sub) ∈ F)
def InSt (st : List Row) (t : Tree) (b i : Nat) : Prop := ∃ r ∈ st, r.2.1 = b ∧ ∃ (j : Nat) (hj : j < r.1.length), r.1[j] = t ∧ r.2.2 + j * 8 = i * 8
def Fresh (w W : World) (b : Nat) : Prop := w.heap.size ≤ b ∧ ∃ cs, BlkIs W b 31 cs

structure CloneF (w : World) (F : List (Nat × List Tree)) (st : List Row) (W : World) : Prop where
  low : Below w.heap.size w W
  rows : ∀ r ∈ st, r.1 ≠ [] → Fresh w W r.2.1 ∧ (∃ q, r.2.2 = q * 8) ∧ ∀ (j : Nat) (h : j < r.1.length), NodePend w W r.1[j] r.2.1 (r.2.2 + j * 8)
  apart : st.Pairwise fun r q => r.1 ≠ [] → q.1 ≠ [] → r.2.1 ≠ q.2.1
  all : ∀ p ∈ F, Fresh w W p.1 ∧ ∀ (i : Nat) (h : i < p.2.length), InSt st p.2[i] p.1 i ∨ (Nd F W p.2[i] p.1 (i * 8) ∧ ∀ r ∈ st, r.1 ≠ [] → r.2.1 = p.1 → i * 8 < r.2.2)
def CloneJ (w : World) (g : Nat) (l0 : List Tree) (st : List Row) (W : World) : Prop := ∃ F, (l0 ≠ [] → (g, l0) ∈ F) ∧ CloneF w F st W

/-- cells of new blocks stay -/
theorem Fresh.keep {w W W' : World} {b : Nat} (h : Fresh w W b) (hk : ∀ k cs, BlkIs W k 31 cs → BlkIs W' k 31 cs) : Fresh w W' b := by
  obtain ⟨h1, cs, h2⟩ := h
  exact ⟨h1, cs, hk _ _ h2⟩
theorem Fresh.range {w W W' : World} {b o : Nat} {ls : List Value} (h : Fresh w W b) (hk : ∀ k cs, BlkIs W k 31 cs → BlkIs W' k 31 cs) (hr : W.rangeAt b o ls) : W'.rangeAt b o ls := fun j v hv => by
  obtain ⟨_, cs, h2⟩ := h
  rw [(hk _ _ h2).cell, ← h2.cell]
  exact hr j v hv

theorem CloneF.keep {w W W' : World} {F : List (Nat × List Tree)} {st : List Row} (h : CloneF w F st W) (hb : Below w.heap.size W W') (hk : ∀ k cs, BlkIs W k 31 cs → BlkIs W' k 31 cs) : CloneF w F st W' where
  low := h.low.trans hb
  rows := fun r hr hne => by
    obtain ⟨h1, h2, h3⟩ := h.rows r hr hne
    refine ⟨h1.keep hk, h2, fun j hj => ?_⟩
    obtain ⟨cs, g1, g2, g3⟩ := h3 j hj
    exact ⟨cs, g1, g2, h1.range hk g3⟩
  apart := h.apart
  all := fun p hp => by
    obtain ⟨h1, h2⟩ := h.all p hp
    refine ⟨h1.keep hk, fun i hi => (h2 i hi).imp id fun ⟨⟨A, c, g1, g2, g3, g4⟩, g5⟩ => ⟨⟨A, c, h1.range hk g1, g2, g3, g4⟩, g5⟩⟩
theorem CloneF.pop {w W : World} {F : List (Nat × List Tree)} {b o : Nat} {st : List Row} (h : CloneF w F (([], b, o) :: st) W) : CloneF w F st W where
  low := h.low
  rows := fun r hr hne => h.rows r (by simp [hr]) hne
  apart := (List.pairwise_cons.1 h.apart).2
  all := fun p hp => by
    obtain ⟨h1, h2⟩ := h.all p hp
    refine ⟨h1, fun i hi => (h2 i hi).imp ?_ fun ⟨g1, g2⟩ => ⟨g1, fun r hr hne => g2 r (by simp [hr]) hne⟩⟩
    rintro ⟨r, hr, g1, j, hj, g2⟩
    rcases List.mem_cons.1 hr with rfl | hr
    · exact absurd hj (by simp)
    · exact ⟨r, hr, g1, j, hj, g2⟩

/-- the world behind: each row's trees lie there, and in new blocks alone -/
theorem CloneF.done {w W V : World} {F : List (Nat × List Tree)} (h : CloneF w F [] W) (hV : ∀ k, w.heap.size ≤ k → V.heap[k]? = W.heap[k]?) : ∀ (t : Tree) (b o : Nat), w.heap.size ≤ b → Nd F W t b o → ∃ cs : List Value, Tree.At V t (.agg cs.toArray) ∧ cs.length = 8 ∧ V.rangeAt b o cs := by
  intro t
  induction t using Tree.ind with
  | h k m l lo hi ih =>
    rintro b o hb ⟨A, c, h1, h2, h3, h4⟩
    refine ⟨_, ?_, rfl, fun j v hv => (World.cell?_of_block (w := W) (hV b hb)).trans (h1 j v hv)⟩
    unfold Tree.At
    refine ⟨A, c, rfl, ⟨h2, h3⟩, fun hne => ?_⟩
    obtain ⟨b', rfl, h5⟩ := h4 hne
    refine ⟨b', 0, rfl, AllAt.mk l b' 0 fun i hi => ?_⟩
    rw [Nat.zero_add]
    rcases (h.all _ h5).2 i hi with ⟨r, hr, _⟩ | ⟨g, _⟩
    · cases hr
    · exact ih _ (List.getElem_mem hi) _ _ (h.all _ h5).1.1 g
theorem CloneJ.done {w W V : World} {g : Nat} {l0 : List Tree} (h : CloneJ w g l0 [] W) (hne : l0 ≠ []) (hV : ∀ k, w.heap.size ≤ k → V.heap[k]? = W.heap[k]?) : AllAt V l0 g 0 := by
  obtain ⟨F, h1, h2⟩ := h
  refine AllAt.mk l0 g 0 fun i hi => ?_
  rw [Nat.zero_add]
  rcases (h2.all _ (h1 hne)).2 i hi with ⟨r, hr, _⟩ | ⟨g, _⟩
  · cases hr
  · exact h2.done hV _ _ _ (h2.all _ (h1 hne)).1.1 g

/-- THE STEP: the Subs of the node that is told are copied, and its field says where -/
theorem clone_step {w W W2 : World} {g : Nat} {l0 : List Tree} {t : Tree} {s : List Tree} {b o : Nat} {st : List Row} (h : CloneJ w g l0 ((t :: s, b, o) :: st) W) (hW : Below W.heap.size W W2) {A : Option Addr} {c : Nat}
    (hc1 : t.sub.length ≤ c) (hc2 : c ≤ 9223372036854775807) (b' : Nat) (hA : t.sub ≠ [] → A = some ⟨b', 0, none⟩ ∧ W.heap.size ≤ b' ∧ (∃ cs, BlkIs W2 b' 31 cs) ∧ ∀ (j : Nat) (h : j < t.sub.length), NodePend w W2 t.sub[j] b' (j * 8)) :
    Told (CloneJ w g l0) t s b o st (W2.setCell ⟨b, o + 5, none⟩ (.slice A t.sub.length c)) := by
  obtain ⟨F, h0, h⟩ := h
  have hk : ∀ k cs, BlkIs W k 31 cs → BlkIs W2 k 31 cs := fun k cs hb => hb.step hW
  have hlow := h.low
  have h2 := h.keep (hW.mono hlow.size) hk
  obtain ⟨hfb, ⟨q, rfl⟩, hpend⟩ := h2.rows (t :: s, b, o) (by simp) (by simp)
  obtain ⟨hbw, bcs, hbb⟩ := hfb
  dsimp only at hbw hbb hpend
  have hbW : b < W.heap.size := by
    obtain ⟨_, cs, hx⟩ := (h.rows (t :: s, b, q * 8) (by simp) (by simp)).1
    exact hx.lt
  have hfreshne : t.sub ≠ [] → b' ≠ b := fun hne => by have := (hA hne).2.1; omega
  -- the node that is told
  obtain ⟨ncs, hn1, hn2, hn3⟩ := hpend 0 (by simp)
  simp only [List.getElem_cons_zero, Nat.zero_mul, Nat.add_zero] at hn1 hn3
  obtain ⟨A0, n0, c0, rfl⟩ := hn1.eight
  have hcell5 : bcs[q * 8 + 5]? = some (.slice A0 n0 c0) := by rw [← hbb.cell]; exact hn3 5 _ rfl
  have hlt5 : q * 8 + 5 < bcs.size := by
    rcases Nat.lt_or_ge (q * 8 + 5) bcs.size with h | h
    · exact h
    · rw [Array.getElem?_eq_none h] at hcell5; cases hcell5
  have hb3 := hbb.put (q * 8 + 5) (.slice A t.sub.length c)
  generalize hW3 : W2.setCell ⟨b, q * 8 + 5, none⟩ (.slice A t.sub.length c) = W3 at *
  -- what stays
  have far : ∀ k cs, k ≠ b → BlkIs W2 k 31 cs → BlkIs W3 k 31 cs := fun k cs hkb hx => by rw [← hW3]; exact hx.far (p := ⟨b, q * 8 + 5, none⟩) hkb _
  have fresh : ∀ k, Fresh w W2 k → Fresh w W3 k := fun k ⟨f1, cs, f2⟩ => by
    by_cases e : k = b
    · subst e; exact ⟨f1, _, hb3⟩
    · exact ⟨f1, cs, far k cs e f2⟩
  have keepR : ∀ k o ls, (k = b → q * 8 + 5 < o ∨ o + ls.length ≤ q * 8 + 5) → W2.rangeAt k o ls → W3.rangeAt k o ls := fun k o ls hkb hx => by
    rw [← hW3]
    by_cases e : k = b
    · subst e; exact range_set hbb hx (hkb rfl) _
    · exact range_far hx e _
  have keepP : ∀ x k i, (k = b → q < i ∨ i < q) → NodePend w W2 x k (i * 8) → NodePend w W3 x k (i * 8) := fun x k i hki ⟨cs, p1, p2, p3⟩ => ⟨cs, p1, p2, keepR _ _ _ (fun e => by have := hki e; omega) p3⟩
  have hnode : W3.rangeAt b (q * 8) (reL t.kind t.set A t.sub.length c t.lo t.hi) := fun j v hv => by
    rw [hb3.cell]
    by_cases e : j = 5
    · subst e
      rw [Array.getElem?_setIfInBounds_self_of_lt hlt5]
      exact hv
    · rw [Array.getElem?_setIfInBounds_ne (by omega), ← hbb.cell]
      refine hn3 j v ?_
      rw [← hv]
      unfold reL
      match j, e with
      | 0, _ => rfl
      | 1, _ => rfl
      | 2, _ => rfl
      | 3, _ => rfl
      | 4, _ => rfl
      | 6, _ => rfl
      | 7, _ => rfl
      | j + 8, _ => rfl
  have hapart := List.pairwise_cons.1 h.apart
  refine ⟨A, c, b', 0, by have := hnode 5 _ rfl; exact this, hc1, hc2, fun hne => (hA hne).1, (if t.sub = [] then F else (b', t.sub) :: F), fun hne => ?_, ?_⟩
  · split
    · exact h0 hne
    · exact List.mem_cons_of_mem _ (h0 hne)
  have hsub : ∀ p, p ∈ F → p ∈ (if t.sub = [] then F else (b', t.sub) :: F) := fun p hp => by
    split
    · exact hp
    · exact List.mem_cons_of_mem _ hp
  have blockF : ∀ p ∈ F, p.1 < W.heap.size := fun p hp => by
    obtain ⟨_, cs, hx⟩ := (h.all p hp).1
    exact hx.lt
  have blockS : ∀ r ∈ st, r.1 ≠ [] → r.2.1 < W.heap.size := fun r hr hne => by
    obtain ⟨_, cs, hx⟩ := (h.rows r (by simp [hr]) hne).1
    exact hx.lt
  have rest : ∀ r ∈ st, r.1 ≠ [] → r.2.1 ≠ b := fun r hr hne e => hapart.1 r hr (by simp) hne e.symm
  refine { low := ?_, rows := ?_, apart := ?_, all := ?_ }
  · rw [← hW3]; exact h2.low.setCell (p := ⟨b, q * 8 + 5, none⟩) hbw _
  · intro r hr hne
    rcases List.mem_cons.1 hr with rfl | hr
    · obtain ⟨_, a2, ⟨cs, a3⟩, a4⟩ := hA hne
      refine ⟨⟨Nat.le_trans hlow.size a2, cs, far _ _ (hfreshne hne) a3⟩, ⟨0, by simp⟩, fun j hj => ?_⟩
      rw [show (0 : Nat) + j * 8 = j * 8 by omega]
      exact keepP _ _ _ (fun e => absurd e (hfreshne hne)) (a4 j hj)
    rcases List.mem_cons.1 hr with rfl | hr
    · refine ⟨fresh _ ⟨hbw, _, hbb⟩, ⟨q + 1, by simp; omega⟩, fun j hj => ?_⟩
      have := hpend (j + 1) (by simpa using hj)
      rw [show q * 8 + (j + 1) * 8 = (q + 1 + j) * 8 by omega] at this
      have h3 := keepP _ _ _ (fun _ => by omega) this
      rw [show q * 8 + 8 + j * 8 = (q + 1 + j) * 8 by omega]
      simpa using h3
    · obtain ⟨a1, a2, a3⟩ := h2.rows r (by simp [hr]) hne
      refine ⟨fresh _ a1, a2, fun j hj => ?_⟩
      obtain ⟨cs, p1, p2, p3⟩ := a3 j hj
      exact ⟨cs, p1, p2, keepR _ _ _ (fun e => absurd e (rest r hr hne)) p3⟩
  · refine List.pairwise_cons.2 ⟨fun r hr hne hne2 => ?_, List.pairwise_cons.2 ⟨fun r hr hne hne2 => hapart.1 r hr (by simp) hne2, hapart.2⟩⟩
    have h1 := (hA hne).2.1
    dsimp only
    rcases List.mem_cons.1 hr with rfl | hr
    · dsimp only; omega
    · have := blockS r hr hne2; omega
  · intro p hp
    by_cases hnew : t.sub ≠ [] ∧ p = (b', t.sub)
    · obtain ⟨hne, rfl⟩ := hnew
      obtain ⟨_, a2, ⟨cs, a3⟩, a4⟩ := hA hne
      exact ⟨⟨Nat.le_trans hlow.size a2, cs, far _ _ (hfreshne hne) a3⟩, fun i hi => .inl ⟨_, List.mem_cons_self .., rfl, i, hi, rfl, by simp⟩⟩
    have hpF : p ∈ F := by
      split at hp
      · exact hp
      · rename_i hne
        rcases List.mem_cons.1 hp with e | hp
        · exact absurd ⟨hne, e⟩ hnew
        · exact hp
    have hp1 := blockF p hpF
    obtain ⟨a1, a2⟩ := h2.all p hpF
    refine ⟨fresh _ a1, fun i hi => ?_⟩
    rcases a2 i hi with ⟨r, hr, e1, j, hj, e2, e3⟩ | ⟨⟨A1, c1, d1, d2, d3, d4⟩, d5⟩
    · rcases List.mem_cons.1 hr with rfl | hr
      · dsimp only at e1 e2 e3 hj
        subst e1
        cases j with
        | zero =>
          simp only [List.getElem_cons_zero] at e2
          have hqi : q * 8 = i * 8 := by omega
          refine .inr ⟨?_, fun r hr hne he => ?_⟩
          · rw [← e2, ← hqi]
            refine ⟨A, c, hnode, hc1, hc2, fun hne => ⟨b', (hA hne).1, ?_⟩⟩
            rw [if_neg hne]; exact List.mem_cons_self ..
          · rcases List.mem_cons.1 hr with rfl | hr
            · dsimp only at he hne
              exact absurd he (hfreshne hne)
            rcases List.mem_cons.1 hr with rfl | hr
            · dsimp only; omega
            · exact absurd he (rest r hr hne)
        | succ j =>
          refine .inl ⟨(s, p.1, q * 8 + 8), by simp, rfl, j, by simpa using hj, by simpa using e2, by dsimp only; omega⟩
      · exact .inl ⟨r, by simp [hr], e1, j, hj, e2, e3⟩
    · refine .inr ⟨⟨A1, c1, keepR _ _ _ (fun e => ?_) d1, d2, d3, fun hne => ?_⟩, fun r hr hne he => ?_⟩
      · have := d5 (t :: s, b, q * 8) (by simp) (by simp) e.symm
        dsimp only at this
        have h8 : (reL (p.2[i]).kind (p.2[i]).set A1 (p.2[i]).sub.length c1 (p.2[i]).lo (p.2[i]).hi).length = 8 := rfl
        omega
      · obtain ⟨b2, f1, f2⟩ := d4 hne
        exact ⟨b2, f1, hsub _ f2⟩
      · rcases List.mem_cons.1 hr with rfl | hr
        · dsimp only at he hne
          have := (hA hne).2.1
          omega
        rcases List.mem_cons.1 hr with rfl | hr
        · have := d5 (t :: s, b, q * 8) (by simp) (by simp) he
          dsimp only at this ⊢
          omega
        · exact d5 r (by simp [hr]) hne he

end Go.Proofs.Ytngagijcdehjpaa

