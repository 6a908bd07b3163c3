/-
  A COPY OF TREES WHILE IT IS MADE: what lies where, of no program: the rows that are ahead hold the old nodes; the nodes behind hold new Subs. No condition.
-/
import Derived.Maps.OwnIn
import Derived.Test.YtojejnjjenmfaaaQG10
import Derived.Test.YtojejnjjenmfaaaQG08
namespace Go.Proofs.Ytojejnjjenmfaaa
open Go.RowKit

theorem range_set {W : World} {b i o : Nat} {t : TypeId} {cs : Array Value} {ls : List Value} (hb : BlkIs W b t cs) (h : W.rangeAt b o ls) (hi : i < o ∨ o + ls.length ≤ i) (u : Value) : (W.setCell ⟨b, i, none⟩ u).rangeAt b o ls := fun j v hv => by
  have hj : j < ls.length := (List.getElem?_eq_some_iff.1 hv).1
  have h1 := h j v hv
  rw [hb.cell] at h1
  rw [(hb.put i u).cell, Array.getElem?_setIfInBounds_ne (by omega)]
  exact h1
theorem range_far {W : World} {b k i o : Nat} {ls : List Value} (h : W.rangeAt k o ls) (hk : k ≠ b) (u : Value) : (W.setCell ⟨b, i, none⟩ u).rangeAt k o ls := fun j v hv =>
  (World.cell?_of_block (w := W) (Below.heap_setCell W ⟨b, i, none⟩ u k hk)).trans (h j v hv)

def NodePend (w W : World) (t : Tree) (b o : Nat) : Prop := ∃ cs : List Value, Tree.At w t (.agg cs.toArray) ∧ cs.length = 8 ∧ W.rangeAt b o cs
def Nd (F : List (Nat × List Tree)) (W : World) (t : Tree) (b o : Nat) : Prop :=
  ∃ A c, W.rangeAt b o (reL t.kind t.set A t.sub.length c t.lo t.hi) ∧ t.sub.length ≤ c ∧ c ≤ 9223372036854775807 ∧ (t.sub ≠ [] → ∃ b', A = some ⟨b', 0, none⟩ ∧ (b', t.sub) ∈ F)
def InSt (st : List Row) (t : Tree) (b i : Nat) : Prop := ∃ r ∈ st, r.2.1 = b ∧ ∃ (j : Nat) (hj : j < r.1.length), r.1[j] = t ∧ r.2.2 + j * 8 = i * 8
def Fresh (w W : World) (b : Nat) : Prop := w.heap.size ≤ b ∧ ∃ cs, BlkIs W b 39 cs

structure CloneF (w : World) (F : List (Nat × List Tree)) (st : List Row) (W : World) : Prop where
  low : Below w.heap.size w W
  rows : ∀ r ∈ st, r.1 ≠ [] → Fresh w W r.2.1 ∧ (∃ q, r.2.2 = q * 8) ∧ ∀ (j : Nat) (h : j < r.1.length), NodePend w W r.1[j] r.2.1 (r.2.2 + j * 8)
  apart : st.Pairwise fun r q => r.1 ≠ [] → q.1 ≠ [] → r.2.1 ≠ q.2.1
  all : ∀ p ∈ F, Fresh w W p.1 ∧ ∀ (i : Nat) (h : i < p.2.length), InSt st p.2[i] p.1 i ∨ (Nd F W p.2[i] p.1 (i * 8) ∧ ∀ r ∈ st, r.1 ≠ [] → r.2.1 = p.1 → i * 8 < r.2.2)
def CloneJ (w : World) (g : Nat) (l0 : List Tree) (st : List Row) (W : World) : Prop := ∃ F, (l0 ≠ [] → (g, l0) ∈ F) ∧ CloneF w F st W

/-- cells of new blocks stay -/
theorem Fresh.keep {w W W' : World} {b : Nat} (h : Fresh w W b) (hk : ∀ k cs, BlkIs W k 39 cs → BlkIs W' k 39 cs) : Fresh w W' b := by
  obtain ⟨h1, cs, h2⟩ := h
  exact ⟨h1, cs, hk _ _ h2⟩
theorem Fresh.range {w W W' : World} {b o : Nat} {ls : List Value} (h : Fresh w W b) (hk : ∀ k cs, BlkIs W k 39 cs → BlkIs W' k 39 cs) (hr : W.rangeAt b o ls) : W'.rangeAt b o ls := fun j v hv => by
  obtain ⟨_, cs, h2⟩ := h
  rw [(hk _ _ h2).cell, ← h2.cell]
  exact hr j v hv

theorem CloneF.keep {w W W' : World} {F : List (Nat × List Tree)} {st : List Row} (h : CloneF w F st W) (hb : Below w.heap.size W W') (hk : ∀ k cs, BlkIs W k 39 cs → BlkIs W' k 39 cs) : CloneF w F st W' where
  low := h.low.trans hb
  rows := fun r hr hne => by
    obtain ⟨h1, h2, h3⟩ := h.rows r hr hne
    refine ⟨h1.keep hk, h2, fun j hj => ?_⟩
    obtain ⟨cs, g1, g2, g3⟩ := h3 j hj
    exact ⟨cs, g1, g2, h1.range hk g3⟩
  apart := h.apart
  all := fun p hp => by
    obtain ⟨h1, h2⟩ := h.all p hp
    refine ⟨h1.keep hk, fun i hi => (h2 i hi).imp id fun ⟨⟨A, c, g1, g2, g3, g4⟩, g5⟩ => ⟨⟨A, c, h1.range hk g1, g2, g3, g4⟩, g5⟩⟩
theorem CloneF.pop {w W : World} {F : List (Nat × List Tree)} {b o : Nat} {st : List Row} (h : CloneF w F (([], b, o) :: st) W) : CloneF w F st W where
  low := h.low
  rows := fun r hr hne => h.rows r (by simp [hr]) hne
  apart := (List.pairwise_cons.1 h.apart).2
  all := fun p hp => by
    obtain ⟨h1, h2⟩ := h.all p hp
    refine ⟨h1, fun i hi => (h2 i hi).imp ?_ fun ⟨g1, g2⟩ => ⟨g1, fun r hr hne => g2 r (by simp [hr]) hne⟩⟩
    rintro ⟨r, hr, g1, j, hj, g2⟩
    rcases List.mem_cons.1 hr with rfl | hr
    · exact absurd hj (by simp)
    · exact ⟨r, hr, g1, j, hj, g2⟩

/-- the world behind: each row's trees lie there, and in new blocks alone -/
theorem CloneF.done {w W V : World} {F : List (Nat × List Tree)} (h : CloneF w F [] W) (hV : ∀ k, w.heap.size ≤ k → V.heap[k]? = W.heap[k]?) : ∀ (t : Tree) (b o : Nat), w.heap.size ≤ b → Nd F W t b o → ∃ cs : List Value, Tree.At V t (.agg cs.toArray) ∧ cs.length = 8 ∧ V.rangeAt b o cs := by
  intro t
  induction t using Tree.ind with
  | h k m l lo hi ih =>
    rintro b o hb ⟨A, c, h1, h2, h3, h4⟩
    refine ⟨_, ?_, rfl, fun j v hv => (World.cell?_of_block (w := W) (hV b hb)).trans (h1 j v hv)⟩
    unfold Tree.At
    refine ⟨A, c, rfl, ⟨h2, h3⟩, fun hne => ?_⟩
    obtain ⟨b', rfl, h5⟩ := h4 hne
    refine ⟨b', 0, rfl, AllAt.mk l b' 0 fun i hi => ?_⟩
    rw [Nat.zero_add]
    rcases (h.all _ h5).2 i hi with ⟨r, hr, _⟩ | ⟨g, _⟩
    · cases hr
    · exact ih _ (List.getElem_mem hi) _ _ (h.all _ h5).1.1 g
theorem CloneJ.done {w W V : World} {g : Nat} {l0 : List Tree} (h : CloneJ w g l0 [] W) (hne : l0 ≠ []) (hV : ∀ k, w.heap.size ≤ k → V.heap[k]? = W.heap[k]?) : AllAt V l0 g 0 := by
  obtain ⟨F, h1, h2⟩ := h
  refine AllAt.mk l0 g 0 fun i hi => ?_
  rw [Nat.zero_add]
  rcases (h2.all _ (h1 hne)).2 i hi with ⟨r, hr, _⟩ | ⟨g, _⟩
  · cases hr
  · exact h2.done hV _ _ _ (h2.all _ (h1 hne)).1.1 g

/-- THE STEP: the Subs of the node that is told are copied, and its field says where -/
theorem clone_step {w W W2 : World} {g : Nat} {l0 : List Tree} {t : Tree} {s : List Tree} {b o : Nat} {st : List Row} (h : CloneJ w g l0 ((t :: s, b, o) :: st) W) (hW : Below W.heap.size W W2) {A : Option Addr} {c : Nat}
    (hc1 : t.sub.length ≤ c) (hc2 : c ≤ 9223372036854775807) (b' : Nat) (hA : t.sub ≠ [] → A = some ⟨b', 0, none⟩ ∧ W.heap.size ≤ b' ∧ (∃ cs, BlkIs W2 b' 39 cs) ∧ ∀ (j : Nat) (h : j < t.sub.length), NodePend w W2 t.sub[j] b' (j * 8)) :
    Told (CloneJ w g l0) t s b o st (W2.setCell ⟨b, o + 5, none⟩ (.slice A t.sub.length c)) := by
  obtain ⟨F, h0, h⟩ := h
  have hk : ∀ k cs, BlkIs W k 39 cs → BlkIs W2 k 39 cs := fun k cs hb => hb.step hW
  have hlow := h.low
  have h2 := h.keep (hW.mono hlow.size) hk
  obtain ⟨hfb, ⟨q, rfl⟩, hpend⟩ := h2.rows (t :: s, b, o) (by simp) (by simp)
  obtain ⟨hbw, bcs, hbb⟩ := hfb
  dsimp only at hbw hbb hpend
  have hbW : b < W.heap.size := by
    obtain ⟨_, cs, hx⟩ := (h.rows (t :: s, b, q * 8) (by simp) (by simp)).1
    exact hx.lt
  have hfreshne : t.sub ≠ [] → b' ≠ b := fun hne => by have := (hA hne).2.1; omega
  -- the node that is told
  obtain ⟨ncs, hn1, hn2, hn3⟩ := hpend 0 (by simp)
  simp only [List.getElem_cons_zero, Nat.zero_mul, Nat.add_zero] at hn1 hn3
  obtain ⟨A0, n0, c0, rfl⟩ := hn1.eight
  have hcell5 : bcs[q * 8 + 5]? = some (.slice A0 n0 c0) := by rw [← hbb.cell]; exact hn3 5 _ rfl
  have hlt5 : q * 8 + 5 < bcs.size := by
    rcases Nat.lt_or_ge (q * 8 + 5) bcs.size with h | h
    · exact h
    · rw [Array.getElem?_eq_none h] at hcell5; cases hcell5
  have hb3 := hbb.put (q * 8 + 5) (.slice A t.sub.length c)
  generalize hW3 : W2.setCell ⟨b, q * 8 + 5, none⟩ (.slice A t.sub.length c) = W3 at *
  -- what stays
  have far : ∀ k cs, k ≠ b → BlkIs W2 k 39 cs → BlkIs W3 k 39 cs := fun k cs hkb hx => by rw [← hW3]; exact hx.far (p := ⟨b, q * 8 + 5, none⟩) hkb _
  have fresh : ∀ k, Fresh w W2 k → Fresh w W3 k := fun k ⟨f1, cs, f2⟩ => by
    by_cases e : k = b
    · subst e; exact ⟨f1, _, hb3⟩
    · exact ⟨f1, cs, far k cs e f2⟩
  have keepR : ∀ k o ls, (k = b → q * 8 + 5 < o ∨ o + ls.length ≤ q * 8 + 5) → W2.rangeAt k o ls → W3.rangeAt k o ls := fun k o ls hkb hx => by
    rw [← hW3]
    by_cases e : k = b
    · subst e; exact range_set hbb hx (hkb rfl) _
    · exact range_far hx e _
  have keepP : ∀ x k i, (k = b → q < i ∨ i < q) → NodePend w W2 x k (i * 8) → NodePend w W3 x k (i * 8) := fun x k i hki ⟨cs, p1, p2, p3⟩ => ⟨cs, p1, p2, keepR _ _ _ (fun e => by have := hki e; omega) p3⟩
  have hnode : W3.rangeAt b (q * 8) (reL t.kind t.set A t.sub.length c t.lo t.hi) := fun j v hv => by
    rw [hb3.cell]
    by_cases e : j = 5
    · subst e
      rw [Array.getElem?_setIfInBounds_self_of_lt hlt5]
      exact hv
    · rw [Array.getElem?_setIfInBounds_ne (by omega), ← hbb.cell]
      refine hn3 j v ?_
      rw [← hv]
      unfold reL
      match j, e with
      | 0, _ => rfl
      | 1, _ => rfl
      | 2, _ => rfl
      | 3, _ => rfl
      | 4, _ => rfl
      | 6, _ => rfl
      | 7, _ => rfl
      | j + 8, _ => rfl
  have hapart := List.pairwise_cons.1 h.apart
  refine ⟨A, c, b', 0, by have := hnode 5 _ rfl; exact this, hc1, hc2, fun hne => (hA hne).1, (if t.sub = [] then F else (b', t.sub) :: F), fun hne => ?_, ?_⟩
  · split
    · exact h0 hne
    · exact List.mem_cons_of_mem _ (h0 hne)
  have hsub : ∀ p, p ∈ F → p ∈ (if t.sub = [] then F else (b', t.sub) :: F) := fun p hp => by
    split
    · exact hp
    · exact List.mem_cons_of_mem _ hp
  have blockF : ∀ p ∈ F, p.1 < W.heap.size := fun p hp => by
    obtain ⟨_, cs, hx⟩ := (h.all p hp).1
    exact hx.lt
  have blockS : ∀ r ∈ st, r.1 ≠ [] → r.2.1 < W.heap.size := fun r hr hne => by
    obtain ⟨_, cs, hx⟩ := (h.rows r (by simp [hr]) hne).1
    exact hx.lt
  have rest : ∀ r ∈ st, r.1 ≠ [] → r.2.1 ≠ b := fun r hr hne e => hapart.1 r hr (by simp) hne e.symm
  refine { low := ?_, rows := ?_, apart := ?_, all := ?_ }
  · rw [← hW3]; exact h2.low.setCell (p := ⟨b, q * 8 + 5, none⟩) hbw _
  · intro r hr hne
    rcases List.mem_cons.1 hr with rfl | hr
    · obtain ⟨_, a2, ⟨cs, a3⟩, a4⟩ := hA hne
      refine ⟨⟨Nat.le_trans hlow.size a2, cs, far _ _ (hfreshne hne) a3⟩, ⟨0, by simp⟩, fun j hj => ?_⟩
      rw [show (0 : Nat) + j * 8 = j * 8 by omega]
      exact keepP _ _ _ (fun e => absurd e (hfreshne hne)) (a4 j hj)
    rcases List.mem_cons.1 hr with rfl | hr
    · refine ⟨fresh _ ⟨hbw, _, hbb⟩, ⟨q + 1, by simp; omega⟩, fun j hj => ?_⟩
      have := hpend (j + 1) (by simpa using hj)
      rw [show q * 8 + (j + 1) * 8 = (q + 1 + j) * 8 by omega] at this
      have h3 := keepP _ _ _ (fun _ => by omega) this
      rw [show q * 8 + 8 + j * 8 = (q + 1 + j) * 8 by omega]
      simpa using h3
    · obtain ⟨a1, a2, a3⟩ := h2.rows r (by simp [hr]) hne
      refine ⟨fresh _ a1, a2, fun j hj => ?_⟩
      obtain ⟨cs, p1, p2, p3⟩ := a3 j hj
      exact ⟨cs, p1, p2, keepR _ _ _ (fun e => absurd e (rest r hr hne)) p3⟩
  · refine List.pairwise_cons.2 ⟨fun r hr hne hne2 => ?_, List.pairwise_cons.2 ⟨fun r hr hne hne2 => hapart.1 r hr (by simp) hne2, hapart.2⟩⟩
    have h1 := (hA hne).2.1
    dsimp only
    rcases List.mem_cons.1 hr with rfl | hr
    · dsimp only; omega
    · have := blockS r hr hne2; omega
  · intro p hp
    by_cases hnew : t.sub ≠ [] ∧ p = (b', t.sub)
    · obtain ⟨hne, rfl⟩ := hnew
      obtain ⟨_, a2, ⟨cs, a3⟩, a4⟩ := hA hne
      exact ⟨⟨Nat.le_trans hlow.size a2, cs, far _ _ (hfreshne hne) a3⟩, fun i hi => .inl ⟨_, List.mem_cons_self .., rfl, i, hi, rfl, by simp⟩⟩
    have hpF : p ∈ F := by
      split at hp
      · exact hp
      · rename_i hne
        rcases List.mem_cons.1 hp with e | hp
        · exact absurd ⟨hne, e⟩ hnew
        · exact hp
    have hp1 := blockF p hpF
    obtain ⟨a1, a2⟩ := h2.all p hpF
    refine ⟨fresh _ a1, fun i hi => ?_⟩
    rcases a2 i hi with ⟨r, hr, e1, j, hj, e2, e3⟩ | ⟨⟨A1, c1, d1, d2, d3, d4⟩, d5⟩
    · rcases List.mem_cons.1 hr with rfl | hr
      · dsimp only at e1 e2 e3 hj
        subst e1
        cases j with
        | zero =>
          simp only [List.getElem_cons_zero] at e2
          have hqi : q * 8 = i * 8 := by omega
          refine .inr ⟨?_, fun r hr hne he => ?_⟩
          · rw [← e2, ← hqi]
            refine ⟨A, c, hnode, hc1, hc2, fun hne => ⟨b', (hA hne).1, ?_⟩⟩
            rw [if_neg hne]; exact List.mem_cons_self ..
          · rcases List.mem_cons.1 hr with rfl | hr
            · dsimp only at he hne
              exact absurd he (hfreshne hne)
            rcases List.mem_cons.1 hr with rfl | hr
            · dsimp only; omega
            · exact absurd he (rest r hr hne)
        | succ j =>
          refine .inl ⟨(s, p.1, q * 8 + 8), by simp, rfl, j, by simpa using hj, by simpa using e2, by dsimp only; omega⟩
      · exact .inl ⟨r, by simp [hr], e1, j, hj, e2, e3⟩
    · refine .inr ⟨⟨A1, c1, keepR _ _ _ (fun e => ?_) d1, d2, d3, fun hne => ?_⟩, fun r hr hne he => ?_⟩
      · have := d5 (t :: s, b, q * 8) (by simp) (by simp) e.symm
        dsimp only at this
        have h8 : (reL (p.2[i]).kind (p.2[i]).set A1 (p.2[i]).sub.length c1 (p.2[i]).lo (p.2[i]).hi).length = 8 := rfl
        omega
      · obtain ⟨b2, f1, f2⟩ := d4 hne
        exact ⟨b2, f1, hsub _ f2⟩
      · rcases List.mem_cons.1 hr with rfl | hr
        · dsimp only at he hne
          have := (hA hne).2.1
          omega
        rcases List.mem_cons.1 hr with rfl | hr
        · have := d5 (t :: s, b, q * 8) (by simp) (by simp) he
          dsimp only at this ⊢
          omega
        · exact d5 r (by simp [hr]) hne he

end Go.Proofs.Ytojejnjjenmfaaa

/-
  WHAT clone OF PACKAGE rx ANSWERS: the trees in new memory: a contract. Condition: they have at most 2^40 nodes.
-/
namespace Go.Proofs.Ytojejnjjenmfaaa
open Go.RowKit

theorem info_re : (Try.prog.info? 39).map (fun i => (i.size, i.bytes, i.zero.map (·.cells.size))) = some (8, 80, some 8) := by kernel_rfl
theorem info_re' : ∃ i z, Try.prog.info? 39 = some i ∧ i.zero = some z ∧ i.size = 8 ∧ i.bytes = 80 ∧ z.cells.size = 8 := by
  have h := info_re
  cases hi : Try.prog.info? 39 with
  | none => rw [hi] at h; cases h
  | some i =>
    rw [hi] at h
    simp only [Option.map_some, Option.some.injEq, Prod.mk.injEq] at h
    cases hz : i.zero with
    | none => rw [hz] at h; simp at h
    | some z => rw [hz] at h; exact ⟨i, z, rfl, hz, h.1, h.2.1, by simpa using h.2.2⟩

/-- the type of what is appended does not matter -/
theorem append_two (A : Option Addr) (n c : Nat) (x : Value) (w : World) (ty : TypeId) : (Builtin.append_ #[90, 22] ty #[.slice A n c, x]).run Try.prog w = (Builtin.append_ #[90, 90] ty #[.slice A n c, x]).run Try.prog w := by
  unfold Builtin.append_
  simp [Sem.run_bind, run_underlying Try.underlying90, run_underlying Try.underlying22, Result.andThen]

theorem one_reL {k lo hi : Int} {m : Nat → Bool} {A : Option Addr} {n c : Nat} : ∀ u ∈ reL k m A n c lo hi, u.oneCell' = true := by
  intro u hu
  simp only [reL, List.mem_cons, List.not_mem_nil, or_false] at hu
  rcases hu with rfl | rfl | rfl | rfl | rfl | rfl | rfl | rfl <;> rfl

/-- the cells of trees side by side -/
theorem news_of {w : World} : ∀ (l : List Tree) (b o : Nat), AllAt w l b o → ∃ news : List Value, news.length = l.length * 8 ∧ (∀ j u, news[j]? = some u → w.cell? ⟨b, o + j, none⟩ = some u) ∧ (∀ u ∈ news, u.oneCell' = true) ∧
    ∀ (i : Nat) (h : i < l.length), ∃ cs : List Value, Tree.At w l[i] (.agg cs.toArray) ∧ cs.length = 8 ∧ ∀ (j : Nat) (v : Value), cs[j]? = some v → news[i * 8 + j]? = some v
  | [], _, _, _ => ⟨[], rfl, by simp, by simp, fun i h => by simp at h⟩
  | t :: r, b, o, h => by
    unfold AllAt at h
    obtain ⟨⟨cs, h1, h2, h3⟩, h4⟩ := h
    obtain ⟨news, g1, g2, g3, g4⟩ := news_of r b (o + 8) h4
    refine ⟨cs ++ news, by simp [g1, h2]; omega, fun j u hu => ?_, fun u hu => ?_, fun i hi => ?_⟩
    · rcases Nat.lt_or_ge j 8 with hj | hj
      · rw [List.getElem?_append_left (by omega)] at hu
        exact h3 j u hu
      · rw [List.getElem?_append_right (by omega), h2] at hu
        have := g2 _ _ hu
        rwa [show o + 8 + (j - 8) = o + j by omega] at this
    · rcases List.mem_append.1 hu with hu | hu
      · obtain ⟨A, n, c, rfl⟩ := h1.eight
        exact one_reL u hu
      · exact g3 u hu
    · cases i with
      | zero => exact ⟨cs, h1, h2, fun j v hv => by rw [Nat.zero_mul, Nat.zero_add, List.getElem?_append_left (by have := (List.getElem?_eq_some_iff.1 hv).1; omega)]; exact hv⟩
      | succ i =>
        obtain ⟨cs', k1, k2, k3⟩ := g4 i (by simpa using hi)
        refine ⟨cs', by simpa using k1, k2, fun j v hv => ?_⟩
        have := k3 j v hv
        rw [List.getElem?_append_right (by omega), h2, show (i + 1) * 8 + j - 8 = i * 8 + j by omega]
        exact this

/-- a list copied: what append(nil, l...) makes -/
theorem copy_run (w0 : World) (l : List Tree) (b o c : Nat) (w : World) (t ty : TypeId) (ht : Try.prog.underlying t = some (.slice 39)) (hne : l ≠ []) (hl : l.length ≤ 1099511627776) (hat : AllAt w0 l b o) (hb : Below w0.heap.size w0 w) :
    ∃ (g c' : Nat) (w' : World), (Builtin.append_ #[t, t] ty #[.slice none 0 0, .slice (some ⟨b, o, none⟩) l.length c]).run Try.prog w = .ok (.slice (some ⟨g, 0, none⟩) l.length c') w' ∧ l.length ≤ c' ∧ c' ≤ 9223372036854775807 ∧
      w.heap.size ≤ g ∧ (∃ cs, BlkIs w' g 39 cs) ∧ (∀ (j : Nat) (h : j < l.length), NodePend w0 w' l[j] g (j * 8)) ∧ Below w.heap.size w w' := by
  obtain ⟨i, z, hi, hz, hs, hby, hzs⟩ := info_re'
  obtain ⟨news, h1, h2, h3, h4⟩ := news_of l b o hat
  have hlt : b < w0.heap.size := by
    obtain ⟨t, r, rfl⟩ := List.exists_cons_of_ne_nil hne
    unfold AllAt at hat
    obtain ⟨⟨cs, _, g2, g3⟩, _⟩ := hat
    obtain ⟨x, xs, rfl⟩ : ∃ x xs, cs = x :: xs := List.exists_cons_of_ne_nil (by intro e; subst e; simp at g2)
    exact World.block_lt_of_cell? w0 ⟨b, o + 0, none⟩ (g3 0 x rfl)
  obtain ⟨v', w', hr, hown, hg, hnil⟩ := run_append_own (P := Try.prog) w w.heap.size t ty 39 i z 8 80 ht hi hz hs hby hzs (by decide) (.slice none 0 0) 0 [] (World.ownsRow_nil _ _ _ _) ⟨b, o, none⟩ l.length c news h1
    (fun j u hu => by rw [show (⟨b, o, none⟩ : Addr).add j = ⟨b, o + j, none⟩ from by rw [Addr.add_lit], hb.cell (p := ⟨b, o + j, none⟩) hlt]; exact h2 j u hu) h3 (by unfold maxLen; omega) (by omega) (Nat.le_refl _)
  have hB : Below w.heap.size w w' := (Below.refl _ _).grown hg (Nat.le_refl _) (by simp [Value.ownBlock])
  rw [Nat.zero_add, List.nil_append] at hown
  obtain ⟨n, hn⟩ : ∃ n, l.length = n + 1 := ⟨l.length - 1, by have := List.length_pos_iff.2 hne; omega⟩
  rcases hown with ⟨_, ⟨_, h0⟩ | ⟨g, cap, cur, rfl, hbase, hblk, hc1, hc2, hcs, htake⟩⟩
  · omega
  refine ⟨g, cap, w', hr, hc1, by unfold maxLen at hc2; omega, hbase, ⟨cur, hblk⟩, fun j hj => ?_, hB⟩
  obtain ⟨cs, k1, k2, k3⟩ := h4 j hj
  refine ⟨cs, k1, k2, fun q v hv => ?_⟩
  have hq : q < 8 := by have := (List.getElem?_eq_some_iff.1 hv).1; omega
  have hx := k3 q v hv
  rw [← htake, List.getElem?_take, if_pos (by omega)] at hx
  rw [BlkIs.cell (show BlkIs w' g 39 cur from hblk)]
  simpa using hx

/-- a list of none copied -/
theorem copy_none (A : Option Addr) (c : Nat) (w : World) (t ty : TypeId) (ht : Try.prog.underlying t = some (.slice 39)) :
    (Builtin.append_ #[t, t] ty #[.slice none 0 0, .slice A 0 c]).run Try.prog w = .ok (.slice none 0 0) w := by
  obtain ⟨i, z, hi, hz, hs, hby, hzs⟩ := info_re'
  cases A <;> simp [Builtin.append_, run_underlying ht, sizeOf, typeInfo, hi, Builtin.lenOf, Builtin.firstCells, loadCells, loadCellsFrom, Result.andThen]

section
variable {F : Fence} {nF : Nat} {P : Program} {ops : Array Oper} {rest : List Oper} {op : Oper} {a : Act} {w : World} {Q : Exit → Act → World → Prop}
theorem wpListIn_append_run (hg : op.guard = none) (s x : Operand) (t t2 : TypeId) (hop : op.op = Op.call { callee := Callee.builtin Builtin.append, args := #[s, x], argTypes := #[t, t2] }) {v xv v' : Value} {w' : World} (hs : a.eval s = v) (hx : a.eval x = xv)
    (hrun : (Builtin.append_ #[t, t2] op.type #[v, xv]).run P w = .ok v' w') (h : wpListIn F nF P ops Q rest (a.put op.dst v') w') : wpListIn F nF P ops Q (op :: rest) a w := by
  refine wpListIn_plain hg fun K' hK' => ?_
  unfold Oper.wpIn
  refine ⟨by simp [Oper.about, hop, resolve, Target.leads, Sem.run_pure], ?_⟩
  rw [Oper.semAt_plain F _ _ (by rw [hop]; intro c hc'; cases hc')]
  simp [execOp, hop, resolve, invoke, builtin, hs, hx, hrun, Result.andThen]
  exact hK' _ _ h
end

theorem nodes_pos (t : Tree) : 0 < t.nodes := by cases t with | node k m l lo hi => simp [Tree.nodes]
theorem length_nodes : ∀ l : List Tree, l.length ≤ nodesL l
  | [] => Nat.le_refl _
  | t :: r => by have := nodes_pos t; have := length_nodes r; simp [nodesL]; omega
theorem mem_nodes : ∀ {l : List Tree} {t : Tree}, t ∈ l → t.nodes ≤ nodesL l
  | t :: r, x, h => by
    rcases List.mem_cons.1 h with rfl | h
    · simp [nodesL]
    · have := mem_nodes h; simp [nodesL]; omega
mutual
theorem deep_nodes : ∀ t : Tree, t.deepN ≤ t.nodes
  | .node k m l lo hi => by have := deepL_nodes l; simp [Tree.deepN, Tree.nodes]; omega
theorem deepL_nodes : ∀ l : List Tree, deepL l ≤ nodesL l
  | [] => Nat.le_refl _
  | t :: r => by have := deep_nodes t; have := deepL_nodes r; simp [deepL, nodesL]; omega
end

attribute [local go_sem] Oper.semAt_some

/-- a copy under way, and what is ahead is small -/
def CloneJN (w : World) (g : Nat) (l0 : List Tree) (st : List Row) (W : World) : Prop := CloneJ w g l0 st W ∧ nodesS st ≤ 1099511627776
theorem CloneJ.keep {w W W' : World} {g : Nat} {l0 : List Tree} {st : List Row} {B : Nat} (h : CloneJ w g l0 st W) (hl : Loose B W W') (hB : w.heap.size ≤ B) : CloneJ w g l0 st W' := by
  obtain ⟨F, h1, h2⟩ := h
  exact ⟨F, h1, h2.keep ⟨hl.os, hl.tape, hl.output, hl.size, fun k hk => hl.low k (by omega) (by have := h2.low.size; omega)⟩ fun k cs hx => hl.blk hx (by decide)⟩

end Go.Proofs.Ytojejnjjenmfaaa

/-
  WHAT Byte, row, Cat, Alt, Rep, Text OF PACKAGE rx ANSWER: contracts: what is made lies in new memory as the tree that the document says. Condition: what is handed in has at most 2^40 nodes.
-/
namespace Go.Proofs.Ytojejnjjenmfaaa
open Go.RowKit

theorem info_re8 : (Try.prog.info? 39).map (·.size) = some 8 := by kernel_rfl
theorem reL_all {k lo hi : Int} {m : Nat → Bool} {A : Option Addr} {n c : Nat} : (reL k m A n c lo hi).toArray.all (·.oneCell') = true := by simp [reL, Value.oneCell']
theorem load_re {w : World} {g : Nat} {t : TypeId} {k lo hi : Int} {m : Nat → Bool} {A : Option Addr} {n c : Nat} (h : BlkIs w g t (reL k m A n c lo hi).toArray) : (loadVar 39 ⟨g, 0, none⟩).run Try.prog w = .ok (reV k m A n c lo hi) w :=
  run_loadVar_mid (P := Try.prog) w g 0 39 (reL k m A n c lo hi) _ h.range Try.underlying39 rfl info_re8
theorem store_re {w : World} {g : Nat} {t : TypeId} {k lo hi : Int} {m : Nat → Bool} {A : Option Addr} {n c : Nat} {cs : Array Value} (h : BlkIs w g t cs) (hs : cs.size = 8) :
    BlkIs (w.setCells g 0 (reL k m A n c lo hi)) g t (reL k m A n c lo hi).toArray := h.fill (new := (reL k m A n c lo hi).toArray) (by rw [hs]; rfl)
/-- the zero value of api.Re -/
def zeroL : List Value := [.int .i64 0, .int .u64 0, .int .u64 0, .int .u64 0, .int .u64 0, .slice none 0 0, .int .i64 0, .int .i64 0]
theorem wd_zero (i : Nat) : wd (fun _ => false) i = 0 := by
  refine (eq_wd (by decide) fun j _ => ?_).symm
  simp
theorem zeroL_is : zeroL = reL 0 (fun _ => false) none 0 0 0 0 := by
  unfold zeroL reL
  simp only [wd_zero]; rfl

/-- V's cells lie so in W, too -/
def Sub (V W : World) : Prop := ∀ p v, V.cell? p = some v → W.cell? p = some v
theorem Sub.refl (W : World) : Sub W W := fun _ _ h => h
theorem Sub.trans {A B C : World} (h : Sub A B) (k : Sub B C) : Sub A C := fun p v hv => k p v (h p v hv)
theorem sub_below {W W' : World} (hb : Below W.heap.size W W') : Sub W W' := fun p _ hv => (hb.cell (World.block_lt_of_cell? W p hv)).trans hv
theorem Tree.At.sub {V W : World} (hs : Sub V W) : ∀ (T : Tree) {v : Value}, Tree.At V T v → Tree.At W T v := by
  intro T
  induction T using Tree.ind with
  | h k m l lo hi ih =>
    intro v h
    unfold Tree.At at h ⊢
    obtain ⟨A, c, rfl, hc, hl⟩ := h
    refine ⟨A, c, rfl, hc, fun hne => ?_⟩
    obtain ⟨b, o, rfl, ha⟩ := hl hne
    refine ⟨b, o, rfl, AllAt.mk l b o fun i hi => ?_⟩
    obtain ⟨cs, h1, h2, h3⟩ := AllAt.get l b o ha i hi
    exact ⟨cs, ih _ (List.getElem_mem hi) h1, h2, fun j v hv => hs _ _ (h3 j v hv)⟩
theorem AllAt.sub {V W : World} (hs : Sub V W) {l : List Tree} {b o : Nat} (h : AllAt V l b o) : AllAt W l b o :=
  AllAt.mk l b o fun i hi => by
    obtain ⟨cs, h1, h2, h3⟩ := AllAt.get l b o h i hi
    exact ⟨cs, h1.sub hs, h2, fun j v hv => hs _ _ (h3 j v hv)⟩
/-- a world without a block -/
def less (W : World) (g : Nat) : World := W.putObj g (.deferred none)
theorem less_cell {W : World} {g : Nat} {p : Addr} {v : Value} (h : (less W g).cell? p = some v) : p.block ≠ g ∧ W.cell? p = some v := by
  by_cases e : p.block = g
  · exfalso
    unfold less World.putObj World.cell? at h
    subst e
    by_cases hl : p.block < W.heap.size
    · simp [hl] at h
    · simp [hl] at h
  · refine ⟨e, ?_⟩
    rw [← h]
    exact (World.cell?_of_block (w := W) (World.putObj_heap_other e)).symm
theorem less_sub {W W' : World} {g : Nat} (h : ∀ k, k ≠ g → W.heap[k]? ≠ none → W'.heap[k]? = W.heap[k]?) : Sub (less W g) W' := fun p v hv => by
  obtain ⟨h1, h2⟩ := less_cell hv
  rw [World.cell?_of_block (w := W)]
  · exact h2
  · refine h _ h1 fun hn => ?_
    rw [World.cell?, hn] at h2
    cases h2

def rowT (kind : Int) (none : Tree) : List Tree → Tree
  | [] => none
  | [t] => t
  | l => .node kind (fun _ => false) l 0 0
theorem rowT_many (kind : Int) (z : Tree) {l : List Tree} (h : 2 ≤ l.length) : rowT kind z l = .node kind (fun _ => false) l 0 0 := by
  match l, h with
  | _ :: _ :: _, _ => rfl

theorem Tree.At.form {W : World} {T : Tree} {v : Value} (h : Tree.At W T v) : ∃ A n c, v = reV T.kind T.set A n c T.lo T.hi := by
  cases T with
  | node k m l lo hi =>
    obtain ⟨A, c, rfl, _⟩ := h.open
    exact ⟨A, l.length, c, rfl⟩
theorem AllAt.step {W W' : World} {l : List Tree} {b o : Nat} (h : AllAt W l b o) (hb : Below W.heap.size W W') : AllAt W' l b o :=
  AllAt.mk l b o fun i hi => by
    obtain ⟨cs, h1, h2, h3⟩ := AllAt.get l b o h i hi
    exact ⟨cs, h1.step hb, h2, rangeAt_step h3 (by intro e; subst e; simp at h2) hb⟩
theorem at_none (k : Int) (w : World) : Tree.At w (.node k (fun _ => false) [] 0 0) (reV k (fun _ => false) none 0 0 0 0) := by
  unfold Tree.At
  exact ⟨none, 0, rfl, ⟨Nat.le_refl _, by omega⟩, fun h => absurd rfl h⟩
theorem less_other {W : World} {g n : Nat} (h : g < n) : ∀ k, n ≤ k → (less W g).heap[k]? = W.heap[k]? := fun k hk => World.putObj_heap_other (by omega)
theorem some_lt {W : World} {k : Nat} (h : W.heap[k]? ≠ none) : k < W.heap.size := by
  rcases Nat.lt_or_ge k W.heap.size with h1 | h1
  · exact h1
  · exact absurd (Array.getElem?_eq_none h1) h
theorem sub_two {W W' : World} {g : Nat} (hb : Below W.heap.size W W') : Sub (less W g) W' := less_sub fun k _ hn => hb.block k (some_lt hn)
theorem heap_cells (g k : Nat) (hk : k ≠ g) : ∀ (vs : List Value) (o : Nat) (w : World), (w.setCells g o vs).heap[k]? = w.heap[k]?
  | [], _, _ => rfl
  | v :: r, o, w => by
    rw [World.setCells, heap_cells g k hk r (o + 1)]
    exact Below.heap_setCell w ⟨g, o, none⟩ v k hk
end Go.Proofs.Ytojejnjjenmfaaa

/-
  WHAT Rep AND Text OF PACKAGE rx ANSWER: contracts. Condition: what is handed in has at most 2^40 nodes; the text at most 2^30 bytes.
-/
namespace Go.Proofs.Ytojejnjjenmfaaa
open Go.RowKit

/-- a byte of a text -/
def byteT (b : UInt8) : Tree := .node 1 (sOf [b.toNat]) [] 0 0
def textT (s : List UInt8) : Tree := rowT 2 (.node 0 (fun _ => false) [] 0 0) (s.map byteT)
/-- the first j bytes are laid -/
def TextRow (s : List UInt8) (L j : Nat) (W : World) : Prop := W.there L 0 (s.length * 8) ∧ (∀ i, W.frozen? ⟨L, i, none⟩ = false) ∧ ∀ (i : Nat) (h : i < s.length), i < j → W.rangeAt L (i * 8) (reL 1 (sOf [s[i].toNat]) none 0 0 0 0)

theorem size_cells (g : Nat) : ∀ (vs : List Value) (o : Nat) (w : World), (w.setCells g o vs).heap.size = w.heap.size
  | [], _, _ => rfl
  | v :: r, o, w => by rw [World.setCells, size_cells g r (o + 1)]; exact World.size_setCell _ _ _
theorem text_steps {wr w1 w2 : World} {L j n : Nat} {s : ByteArray} {ob : Obj} (hL : L < wr.heap.size) (h : TextRow s.data.toList L j wr) (hb1 : Below (wr.alloc ob).heap.size (wr.alloc ob) w1) (hb2 : Below w1.heap.size w1 w2) (hlen : s.data.toList.length = n) (hp : j < n) {x : UInt8}
    (hx : x = s.data.toList[j]'(by omega)) :
    w2.there L (j * 8) (reL 1 (sOf [x.toNat]) none 0 0 0 0).toArray.size ∧ Below wr.heap.size wr w2 ∧ TextRow s.data.toList L (j + 1) (w2.setCells L (j * 8) (reL 1 (sOf [x.toNat]) none 0 0 0 0)) := by
  have hb : Below wr.heap.size wr w2 := ((Below.refl _ _).alloc (Nat.le_refl _) ob).trans ((hb1.trans (hb2.mono hb1.size)).mono (by simp))
  have hcell : ∀ i, w2.cell? ⟨L, i, none⟩ = wr.cell? ⟨L, i, none⟩ := fun i => hb.cell (p := ⟨L, i, none⟩) hL
  have hth : ∀ o m, o + m ≤ n * 8 → w2.there L o m := fun o m hm q hq => by
    have := h.1 (o + q) (by omega)
    rw [Nat.zero_add] at this
    rw [hcell, hb.frozen (p := ⟨L, o + q, none⟩) hL]
    exact this
  refine ⟨hth _ _ (by simp [reL]; omega), hb, World.there_setCells (by rw [hlen]; exact hth 0 _ (by omega)) _ _ _, fun i => ?_, fun i hi hij => ?_⟩
  · rw [World.frozen?_setCells, hb.frozen (p := ⟨L, i, none⟩) hL]
    exact h.2.1 i
  · by_cases e : i = j
    · subst e
      rw [← hx]
      exact World.rangeAt_setCells_same w2 L (i * 8) _ (hth _ _ (by simp [reL]; omega))
    · refine World.rangeAt_setCells_apart (fun q v hv => (hcell _).trans (h.2.2 i hi (by omega) q v hv)) _ _ _ (.inr ?_)
      simp only [reL, List.length_cons, List.length_nil]
      omega

end Go.Proofs.Ytojejnjjenmfaaa

/-
  A WORLD WITH SOME BLOCKS HIDDEN. No condition.
-/
namespace Go.Proofs.Ytojejnjjenmfaaa
open Go.RowKit

/-- a world with some blocks hidden -/
def hide (W : World) (H : Nat → Bool) : World := { W with heap := W.heap.mapIdx fun k o => if H k then .deferred none else o }
theorem hide_get (W : World) (H : Nat → Bool) (k : Nat) : (hide W H).heap[k]? = (W.heap[k]?).map fun o => if H k then .deferred none else o := by
  unfold hide; simp
theorem hide_size (W : World) (H : Nat → Bool) : (hide W H).heap.size = W.heap.size := by unfold hide; simp
theorem hide_cell {W : World} {H : Nat → Bool} {p : Addr} {v : Value} (h : (hide W H).cell? p = some v) : H p.block = false ∧ W.cell? p = some v := by
  cases e : H p.block
  · refine ⟨rfl, ?_⟩
    rw [← h]
    refine (World.cell?_of_block (w := W) ?_).symm
    rw [hide_get]
    simp [e]
  · exfalso
    unfold World.cell? at h
    rw [hide_get, e] at h
    cases hb : W.heap[p.block]? with
    | none => rw [hb] at h; cases h
    | some x => rw [hb] at h; cases h
theorem hide_show {W : World} {H : Nat → Bool} {p : Addr} {v : Value} (e : H p.block = false) (h : W.cell? p = some v) : (hide W H).cell? p = some v := by
  rw [← h]
  refine World.cell?_of_block (w := W) ?_
  rw [hide_get]
  simp [e]
theorem hide_sub {W W' : World} {H H' : Nat → Bool} (h : ∀ k, H k = false → k < W.heap.size → H' k = false ∧ W'.heap[k]? = W.heap[k]?) : Sub (hide W H) (hide W' H') := fun p v hv => by
  obtain ⟨h1, h2⟩ := hide_cell hv
  obtain ⟨h3, h4⟩ := h _ h1 (World.block_lt_of_cell? W p h2)
  exact hide_show h3 ((World.cell?_of_block (w := W) h4).trans h2)
theorem hide_less {W : World} {H : Nat → Bool} : Sub (hide W H) W := fun _ _ hv => (hide_cell hv).2

def low (n k : Nat) : Bool := decide (k < n)
theorem low_no {n k : Nat} : low n k = false ↔ n ≤ k := by unfold low; simp
end Go.Proofs.Ytojejnjjenmfaaa

