/-
  A ROW OF TREES IN A BLOCK OF ITS OWN, whose trees lie where they please but in the hidden blocks H and in that block: nothing, more, one's bytes. No condition.
-/
import Derived.Test.YtkladjjeacjgpaaDoorQG09
import Derived.Test.YtkladjjeacjgpaaDoorQG06
import Derived.Test.YtkladjjeacjgpaaDoorQG10
import Derived.Test.YtkladjjeacjgpaaDoorQG11
namespace Go.Proofs.YtkladjjeacjgpaaDoor
open Go.RowKit

def QHide (H : Nat → Bool) (v : Value) (k : Nat) : Bool := H k || decide (v.ownBlock = some k)
theorem QHide_no {H : Nat → Bool} {v : Value} {k : Nat} : QHide H v k = false ↔ H k = false ∧ v.ownBlock ≠ some k := by unfold QHide; simp
def chunk (xs : List Value) (i : Nat) : List Value := (xs.drop (i * 8)).take 8
def RowQ (B : Nat) (H : Nat → Bool) (W : World) (v : Value) (l : List Tree) (xs : List Value) : Prop := W.ownsRow B 27 8 v l.length xs ∧ ∀ (i : Nat) (h : i < l.length), (l[i]).At (hide W (QHide H v)) (.agg (chunk xs i).toArray)
theorem RowQ.nil (B : Nat) (H : Nat → Bool) (W : World) : RowQ B H W (.slice none 0 0) [] [] := ⟨World.ownsRow_nil _ _ _ _, fun i h => by simp at h⟩
theorem RowQ.step {B : Nat} {H : Nat → Bool} {W W' : World} {v : Value} {l : List Tree} {xs : List Value} (h : RowQ B H W v l xs) (hb : Below W.heap.size W W') : RowQ B H W' v l xs :=
  ⟨own_heap h.1 fun k hk => hb.block k (h.1.lt k hk).2, fun i hi => (h.2 i hi).sub (hide_sub fun k h1 h2 => ⟨h1, hb.block k h2⟩)⟩
theorem RowQ.len {B : Nat} {H : Nat → Bool} {W : World} {v : Value} {l : List Tree} {xs : List Value} (h : RowQ B H W v l xs) : ∃ A c, v = .slice A l.length c ∧ (l.length ≤ c ∧ c ≤ 9223372036854775807) := by
  rcases h.1.2 with ⟨rfl, h1⟩ | ⟨g, cap, cur, rfl, h2, h3, h4, h5, h6, h7⟩
  · exact ⟨none, 0, by rw [h1], by omega, by omega⟩
  · exact ⟨_, cap, rfl, h4, by unfold maxLen at h5; omega⟩
/-- where the row's trees lie -/
theorem RowQ.place {B : Nat} {H : Nat → Bool} {W : World} {v : Value} {l : List Tree} {xs : List Value} (h : RowQ B H W v l xs) (hne : l ≠ []) :
    ∃ g c, v = .slice (some ⟨g, 0, none⟩) l.length c ∧ (l.length ≤ c ∧ c ≤ 9223372036854775807) ∧ B ≤ g ∧ g < W.heap.size ∧
      ∀ (i : Nat) (hi : i < l.length), (l[i]).At (hide W (QHide H v)) (.agg (chunk xs i).toArray) ∧ (chunk xs i).length = 8 ∧ ∀ j u, (chunk xs i)[j]? = some u → W.cell? ⟨g, i * 8 + j, none⟩ = some u := by
  rcases h.1.2 with ⟨rfl, h1⟩ | ⟨g, cap, cur, rfl, h2, h3, h4, h5, h6, h7⟩
  · exact absurd (List.eq_nil_of_length_eq_zero h1) hne
  · refine ⟨g, cap, rfl, ⟨h4, by unfold maxLen at h5; omega⟩, h2, (Array.getElem?_eq_some_iff.1 h3).1, fun i hi => ⟨h.2 i hi, ?_, fun j u hu => ?_⟩⟩
    · have := h.1.1
      unfold chunk
      simp; omega
    · unfold chunk at hu
      have hj : j < 8 := by have := (List.getElem?_eq_some_iff.1 hu).1; simp at this; omega
      rw [List.getElem?_take_of_lt hj, List.getElem?_drop] at hu
      have := h.1.cells (g := g) rfl _ u hu
      rwa [Addr.add_lit, Nat.zero_add] at this
theorem RowQ.lies {B : Nat} {H : Nat → Bool} {W : World} {v : Value} {l : List Tree} {xs : List Value} (h : RowQ B H W v l xs) (hH : ∀ k, H k = true → k < B) :
    ∃ A c, v = .slice A l.length c ∧ (l.length ≤ c ∧ c ≤ 9223372036854775807) ∧ (l ≠ [] → ∃ b o, A = some ⟨b, o, none⟩ ∧ AllAt (hide W H) l b o) := by
  by_cases hne : l = []
  · obtain ⟨A, c, rfl, h2, h3⟩ := h.len
    exact ⟨A, c, rfl, ⟨h2, h3⟩, fun h => absurd hne h⟩
  · obtain ⟨g, c, rfl, hc, hg, hlt, hall⟩ := h.place hne
    have hHg : H g = false := by
      rw [Bool.eq_false_iff]; intro e; have := hH g e; omega
    refine ⟨_, c, rfl, hc, fun _ => ⟨g, 0, rfl, AllAt.mk _ _ _ fun i hi => ?_⟩⟩
    obtain ⟨h1, h2, h3⟩ := hall i hi
    exact ⟨_, h1.sub (hide_sub fun k g1 _ => ⟨(QHide_no.1 g1).1, rfl⟩), h2, fun j u hu => hide_show hHg (by rw [Nat.zero_add]; exact h3 j u hu)⟩
theorem chunk_app {xs ys : List Value} {n i : Nat} (hx : xs.length = n * 8) : (i < n → chunk (xs ++ ys) i = chunk xs i) ∧ chunk (xs ++ ys) (n + i) = chunk ys i := by
  refine ⟨fun hi => ?_, ?_⟩
  · unfold chunk
    rw [List.drop_append_of_le_length (by omega), List.take_append_of_le_length (by simp; omega)]
  · unfold chunk
    rw [show (n + i) * 8 = xs.length + i * 8 by omega, ← List.drop_drop, List.drop_left]
/-- more, from a row that lies elsewhere -/
theorem RowQ.pushes {B : Nat} {H : Nat → Bool} {W : World} {v : Value} {l : List Tree} {xs : List Value} (h : RowQ B H W v l xs) (hB : B ≤ W.heap.size) {a : Addr} {c : Nat} {l2 : List Tree} {ys : List Value} (hys : ys.length = l2.length * 8)
    (hcells : ∀ j u, ys[j]? = some u → W.cell? (a.add j) = some u) (h1 : ∀ u ∈ ys, u.oneCell' = true) (hT : ∀ (i : Nat) (h : i < l2.length), (l2[i]).At (hide W (QHide H v)) (.agg (chunk ys i).toArray))
    (hl : l.length + l2.length ≤ 1099511627776) :
    ∃ v' W', (Builtin.append_ #[25, 25] 25 #[v, .slice (some a) l2.length c]).run Tryd.prog W = .ok v' W' ∧ RowQ B H W' v' (l ++ l2) (xs ++ ys) ∧ W.grownBy W' v.ownBlock := by
  obtain ⟨i0, hi0, hz0, hz1, hz2⟩ := info_parts info_re3
  obtain ⟨v', W', hr, hown', hgr, _, hblk⟩ := run_append_own_at (P := Tryd.prog) (w := W) B 25 25 27 i0 (.agg zeroL.toArray) 8 80 Tryd.underlying25 hi0 hz0 hz1 hz2 rfl (by decide) v l.length xs h.1
    a l2.length c ys hys hcells h1 (by unfold maxLen; omega) (by omega) hB
  have hlt : ∀ q, v.ownBlock = some q → B ≤ q ∧ q < W.heap.size := fun q hq => h.1.lt q hq
  have hv' : ∀ q, v'.ownBlock = some q → v.ownBlock = some q ∨ q = W.heap.size := fun q hq => by
    rcases hblk with e | e
    · exact .inl (e ▸ hq)
    · rw [e] at hq
      exact .inr (Option.some.inj hq).symm
  have hsub : Sub (hide W (QHide H v)) (hide W' (QHide H v')) := hide_sub fun q g1 g2 => by
    rw [QHide_no] at g1 ⊢
    exact ⟨⟨g1.1, fun e => (hv' q e).elim g1.2 (by omega)⟩, hgr.block q (by omega) (fun e => g1.2 e.symm)⟩
  refine ⟨v', W', hr, ⟨by simpa using hown', fun i hi => ?_⟩, hgr⟩
  by_cases hil : i < l.length
  · rw [List.getElem_append_left hil, (chunk_app h.1.1).1 hil]
    exact (h.2 i hil).sub hsub
  · rw [List.length_append] at hi
    have e : i = l.length + (i - l.length) := by omega
    rw [List.getElem_append_right (by omega)]
    have := (chunk_app (ys := ys) (i := i - l.length) h.1.1).2
    rw [← e] at this
    rw [this]
    exact (hT (i - l.length) (by omega)).sub hsub
theorem RowQ.tail {B : Nat} {H : Nat → Bool} {W W' : World} {v : Value} {l : List Tree} {xs : List Value} {w : World} (h : RowQ B H W v l xs) (hgr : W.grownBy W' v.ownBlock) (hb : Below B w W) (hB : B ≤ W.heap.size) : Below B w W' :=
  hb.grown hgr hB fun q hq => (h.1.lt q hq).1
end Go.Proofs.YtkladjjeacjgpaaDoor

/-
  WHAT hackleref07's flat ANSWERS: Subs, those of Subs of a kind in their places: a contract. Condition: the kind is ReCat or ReAlt, the Subs may be; at most 2^30 nodes.
-/
namespace Go.Proofs.YtkladjjeacjgpaaDoor
open Go.RowKit

theorem all_cells {W : World} : ∀ (l : List Tree) (b o : Nat), AllAt W l b o → ∃ ys : List Value, ys.length = l.length * 8 ∧ W.rangeAt b o ys ∧ (∀ u ∈ ys, u.oneCell' = true) ∧ ∀ (i : Nat) (h : i < l.length), (l[i]).At W (.agg (chunk ys i).toArray)
  | [], _, _, _ => ⟨[], rfl, fun j u hu => by simp at hu, fun u hu => by simp at hu, fun i h => by simp at h⟩
  | t :: l, b, o, h => by
    unfold AllAt at h
    obtain ⟨⟨cs, h1, h2, h3⟩, h4⟩ := h
    obtain ⟨ys, g1, g2, g3, g4⟩ := all_cells l b (o + 8) h4
    obtain ⟨A, n, c, hcs⟩ := h1.eight
    refine ⟨cs ++ ys, by simp [h2, g1]; omega, fun j u hu => ?_, fun u hu => ?_, fun i hi => ?_⟩
    · by_cases hj : j < 8
      · rw [List.getElem?_append_left (by omega)] at hu
        exact h3 j u hu
      · rw [List.getElem?_append_right (by omega)] at hu
        have := g2 _ u hu
        rwa [show o + 8 + (j - cs.length) = o + j by omega] at this
    · rcases List.mem_append.1 hu with hu | hu
      · rw [hcs] at hu; exact one_reL u hu
      · exact g3 u hu
    · cases i with
      | zero =>
        have := (chunk_app (xs := cs) (ys := ys) (n := 1) (i := 0) (by omega)).1 (by decide)
        rw [this]
        have e : chunk cs 0 = cs := by unfold chunk; rw [Nat.zero_mul, List.drop_zero, List.take_of_length_le (by omega)]
        rw [e]
        exact h1
      | succ i =>
        have := (chunk_app (xs := cs) (ys := ys) (n := 1) (i := i) (by omega)).2
        rw [Nat.add_comm 1 i] at this
        rw [this]
        exact g4 i (by simpa using hi)
theorem flatT_snoc (k : Int) (l : List Tree) (t : Tree) : flatT k (l ++ [t]) = flatT k l ++ seg k t := by unfold flatT; rw [List.flatMap_append]; simp
theorem seg_yes {k : Int} {t : Tree} (h : t.kind = k) : seg k t = t.sub := by unfold seg; rw [if_pos h]
theorem seg_no {k : Int} {t : Tree} (h : t.kind ≠ k) : seg k t = [t] := by unfold seg; rw [if_neg h]
/-- trees in a row at b, o, seen from W with H hidden -/
def SrcAt (W : World) (H : Nat → Bool) (l : List Tree) (A : Option Addr) : Prop := l ≠ [] → ∃ b o, A = some ⟨b, o, none⟩ ∧ ∀ (i : Nat) (h : i < l.length), ∃ cs : List Value, (l[i]).At (hide W H) (.agg cs.toArray) ∧ cs.length = 8 ∧ W.rangeAt b (o + i * 8) cs
theorem hid_far {w wr : World} {H : Nat → Bool} {B : Nat} {v : Value} {l : List Tree} {xs : List Value} (hb : Below w.heap.size w wr) (h : RowQ B H wr v l xs) (hB : w.heap.size ≤ B) : Sub (hide w H) (hide wr (QHide H v)) :=
  hide_sub fun k h1 h2 => ⟨QHide_no.2 ⟨h1, fun e => by have := (h.1.lt k e).1; omega⟩, hb.block k h2⟩
theorem flatT_len {k : Int} {l : List Tree} {j : Nat} : (flatT k (l.take j)).length ≤ nodesL l := by
  have h1 := flatT_nodes (kind := k) (l.take j)
  have h2 : ∀ l : List Tree, l.length ≤ nodesL l := fun l => by
    induction l with
    | nil => simp [nodesL]
    | cons t r ih => have := nodes_pos t; simp only [nodesL, List.length_cons]; omega
  have h3 : ∀ (l : List Tree) (j : Nat), nodesL (l.take j) ≤ nodesL l := fun l => by
    induction l with
    | nil => intro j; simp [nodesL]
    | cons t r ih =>
      intro j
      cases j with
      | zero => simp [nodesL]
      | succ j => have := ih j; simp only [List.take_succ_cons, nodesL]; omega
  have := h2 (flatT k (l.take j))
  have := h3 l j
  omega

set_option maxRecDepth 20000 in
set_option maxHeartbeats 8000000 in
theorem refFlat_any (k : Int) (hk : k = 2 ∨ k = 3) (L : List Tree) (A : Option Addr) (c : Nat) (hc : L.length ≤ c ∧ c ≤ 9223372036854775807) (H : Nat → Bool) (w : World) (hsrc : SrcAt w H L A) (hok : ∀ t ∈ L, t.ok = true) (hn : nodesL L ≤ 1073741824) :
    Calls Tryd.prog 25 #[.slice A L.length c, .int .i64 k] w fun e w' => ∃ v' xs, e = .returned v' ∧ RowQ w.heap.size H w' v' (flatT k L) xs ∧ Below w.heap.size w w' := by
  have hLn : L.length ≤ 1073741824 := by
    have := flatT_len (k := 7) (l := L) (j := L.length)
    have h2 : ∀ l : List Tree, l.length ≤ nodesL l := fun l => by
      induction l with
      | nil => simp [nodesL]
      | cons t r ih => have := nodes_pos t; simp only [nodesL, List.length_cons]; omega
    have := h2 L; omega
  have HFL := Lib.hid (fun j => Nat.le_trans (flatT_len (k := k) (l := L) (j := j)) hn)
  have HS := Lib.hid hsrc
  have HOK := Lib.hid hok
  have HK := Lib.hid hk
  clear hsrc hok hn hk
  go_enter Tryd.func25, Tryd.ntmps25
  go_wp2
  go_loopw [5, 6] (fun o i wr => ∃ (j : Nat) (xs : List Value), i = .int .i64 j ∧ j ≤ L.length ∧ Hid (RowQ w.heap.size H wr o (flatT k (L.take j)) xs ∧ Below w.heap.size w wr)) (fun _ i _ => L.length - (intOf i).toNat)
  case atStart => exact ⟨0, [], rfl, Nat.zero_le _, Lib.hid ⟨by rw [List.take_zero]; exact RowQ.nil _ _ _, Below.refl _ _⟩⟩
  case round =>
    obtain ⟨j, xs, rfl, hj, HH⟩ := hrel
    by_cases hp : j < L.length
    · have hdl : decide ((j : Int) < (L.length : Int)) = true := by simp; omega
      obtain ⟨b, o, rfl, hg⟩ := HS.out (by intro e; subst e; simp at hp)
      obtain ⟨cs, hcat, hlen, hrow⟩ := hg j hp
      have hcat0 := hcat
      obtain ⟨A', c', rfl, hc2, hsb⟩ := at_sub hcat
      obtain ⟨r0, r1, r2, r3, r4, r5, r6, r7⟩ := row_eight hrow HH.out.2
      have hk1 : IntKind.i64.wrap ((j : Int) + 1) = ((j + 1 : Nat) : Int) := by rw [IntKind.wrap_i64]; omega
      have hfl := HFL.out (j + 1)
      rw [List.take_succ_eq_append_getElem hp, flatT_snoc] at hfl
      have hokj := HOK.out _ (List.getElem_mem hp)
      have HB1 := Lib.hid (hid_far HH.out.2 HH.out.1 (Nat.le_refl _))
      have hwr := HH.out.2.size
      by_cases hkj : (L[j]).kind = k
      · have e1 : ((L[j]).kind == k) = true := by simpa using hkj
        have hne : (L[j]).sub ≠ [] := by
          have hk2 := HK.out
          cases hLj : L[j] with
          | node k' m' l' lo' hi' =>
            rw [hLj] at hkj hokj
            simp only [Tree.kind] at hkj
            subst hkj
            rcases okNode_kind (ok_open hokj).2 with ⟨e, _⟩ | ⟨e, _⟩ | ⟨_, h⟩ | ⟨_, h⟩ | ⟨e, _⟩
            · omega
            · omega
            · intro e; simp only [Tree.sub] at e; subst e; simp at h
            · intro e; simp only [Tree.sub] at e; subst e; simp at h
            · omega
        obtain ⟨b2, o2, rfl, hall⟩ := hsb hne
        rw [seg_yes hkj, List.length_append] at hfl
        obtain ⟨ys, y1, y2, y3, y4⟩ := all_cells _ _ _ hall
        obtain ⟨v', W', hrun, hrq, hgr⟩ := HH.out.1.pushes (a := ⟨b2, o2, none⟩) (c := c') (l2 := (L[j]).sub) (ys := ys) hwr y1 (fun q u hu => by
            have := HB1.out _ _ (y2 q u hu)
            rw [Addr.add_lit]
            exact (hide_cell this).2) y3 (fun i hi => (y4 i hi).sub HB1.out) (by omega)
        have HR := Lib.hid (And.intro hrq (HH.out.1.tail hgr HH.out.2 hwr))
        have HT := Lib.hid (show flatT k (L.take (j + 1)) = flatT k (L.take j) ++ (L[j]).sub by rw [List.take_succ_eq_append_getElem hp, flatT_snoc, seg_yes hkj])
        clear hcat hcat0 hc2 hsb hrow hg hall y1 y2 y3 y4 hrq hgr hne hokj hfl hlen hkj
        generalize (L[j]).kind = kx at *
        generalize (L[j]).sub = lx at *
        go_wp2_with (refine wpList_append_at' rfl _ _ 25 25 rfl rfl rfl hrun ?_)
        exact ⟨⟨j + 1, _, rfl, hp, Lib.hid ⟨by rw [HT.out]; exact HR.out.1, HR.out.2⟩⟩, by simp [intOf]; omega⟩
      · have e1 : ((L[j]).kind == k) = false := by simpa using hkj
        rw [seg_no hkj, List.length_append] at hfl
        have hbw : Below w.heap.size w (wr.alloc (.cells (reL (L[j]).kind (L[j]).set A' (L[j]).sub.length c' (L[j]).lo (L[j]).hi).toArray 27)) := HH.out.2.alloc hwr _
        have hq := HH.out.1.step ((Below.refl wr.heap.size wr).alloc (Nat.le_refl _) (.cells (reL (L[j]).kind (L[j]).set A' (L[j]).sub.length c' (L[j]).lo (L[j]).hi).toArray 27))
        have hnew := BlkIs.new wr 27 (reL (L[j]).kind (L[j]).set A' (L[j]).sub.length c' (L[j]).lo (L[j]).hi).toArray
        have HB2 := Lib.hid (hid_far hbw hq (Nat.le_refl _))
        obtain ⟨v', W', hrun, hrq, hgr⟩ := hq.pushes (a := ⟨wr.heap.size, 0, none⟩) (c := 1) (l2 := [L[j]]) (ys := reL (L[j]).kind (L[j]).set A' (L[j]).sub.length c' (L[j]).lo (L[j]).hi) hbw.size (by simp [reL]) (fun q u hu => by
            rw [Addr.add_lit, Nat.zero_add]
            have := hnew.range q u (by simpa using hu)
            simpa using this) one_reL (fun i hi => by
            obtain rfl : i = 0 := by simpa using hi
            have e : chunk (reL (L[j]).kind (L[j]).set A' (L[j]).sub.length c' (L[j]).lo (L[j]).hi) 0 = reL (L[j]).kind (L[j]).set A' (L[j]).sub.length c' (L[j]).lo (L[j]).hi := by unfold chunk; simp [reL]
            rw [e]
            exact hcat0.sub HB2.out) (by simp; simp at hfl; omega)
        have HR := Lib.hid (And.intro hrq (hq.tail hgr hbw hbw.size))
        have HT := Lib.hid (show flatT k (L.take (j + 1)) = flatT k (L.take j) ++ [L[j]] by rw [List.take_succ_eq_append_getElem hp, flatT_snoc, seg_no hkj])
        simp only [List.length_singleton] at hrun
        unfold reL at hrun
        clear hcat hcat0 hc2 hsb hrow hg hrq hgr hokj hfl hlen hkj hbw hq hnew
        generalize (L[j]).kind = kx at *
        generalize (L[j]).set = mx at *
        generalize (L[j]).sub.length = nx at *
        generalize (L[j]).lo = lx at *
        generalize (L[j]).hi = hx at *
        go_wp2_with (refine wpList_append_at' rfl _ _ 25 25 rfl rfl rfl hrun ?_)
        exact ⟨⟨j + 1, _, rfl, hp, Lib.hid ⟨by rw [HT.out]; exact HR.out.1, HR.out.2⟩⟩, by simp [intOf]; omega⟩
    · have hdl : decide ((j : Int) < (L.length : Int)) = false := by simp; omega
      have HE := Lib.hid (show flatT k (L.take j) = flatT k L by rw [List.take_of_length_le (by omega)])
      go_wp2
      go_ret
      exact ⟨_, _, rfl, by rw [← HE.out]; exact HH.out.1, HH.out.2⟩
end Go.Proofs.YtkladjjeacjgpaaDoor

/-
  hackleref07's Norm, ITS FIRST ROW: the plain trees of the Subs, gathered: what is held, and one more. No condition.
-/
namespace Go.Proofs.YtkladjjeacjgpaaDoor
open Go.RowKit

def NH (w : World) (H : Nat → Bool) (k : Nat) : Bool := H k || decide (k = w.heap.size ∨ k = w.heap.size + 1)
theorem NH_no {w : World} {H : Nat → Bool} {k : Nat} : NH w H k = false ↔ H k = false ∧ k ≠ w.heap.size ∧ k ≠ w.heap.size + 1 := by unfold NH; simp
theorem NH_lt {w : World} {H : Nat → Bool} (hH : ∀ q, H q = true → q < w.heap.size) : ∀ q, NH w H q = true → q < w.heap.size + 2 := fun q h => by
  unfold NH at h
  rw [Bool.or_eq_true, decide_eq_true_eq] at h
  rcases h with h | h
  · have := hH q h; omega
  · omega
def NormIs (T : Tree) : Prop := ∀ (H : Nat → Bool) (v : Value) (w : World), (∀ q, H q = true → q < w.heap.size) → T.At (hide w H) v →
  Calls Tryd.prog 11 #[v] w fun e w' => ∃ v', e = .returned v' ∧ T.plain.At (hide w' H) v' ∧ Below w.heap.size w w'
/-- the row so far, and the two variables of the call -/
def NormS (w : World) (H : Nat → Bool) (re : List Value) (o : Value) (ps : List Tree) (xs : List Value) (wr : World) : Prop :=
  RowQ (w.heap.size + 2) (NH w H) wr o ps xs ∧ Below w.heap.size w wr ∧ BlkIs wr w.heap.size 27 re.toArray ∧ BlkIs wr (w.heap.size + 1) 27 zeroL.toArray
theorem NormS.start (w : World) (H : Nat → Bool) (re : List Value) : NormS w H re (.slice none 0 0) [] [] ((w.alloc (.cells re.toArray 27)).alloc (.cells zeroL.toArray 27)) := by
  refine ⟨RowQ.nil _ _ _, ((Below.refl _ _).alloc (Nat.le_refl _) _).alloc (by simp) _, (BlkIs.new w _ _).alloc _, ?_⟩
  have := BlkIs.new (w.alloc (.cells re.toArray 27)) 27 zeroL.toArray
  rw [World.size_alloc] at this
  exact this
theorem NormS.step {w : World} {H : Nat → Bool} {re : List Value} {o : Value} {ps : List Tree} {xs : List Value} {wr u : World} (h : NormS w H re o ps xs wr) (hb : Below wr.heap.size wr u) : NormS w H re o ps xs u :=
  ⟨h.1.step hb, h.2.1.trans (hb.mono h.2.1.size), h.2.2.1.step hb, h.2.2.2.step hb⟩
theorem NormS.call {w : World} {H : Nat → Bool} {re : List Value} {o : Value} {ps : List Tree} {xs : List Value} {wr : World} (h : NormS w H re o ps xs wr) (hH : ∀ q, H q = true → q < w.heap.size) :
    (∀ q, QHide (NH w H) o q = true → q < wr.heap.size) ∧ Sub (hide w H) (hide wr (QHide (NH w H) o)) := by
  have hs : w.heap.size + 2 ≤ wr.heap.size := by
    have := h.2.2.2.lt
    omega
  refine ⟨fun q hq => ?_, hide_sub fun k h1 h2 => ⟨QHide_no.2 ⟨NH_no.2 ⟨h1, by omega, by omega⟩, fun e => by have := (h.1.1.lt k e).1; omega⟩, h.2.1.block k h2⟩⟩
  unfold QHide at hq
  rw [Bool.or_eq_true, decide_eq_true_eq] at hq
  rcases hq with hq | hq
  · have := NH_lt hH q hq; omega
  · exact (h.1.1.lt q hq).2
theorem NormS.push {w : World} {H : Nat → Bool} {re : List Value} {o : Value} {ps : List Tree} {xs : List Value} {wr w1 : World} (h : NormS w H re o ps xs wr) (hb : Below wr.heap.size wr w1) {U : Tree} {k : Int} {m : Nat → Bool} {A : Option Addr} {n c : Nat} {lo hi : Int}
    (hU : U.At (hide w1 (QHide (NH w H) o)) (reV k m A n c lo hi)) (hl : ps.length + 1 ≤ 1099511627776) :
    ∃ v' W', (Builtin.append_ #[25, 25] 25 #[o, .slice (some ⟨w1.heap.size, 0, none⟩) 1 1]).run Tryd.prog (w1.alloc (.cells (reL k m A n c lo hi).toArray 27)) = .ok v' W' ∧ NormS w H re v' (ps ++ [U]) (xs ++ reL k m A n c lo hi) W' := by
  have h1 := (h.step hb).step ((Below.refl w1.heap.size w1).alloc (Nat.le_refl _) (.cells (reL k m A n c lo hi).toArray 27))
  have hs : w.heap.size + 2 ≤ (w1.alloc (.cells (reL k m A n c lo hi).toArray 27)).heap.size := by
    have := h1.2.2.2.lt
    omega
  have hnew := BlkIs.new w1 27 (reL k m A n c lo hi).toArray
  have hUB : Below w1.heap.size w1 (w1.alloc (.cells (reL k m A n c lo hi).toArray 27)) := (Below.refl _ _).alloc (Nat.le_refl _) _
  obtain ⟨v', W', hr, hrq, hgr⟩ := h1.1.pushes (a := ⟨w1.heap.size, 0, none⟩) (c := 1) (l2 := [U]) (ys := reL k m A n c lo hi) hs (by simp [reL]) (fun q u hu => by
      rw [Addr.add_lit, Nat.zero_add]
      have := hnew.range q u (by simpa using hu)
      simpa using this) one_reL (fun i hii => by
      obtain rfl : i = 0 := by simpa using hii
      have e : chunk (reL k m A n c lo hi) 0 = reL k m A n c lo hi := by unfold chunk; simp [reL]
      rw [e]
      exact hU.sub (hide_sub fun q g1 g2 => ⟨g1, hUB.block q g2⟩)) (by simpa using hl)
  have hlt : ∀ q, o.ownBlock = some q → w.heap.size + 2 ≤ q := fun q hq => (h.1.1.lt q hq).1
  refine ⟨v', W', hr, hrq, h1.2.1.grown hgr (by omega) (fun q hq => by have := hlt q hq; omega), ?_, ?_⟩
  · exact (hgr.block w.heap.size (by omega) (fun e => by have := hlt _ e.symm; omega)).trans h1.2.2.1
  · exact (hgr.block (w.heap.size + 1) (by omega) (fun e => by have := hlt _ e.symm; omega)).trans h1.2.2.2
theorem plainL_snoc {l : List Tree} {j : Nat} (h : j < l.length) : plainL (l.take (j + 1)) = plainL (l.take j) ++ [(l[j]).plain] := by
  have : ∀ a b : List Tree, plainL (a ++ b) = plainL a ++ plainL b := fun a b => by
    induction a with
    | nil => simp [plainL]
    | cons t r ih => simp [plainL, ih]
  rw [List.take_succ_eq_append_getElem h, this]
  simp [plainL]
/-- what stays when the answer is put into its variable -/
theorem NormS.fin {w : World} {H : Nat → Bool} {re : List Value} {o : Value} {ps : List Tree} {xs : List Value} {wr u : World} (h : NormS w H re o ps xs wr) (hb : Below wr.heap.size wr u) (vs : List Value) :
    Sub (hide wr (QHide (NH w H) o)) (hide (u.setCells (w.heap.size + 1) 0 vs) H) ∧ Sub (hide wr (NH w H)) (hide (u.setCells (w.heap.size + 1) 0 vs) H) ∧ Below w.heap.size w (u.setCells (w.heap.size + 1) 0 vs) := by
  refine ⟨hide_sub fun k h1 h2 => ?_, hide_sub fun k h1 h2 => ?_, below_cells _ vs 0 u (by omega) (h.2.1.trans (hb.mono h.2.1.size))⟩
  · have g := NH_no.1 (QHide_no.1 h1).1
    exact ⟨g.1, (heap_cells _ k g.2.2 vs 0 u).trans (hb.block k h2)⟩
  · have g := NH_no.1 h1
    exact ⟨g.1, (heap_cells _ k g.2.2 vs 0 u).trans (hb.block k h2)⟩
/-- the one tree of a row -/
theorem RowQ.one {B : Nat} {H : Nat → Bool} {W : World} {v : Value} {U : Tree} {xs : List Value} (h : RowQ B H W v [U] xs) :
    ∃ g c A n c', v = .slice (some ⟨g, 0, none⟩) 1 c ∧ 1 ≤ c ∧ c ≤ 9223372036854775807 ∧ U.At (hide W (QHide H v)) (reV U.kind U.set A n c' U.lo U.hi) ∧ W.rangeAt g 0 (reL U.kind U.set A n c' U.lo U.hi) := by
  obtain ⟨g, c, rfl, hc, hg, hlt, hall⟩ := h.place (by simp)
  obtain ⟨h1, h2, h3⟩ := hall 0 (by simp)
  obtain ⟨A, c', e, _, _⟩ := at_sub h1
  refine ⟨g, c, A, U.sub.length, c', rfl, hc.1, hc.2, ?_, fun j u hu => ?_⟩
  · rw [e] at h1; exact h1
  · have := h3 j u (by rw [e]; exact hu)
    rw [show 0 * 8 + j = 0 + j by omega] at this
    exact this
theorem node_lies {B : Nat} {H : Nat → Bool} {W : World} {v : Value} {l : List Tree} {xs : List Value} (h : RowQ B H W v l xs) (hH : ∀ k, H k = true → k < B) (k : Int) (m : Nat → Bool) (lo hi : Int) :
    ∃ A c, v = .slice A l.length c ∧ (Tree.node k m l lo hi).At (hide W H) (reV k m A l.length c lo hi) := by
  obtain ⟨A, c, rfl, h1, h2⟩ := h.lies hH
  exact ⟨A, c, rfl, by unfold Tree.At; exact ⟨A, c, rfl, h1, h2⟩⟩
end Go.Proofs.YtkladjjeacjgpaaDoor

