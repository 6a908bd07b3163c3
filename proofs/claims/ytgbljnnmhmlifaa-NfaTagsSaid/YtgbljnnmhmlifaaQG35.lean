/-
  A TREE's TEXTS AS A LANGUAGE, and what begins one of them: the reference's Begins says that some bytes more make a text. Condition: each node of the tree may be.
-/
import Derived.Test.YtgbljnnmhmlifaaQG32
import Derived.Test.YtgbljnnmhmlifaaQG34
namespace Go.Proofs.Ytgbljnnmhmlifaa
open Go.RowKit

def seg (s : List UInt8) (j k : Nat) : List UInt8 := (s.drop j).take (k - j)
theorem seg_len {s : List UInt8} {j k : Nat} (hk : k ≤ s.length) : (seg s j k).length = k - j := by unfold seg; simp; omega
theorem seg_cat (s : List UInt8) {j m k : Nat} (h1 : j ≤ m) (h2 : m ≤ k) : seg s j m ++ seg s m k = seg s j k := by
  unfold seg
  rw [show k - j = (m - j) + (k - m) by omega, List.take_add, List.drop_drop, show j + (m - j) = m by omega]
theorem seg_all (s : List UInt8) (j : Nat) : seg s j s.length = s.drop j := by
  unfold seg
  rw [List.take_of_length_le (by simp)]
theorem seg_self (s : List UInt8) (j : Nat) : seg s j j = [] := by unfold seg; simp
theorem seg_get (s : List UInt8) {j k i : Nat} (h1 : j ≤ i) (h2 : i < k) : (seg s j k)[i - j]? = s[i]? := by
  unfold seg
  rw [List.getElem?_take, if_pos (by omega), List.getElem?_drop, show j + (i - j) = i by omega]
theorem seg_split {s : List UInt8} {j k : Nat} (hj : j ≤ k) (hk : k ≤ s.length) {u v : List UInt8} (h : seg s j k = u ++ v) : u = seg s j (j + u.length) ∧ v = seg s (j + u.length) k ∧ j + u.length ≤ k := by
  have hl := congrArg List.length h
  rw [seg_len hk, List.length_append] at hl
  have hle : j + u.length ≤ k := by omega
  rw [← seg_cat s (Nat.le_add_right j u.length) hle] at h
  have := List.append_inj h (by rw [seg_len (by omega)]; omega)
  exact ⟨this.1.symm, this.2.symm, hle⟩
theorem hit_seg {G : Gr} {s : List UInt8} {a j k i : Nat} (h1 : j ≤ i) (h2 : i < k) : G.hit (seg s j k) a (i - j) ↔ G.hit s a i := by
  unfold Gr.hit; rw [seg_get s h1 h2]
theorem Rch.seg {G : Gr} {s : List UInt8} {a i b m j k : Nat} (h : Rch G s a i b m) (h1 : j ≤ i) (h2 : m < k) : Rch G (seg s j k) a (i - j) b (m - j) := by
  induction h with
  | refl => exact .refl
  | @step q m r h3 h4 h5 ih =>
    have := h3.le
    rw [show m + 1 - j = (m - j) + 1 by omega]
    refine .step (ih (by omega)) h4 ?_
    rw [show (m - j) + 1 = m + 1 - j by omega]
    exact (hit_seg (by omega) h2).2 h5
theorem Rch.unseg {G : Gr} {s : List UInt8} {a i b m j k : Nat} (h : Rch G (Go.Proofs.Ytgbljnnmhmlifaa.seg s j k) a i b m) (h2 : j + m < k) : Rch G s a (j + i) b (j + m) := by
  induction h with
  | refl => exact .refl
  | @step q m r h3 h4 h5 ih =>
    refine .step (ih (by omega)) h4 ?_
    have : G.hit (Go.Proofs.Ytgbljnnmhmlifaa.seg s j k) r (j + (m + 1) - j) := by rw [show j + (m + 1) - j = m + 1 by omega]; exact h5
    exact (hit_seg (by omega) h2).1 this
theorem PR.seg {G : Gr} {s : List UInt8} {p : Prt} {j k : Nat} (hj : j ≤ k) : PR G s p j k ↔ PR G (seg s j k) p 0 (k - j) := by
  constructor
  · rintro (⟨h, rfl⟩ | ⟨a, b, k', h1, h2, h3, h4, rfl⟩)
    · exact .inl ⟨h, by omega⟩
    · have hle := h4.le
      have e := h4.seg (j := j) (k := k' + 1) (Nat.le_refl _) (by omega)
      have e3 := (hit_seg (k := k' + 1) (Nat.le_refl j) (by omega)).2 h3
      rw [Nat.sub_self] at e e3
      exact .inr ⟨a, b, k' - j, h1, h2, e3, e, by omega⟩
  · rintro (⟨h, h'⟩ | ⟨a, b, k', h1, h2, h3, h4, h5⟩)
    · exact .inl ⟨h, by omega⟩
    · have e := h4.unseg (by omega)
      have e3 : G.hit s a j := (hit_seg (k := k) (Nat.le_refl j) (by omega)).1 (by rw [Nat.sub_self]; exact h3)
      exact .inr ⟨a, b, j + k', h1, h2, e3, e, by omega⟩
theorem mk0_ok : (Mk.mk [] []).Ok := ⟨rfl, fun r hr => by cases hr⟩
def Lg (T : Tree) (w : List UInt8) : Prop := T.takes w = true
theorem ends_PR {T : Tree} (hok : T.ok = true) (s : List UInt8) (f : Nat → Bool) (k : Nat) : T.ends s f k = true ↔ ∃ j, f j = true ∧ PR (grF (partP T ⟨[], []⟩).1.sets (partP T ⟨[], []⟩).1.follow) s (partP T ⟨[], []⟩).2 j k :=
  (part_says T hok _ mk0_ok).says s f k
theorem atP_iff {p j : Nat} : atP p j = true ↔ j = p := by
  unfold atP updS
  by_cases h : j = p <;> simp [h]
theorem Lg_PR {T : Tree} (hok : T.ok = true) (w : List UInt8) : Lg T w ↔ PR (grF (partP T ⟨[], []⟩).1.sets (partP T ⟨[], []⟩).1.follow) w (partP T ⟨[], []⟩).2 0 w.length := by
  unfold Lg Tree.takes
  rw [ends_PR hok]
  constructor
  · rintro ⟨j, h1, h2⟩
    obtain rfl := atP_iff.1 h1
    exact h2
  · intro h
    exact ⟨0, atP_iff.2 rfl, h⟩
theorem ends_seg {T : Tree} (hok : T.ok = true) {s : List UInt8} (f : Nat → Bool) {k : Nat} (hk : k ≤ s.length) : T.ends s f k = true ↔ ∃ j, j ≤ k ∧ f j = true ∧ Lg T (seg s j k) := by
  rw [ends_PR hok]
  constructor
  · rintro ⟨j, h1, h2⟩
    have hjk := h2.le.1
    refine ⟨j, hjk, h1, ?_⟩
    rw [Lg_PR hok, seg_len hk]
    exact (PR.seg hjk).1 h2
  · rintro ⟨j, h0, h1, h2⟩
    rw [Lg_PR hok, seg_len hk] at h2
    exact ⟨j, h1, (PR.seg h0).2 h2⟩
def LgL : List Tree → List UInt8 → Prop
  | [], w => w = []
  | t :: r, w => ∃ u v, w = u ++ v ∧ Lg t u ∧ LgL r v
def LgIt (t : Tree) : Nat → List UInt8 → Prop
  | 0, w => w = []
  | n + 1, w => ∃ u v, w = u ++ v ∧ Lg t u ∧ LgIt t n v
theorem cat_seg {s : List UInt8} : ∀ {l : List Tree}, (∀ t ∈ l, t.ok = true) → ∀ (f : Nat → Bool) {k : Nat}, k ≤ s.length → (endsCat s l f k = true ↔ ∃ j, j ≤ k ∧ f j = true ∧ LgL l (seg s j k))
  | [], _, f, k, hk => by
    unfold endsCat LgL
    constructor
    · intro h; exact ⟨k, Nat.le_refl _, h, seg_self _ _⟩
    · rintro ⟨j, h0, h1, h2⟩
      have := congrArg List.length h2
      rw [seg_len hk] at this
      have : j = k := by simp at this; omega
      rw [← this]; exact h1
  | t :: r, hok, f, k, hk => by
    unfold endsCat
    rw [cat_seg (fun x hx => hok x (by simp [hx])) _ hk]
    constructor
    · rintro ⟨m, h0, h1, h2⟩
      obtain ⟨j, g0, g1, g2⟩ := (ends_seg (hok t (by simp)) f (by omega)).1 h1
      exact ⟨j, by omega, g1, _, _, (seg_cat s g0 h0).symm, g2, h2⟩
    · rintro ⟨j, h0, h1, u, v, h2, h3, h4⟩
      obtain ⟨e1, e2, e3⟩ := seg_split h0 hk h2
      exact ⟨j + u.length, e3, (ends_seg (hok t (by simp)) f (by omega)).2 ⟨j, by omega, h1, by rw [← e1]; exact h3⟩, by rw [← e2]; exact h4⟩
theorem iter_comm (E : (Nat → Bool) → Nat → Bool) : ∀ (n : Nat) (f : Nat → Bool), iterE E (n + 1) f = iterE E n (E f)
  | 0, _ => rfl
  | n + 1, f => by rw [iterE, iter_comm E n f]; rfl
theorem iter_seg {t : Tree} (hok : t.ok = true) {s : List UInt8} : ∀ (n : Nat) (f : Nat → Bool) {k : Nat}, k ≤ s.length → (iterE (t.ends s) n f k = true ↔ ∃ j, j ≤ k ∧ f j = true ∧ LgIt t n (seg s j k))
  | 0, f, k, hk => by
    unfold iterE LgIt
    constructor
    · intro h; exact ⟨k, Nat.le_refl _, h, seg_self _ _⟩
    · rintro ⟨j, h0, h1, h2⟩
      have := congrArg List.length h2
      rw [seg_len hk] at this
      have : j = k := by simp at this; omega
      rw [← this]; exact h1
  | n + 1, f, k, hk => by
    rw [iter_comm, iter_seg hok n _ hk]
    constructor
    · rintro ⟨m, h0, h1, h2⟩
      obtain ⟨j, g0, g1, g2⟩ := (ends_seg hok f (by omega)).1 h1
      exact ⟨j, by omega, g1, _, _, (seg_cat s g0 h0).symm, g2, h2⟩
    · rintro ⟨j, h0, h1, u, v, h2, h3, h4⟩
      obtain ⟨e1, e2, e3⟩ := seg_split h0 hk h2
      exact ⟨j + u.length, e3, (ends_seg hok f (by omega)).2 ⟨j, by omega, h1, by rw [← e1]; exact h3⟩, by rw [← e2]; exact h4⟩

theorem takes_of {T : Tree} {w : List UInt8} {C : List UInt8 → Prop} (h : ∀ f k, k ≤ w.length → (T.ends w f k = true ↔ ∃ j, j ≤ k ∧ f j = true ∧ C (seg w j k))) : Lg T w ↔ C w := by
  unfold Lg Tree.takes
  rw [h _ _ (Nat.le_refl _)]
  constructor
  · rintro ⟨j, _, h1, h2⟩
    obtain rfl := atP_iff.1 h1
    rw [seg_all] at h2
    exact h2
  · intro h
    exact ⟨0, Nat.zero_le _, atP_iff.2 rfl, by rw [seg_all]; exact h⟩
section
variable {m : Nat → Bool} {l : List Tree} {lo hi : Int} {w : List UInt8}
theorem Lg_0 : Lg (.node 0 m l lo hi) w ↔ w = [] := takes_of fun f k hk => by
  have e : (Tree.node 0 m l lo hi).ends w f = f := by unfold Tree.ends; rw [if_pos rfl]
  rw [e]
  exact cat_seg (l := []) (fun t ht => by cases ht) f hk
theorem Lg_1 : Lg (.node 1 m l lo hi) w ↔ ∃ c : UInt8, w = [c] ∧ m c.toNat = true := by
  unfold Lg Tree.takes
  have e : (Tree.node 1 m l lo hi).ends w (atP 0) = stepB m w (atP 0) := by unfold Tree.ends; rw [if_neg (by decide), if_pos rfl]
  rw [e]
  match w with
  | [] => simp [stepB]
  | [c] => simp [stepB, atP_iff]
  | c :: d :: r =>
    simp only [List.length_cons, stepB]
    have : atP 0 (r.length + 1) = false := by rw [Bool.eq_false_iff]; intro h; have := atP_iff.1 h; omega
    rw [this]; simp
theorem Lg_2 (hok : ∀ t ∈ l, t.ok = true) : Lg (.node 2 m l lo hi) w ↔ LgL l w := takes_of fun f k hk => by
  have e : (Tree.node 2 m l lo hi).ends w f = endsCat w l f := by unfold Tree.ends; rw [if_neg (by decide), if_neg (by decide), if_pos rfl]
  rw [e]
  exact cat_seg hok f hk
theorem Lg_3 (hok : ∀ t ∈ l, t.ok = true) : Lg (.node 3 m l lo hi) w ↔ ∃ t ∈ l, Lg t w := takes_of (C := fun w => ∃ t ∈ l, Lg t w) fun f k hk => by
  have e : (Tree.node 3 m l lo hi).ends w f = endsAlt w l f := by unfold Tree.ends; rw [if_neg (by decide), if_neg (by decide), if_neg (by decide), if_pos rfl]
  have ha : ∀ l : List Tree, endsAlt w l f k = true ↔ ∃ t ∈ l, t.ends w f k = true := by
    intro l
    induction l with
    | nil => simp [endsAlt]
    | cons t r ih => unfold endsAlt orB; rw [Bool.or_eq_true, ih]; simp
  rw [e, ha]
  constructor
  · rintro ⟨t, h1, h2⟩
    obtain ⟨j, g0, g1, g2⟩ := (ends_seg (hok t h1) f hk).1 h2
    exact ⟨j, g0, g1, t, h1, g2⟩
  · rintro ⟨j, g0, g1, t, h1, g2⟩
    exact ⟨t, h1, (ends_seg (hok t h1) f hk).2 ⟨j, g0, g1, g2⟩⟩
def Ofs (lo hi : Int) (n : Nat) : Prop := lo ≤ n ∧ (hi = -1 ∨ (n : Int) ≤ hi)
theorem Lg_4 {t : Tree} (hok : t.ok = true) (hlo : 0 ≤ lo) (hhi : hi = -1 ∨ lo ≤ hi) : Lg (.node 4 m [t] lo hi) w ↔ ∃ n, Ofs lo hi n ∧ LgIt t n w := takes_of (C := fun w => ∃ n, Ofs lo hi n ∧ LgIt t n w) fun f k hk => by
  have hE : headEnds w [t] = t.ends w := by unfold headEnds; rfl
  have e : (Tree.node 4 m [t] lo hi).ends w f = repTo (t.ends w) lo.toNat (mostOf w lo hi + 1) f := by
    rw [← hE]
    unfold Tree.ends; rw [if_neg (by decide), if_neg (by decide), if_neg (by decide), if_neg (by decide)]
  rw [e]
  by_cases hh : hi = -1
  · subst hh
    have hm : mostOf w lo (-1) + 1 = lo.toNat + w.length + 1 + 1 := by unfold mostOf; rw [if_pos (by decide)]
    have hR : ∀ j k, PR (grF (partP t ⟨[], []⟩).1.sets (partP t ⟨[], []⟩).1.follow) w (partP t ⟨[], []⟩).2 j k → j ≤ k ∧ (j < k → k ≤ w.length) := fun j k h => h.le
    rw [rep_it (ends_PR hok w), hm]
    have hit : ∀ (n j : Nat), It (PR (grF (partP t ⟨[], []⟩).1.sets (partP t ⟨[], []⟩).1.follow) w (partP t ⟨[], []⟩).2) n j k ↔ j ≤ k ∧ LgIt t n (seg w j k) := by
      intro n j
      have h1 := iter_it (ends_PR hok w) (atP j) n k
      have h2 := iter_seg (s := w) hok n (atP j) hk
      constructor
      · intro h
        obtain ⟨x, g0, g1, g2⟩ := h2.1 (h1.2 ⟨j, atP_iff.2 rfl, h⟩)
        obtain rfl := atP_iff.1 g1
        exact ⟨g0, g2⟩
      · intro h
        obtain ⟨x, g1, g2⟩ := h1.1 (h2.2 ⟨j, h.1, atP_iff.2 rfl, h.2⟩)
        obtain rfl := atP_iff.1 g1
        exact g2
    constructor
    · rintro ⟨j, h1, n, h2, h3, h4⟩
      have := (hit n j).1 h4
      exact ⟨j, this.1, h1, n, ⟨by omega, .inl rfl⟩, this.2⟩
    · rintro ⟨j, h0, h1, n, ⟨h2, _⟩, h3⟩
      have h4 := (hit n j).2 ⟨h0, h3⟩
      refine ⟨j, h1, ?_⟩
      rw [gkReps hR]
      by_cases h0 : n = 0
      · subst h0
        exact .inr ⟨by omega, h4⟩
      · refine .inl ?_
        obtain ⟨b, hb⟩ : ∃ b, n = (max lo.toNat 1 - 1) + (b + 1) := ⟨n - (max lo.toNat 1 - 1) - 1, by omega⟩
        rw [hb, It.cat] at h4
        obtain ⟨m, g1, g2⟩ := h4
        exact ⟨m, g1, g2.pls⟩
  · have hm : mostOf w lo hi = hi.toNat := by unfold mostOf; rw [if_neg (by omega)]
    rw [hm]
    unfold repTo
    rw [List.any_eq_true]
    constructor
    · rintro ⟨n, h1, h2⟩
      rw [Bool.and_eq_true, decide_eq_true_eq] at h2
      have := List.mem_range.1 h1
      obtain ⟨j, g0, g1, g2⟩ := (iter_seg hok n f hk).1 h2.2
      exact ⟨j, g0, g1, n, ⟨by omega, .inr (by omega)⟩, g2⟩
    · rintro ⟨j, g0, g1, n, ⟨h1, h2⟩, g2⟩
      exact ⟨n, List.mem_range.2 (by omega), by rw [Bool.and_eq_true, decide_eq_true_eq]; exact ⟨by omega, (iter_seg hok n f hk).2 ⟨j, g0, g1, g2⟩⟩⟩
end
theorem LgIt.cat {t : Tree} : ∀ {a b : Nat} {u v : List UInt8}, LgIt t a u → LgIt t b v → LgIt t (a + b) (u ++ v)
  | 0, b, u, v, h, h' => by
    obtain rfl : u = [] := h
    rw [Nat.zero_add]; exact h'
  | a + 1, b, u, v, ⟨x, y, h1, h2, h3⟩, h' => by
    subst h1
    rw [Nat.succ_add, List.append_assoc]
    exact ⟨x, y ++ v, rfl, h2, h3.cat h'⟩
theorem LgIt.some {t : Tree} {v : List UInt8} (h : Lg t v) : ∀ n, ∃ e, LgIt t n e
  | 0 => ⟨[], rfl⟩
  | n + 1 => by
    obtain ⟨e, he⟩ := LgIt.some h n
    exact ⟨v ++ e, v, e, rfl, h, he⟩
theorem void_lg : ∀ T : Tree, T.ok = true → (T.void = false ↔ ∃ w, Lg T w) := by
  intro T hok
  constructor
  · induction T using Tree.ind with
    | h k m l lo hi ih =>
      obtain ⟨hoks, hn⟩ := ok_open hok
      rcases okNode_kind hn with ⟨rfl, hl⟩ | ⟨rfl, hl⟩ | ⟨rfl, hl⟩ | ⟨rfl, hl⟩ | ⟨rfl, hl, hlo, _, hhi⟩
      · intro _; exact ⟨[], Lg_0.2 rfl⟩
      · rw [void_1]
        intro h
        have : ∃ b, b < 256 ∧ m b = true := by
          apply Classical.byContradiction
          intro hc
          have : setEq m (fun _ => false) = true := setEq_iff.2 fun b hb => by
            cases hm : m b
            · rfl
            · exact absurd ⟨b, hb, hm⟩ hc
          rw [h] at this; cases this
        obtain ⟨b, hb, hm⟩ := this
        exact ⟨[UInt8.ofNat b], Lg_1.2 ⟨_, rfl, by rw [UInt8.toNat_ofNat']; rw [Nat.mod_eq_of_lt hb]; exact hm⟩⟩
      · rw [void_2]
        intro h
        have : ∀ l : List Tree, (∀ t ∈ l, t.void = false → ∃ w, Lg t w) → anyVoid l = false → ∃ w, LgL l w := by
          intro l
          induction l with
          | nil => intro _ _; exact ⟨[], rfl⟩
          | cons t r ihr =>
            intro h1 h2
            unfold anyVoid at h2
            rw [Bool.or_eq_false_iff] at h2
            obtain ⟨u, hu⟩ := h1 t (by simp) h2.1
            obtain ⟨v, hv⟩ := ihr (fun x hx => h1 x (by simp [hx])) h2.2
            exact ⟨u ++ v, u, v, rfl, hu, hv⟩
        obtain ⟨w, hw⟩ := this l (fun t ht => ih t ht (hoks t ht)) h
        exact ⟨w, (Lg_2 hoks).2 hw⟩
      · rw [void_3]
        intro h
        have : ∃ t ∈ l, t.void = false := by
          apply Classical.byContradiction
          intro hc
          have : allVoid l = true := allVoid_iff.2 fun t ht => by
            cases hv : t.void
            · exact absurd ⟨t, ht, hv⟩ hc
            · rfl
          rw [h] at this; cases this
        obtain ⟨t, ht, hv⟩ := this
        obtain ⟨w, hw⟩ := ih t ht (hoks t ht) hv
        exact ⟨w, (Lg_3 hoks).2 ⟨t, ht, hw⟩⟩
      · obtain ⟨t, rfl⟩ : ∃ t, l = [t] := List.length_eq_one_iff.1 hl
        rw [void_4]
        intro h
        have hot := hoks t (by simp)
        by_cases h0 : 0 < lo
        · rw [decide_eq_true h0, Bool.true_and] at h
          unfold headVoid at h
          obtain ⟨v, hv⟩ := ih t (by simp) hot h
          obtain ⟨e, he⟩ := LgIt.some hv lo.toNat
          exact ⟨e, (Lg_4 hot hlo (by omega)).2 ⟨lo.toNat, ⟨by omega, by omega⟩, he⟩⟩
        · exact ⟨[], (Lg_4 hot hlo (by omega)).2 ⟨0, ⟨by omega, by omega⟩, rfl⟩⟩
  · rintro ⟨w, hw⟩
    exact (ways_any w T hok (atP 0) w.length hw).1
theorem voids_lg {l : List Tree} (hok : ∀ t ∈ l, t.ok = true) (h : anyVoid l = false) : ∃ w, LgL l w := by
  have : (Tree.node 2 (fun _ => false) l 0 0).void = false := by rw [void_2]; exact h
  induction l with
  | nil => exact ⟨[], rfl⟩
  | cons t r ih =>
    unfold anyVoid at h
    rw [Bool.or_eq_false_iff] at h
    obtain ⟨u, hu⟩ := (void_lg t (hok t (by simp))).1 h.1
    obtain ⟨v, hv⟩ := ih (fun x hx => hok x (by simp [hx])) h.2 (by rw [void_2]; exact h.2)
    exact ⟨u ++ v, u, v, rfl, hu, hv⟩
end Go.Proofs.Ytgbljnnmhmlifaa

namespace Go.Proofs.Ytgbljnnmhmlifaa
open Go.RowKit

def Bg (C : List UInt8 → Prop) (w : List UInt8) : Prop := ∃ e, C (w ++ e)
theorem drop_all {s : List UInt8} {j : Nat} (hj : j ≤ s.length) : s.drop j = [] ↔ j = s.length := by
  constructor
  · intro h
    have := congrArg List.length h
    simp at this; omega
  · rintro rfl; simp
theorem drop_seg {s : List UInt8} {j m : Nat} (h1 : j ≤ m) (h2 : m ≤ s.length) : s.drop j = seg s j m ++ s.drop m := by
  rw [← seg_all s m, seg_cat s h1 h2, seg_all]
theorem drop_split {s : List UInt8} {j : Nat} (hj : j ≤ s.length) {e u v : List UInt8} (h : s.drop j ++ e = u ++ v) :
    (∃ a, u = s.drop j ++ a ∧ e = a ++ v) ∨ (j + u.length ≤ s.length ∧ u = seg s j (j + u.length) ∧ v = s.drop (j + u.length) ++ e) := by
  rcases List.append_eq_append_iff.1 h with ⟨a, h1, h2⟩ | ⟨c, h1, h2⟩
  · exact .inl ⟨a, h1, h2⟩
  · right
    rw [← seg_all] at h1
    obtain ⟨g1, g2, g3⟩ := seg_split hj (Nat.le_refl _) h1
    refine ⟨g3, g1, ?_⟩
    rw [h2, g2, seg_all]
def BegIs (T : Tree) : Prop := ∀ (s : List UInt8) (f : Nat → Bool), T.begins s f = true ↔ ∃ j, j ≤ s.length ∧ f j = true ∧ Bg (Lg T) (s.drop j)
theorem beg_cat {s : List UInt8} : ∀ {l : List Tree}, (∀ t ∈ l, t.ok = true ∧ BegIs t) → anyVoid l = false → ∀ f : Nat → Bool, beginsCat s l f = true ↔ ∃ j, j ≤ s.length ∧ f j = true ∧ Bg (LgL l) (s.drop j)
  | [], _, _, f => by
    unfold beginsCat
    constructor
    · intro h; exact ⟨s.length, Nat.le_refl _, h, [], by simp [LgL]⟩
    · rintro ⟨j, h0, h1, e, h2⟩
      have h2 : s.drop j ++ e = [] := h2
      have := (drop_all h0).1 (List.append_eq_nil_iff.1 h2).1
      rw [← this]; exact h1
  | t :: r, h, hv, f => by
    unfold anyVoid at hv
    rw [Bool.or_eq_false_iff] at hv
    have ht := h t (by simp)
    have hr := fun x hx => h x (List.mem_cons_of_mem t hx)
    unfold beginsCat
    rw [Bool.or_eq_true, ht.2 s f, beg_cat hr hv.2]
    constructor
    · rintro (⟨j, h0, h1, e, h2⟩ | ⟨m, h0, h1, e, h2⟩)
      · obtain ⟨v, hv⟩ := voids_lg (fun x hx => (hr x hx).1) hv.2
        exact ⟨j, h0, h1, e ++ v, s.drop j ++ e, v, by rw [List.append_assoc], h2, hv⟩
      · obtain ⟨j, g0, g1, g2⟩ := (ends_seg ht.1 f h0).1 h1
        exact ⟨j, by omega, g1, e, seg s j m, s.drop m ++ e, by rw [drop_seg g0 h0, List.append_assoc], g2, h2⟩
    · rintro ⟨j, h0, h1, e, u, v, h2, h3, h4⟩
      rcases drop_split h0 h2 with ⟨a, rfl, rfl⟩ | ⟨g1, g2, rfl⟩
      · exact .inl ⟨j, h0, h1, a, h3⟩
      · exact .inr ⟨j + u.length, g1, (ends_seg ht.1 f g1).2 ⟨j, by omega, h1, by rw [← g2]; exact h3⟩, e, h4⟩
theorem beg_rep_iff (B : (Nat → Bool) → Bool) (E : (Nat → Bool) → Nat → Bool) (n : Nat) : ∀ (q : Nat) (f : Nat → Bool), beginsRep B E n q f = true ↔ (∃ i, i < q ∧ B (iterE E i f) = true) ∨ iterE E q f n = true
  | 0, f => by simp [beginsRep, iterE]
  | q + 1, f => by
    unfold beginsRep
    rw [Bool.or_eq_true, beg_rep_iff B E n q, iter_comm]
    constructor
    · rintro (h | ⟨i, h1, h2⟩ | h)
      · exact .inl ⟨0, by omega, h⟩
      · exact .inl ⟨i + 1, by omega, by rw [iter_comm]; exact h2⟩
      · exact .inr h
    · rintro (⟨i, h1, h2⟩ | h)
      · cases i with
        | zero => exact .inl h2
        | succ i => exact .inr (.inl ⟨i, by omega, by rw [← iter_comm]; exact h2⟩)
      · exact .inr (.inr h)
theorem it_cut {t : Tree} : ∀ (n : Nat) (w e : List UInt8), w ≠ [] → LgIt t n (w ++ e) → ∃ q u c, w = u ++ c ∧ q < w.length ∧ q < n ∧ LgIt t q u ∧ Bg (Lg t) c
  | 0, w, e, hw, h => by
    have h : w ++ e = [] := h
    exact absurd (List.append_eq_nil_iff.1 h).1 hw
  | n + 1, w, e, hw, ⟨u, v, h1, h2, h3⟩ => by
    rcases List.append_eq_append_iff.1 h1 with ⟨a, rfl, rfl⟩ | ⟨c, rfl, rfl⟩
    · exact ⟨0, [], w, rfl, List.length_pos_iff.2 hw, by omega, rfl, a, h2⟩
    · by_cases hc : c = []
      · subst hc
        exact ⟨0, [], u, by simp, List.length_pos_iff.2 (by simpa using hw), by omega, rfl, [], by simpa using h2⟩
      · obtain ⟨q, x, y, g1, g2, g3, g4, g5⟩ := it_cut n c e hc h3
        by_cases hu : u = []
        · subst hu
          exact ⟨q, x, y, by simpa using g1, by simpa using g2, by omega, g4, g5⟩
        · refine ⟨q + 1, u ++ x, y, by rw [g1, List.append_assoc], ?_, by omega, ⟨u, x, rfl, h2, g4⟩, g5⟩
          have := List.length_pos_iff.2 hu
          rw [List.length_append]; omega
theorem begins_iff : ∀ T : Tree, T.ok = true → BegIs T := by
  intro T
  induction T using Tree.ind with
  | h k m l lo hi ih =>
    intro hok s f
    obtain ⟨hoks, hn⟩ := ok_open hok
    rcases okNode_kind hn with ⟨rfl, hl⟩ | ⟨rfl, hl⟩ | ⟨rfl, hl⟩ | ⟨rfl, hl⟩ | ⟨rfl, hl, hlo, _, hhi⟩
    · have e : (Tree.node 0 m l lo hi).begins s f = f s.length := by unfold Tree.begins; rw [if_pos rfl]
      rw [e]
      constructor
      · intro h; exact ⟨s.length, Nat.le_refl _, h, [], Lg_0.2 (by simp)⟩
      · rintro ⟨j, h0, h1, x, h2⟩
        have := (drop_all h0).1 (List.append_eq_nil_iff.1 (Lg_0.1 h2)).1
        rw [← this]; exact h1
    · have e : (Tree.node 1 m l lo hi).begins s f = (if setEq m (fun _ => false) then false else f s.length || (decide (0 < s.length) && (f (s.length - 1) && m (byteAt s (s.length - 1))))) := by
        unfold Tree.begins; rw [if_neg (by decide), if_pos rfl]
      rw [e]
      have hvd := void_lg (.node 1 m l lo hi) hok
      rw [void_1] at hvd
      cases hse : setEq m (fun _ => false) with
      | true =>
        rw [if_pos rfl]
        constructor
        · intro h; cases h
        · rintro ⟨j, h0, h1, x, h2⟩
          have := hvd.2 ⟨_, h2⟩
          rw [hse] at this; cases this
      | false =>
        rw [if_neg (by simp)]
        obtain ⟨w, hw⟩ := hvd.1 hse
        constructor
        · intro h
          rw [Bool.or_eq_true, Bool.and_eq_true, Bool.and_eq_true, decide_eq_true_eq] at h
          rcases h with h | ⟨h1, h2, h3⟩
          · exact ⟨s.length, Nat.le_refl _, h, w, by simpa using hw⟩
          · refine ⟨s.length - 1, by omega, h2, [], Lg_1.2 ⟨s.getD (s.length - 1) 0, ?_, h3⟩⟩
            rw [List.append_nil, List.drop_eq_getElem_cons (by omega), List.getD_eq_getElem?_getD, List.getElem?_eq_getElem (by omega), show s.length - 1 + 1 = s.length by omega]
            simp
        · rintro ⟨j, h0, h1, x, h2⟩
          obtain ⟨c, h3, h4⟩ := Lg_1.1 h2
          rcases Nat.lt_or_ge j s.length with hj | hj
          · rw [List.drop_eq_getElem_cons hj] at h3
            simp only [List.cons_append, List.cons.injEq] at h3
            have := (drop_all (by omega)).1 (List.append_eq_nil_iff.1 h3.2).1
            obtain rfl : j = s.length - 1 := by omega
            have hb : byteAt s (s.length - 1) = c.toNat := byteAt_get (by rw [List.getElem?_eq_getElem hj, h3.1])
            rw [hb, h1, h4, decide_eq_true (by omega)]; simp
          · obtain rfl : j = s.length := by omega
            rw [h1]; rfl
    · have e : (Tree.node 2 m l lo hi).begins s f = (if anyVoid l then false else beginsCat s l f) := by
        unfold Tree.begins; rw [if_neg (by decide), if_neg (by decide), if_pos rfl]
      rw [e]
      have hvd := void_lg (.node 2 m l lo hi) hok
      rw [void_2] at hvd
      cases hv : anyVoid l with
      | true =>
        rw [if_pos rfl]
        constructor
        · intro h; cases h
        · rintro ⟨j, h0, h1, x, h2⟩
          have := hvd.2 ⟨_, h2⟩
          rw [hv] at this; cases this
      | false =>
        rw [if_neg (by simp), beg_cat (fun t ht => ⟨hoks t ht, ih t ht (hoks t ht)⟩) hv]
        refine exists_congr fun j => and_congr Iff.rfl (and_congr Iff.rfl (exists_congr fun x => (Lg_2 hoks).symm))
    · have e : (Tree.node 3 m l lo hi).begins s f = beginsAlt s l f := by
        unfold Tree.begins; rw [if_neg (by decide), if_neg (by decide), if_neg (by decide), if_pos rfl]
      have ha : ∀ l : List Tree, beginsAlt s l f = true ↔ ∃ t ∈ l, t.begins s f = true := by
        intro l
        induction l with
        | nil => simp [beginsAlt]
        | cons t r ih => unfold beginsAlt; rw [Bool.or_eq_true, ih]; simp
      rw [e, ha]
      constructor
      · rintro ⟨t, h1, h2⟩
        obtain ⟨j, g0, g1, x, g2⟩ := (ih t h1 (hoks t h1) s f).1 h2
        exact ⟨j, g0, g1, x, (Lg_3 hoks).2 ⟨t, h1, g2⟩⟩
      · rintro ⟨j, g0, g1, x, g2⟩
        obtain ⟨t, h1, h2⟩ := (Lg_3 hoks).1 g2
        exact ⟨t, h1, (ih t h1 (hoks t h1) s f).2 ⟨j, g0, g1, x, h2⟩⟩
    · obtain ⟨t, rfl⟩ : ∃ t, l = [t] := List.length_eq_one_iff.1 hl
      have hot := hoks t (by simp)
      have hih := ih t (by simp) hot
      have hB : headBegins s [t] = t.begins s := by unfold headBegins; rfl
      have hE : headEnds s [t] = t.ends s := by unfold headEnds; rfl
      have hV : headVoid [t] = t.void := by unfold headVoid; rfl
      have e : (Tree.node 4 m [t] lo hi).begins s f = (if (decide (0 < lo) && t.void) = true then false else if f s.length then true else beginsRep (t.begins s) (t.ends s) s.length (mostOf s lo hi) f) := by
        rw [← hB, ← hE, ← hV]
        unfold Tree.begins; rw [if_neg (by decide), if_neg (by decide), if_neg (by decide), if_neg (by decide)]
      rw [e]
      have hvd := void_lg (.node 4 m [t] lo hi) hok
      rw [void_4, hV] at hvd
      cases hv : (decide (0 < lo) && t.void) with
      | true =>
        rw [if_pos rfl]
        constructor
        · intro h; cases h
        · rintro ⟨j, h0, h1, x, h2⟩
          have := hvd.2 ⟨_, h2⟩
          rw [hv] at this; cases this
      | false =>
        rw [if_neg (by simp)]
        have hmost : lo.toNat ≤ mostOf s lo hi := by unfold mostOf; split <;> omega
        cases hf : f s.length with
        | true =>
          rw [if_pos rfl]
          obtain ⟨w, hw⟩ := hvd.1 hv
          exact ⟨fun _ => ⟨s.length, Nat.le_refl _, hf, w, by simpa using hw⟩, fun _ => rfl⟩
        | false =>
          rw [if_neg (by simp), beg_rep_iff]
          constructor
          · rintro (⟨i, h1, h2⟩ | h)
            · obtain ⟨m', h3, h4, x, h5⟩ := (hih s _).1 h2
              obtain ⟨j, g0, g1, g2⟩ := (iter_seg hot i f h3).1 h4
              obtain ⟨y, hy⟩ := LgIt.some h5 (lo.toNat - (i + 1))
              refine ⟨j, by omega, g1, x ++ y, (Lg_4 hot hlo (by omega)).2 ⟨i + 1 + (lo.toNat - (i + 1)), ⟨by omega, ?_⟩, ?_⟩⟩
              · by_cases hh : hi = -1
                · exact .inl hh
                · right
                  have : mostOf s lo hi = hi.toNat := by unfold mostOf; rw [if_neg (by omega)]
                  omega
              · rw [drop_seg g0 h3, ← List.append_assoc, List.append_assoc (seg s j m')]
                exact LgIt.cat (g2.cat (show LgIt t 1 (s.drop m' ++ x) from ⟨_, [], by simp, h5, rfl⟩)) hy
            · obtain ⟨j, g0, g1, g2⟩ := (iter_seg hot _ f (Nat.le_refl _)).1 h
              rw [seg_all] at g2
              refine ⟨j, g0, g1, [], (Lg_4 hot hlo (by omega)).2 ⟨mostOf s lo hi, ⟨by omega, ?_⟩, by simpa using g2⟩⟩
              by_cases hh : hi = -1
              · exact .inl hh
              · right
                have : mostOf s lo hi = hi.toNat := by unfold mostOf; rw [if_neg (by omega)]
                omega
          · rintro ⟨j, h0, h1, x, h2⟩
            obtain ⟨n, ⟨n1, n2⟩, h3⟩ := (Lg_4 hot hlo (by omega)).1 h2
            by_cases hj : j = s.length
            · subst hj; rw [hf] at h1; cases h1
            · have hne : s.drop j ≠ [] := fun h => hj ((drop_all h0).1 h)
              obtain ⟨q, u, c, g1, g2, g3, g4, g5⟩ := it_cut n _ x hne h3
              left
              rw [List.length_drop] at g2
              have hq : q < mostOf s lo hi := by
                unfold mostOf
                split
                · omega
                · rcases n2 with n2 | n2 <;> omega
              rw [← seg_all] at g1
              obtain ⟨k1, k2, k3⟩ := seg_split h0 (Nat.le_refl _) g1
              rw [seg_all] at k2
              exact ⟨q, hq, (hih s _).2 ⟨j + u.length, k3, (iter_seg hot q f k3).2 ⟨j, by omega, h1, by rw [← k1]; exact g4⟩, by rw [← k2]; exact g5⟩⟩
theorem begins_lg {T : Tree} (hok : T.ok = true) (s : List UInt8) : T.begins s (atP 0) = true ↔ ∃ e, T.takes (s ++ e) = true := by
  rw [begins_iff T hok s]
  constructor
  · rintro ⟨j, _, h1, e, h2⟩
    obtain rfl := atP_iff.1 h1
    exact ⟨e, h2⟩
  · rintro ⟨e, h⟩
    exact ⟨0, Nat.zero_le _, atP_iff.2 rfl, e, h⟩
end Go.Proofs.Ytgbljnnmhmlifaa

