/-
  WHAT A TREE's ENDS DO, AS A SUM: of each place alone; how often is often enough. No condition but those that a law names; no program.
-/
import Derived.Test.YtkladjjeacjgpaaDoorQG08
namespace Go.Proofs.YtkladjjeacjgpaaDoor

theorem atP_iff {p j : Nat} : atP p j = true ↔ j = p := by
  unfold atP updS
  by_cases h : j = p
  · simp [h]
  · simp [h]
/-- what a row of places comes to is what each of them comes to -/
def Adds (E : (Nat → Bool) → Nat → Bool) : Prop := ∀ (f : Nat → Bool) (k : Nat), E f k = true ↔ ∃ j, f j = true ∧ E (atP j) k = true
theorem adds_id : Adds (fun f => f) := fun f k => ⟨fun h => ⟨k, h, atP_iff.2 rfl⟩, fun ⟨j, h1, h2⟩ => by rw [atP_iff.1 h2]; exact h1⟩
theorem adds_comp {E F : (Nat → Bool) → Nat → Bool} (hE : Adds E) (hF : Adds F) : Adds (fun f => F (E f)) := fun f k => by
  show F (E f) k = true ↔ ∃ j, f j = true ∧ F (E (atP j)) k = true
  constructor
  · intro h
    obtain ⟨i, h1, h2⟩ := (hF _ _).1 h
    obtain ⟨j, h3, h4⟩ := (hE _ _).1 h1
    exact ⟨j, h3, (hF _ _).2 ⟨i, h4, h2⟩⟩
  · rintro ⟨j, h1, h2⟩
    obtain ⟨i, h3, h4⟩ := (hF _ _).1 h2
    exact (hF _ _).2 ⟨i, (hE _ _).2 ⟨j, h1, h3⟩, h4⟩
theorem adds_iter {E : (Nat → Bool) → Nat → Bool} (hE : Adds E) : ∀ n, Adds (iterE E n)
  | 0 => adds_id
  | n + 1 => by
    have h := adds_comp (E := iterE E n) (F := E) (adds_iter hE n) hE
    exact h
theorem repTo_iff {E : (Nat → Bool) → Nat → Bool} {lo most : Nat} {f : Nat → Bool} {k : Nat} : repTo E lo most f k = true ↔ ∃ n, n < most ∧ lo ≤ n ∧ iterE E n f k = true := by
  unfold repTo
  rw [List.any_eq_true]
  constructor
  · rintro ⟨n, h1, h2⟩
    rw [Bool.and_eq_true, decide_eq_true_eq] at h2
    exact ⟨n, List.mem_range.1 h1, h2.1, h2.2⟩
  · rintro ⟨n, h1, h2, h3⟩
    exact ⟨n, List.mem_range.2 h1, by rw [Bool.and_eq_true, decide_eq_true_eq]; exact ⟨h2, h3⟩⟩
theorem adds_rep {E : (Nat → Bool) → Nat → Bool} (hE : Adds E) (lo most : Nat) : Adds (repTo E lo most) := fun f k => by
  constructor
  · intro h
    obtain ⟨n, h1, h2, h3⟩ := repTo_iff.1 h
    obtain ⟨j, h4, h5⟩ := (adds_iter hE n _ _).1 h3
    exact ⟨j, h4, repTo_iff.2 ⟨n, h1, h2, h5⟩⟩
  · rintro ⟨j, h4, h5⟩
    obtain ⟨n, h1, h2, h3⟩ := repTo_iff.1 h5
    exact repTo_iff.2 ⟨n, h1, h2, (adds_iter hE n _ _).2 ⟨j, h4, h3⟩⟩
theorem adds_byte (m : Nat → Bool) (s : List UInt8) : Adds (stepB m s)
  | f, 0 => by
    constructor
    · intro h; cases h
    · rintro ⟨_, _, h⟩; cases h
  | f, i + 1 => by
    show (f i && _) = true ↔ ∃ j, f j = true ∧ (atP j i && _) = true
    simp only [Bool.and_eq_true]
    constructor
    · rintro ⟨h1, h2⟩; exact ⟨i, h1, atP_iff.2 rfl, h2⟩
    · rintro ⟨j, h1, h2, h3⟩
      have e := atP_iff.1 h2
      subst e
      exact ⟨h1, h3⟩
theorem adds_cat (s : List UInt8) : ∀ l : List Tree, (∀ t ∈ l, Adds (t.ends s)) → Adds (endsCat s l)
  | [], _ => by
    have : endsCat s [] = fun f => f := by unfold endsCat; rfl
    rw [this]; exact adds_id
  | t :: r, h => by
    have : endsCat s (t :: r) = fun f => endsCat s r (t.ends s f) := by rw [endsCat]
    rw [this]
    exact adds_comp (h t (by simp)) (adds_cat s r (fun u hu => h u (by simp [hu])))
theorem adds_alt (s : List UInt8) : ∀ l : List Tree, (∀ t ∈ l, Adds (t.ends s)) → Adds (endsAlt s l) := fun l h f k => by
  rw [endsAlt_any, List.any_eq_true]
  constructor
  · rintro ⟨t, ht, h1⟩
    obtain ⟨j, h2, h3⟩ := (h t ht f k).1 h1
    exact ⟨j, h2, by rw [endsAlt_any, List.any_eq_true]; exact ⟨t, ht, h3⟩⟩
  · rintro ⟨j, h2, h3⟩
    rw [endsAlt_any, List.any_eq_true] at h3
    obtain ⟨t, ht, h4⟩ := h3
    exact ⟨t, ht, (h t ht f k).2 ⟨j, h2, h4⟩⟩
theorem ends_0 {s : List UInt8} {m : Nat → Bool} {l : List Tree} {lo hi : Int} : Tree.ends s (.node 0 m l lo hi) = fun f => f := by funext f; unfold Tree.ends; rw [if_pos rfl]
theorem ends_1 {s : List UInt8} {m : Nat → Bool} {l : List Tree} {lo hi : Int} : Tree.ends s (.node 1 m l lo hi) = stepB m s := by funext f; unfold Tree.ends; rw [if_neg (by decide), if_pos rfl]
theorem ends_2 {s : List UInt8} {m : Nat → Bool} {l : List Tree} {lo hi : Int} : Tree.ends s (.node 2 m l lo hi) = endsCat s l := by funext f; unfold Tree.ends; rw [if_neg (by decide), if_neg (by decide), if_pos rfl]
theorem ends_3 {s : List UInt8} {m : Nat → Bool} {l : List Tree} {lo hi : Int} : Tree.ends s (.node 3 m l lo hi) = endsAlt s l := by funext f; unfold Tree.ends; rw [if_neg (by decide), if_neg (by decide), if_neg (by decide), if_pos rfl]
theorem ends_4 {s : List UInt8} {k : Int} {m : Nat → Bool} {l : List Tree} {lo hi : Int} (h0 : k ≠ 0) (h1 : k ≠ 1) (h2 : k ≠ 2) (h3 : k ≠ 3) : Tree.ends s (.node k m l lo hi) = repTo (headEnds s l) lo.toNat (mostOf s lo hi + 1) := by
  funext f; unfold Tree.ends; rw [if_neg h0, if_neg h1, if_neg h2, if_neg h3]
theorem ends_adds (s : List UInt8) : ∀ T : Tree, Adds (T.ends s) := fun T => by
  induction T using Tree.ind with
  | h k m l lo hi ih =>
    by_cases h0 : k = 0
    · subst h0; rw [ends_0]; exact adds_id
    by_cases h1 : k = 1
    · subst h1; rw [ends_1]; exact adds_byte m s
    by_cases h2 : k = 2
    · subst h2; rw [ends_2]; exact adds_cat s l ih
    by_cases h3 : k = 3
    · subst h3; rw [ends_3]; exact adds_alt s l ih
    rw [ends_4 h0 h1 h2 h3]
    refine adds_rep ?_ _ _
    cases l with
    | nil =>
      have : headEnds s [] = fun f => f := by unfold headEnds; rfl
      rw [this]; exact adds_id
    | cons t r =>
      have : headEnds s (t :: r) = t.ends s := by rw [headEnds]
      rw [this]; exact ih t (by simp)
theorem adds_none {E : (Nat → Bool) → Nat → Bool} (hE : Adds E) {f : Nat → Bool} (hf : ∀ j, f j = false) (k : Nat) : E f k = false := by
  cases h : E f k with
  | false => rfl
  | true =>
    obtain ⟨j, h1, _⟩ := (hE f k).1 h
    rw [hf j] at h1; cases h1

/-! ### how often is often enough -/
theorem iter_short (s : List UInt8) {E : (Nat → Bool) → Nat → Bool} (hE : Adds E) (hw : ∀ i k, E (atP i) k = true → i ≤ k ∧ (i < k → k ≤ s.length)) : ∀ (n : Nat) (f : Nat → Bool) (k : Nat), iterE E n f k = true →
    ∃ n' j, f j = true ∧ n' + j ≤ k ∧ (n' = 0 ∨ k ≤ s.length) ∧ n' ≤ n ∧ iterE E n' (atP j) k = true
  | 0, f, k, h => ⟨0, k, h, by omega, .inl rfl, Nat.le_refl _, atP_iff.2 rfl⟩
  | n + 1, f, k, h => by
    obtain ⟨i, h1, h2⟩ := (hE (iterE E n f) k).1 h
    obtain ⟨n', j, g1, g2, g3, g4, g5⟩ := iter_short s hE hw n f i h1
    obtain ⟨q1, q2⟩ := hw i k h2
    by_cases e : i = k
    · subst e
      exact ⟨n', j, g1, g2, g3, by omega, g5⟩
    · exact ⟨n' + 1, j, g1, by omega, .inr (q2 (by omega)), by omega, (hE _ _).2 ⟨i, g5, h2⟩⟩
theorem iter_add {E : (Nat → Bool) → Nat → Bool} {f : Nat → Bool} {m : Nat} : ∀ n : Nat, iterE E n (iterE E m f) = iterE E (m + n) f
  | 0 => rfl
  | n + 1 => by
    show E (iterE E n (iterE E m f)) = E (iterE E (m + n) f)
    rw [iter_add n]
/-- what is repeated as often as one likes, repeated: the same -/
theorem star_iff (s : List UInt8) {E : (Nat → Bool) → Nat → Bool} (hE : Adds E) (hw : ∀ i k, E (atP i) k = true → i ≤ k ∧ (i < k → k ≤ s.length)) (f : Nat → Bool) (k : Nat) : repTo E 0 (s.length + 2) f k = true ↔ ∃ n, iterE E n f k = true := by
  rw [repTo_iff]
  constructor
  · rintro ⟨n, _, _, h⟩; exact ⟨n, h⟩
  · rintro ⟨n, h⟩
    obtain ⟨n', j, g1, g2, g3, _, g5⟩ := iter_short s hE hw n f k h
    exact ⟨n', by omega, Nat.zero_le _, (adds_iter hE n' _ _).2 ⟨j, g1, g5⟩⟩
theorem star_star (s : List UInt8) {E : (Nat → Bool) → Nat → Bool} (hE : Adds E) (hw : ∀ i k, E (atP i) k = true → i ≤ k ∧ (i < k → k ≤ s.length)) (f : Nat → Bool) (k : Nat) :
    repTo (repTo E 0 (s.length + 2)) 0 (s.length + 2) f k = repTo E 0 (s.length + 2) f k := by
  have hi : ∀ (n : Nat) (k : Nat), iterE (repTo E 0 (s.length + 2)) n f k = true → ∃ m, iterE E m f k = true := by
    intro n
    induction n with
    | zero => intro k h; exact ⟨0, h⟩
    | succ n ih =>
      intro k h
      obtain ⟨m, hm⟩ := (star_iff s hE hw _ k).1 (show repTo E 0 (s.length + 2) (iterE (repTo E 0 (s.length + 2)) n f) k = true from h)
      obtain ⟨j, h1, h2⟩ := (adds_iter hE m _ _).1 hm
      obtain ⟨m', hm'⟩ := ih j h1
      refine ⟨m' + m, ?_⟩
      rw [← iter_add m]
      exact (adds_iter hE m _ _).2 ⟨j, hm', h2⟩
  rw [Bool.eq_iff_iff, star_iff s hE hw]
  constructor
  · intro h
    obtain ⟨n, _, _, h⟩ := repTo_iff.1 h
    exact hi n k h
  · intro h
    exact repTo_iff.2 ⟨1, by omega, Nat.zero_le _, (star_iff s hE hw f k).2 h⟩
theorem ends_way {s : List UInt8} {T : Tree} (hok : T.ok = true) {i k : Nat} (h : T.ends s (atP i) k = true) : i ≤ k ∧ (i < k → k ≤ s.length) := by
  obtain ⟨_, j, h1, h2, h3, h4⟩ := ways_any s T hok (atP i) k h
  rw [atP_iff] at h1
  subst h1
  exact ⟨h2, fun h => (h4 h).1⟩

/-! ### alike trees -/
theorem step_same {m m' : Nat → Bool} (h : setEq m m' = true) (s : List UInt8) : stepB m s = stepB m' s := by
  funext f k
  match k with
  | 0 => rfl
  | i + 1 =>
    show (f i && (match s[i]? with | some c => m c.toNat | none => false)) = (f i && (match s[i]? with | some c => m' c.toNat | none => false))
    cases s[i]? with
    | none => rfl
    | some c => show (f i && m c.toNat) = (f i && m' c.toNat); rw [setEq_iff.1 h c.toNat (UInt8.toNat_lt c)]
mutual
theorem same_ends (s : List UInt8) : ∀ T T' : Tree, T.same T' = true → T.ends s = T'.ends s
  | .node k m l lo hi, .node k' m' l' lo' hi', h => by
    unfold Tree.same at h
    simp only [Bool.and_eq_true, beq_iff_eq] at h
    obtain ⟨⟨rfl, hm, rfl, rfl, hn⟩, hl⟩ := h
    obtain ⟨h1, h2, h3⟩ := sameL_ends s l l' hn hl
    by_cases e0 : k = 0
    · subst e0; rw [ends_0, ends_0]
    by_cases e1 : k = 1
    · subst e1; rw [ends_1, ends_1, step_same hm]
    by_cases e2 : k = 2
    · subst e2; rw [ends_2, ends_2, h1]
    by_cases e3 : k = 3
    · subst e3; rw [ends_3, ends_3, h2]
    rw [ends_4 e0 e1 e2 e3, ends_4 e0 e1 e2 e3, h3]
theorem sameL_ends (s : List UInt8) : ∀ l l' : List Tree, l.length = l'.length → sameL l l' = true → endsCat s l = endsCat s l' ∧ endsAlt s l = endsAlt s l' ∧ headEnds s l = headEnds s l'
  | [], [], _, _ => ⟨rfl, rfl, rfl⟩
  | t :: r, t' :: r', hn, h => by
    simp only [sameL, Bool.and_eq_true] at h
    have h1 := same_ends s t t' h.1
    obtain ⟨h2, h3, _⟩ := sameL_ends s r r' (by simpa using hn) h.2
    refine ⟨?_, ?_, ?_⟩
    · funext f; simp only [endsCat]; rw [h1, h2]
    · funext f; simp only [endsAlt]; rw [h1, h3]
    · simp only [headEnds]; rw [h1]
end
mutual
theorem same_void : ∀ T T' : Tree, T.same T' = true → T.void = T'.void
  | .node k m l lo hi, .node k' m' l' lo' hi', h => by
    unfold Tree.same at h
    simp only [Bool.and_eq_true, beq_iff_eq] at h
    obtain ⟨⟨rfl, hm, rfl, rfl, hn⟩, hl⟩ := h
    obtain ⟨h1, h2, h3⟩ := sameL_void l l' hn hl
    have h4 : setEq m (fun _ => false) = setEq m' (fun _ => false) := by
      rw [Bool.eq_iff_iff, setEq_iff, setEq_iff]
      have := setEq_iff.1 hm
      constructor
      · intro g b hb; rw [← this b hb]; exact g b hb
      · intro g b hb; rw [this b hb]; exact g b hb
    unfold Tree.void
    rw [h1, h2, h3, h4]
theorem sameL_void : ∀ l l' : List Tree, l.length = l'.length → sameL l l' = true → anyVoid l = anyVoid l' ∧ allVoid l = allVoid l' ∧ headVoid l = headVoid l'
  | [], [], _, _ => ⟨rfl, rfl, rfl⟩
  | t :: r, t' :: r', hn, h => by
    simp only [sameL, Bool.and_eq_true] at h
    have h1 := same_void t t' h.1
    obtain ⟨h2, h3, _⟩ := sameL_void r r' (by simpa using hn) h.2
    simp only [anyVoid, allVoid, headVoid, h1, h2, h3]
    trivial
end
end Go.Proofs.YtkladjjeacjgpaaDoor

