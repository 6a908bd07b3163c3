/-
  WHAT A TREE's ENDS DO, AS A SUM: of each place alone; how often is often enough. No condition but those that a law names; no program.
-/
import Derived.Test.YtkladjjeacjgpaaDoorQG08
import Derived.Test.YtkladjjeacjgpaaDoorQTplain
import Derived.Test.YtkladjjeacjgpaaDoorQTnorm
namespace Go.Proofs.YtkladjjeacjgpaaDoor

theorem atP_iff {p j : Nat} : atP p j = true ↔ j = p := by
  unfold atP updS
  by_cases h : j = p
  · simp [h]
  · simp [h]
/-- what a row of places comes to is what each of them comes to -/
def Adds (E : (Nat → Bool) → Nat → Bool) : Prop := ∀ (f : Nat → Bool) (k : Nat), E f k = true ↔ ∃ j, f j = true ∧ E (atP j) k = true
theorem adds_id : Adds (fun f => f) := fun f k => ⟨fun h => ⟨k, h, atP_iff.2 rfl⟩, fun ⟨j, h1, h2⟩ => by rw [atP_iff.1 h2]; exact h1⟩
theorem adds_comp {E F : (Nat → Bool) → Nat → Bool} (hE : Adds E) (hF : Adds F) : Adds (fun f => F (E f)) := fun f k => by
  show F (E f) k = true ↔ ∃ j, f j = true ∧ F (E (atP j)) k = true
  constructor
  · intro h
    obtain ⟨i, h1, h2⟩ := (hF _ _).1 h
    obtain ⟨j, h3, h4⟩ := (hE _ _).1 h1
    exact ⟨j, h3, (hF _ _).2 ⟨i, h4, h2⟩⟩
  · rintro ⟨j, h1, h2⟩
    obtain ⟨i, h3, h4⟩ := (hF _ _).1 h2
    exact (hF _ _).2 ⟨i, (hE _ _).2 ⟨j, h1, h3⟩, h4⟩
theorem adds_iter {E : (Nat → Bool) → Nat → Bool} (hE : Adds E) : ∀ n, Adds (iterE E n)
  | 0 => adds_id
  | n + 1 => by
    have h := adds_comp (E := iterE E n) (F := E) (adds_iter hE n) hE
    exact h
theorem repTo_iff {E : (Nat → Bool) → Nat → Bool} {lo most : Nat} {f : Nat → Bool} {k : Nat} : repTo E lo most f k = true ↔ ∃ n, n < most ∧ lo ≤ n ∧ iterE E n f k = true := by
  unfold repTo
  rw [List.any_eq_true]
  constructor
  · rintro ⟨n, h1, h2⟩
    rw [Bool.and_eq_true, decide_eq_true_eq] at h2
    exact ⟨n, List.mem_range.1 h1, h2.1, h2.2⟩
  · rintro ⟨n, h1, h2, h3⟩
    exact ⟨n, List.mem_range.2 h1, by rw [Bool.and_eq_true, decide_eq_true_eq]; exact ⟨h2, h3⟩⟩
theorem adds_rep {E : (Nat → Bool) → Nat → Bool} (hE : Adds E) (lo most : Nat) : Adds (repTo E lo most) := fun f k => by
  constructor
  · intro h
    obtain ⟨n, h1, h2, h3⟩ := repTo_iff.1 h
    obtain ⟨j, h4, h5⟩ := (adds_iter hE n _ _).1 h3
    exact ⟨j, h4, repTo_iff.2 ⟨n, h1, h2, h5⟩⟩
  · rintro ⟨j, h4, h5⟩
    obtain ⟨n, h1, h2, h3⟩ := repTo_iff.1 h5
    exact repTo_iff.2 ⟨n, h1, h2, (adds_iter hE n _ _).2 ⟨j, h4, h3⟩⟩
theorem adds_byte (m : Nat → Bool) (s : List UInt8) : Adds (stepB m s)
  | f, 0 => by
    constructor
    · intro h; cases h
    · rintro ⟨_, _, h⟩; cases h
  | f, i + 1 => by
    show (f i && _) = true ↔ ∃ j, f j = true ∧ (atP j i && _) = true
    simp only [Bool.and_eq_true]
    constructor
    · rintro ⟨h1, h2⟩; exact ⟨i, h1, atP_iff.2 rfl, h2⟩
    · rintro ⟨j, h1, h2, h3⟩
      have e := atP_iff.1 h2
      subst e
      exact ⟨h1, h3⟩
theorem adds_cat (s : List UInt8) : ∀ l : List Tree, (∀ t ∈ l, Adds (t.ends s)) → Adds (endsCat s l)
  | [], _ => by
    have : endsCat s [] = fun f => f := by unfold endsCat; rfl
    rw [this]; exact adds_id
  | t :: r, h => by
    have : endsCat s (t :: r) = fun f => endsCat s r (t.ends s f) := by rw [endsCat]
    rw [this]
    exact adds_comp (h t (by simp)) (adds_cat s r (fun u hu => h u (by simp [hu])))
theorem adds_alt (s : List UInt8) : ∀ l : List Tree, (∀ t ∈ l, Adds (t.ends s)) → Adds (endsAlt s l) := fun l h f k => by
  rw [endsAlt_any, List.any_eq_true]
  constructor
  · rintro ⟨t, ht, h1⟩
    obtain ⟨j, h2, h3⟩ := (h t ht f k).1 h1
    exact ⟨j, h2, by rw [endsAlt_any, List.any_eq_true]; exact ⟨t, ht, h3⟩⟩
  · rintro ⟨j, h2, h3⟩
    rw [endsAlt_any, List.any_eq_true] at h3
    obtain ⟨t, ht, h4⟩ := h3
    exact ⟨t, ht, (h t ht f k).2 ⟨j, h2, h4⟩⟩
theorem ends_0 {s : List UInt8} {m : Nat → Bool} {l : List Tree} {lo hi : Int} : Tree.ends s (.node 0 m l lo hi) = fun f => f := by funext f; unfold Tree.ends; rw [if_pos rfl]
theorem ends_1 {s : List UInt8} {m : Nat → Bool} {l : List Tree} {lo hi : Int} : Tree.ends s (.node 1 m l lo hi) = stepB m s := by funext f; unfold Tree.ends; rw [if_neg (by decide), if_pos rfl]
theorem ends_2 {s : List UInt8} {m : Nat → Bool} {l : List Tree} {lo hi : Int} : Tree.ends s (.node 2 m l lo hi) = endsCat s l := by funext f; unfold Tree.ends; rw [if_neg (by decide), if_neg (by decide), if_pos rfl]
theorem ends_3 {s : List UInt8} {m : Nat → Bool} {l : List Tree} {lo hi : Int} : Tree.ends s (.node 3 m l lo hi) = endsAlt s l := by funext f; unfold Tree.ends; rw [if_neg (by decide), if_neg (by decide), if_neg (by decide), if_pos rfl]
theorem ends_4 {s : List UInt8} {k : Int} {m : Nat → Bool} {l : List Tree} {lo hi : Int} (h0 : k ≠ 0) (h1 : k ≠ 1) (h2 : k ≠ 2) (h3 : k ≠ 3) : Tree.ends s (.node k m l lo hi) = repTo (headEnds s l) lo.toNat (mostOf s lo hi + 1) := by
  funext f; unfold Tree.ends; rw [if_neg h0, if_neg h1, if_neg h2, if_neg h3]
theorem ends_adds (s : List UInt8) : ∀ T : Tree, Adds (T.ends s) := fun T => by
  induction T using Tree.ind with
  | h k m l lo hi ih =>
    by_cases h0 : k = 0
    · subst h0; rw [ends_0]; exact adds_id
    by_cases h1 : k = 1
    · subst h1; rw [ends_1]; exact adds_byte m s
    by_cases h2 : k = 2
    · subst h2; rw [ends_2]; exact adds_cat s l ih
    by_cases h3 : k = 3
    · subst h3; rw [ends_3]; exact adds_alt s l ih
    rw [ends_4 h0 h1 h2 h3]
    refine adds_rep ?_ _ _
    cases l with
    | nil =>
      have : headEnds s [] = fun f => f := by unfold headEnds; rfl
      rw [this]; exact adds_id
    | cons t r =>
      have : headEnds s (t :: r) = t.ends s := by rw [headEnds]
      rw [this]; exact ih t (by simp)
theorem adds_none {E : (Nat → Bool) → Nat → Bool} (hE : Adds E) {f : Nat → Bool} (hf : ∀ j, f j = false) (k : Nat) : E f k = false := by
  cases h : E f k with
  | false => rfl
  | true =>
    obtain ⟨j, h1, _⟩ := (hE f k).1 h
    rw [hf j] at h1; cases h1

/-! ### how often is often enough -/
theorem iter_short (s : List UInt8) {E : (Nat → Bool) → Nat → Bool} (hE : Adds E) (hw : ∀ i k, E (atP i) k = true → i ≤ k ∧ (i < k → k ≤ s.length)) : ∀ (n : Nat) (f : Nat → Bool) (k : Nat), iterE E n f k = true →
    ∃ n' j, f j = true ∧ n' + j ≤ k ∧ (n' = 0 ∨ k ≤ s.length) ∧ n' ≤ n ∧ iterE E n' (atP j) k = true
  | 0, f, k, h => ⟨0, k, h, by omega, .inl rfl, Nat.le_refl _, atP_iff.2 rfl⟩
  | n + 1, f, k, h => by
    obtain ⟨i, h1, h2⟩ := (hE (iterE E n f) k).1 h
    obtain ⟨n', j, g1, g2, g3, g4, g5⟩ := iter_short s hE hw n f i h1
    obtain ⟨q1, q2⟩ := hw i k h2
    by_cases e : i = k
    · subst e
      exact ⟨n', j, g1, g2, g3, by omega, g5⟩
    · exact ⟨n' + 1, j, g1, by omega, .inr (q2 (by omega)), by omega, (hE _ _).2 ⟨i, g5, h2⟩⟩
theorem iter_add {E : (Nat → Bool) → Nat → Bool} {f : Nat → Bool} {m : Nat} : ∀ n : Nat, iterE E n (iterE E m f) = iterE E (m + n) f
  | 0 => rfl
  | n + 1 => by
    show E (iterE E n (iterE E m f)) = E (iterE E (m + n) f)
    rw [iter_add n]
/-- what is repeated as often as one likes, repeated: the same -/
theorem star_iff (s : List UInt8) {E : (Nat → Bool) → Nat → Bool} (hE : Adds E) (hw : ∀ i k, E (atP i) k = true → i ≤ k ∧ (i < k → k ≤ s.length)) (f : Nat → Bool) (k : Nat) : repTo E 0 (s.length + 2) f k = true ↔ ∃ n, iterE E n f k = true := by
  rw [repTo_iff]
  constructor
  · rintro ⟨n, _, _, h⟩; exact ⟨n, h⟩
  · rintro ⟨n, h⟩
    obtain ⟨n', j, g1, g2, g3, _, g5⟩ := iter_short s hE hw n f k h
    exact ⟨n', by omega, Nat.zero_le _, (adds_iter hE n' _ _).2 ⟨j, g1, g5⟩⟩
theorem star_star (s : List UInt8) {E : (Nat → Bool) → Nat → Bool} (hE : Adds E) (hw : ∀ i k, E (atP i) k = true → i ≤ k ∧ (i < k → k ≤ s.length)) (f : Nat → Bool) (k : Nat) :
    repTo (repTo E 0 (s.length + 2)) 0 (s.length + 2) f k = repTo E 0 (s.length + 2) f k := by
  have hi : ∀ (n : Nat) (k : Nat), iterE (repTo E 0 (s.length + 2)) n f k = true → ∃ m, iterE E m f k = true := by
    intro n
    induction n with
    | zero => intro k h; exact ⟨0, h⟩
    | succ n ih =>
      intro k h
      obtain ⟨m, hm⟩ := (star_iff s hE hw _ k).1 (show repTo E 0 (s.length + 2) (iterE (repTo E 0 (s.length + 2)) n f) k = true from h)
      obtain ⟨j, h1, h2⟩ := (adds_iter hE m _ _).1 hm
      obtain ⟨m', hm'⟩ := ih j h1
      refine ⟨m' + m, ?_⟩
      rw [← iter_add m]
      exact (adds_iter hE m _ _).2 ⟨j, hm', h2⟩
  rw [Bool.eq_iff_iff, star_iff s hE hw]
  constructor
  · intro h
    obtain ⟨n, _, _, h⟩ := repTo_iff.1 h
    exact hi n k h
  · intro h
    exact repTo_iff.2 ⟨1, by omega, Nat.zero_le _, (star_iff s hE hw f k).2 h⟩
theorem ends_way {s : List UInt8} {T : Tree} (hok : T.ok = true) {i k : Nat} (h : T.ends s (atP i) k = true) : i ≤ k ∧ (i < k → k ≤ s.length) := by
  obtain ⟨_, j, h1, h2, h3, h4⟩ := ways_any s T hok (atP i) k h
  rw [atP_iff] at h1
  subst h1
  exact ⟨h2, fun h => (h4 h).1⟩

/-! ### alike trees -/
theorem step_same {m m' : Nat → Bool} (h : setEq m m' = true) (s : List UInt8) : stepB m s = stepB m' s := by
  funext f k
  match k with
  | 0 => rfl
  | i + 1 =>
    show (f i && (match s[i]? with | some c => m c.toNat | none => false)) = (f i && (match s[i]? with | some c => m' c.toNat | none => false))
    cases s[i]? with
    | none => rfl
    | some c => show (f i && m c.toNat) = (f i && m' c.toNat); rw [setEq_iff.1 h c.toNat (UInt8.toNat_lt c)]
mutual
theorem same_ends (s : List UInt8) : ∀ T T' : Tree, T.same T' = true → T.ends s = T'.ends s
  | .node k m l lo hi, .node k' m' l' lo' hi', h => by
    unfold Tree.same at h
    simp only [Bool.and_eq_true, beq_iff_eq] at h
    obtain ⟨⟨rfl, hm, rfl, rfl, hn⟩, hl⟩ := h
    obtain ⟨h1, h2, h3⟩ := sameL_ends s l l' hn hl
    by_cases e0 : k = 0
    · subst e0; rw [ends_0, ends_0]
    by_cases e1 : k = 1
    · subst e1; rw [ends_1, ends_1, step_same hm]
    by_cases e2 : k = 2
    · subst e2; rw [ends_2, ends_2, h1]
    by_cases e3 : k = 3
    · subst e3; rw [ends_3, ends_3, h2]
    rw [ends_4 e0 e1 e2 e3, ends_4 e0 e1 e2 e3, h3]
theorem sameL_ends (s : List UInt8) : ∀ l l' : List Tree, l.length = l'.length → sameL l l' = true → endsCat s l = endsCat s l' ∧ endsAlt s l = endsAlt s l' ∧ headEnds s l = headEnds s l'
  | [], [], _, _ => ⟨rfl, rfl, rfl⟩
  | t :: r, t' :: r', hn, h => by
    simp only [sameL, Bool.and_eq_true] at h
    have h1 := same_ends s t t' h.1
    obtain ⟨h2, h3, _⟩ := sameL_ends s r r' (by simpa using hn) h.2
    refine ⟨?_, ?_, ?_⟩
    · funext f; simp only [endsCat]; rw [h1, h2]
    · funext f; simp only [endsAlt]; rw [h1, h3]
    · simp only [headEnds]; rw [h1]
end
mutual
theorem same_void : ∀ T T' : Tree, T.same T' = true → T.void = T'.void
  | .node k m l lo hi, .node k' m' l' lo' hi', h => by
    unfold Tree.same at h
    simp only [Bool.and_eq_true, beq_iff_eq] at h
    obtain ⟨⟨rfl, hm, rfl, rfl, hn⟩, hl⟩ := h
    obtain ⟨h1, h2, h3⟩ := sameL_void l l' hn hl
    have h4 : setEq m (fun _ => false) = setEq m' (fun _ => false) := by
      rw [Bool.eq_iff_iff, setEq_iff, setEq_iff]
      have := setEq_iff.1 hm
      constructor
      · intro g b hb; rw [← this b hb]; exact g b hb
      · intro g b hb; rw [this b hb]; exact g b hb
    unfold Tree.void
    rw [h1, h2, h3, h4]
theorem sameL_void : ∀ l l' : List Tree, l.length = l'.length → sameL l l' = true → anyVoid l = anyVoid l' ∧ allVoid l = allVoid l' ∧ headVoid l = headVoid l'
  | [], [], _, _ => ⟨rfl, rfl, rfl⟩
  | t :: r, t' :: r', hn, h => by
    simp only [sameL, Bool.and_eq_true] at h
    have h1 := same_void t t' h.1
    obtain ⟨h2, h3, _⟩ := sameL_void r r' (by simpa using hn) h.2
    simp only [anyVoid, allVoid, headVoid, h1, h2, h3]
    trivial
end
end Go.Proofs.YtkladjjeacjgpaaDoor

/-
  A PLAIN TREE HAS THE TREE's TEXTS, MAY BE, AND IS NO DEEPER. Condition: the tree's nodes may be. No program.
-/
namespace Go.Proofs.YtkladjjeacjgpaaDoor

theorem isV_iff {t : Tree} : t.isV = true ↔ t.kind = 1 ∧ ∀ b, b < 256 → t.set b = false := by
  unfold Tree.isV voidB
  rw [Bool.and_eq_true, beq_iff_eq, setEq_iff]
theorem isV_ends {t : Tree} (h : t.isV = true) (s : List UInt8) (f : Nat → Bool) (k : Nat) : t.ends s f k = false := by
  cases t with
  | node q m l lo hi =>
    obtain ⟨h1, h2⟩ := isV_iff.1 h
    have h1' : q = 1 := h1
    subst h1'
    have h2' : ∀ b, b < 256 → m b = false := h2
    rw [ends_1]
    match k with
    | 0 => rfl
    | i + 1 =>
      show (f i && (match s[i]? with | some c => m c.toNat | none => false)) = false
      cases s[i]? with
      | none => simp
      | some c => show (f i && m c.toNat) = false; rw [h2' _ (UInt8.toNat_lt c)]; simp
theorem isV_void {t : Tree} (h : t.isV = true) : t.void = true := by
  cases t with
  | node q m l lo hi =>
    obtain ⟨h1, h2⟩ := isV_iff.1 h
    have h1' : q = 1 := h1
    subst h1'
    have h2' : ∀ b, b < 256 → m b = false := h2
    rw [void_1]
    exact setEq_iff.2 h2'
theorem kind0_ends {t : Tree} (h : t.kind = 0) (s : List UInt8) : t.ends s = fun f => f := by
  cases t with
  | node q m l lo hi => have h' : q = 0 := h; subst h'; exact ends_0
theorem kind0_void {t : Tree} (h : t.kind = 0) : t.void = false := by
  cases t with
  | node q m l lo hi => have h' : q = 0 := h; subst h'; exact void_0 _ _ _ _
theorem emptyT_ends (s : List UInt8) : emptyT.ends s = fun f => f := ends_0
theorem voidT_isV : voidT.isV = true := isV_iff.2 ⟨rfl, fun _ _ => rfl⟩

/-! ### rows -/
theorem row2_ends (s : List UInt8) : ∀ l : List Tree, (rowT 2 emptyT l).ends s = endsCat s l
  | [] => by show emptyT.ends s = _; rw [emptyT_ends]; funext f; rw [cat_nil]
  | [t] => by show t.ends s = _; funext f; rw [cat_cons, cat_nil]
  | a :: b :: r => by rw [rowT_many 2 _ (by simp)]; exact ends_2
theorem row3_ends (s : List UInt8) (f : Nat → Bool) (k : Nat) : ∀ l : List Tree, (rowT 3 voidT l).ends s f k = l.any fun t => t.ends s f k
  | [] => by show voidT.ends s f k = _; rw [isV_ends voidT_isV]; rfl
  | [t] => by show t.ends s f k = _; simp
  | a :: b :: r => by rw [rowT_many 3 _ (by simp), ends_3, endsAlt_any]
theorem row2_void : ∀ l : List Tree, (rowT 2 emptyT l).void = anyVoid l
  | [] => by show emptyT.void = _; exact void_0 _ _ _ _
  | [t] => by show t.void = _; simp [anyVoid]
  | a :: b :: r => by rw [rowT_many 2 _ (by simp)]; exact void_2 _ _ _ _
theorem row3_void : ∀ l : List Tree, (rowT 3 voidT l).void = allVoid l
  | [] => by show voidT.void = _; exact isV_void voidT_isV
  | [t] => by show t.void = _; simp [allVoid]
  | a :: b :: r => by rw [rowT_many 3 _ (by simp)]; exact void_3 _ _ _ _

/-! ### Subs in their Sub's place -/
theorem flat2_ends (s : List UInt8) : ∀ l : List Tree, endsCat s (flatT 2 l) = endsCat s l
  | [] => rfl
  | t :: r => by
    have e : flatT 2 (t :: r) = seg 2 t ++ flatT 2 r := rfl
    funext f
    rw [e, endsCat_append, flat2_ends s r, cat_cons]
    congr 1
    unfold seg
    split
    · rename_i h
      cases t with
      | node q m l lo hi => have h' : q = 2 := h; subst h'; rw [ends_2]; rfl
    · rw [cat_cons, cat_nil]
theorem flat2_void : ∀ l : List Tree, anyVoid (flatT 2 l) = anyVoid l
  | [] => rfl
  | t :: r => by
    have e : flatT 2 (t :: r) = seg 2 t ++ flatT 2 r := rfl
    have ha : ∀ a b : List Tree, anyVoid (a ++ b) = (anyVoid a || anyVoid b) := by
      intro a
      induction a with
      | nil => intro b; simp [anyVoid]
      | cons x a ih => intro b; simp only [List.cons_append, anyVoid, ih, Bool.or_assoc]
    rw [e, ha, flat2_void r]
    show _ = (t.void || anyVoid r)
    congr 1
    unfold seg
    split
    · rename_i h
      cases t with
      | node q m l lo hi => have h' : q = 2 := h; subst h'; rw [void_2]; rfl
    · simp [anyVoid]
theorem flat3_any (p : Tree → Bool) (hp : ∀ t : Tree, t.kind = 3 → p t = t.sub.any p) : ∀ l : List Tree, (flatT 3 l).any p = l.any p
  | [] => rfl
  | t :: r => by
    have e : flatT 3 (t :: r) = seg 3 t ++ flatT 3 r := rfl
    rw [e, List.any_append, flat3_any p hp r, List.any_cons]
    congr 1
    unfold seg
    split
    · rename_i h; rw [hp t h]
    · simp

/-! ### what stays -/
theorem mem_flat {k : Int} {l : List Tree} {x : Tree} : x ∈ flatT k l ↔ ∃ t ∈ l, x ∈ seg k t := by unfold flatT; rw [List.mem_flatMap]
theorem cat_filter (s : List UInt8) : ∀ l : List Tree, endsCat s (catKeep l) = endsCat s l
  | [] => rfl
  | t :: r => by
    have ih := cat_filter s r
    unfold catKeep at *
    funext f
    rw [cat_cons, List.filter_cons]
    split
    · rw [cat_cons, ih]
    · rename_i h
      have h0 : t.kind = 0 := by simpa using h
      rw [ih, kind0_ends h0]
theorem void_filter : ∀ l : List Tree, anyVoid (catKeep l) = anyVoid l
  | [] => rfl
  | t :: r => by
    have ih := void_filter r
    unfold catKeep at *
    rw [List.filter_cons]
    split
    · simp only [anyVoid, ih]
    · rename_i h
      have h0 : t.kind = 0 := by simpa using h
      simp only [anyVoid, ih, kind0_void h0, Bool.false_or]
theorem cat_dead (s : List UInt8) {t : Tree} (ht : ∀ f k, t.ends s f k = false) : ∀ (l : List Tree) (f : Nat → Bool) (k : Nat), t ∈ l → endsCat s l f k = false
  | a :: r, f, k, h => by
    rw [cat_cons]
    rcases List.mem_cons.1 h with rfl | h
    · exact adds_none (adds_cat s r (fun u _ => ends_adds s u)) (ht f) k
    · exact cat_dead s ht r _ k h
theorem catStay_ends (s : List UInt8) (l : List Tree) : endsCat s (catStay l) = endsCat s l := by
  unfold catStay
  split
  · rename_i t ht
    have hm := List.mem_of_find?_eq_some ht
    have hv := List.find?_some ht
    funext f k
    rw [cat_cons, cat_nil, isV_ends hv, cat_dead s (isV_ends hv s) l f k hm]
  · exact cat_filter s l
theorem catStay_void (l : List Tree) : anyVoid (catStay l) = anyVoid l := by
  unfold catStay
  split
  · rename_i t ht
    have hm := List.mem_of_find?_eq_some ht
    have hv := isV_void (List.find?_some ht)
    rw [anyVoid_iff.2 ⟨t, hm, hv⟩]
    simp [anyVoid, hv]
  · exact void_filter l
theorem union_iff {b : Nat} : ∀ (l : List Tree) (m0 : Nat → Bool), l.foldl (fun m t => if t.kind == 1 then sOr m t.set else m) m0 b = true ↔ m0 b = true ∨ ∃ t ∈ l, t.kind = 1 ∧ t.set b = true
  | [], m0 => by simp
  | t :: r, m0 => by
    rw [List.foldl_cons, union_iff r]
    by_cases h : t.kind = 1
    · have e : (t.kind == 1) = true := by simpa using h
      rw [if_pos e]
      simp only [sOr, Bool.or_eq_true, List.mem_cons, exists_eq_or_imp]
      simp only [h, true_and]
      exact or_assoc
    · have e : ¬ (t.kind == 1) = true := by simpa using h
      rw [if_neg e]
      simp only [List.mem_cons, exists_eq_or_imp]
      simp only [h, false_and, false_or]
theorem unionT_iff {b : Nat} {l : List Tree} : unionT l b = true ↔ ∃ t ∈ l, t.kind = 1 ∧ t.set b = true := by
  unfold unionT; rw [union_iff]; simp
theorem told_mem {all : Nat → Bool} : ∀ (l told : List Tree) {x : Tree}, x ∈ l.foldl (altStep all) told → x ∈ told ∨ ∃ t ∈ l, t.isV = false ∧ x = turnT all t
  | [], told, x, h => .inl h
  | t :: r, told, x, h => by
    rw [List.foldl_cons] at h
    rcases told_mem r _ h with h1 | ⟨u, hu, h2⟩
    · unfold altStep at h1
      split at h1
      · exact .inl h1
      · rename_i hv
        split at h1
        · exact .inl h1
        · rcases List.mem_append.1 h1 with h1 | h1
          · exact .inl h1
          · exact .inr ⟨t, by simp, by simpa using hv, by simpa using h1⟩
    · exact .inr ⟨u, by simp [hu], h2⟩
theorem told_keeps {all : Nat → Bool} (l told : List Tree) {x : Tree} (h : x ∈ told) : x ∈ l.foldl (altStep all) told := by
  obtain ⟨r, hr⟩ := altFold_more (all := all) l told
  rw [hr]; exact List.mem_append.2 (.inl h)
theorem told_has {all : Nat → Bool} : ∀ (l told : List Tree) {t : Tree}, t ∈ l → t.isV = false → ∃ x ∈ l.foldl (altStep all) told, x.same (turnT all t) = true
  | a :: r, told, t, h, hv => by
    rw [List.foldl_cons]
    rcases List.mem_cons.1 h with rfl | h
    · have : ∃ x ∈ altStep all told t, x.same (turnT all t) = true := by
        unfold altStep
        rw [if_neg (by rw [hv]; simp)]
        split
        · rename_i hs; exact List.any_eq_true.1 hs
        · exact ⟨turnT all t, by simp, same_refl _⟩
      obtain ⟨x, hx, hs⟩ := this
      exact ⟨x, told_keeps r _ hx, hs⟩
    · exact told_has r _ h hv
theorem altStay_ends (s : List UInt8) (l : List Tree) (f : Nat → Bool) (k : Nat) : ((altStay l).any fun t => t.ends s f k) = l.any fun t => t.ends s f k := by
  rw [Bool.eq_iff_iff, List.any_eq_true, List.any_eq_true]
  unfold altStay altTold
  constructor
  · rintro ⟨x, hx, h⟩
    rcases told_mem l [] hx with h1 | ⟨t, ht, hv, rfl⟩
    · cases h1
    · unfold turnT at h
      split at h
      · rename_i hk
        rw [ends_1] at h
        match k, h with
        | i + 1, h =>
          have h' : (f i && (match s[i]? with | some c => unionT l c.toNat | none => false)) = true := h
          cases hc : s[i]? with
          | none => rw [hc] at h'; simp at h'
          | some c =>
            rw [hc] at h'
            have h2 : f i = true ∧ unionT l c.toNat = true := by simpa using h'
            obtain ⟨u, hu, hk1, hb⟩ := unionT_iff.1 h2.2
            refine ⟨u, hu, ?_⟩
            cases u with
            | node q m l' lo hi =>
              have hk' : q = 1 := hk1
              subst hk'
              have hb' : m c.toNat = true := hb
              rw [ends_1]
              show (f i && (match s[i]? with | some c => m c.toNat | none => false)) = true
              rw [hc, h2.1]
              simpa using hb'
      · exact ⟨t, ht, h⟩
  · rintro ⟨t, ht, h⟩
    have hv : t.isV = false := by
      cases hv : t.isV with
      | false => rfl
      | true => rw [isV_ends hv] at h; cases h
    obtain ⟨x, hx, hs⟩ := told_has (all := unionT l) l [] ht hv
    refine ⟨x, hx, ?_⟩
    rw [same_ends s x _ hs]
    unfold turnT
    split
    · rename_i hk
      have hk1 : t.kind = 1 := by simpa using hk
      rw [ends_1]
      cases t with
      | node q m l' lo hi =>
        have hk' : q = 1 := hk1
        subst hk'
        rw [ends_1] at h
        match k, h with
        | i + 1, h =>
          have h' : (f i && (match s[i]? with | some c => m c.toNat | none => false)) = true := h
          show (f i && (match s[i]? with | some c => unionT l c.toNat | none => false)) = true
          cases hc : s[i]? with
          | none => rw [hc] at h'; simp at h'
          | some c =>
            rw [hc] at h'
            have h2 : f i = true ∧ m c.toNat = true := by simpa using h'
            have := unionT_iff.2 ⟨_, ht, rfl, h2.2⟩
            simp [h2.1, this]
    · exact h
theorem turn_live {l : List Tree} {t : Tree} (ht : t ∈ l) (hv : t.isV = false) : (turnT (unionT l) t).isV = false := by
  unfold turnT
  split
  · rename_i hk
    have hk1 : t.kind = 1 := by simpa using hk
    rw [Bool.eq_false_iff]
    intro h
    obtain ⟨_, h2⟩ := isV_iff.1 h
    have : t.isV = true := isV_iff.2 ⟨hk1, fun b hb => by
      cases hb1 : t.set b with
      | false => rfl
      | true =>
        have h3 : unionT l b = false := h2 b hb
        rw [unionT_iff.2 ⟨t, ht, hk1, hb1⟩] at h3
        cases h3⟩
    rw [this] at hv; cases hv
  · exact hv
theorem kind1_void {t : Tree} (h : t.kind = 1) : t.void = t.isV := by
  cases t with
  | node q m l lo hi => have h' : q = 1 := h; subst h'; rw [void_1]; rfl
theorem turn_void {l : List Tree} {t : Tree} (ht : t ∈ l) (hv : t.isV = false) : (turnT (unionT l) t).void = t.void := by
  by_cases hk : t.kind = 1
  · have h1 := turn_live ht hv
    have h2 : (turnT (unionT l) t).kind = 1 := by unfold turnT; rw [if_pos (by simpa using hk)]; rfl
    rw [kind1_void h2, kind1_void hk, h1, hv]
  · unfold turnT; rw [if_neg (by simpa using hk)]
theorem altStay_void (l : List Tree) : allVoid (altStay l) = allVoid l := by
  rw [Bool.eq_iff_iff, allVoid_iff, allVoid_iff]
  unfold altStay altTold
  constructor
  · intro h t ht
    cases hv : t.isV with
    | true => exact isV_void hv
    | false =>
      obtain ⟨x, hx, hs⟩ := told_has (all := unionT l) l [] ht hv
      have := h x hx
      rw [same_void x _ hs, turn_void ht hv] at this
      exact this
  · intro h x hx
    rcases told_mem l [] hx with h1 | ⟨t, ht, hv, rfl⟩
    · cases h1
    · rw [turn_void ht hv]; exact h t ht
theorem allVoid_any : ∀ l : List Tree, allVoid l = !(l.any fun t => !t.void)
  | [] => rfl
  | t :: r => by simp only [allVoid, List.any_cons, allVoid_any r]; cases t.void <;> simp
theorem flat3_void (l : List Tree) : allVoid (flatT 3 l) = allVoid l := by
  rw [allVoid_any, allVoid_any, flat3_any]
  intro t ht
  cases t with
  | node q m l lo hi =>
    have h' : q = 3 := ht
    subst h'
    rw [void_3, allVoid_any]
    simp [Tree.sub]

/-! ### what is repeated -/
theorem iter_id {n : Nat} {f : Nat → Bool} : iterE (fun f => f) n f = f := by
  induction n with
  | zero => rfl
  | succ n ih => exact ih
theorem ok4 {m : Nat → Bool} {l : List Tree} {lo hi : Int} (h : Tree.ok (.node 4 m l lo hi) = true) : 0 ≤ lo ∧ lo ≤ 64 ∧ (hi = -1 ∨ (lo ≤ hi ∧ hi ≤ 64)) ∧ ∃ t, l = [t] ∧ t.ok = true := by
  have h2 := ok_open h
  have h3 := h2.2
  unfold okNode at h3
  split at h3
  · cases h3
  · rw [if_neg (by decide), if_neg (by decide), if_pos rfl] at h3
    have h4 := of_decide_eq_true h3
    refine ⟨h4.2.1, h4.2.2.1, h4.2.2.2, ?_⟩
    match l, h4.1, h2.1 with
    | [t], _, h => exact ⟨t, rfl, h t (by simp)⟩
theorem rep_ends (s : List UInt8) (t : Tree) (hok : t.ok = true) (lo hi : Int) (h0 : 0 ≤ lo) (h1 : hi = -1 ∨ lo ≤ hi) (f : Nat → Bool) (k : Nat) :
    (repPlain t lo hi).ends s f k = repTo (t.ends s) lo.toNat (mostOf s lo hi + 1) f k := by
  have hmost : lo.toNat ≤ mostOf s lo hi := by
    unfold mostOf
    split <;> omega
  unfold repPlain
  split
  · rename_i hc
    rw [emptyT_ends]
    rw [Bool.or_eq_true, Bool.or_eq_true, Bool.and_eq_true, beq_iff_eq, beq_iff_eq, beq_iff_eq] at hc
    rcases hc with hc | hc | ⟨hc, hl⟩
    · subst hc
      have hl : lo = 0 := by omega
      subst hl
      have e : mostOf s 0 0 = 0 := rfl
      rw [e]
      simp [repTo, iterE]
    · rw [kind0_ends hc, Bool.eq_iff_iff, repTo_iff]
      constructor
      · intro h; exact ⟨lo.toNat, by omega, Nat.le_refl _, by rw [iter_id]; exact h⟩
      · rintro ⟨n, _, _, h⟩; rw [iter_id] at h; exact h
    · subst hl
      rw [Bool.eq_iff_iff, repTo_iff]
      constructor
      · intro h; exact ⟨0, by omega, by simp, h⟩
      · rintro ⟨n, _, _, h⟩
        match n, h with
        | 0, h => exact h
        | n + 1, h =>
          have h' : t.ends s (iterE (t.ends s) n f) k = true := h
          rw [isV_ends hc] at h'; cases h'
  · rename_i hc
    split
    · rename_i hd
      rw [Bool.or_eq_true, Bool.or_eq_true, Bool.and_eq_true, Bool.and_eq_true, Bool.and_eq_true, beq_iff_eq, beq_iff_eq, beq_iff_eq] at hd
      rcases hd with hd | ⟨rfl, rfl⟩ | ⟨⟨hs1, hk4⟩, hs2⟩
      · rw [isV_ends hd]
        symm
        rw [Bool.eq_false_iff]
        intro h
        obtain ⟨n, _, h2, h3⟩ := repTo_iff.1 h
        have hl : ¬ lo = 0 := by
          intro e
          apply hc
          rw [hd, e]; simp
        match n, h2, h3 with
        | 0, h2, _ => omega
        | n + 1, _, h3 =>
          have h' : t.ends s (iterE (t.ends s) n f) k = true := h3
          rw [isV_ends hd] at h'; cases h'
      · have e : mostOf s 1 1 = 1 := rfl
        rw [e, Bool.eq_iff_iff, repTo_iff]
        constructor
        · intro h; exact ⟨1, by omega, by simp, h⟩
        · rintro ⟨n, h1, h2, h⟩
          have : n = 1 := by have : (1 : Int).toNat = 1 := rfl; omega
          subst this
          exact h
      · unfold starB at hs1 hs2
        rw [Bool.and_eq_true, beq_iff_eq, beq_iff_eq] at hs1 hs2
        obtain ⟨rfl, rfl⟩ := hs1
        cases t with
        | node q m l lo' hi' =>
          have hk' : q = 4 := hk4
          subst hk'
          have e1 : lo' = 0 := hs2.1
          have e2 : hi' = -1 := hs2.2
          subst e1 e2
          obtain ⟨_, _, _, u, rfl, hu⟩ := ok4 hok
          have e : mostOf s 0 (-1) + 1 = s.length + 2 := by unfold mostOf; simp
          rw [ends_4 (by decide) (by decide) (by decide) (by decide), e]
          have eh : headEnds s [u] = u.ends s := by rw [headEnds]
          rw [eh]
          exact (star_star s (ends_adds s u) (fun i k h => ends_way hu h) f k).symm
    · rw [ends_4 (by decide) (by decide) (by decide) (by decide)]
      have eh : headEnds s [t] = t.ends s := by rw [headEnds]
      rw [eh]
theorem rep_void (t : Tree) (lo hi : Int) (h0 : 0 ≤ lo) (h1 : hi = -1 ∨ lo ≤ hi) : (repPlain t lo hi).void = (decide (0 < lo) && t.void) := by
  unfold repPlain
  split
  · rename_i hc
    rw [Bool.or_eq_true, Bool.or_eq_true, Bool.and_eq_true, beq_iff_eq, beq_iff_eq, beq_iff_eq] at hc
    have e : emptyT.void = false := void_0 _ _ _ _
    rw [e]
    rcases hc with hc | hc | ⟨hc, hl⟩
    · rw [decide_eq_false (by omega)]; rfl
    · rw [kind0_void hc]; simp
    · rw [decide_eq_false (by omega)]; rfl
  · rename_i hc
    split
    · rename_i hd
      rw [Bool.or_eq_true, Bool.or_eq_true, Bool.and_eq_true, Bool.and_eq_true, Bool.and_eq_true, beq_iff_eq, beq_iff_eq, beq_iff_eq] at hd
      rcases hd with hd | ⟨rfl, rfl⟩ | ⟨⟨hs1, hk4⟩, hs2⟩
      · have hl : ¬ lo = 0 := by
          intro e
          apply hc
          rw [hd, e]; simp
        rw [isV_void hd, decide_eq_true (by omega)]; rfl
      · rw [decide_eq_true (by omega)]; simp
      · unfold starB at hs1 hs2
        rw [Bool.and_eq_true, beq_iff_eq, beq_iff_eq] at hs1 hs2
        cases t with
        | node q m l lo' hi' =>
          have hk' : q = 4 := hk4
          subst hk'
          have e1 : lo' = 0 := hs2.1
          subst e1
          rw [void_4, decide_eq_false (by omega), decide_eq_false (by omega)]
          simp
    · rw [void_4]; rfl

/-! ### the nodes may be -/
theorem okNode0 {n : Nat} {lo hi : Int} {m : Nat → Bool} {k : Int} (h : okNode k m n lo hi = true) (hk : k = 0 ∨ k = 1) : n = 0 ∧ lo = 0 ∧ hi = 0 := by
  unfold okNode at h
  split at h
  · cases h
  · rename_i hc
    have hk4 : (k != 4) = true := by rcases hk with rfl | rfl <;> decide
    rw [hk4] at hc
    simp at hc
    refine ⟨?_, hc.2.1, hc.2.2⟩
    first | exact of_decide_eq_true h | (rw [if_pos hk] at h; exact of_decide_eq_true h)
theorem okNode_kinds {n : Nat} {lo hi : Int} {m : Nat → Bool} {k : Int} (h : okNode k m n lo hi = true) : k = 0 ∨ k = 1 ∨ k = 2 ∨ k = 3 ∨ k = 4 := by
  unfold okNode at h
  split at h
  · cases h
  · split at h
    · omega
    · split at h
      · omega
      · split at h
        · omega
        · cases h
theorem empty_ok : emptyT.ok = true := by unfold emptyT Tree.ok allOk okNode; simp [setEq_refl]
theorem byteT_ok {m : Nat → Bool} : Tree.ok (.node 1 m [] 0 0) = true := by unfold Tree.ok allOk okNode; simp
theorem row_ok {k : Int} (hk : k = 2 ∨ k = 3) {z : Tree} (hz : z.ok = true) : ∀ l : List Tree, (∀ t ∈ l, t.ok = true) → (rowT k z l).ok = true
  | [], _ => hz
  | [t], h => h t (by simp)
  | a :: b :: r, h => by
    rw [rowT_many k _ (by simp)]
    unfold Tree.ok
    rw [allOk_iff.2 h, Bool.true_and]
    unfold okNode
    rcases hk with rfl | rfl <;> simp [setEq_refl]
theorem seg_ok {k : Int} {t : Tree} (h : t.ok = true) : ∀ x ∈ seg k t, x.ok = true := by
  intro x hx
  unfold seg at hx
  split at hx
  · cases t with
    | node q m l lo hi => exact (ok_open h).1 x hx
  · simp at hx; rw [hx]; exact h
theorem flat_ok {k : Int} {l : List Tree} (h : ∀ t ∈ l, t.ok = true) : ∀ x ∈ flatT k l, x.ok = true := by
  intro x hx
  obtain ⟨t, ht, hx⟩ := mem_flat.1 hx
  exact seg_ok (h t ht) x hx
theorem catStay_mem {l : List Tree} {x : Tree} (h : x ∈ catStay l) : x ∈ l := by
  unfold catStay at h
  split at h
  · rename_i t ht
    simp at h; rw [h]; exact List.mem_of_find?_eq_some ht
  · unfold catKeep at h; exact (List.mem_filter.1 h).1
theorem altStay_mem {l : List Tree} {x : Tree} (h : x ∈ altStay l) : ∃ t ∈ l, t.isV = false ∧ x = turnT (unionT l) t := by
  unfold altStay altTold at h
  rcases told_mem l [] h with h1 | h1
  · cases h1
  · exact h1
theorem turn_ok {all : Nat → Bool} {t : Tree} (h : t.ok = true) : (turnT all t).ok = true := by
  unfold turnT
  split
  · exact byteT_ok
  · exact h
theorem altStay_ok {l : List Tree} (h : ∀ t ∈ l, t.ok = true) : ∀ x ∈ altStay l, x.ok = true := by
  intro x hx
  obtain ⟨t, ht, _, rfl⟩ := altStay_mem hx
  exact turn_ok (h t ht)
theorem rep_ok {t : Tree} (h : t.ok = true) {lo hi : Int} (h0 : 0 ≤ lo) (h1 : lo ≤ 64) (h2 : hi = -1 ∨ (lo ≤ hi ∧ hi ≤ 64)) : (repPlain t lo hi).ok = true := by
  unfold repPlain
  split
  · exact empty_ok
  · split
    · exact h
    · unfold Tree.ok
      simp only [allOk, h, Bool.true_and, Bool.and_true]
      unfold okNode
      simp [setEq_refl]
      omega

mutual
theorem plain_ok : ∀ T : Tree, T.ok = true → T.plain.ok = true
  | .node k m l lo hi, h => by
    obtain ⟨h1, h2⟩ := ok_open h
    have hl := plainL_ok l h1
    unfold Tree.plain plainNode
    rcases okNode_kinds h2 with rfl | rfl | rfl | rfl | rfl
    · rw [if_neg (by decide), if_neg (by decide), if_neg (by decide)]
      obtain ⟨hn, rfl, rfl⟩ := okNode0 h2 (.inl rfl)
      have : l = [] := List.eq_nil_of_length_eq_zero hn
      subst this
      exact h
    · rw [if_neg (by decide), if_neg (by decide), if_neg (by decide)]
      exact byteT_ok
    · rw [if_pos rfl]
      exact row_ok (.inl rfl) empty_ok _ (fun x hx => flat_ok hl x (catStay_mem hx))
    · rw [if_neg (by decide), if_pos rfl]
      exact row_ok (.inr rfl) byteT_ok _ (altStay_ok (flat_ok hl))
    · rw [if_neg (by decide), if_neg (by decide), if_pos rfl]
      obtain ⟨g0, g1, g2, t, rfl, _⟩ := ok4 h
      exact rep_ok (hl _ (by simp [plainL])) g0 g1 g2
theorem plainL_ok : ∀ l : List Tree, (∀ t ∈ l, t.ok = true) → ∀ t ∈ plainL l, t.ok = true
  | [], _ => by intro t ht; simp [plainL] at ht
  | a :: r, h => by
    intro t ht
    simp only [plainL, List.mem_cons] at ht
    rcases ht with rfl | ht
    · exact plain_ok a (h a (by simp))
    · exact plainL_ok r (fun u hu => h u (by simp [hu])) t ht
end

/-! ### the texts -/
mutual
theorem plain_ends (s : List UInt8) : ∀ T : Tree, T.ok = true → T.plain.ends s = T.ends s
  | .node k m l lo hi, h => by
    obtain ⟨h1, h2⟩ := ok_open h
    obtain ⟨hc, ha, hh⟩ := plainL_ends s l h1
    unfold Tree.plain plainNode
    rcases okNode_kinds h2 with rfl | rfl | rfl | rfl | rfl
    · rw [if_neg (by decide), if_neg (by decide), if_neg (by decide), ends_0, ends_0]
    · rw [if_neg (by decide), if_neg (by decide), if_neg (by decide), ends_1, ends_1]
    · rw [if_pos rfl, row2_ends, catStay_ends, flat2_ends, hc, ends_2]
    · rw [if_neg (by decide), if_pos rfl, ends_3]
      funext f k
      rw [row3_ends, altStay_ends, flat3_any (fun t => t.ends s f k) (fun t ht => by
        cases t with
        | node q m l lo hi => have h' : q = 3 := ht; subst h'; rw [ends_3, endsAlt_any]; rfl), ← endsAlt_any, ha]
    · rw [if_neg (by decide), if_neg (by decide), if_pos rfl]
      obtain ⟨g0, g1, g2, t, rfl, ht⟩ := ok4 h
      funext f k
      rw [ends_4 (by decide) (by decide) (by decide) (by decide)]
      have e1 : (plainL [t]).headD emptyT = t.plain := by simp [plainL]
      have e2 : headEnds s [t] = t.ends s := by rw [headEnds]
      rw [e1, rep_ends s _ (plain_ok t ht) lo hi g0 (by omega), plain_ends s t ht, e2]
theorem plainL_ends (s : List UInt8) : ∀ l : List Tree, (∀ t ∈ l, t.ok = true) → endsCat s (plainL l) = endsCat s l ∧ endsAlt s (plainL l) = endsAlt s l ∧ headEnds s (plainL l) = headEnds s l
  | [], _ => by simp [plainL]
  | t :: r, h => by
    have h1 := plain_ends s t (h t (by simp))
    obtain ⟨h2, h3, _⟩ := plainL_ends s r (fun u hu => h u (by simp [hu]))
    refine ⟨?_, ?_, ?_⟩
    · funext f; simp only [plainL, endsCat]; rw [h1, h2]
    · funext f; simp only [plainL, endsAlt]; rw [h1, h3]
    · simp only [plainL, headEnds]; rw [h1]
end
mutual
theorem plain_void : ∀ T : Tree, T.ok = true → T.plain.void = T.void
  | .node k m l lo hi, h => by
    obtain ⟨h1, h2⟩ := ok_open h
    obtain ⟨hc, ha, hh⟩ := plainL_void l h1
    unfold Tree.plain plainNode
    rcases okNode_kinds h2 with rfl | rfl | rfl | rfl | rfl
    · rw [if_neg (by decide), if_neg (by decide), if_neg (by decide), void_0, void_0]
    · rw [if_neg (by decide), if_neg (by decide), if_neg (by decide), void_1, void_1]
    · rw [if_pos rfl, row2_void, catStay_void, flat2_void, hc, void_2]
    · rw [if_neg (by decide), if_pos rfl, row3_void, altStay_void, flat3_void, ha, void_3]
    · rw [if_neg (by decide), if_neg (by decide), if_pos rfl]
      obtain ⟨g0, g1, g2, t, rfl, ht⟩ := ok4 h
      have e1 : (plainL [t]).headD emptyT = t.plain := by simp [plainL]
      rw [e1, rep_void _ lo hi g0 (by omega), plain_void t ht, void_4]
      rfl
theorem plainL_void : ∀ l : List Tree, (∀ t ∈ l, t.ok = true) → anyVoid (plainL l) = anyVoid l ∧ allVoid (plainL l) = allVoid l ∧ headVoid (plainL l) = headVoid l
  | [], _ => by simp [plainL]
  | t :: r, h => by
    have h1 := plain_void t (h t (by simp))
    obtain ⟨h2, h3, _⟩ := plainL_void r (fun u hu => h u (by simp [hu]))
    simp only [plainL, anyVoid, allVoid, headVoid, h1, h2, h3]
    trivial
end
theorem plain_takes (s : List UInt8) (T : Tree) (h : T.ok = true) : T.plain.takes s = T.takes s := by unfold Tree.takes; rw [plain_ends s T h]

/-! ### how deep -/
theorem deepL_iff {n : Nat} : ∀ {l : List Tree}, deepL l ≤ n ↔ ∀ t ∈ l, t.deepN ≤ n
  | [] => by simp [deepL]
  | a :: r => by simp only [deepL, List.mem_cons, forall_eq_or_imp, Nat.max_le, deepL_iff (l := r)]
theorem deep_pos (t : Tree) : 1 ≤ t.deepN := by cases t; simp [Tree.deepN]
theorem row_deep {k : Int} {z : Tree} (hz : z.deepN ≤ 1) {n : Nat} : ∀ l : List Tree, (∀ t ∈ l, t.deepN ≤ n) → (rowT k z l).deepN ≤ n + 1
  | [], _ => by show z.deepN ≤ _; omega
  | [t], h => by show t.deepN ≤ _; have := h t (by simp); omega
  | a :: b :: r, h => by
    rw [rowT_many k _ (by simp)]
    have := deepL_iff.2 h
    simp only [Tree.deepN]; omega
theorem seg_deep {k : Int} {t : Tree} {n : Nat} (h : t.deepN ≤ n) : ∀ x ∈ seg k t, x.deepN ≤ n := by
  intro x hx
  unfold seg at hx
  split at hx
  · cases t with
    | node q m l lo hi =>
      simp only [Tree.deepN] at h
      have := deepL_iff.1 (Nat.le_refl (deepL l)) x hx
      omega
  · simp at hx; rw [hx]; exact h
theorem flat_deep {k : Int} {l : List Tree} {n : Nat} (h : ∀ t ∈ l, t.deepN ≤ n) : ∀ x ∈ flatT k l, x.deepN ≤ n := by
  intro x hx
  obtain ⟨t, ht, hx⟩ := mem_flat.1 hx
  exact seg_deep (h t ht) x hx
theorem turn_deep {all : Nat → Bool} {t : Tree} : (turnT all t).deepN ≤ t.deepN := by
  have := deep_pos t
  unfold turnT
  split
  · simp only [Tree.deepN, deepL]; omega
  · exact Nat.le_refl _
mutual
theorem plain_deep : ∀ T : Tree, T.reps = true → T.plain.deepN ≤ T.deepN
  | .node k m l lo hi, h => by
    simp only [Tree.reps, Bool.and_eq_true] at h
    have hl := plainL_deep l h.2
    unfold Tree.plain plainNode
    simp only [Tree.deepN]
    split
    · exact row_deep (by simp [emptyT, Tree.deepN, deepL]) _ (fun x hx => flat_deep hl x (catStay_mem hx))
    · split
      · refine row_deep (by simp [voidT, Tree.deepN, deepL]) _ (fun x hx => ?_)
        obtain ⟨t, ht, _, rfl⟩ := altStay_mem hx
        exact Nat.le_trans turn_deep (flat_deep hl t ht)
      · split
        · rename_i hk
          subst hk
          have hne : l ≠ [] := by simpa using h.1
          cases l with
          | nil => exact absurd rfl hne
          | cons t r =>
            have h1 := hl t.plain (by simp [plainL])
            have e1 : (plainL (t :: r)).headD emptyT = t.plain := by simp [plainL]
            rw [e1]
            unfold repPlain
            split
            · simp [emptyT, Tree.deepN, deepL]
            · split
              · simp only [deepL] at h1 ⊢; omega
              · simp only [Tree.deepN, deepL] at h1 ⊢; omega
        · simp [Tree.deepN, deepL]
theorem plainL_deep : ∀ l : List Tree, repsL l = true → ∀ t ∈ plainL l, t.deepN ≤ deepL l
  | [], _ => by intro t ht; simp [plainL] at ht
  | a :: r, h => by
    intro t ht
    simp only [repsL, Bool.and_eq_true] at h
    simp only [plainL, List.mem_cons] at ht
    simp only [deepL]
    rcases ht with rfl | ht
    · have := plain_deep a h.1; omega
    · have := plainL_deep r h.2 t ht; omega
end
end Go.Proofs.YtkladjjeacjgpaaDoor

/-
  A PLAIN TREE IS PLAIN: made plain once more it is itself. Condition: the tree's nodes may be. No program.
-/
namespace Go.Proofs.YtkladjjeacjgpaaDoor

/-- of which no two are alike -/
def apartT : List Tree → Prop
  | [] => True
  | t :: r => (∀ u ∈ r, t.same u = false) ∧ apartT r
def plNode (k : Int) (m : Nat → Bool) (l : List Tree) (lo hi : Int) : Prop :=
  ((k = 0 ∨ k = 1) ∧ l = [] ∧ lo = 0 ∧ hi = 0) ∨
  (k = 2 ∧ m = (fun _ => false) ∧ lo = 0 ∧ hi = 0 ∧ 2 ≤ l.length ∧ ∀ t ∈ l, t.kind ≠ 2 ∧ t.kind ≠ 0 ∧ t.isV = false) ∨
  (k = 3 ∧ m = (fun _ => false) ∧ lo = 0 ∧ hi = 0 ∧ 2 ≤ l.length ∧ (∀ t ∈ l, t.kind ≠ 3 ∧ t.isV = false) ∧ apartT l ∧ ∃ all, ∀ t ∈ l, t.kind = 1 → t.set = all) ∨
  (k = 4 ∧ m = (fun _ => false) ∧ ∃ t, l = [t] ∧ repPlain t lo hi = .node 4 (fun _ => false) [t] lo hi)
/- plain, through and through -/
mutual
def Tree.pl : Tree → Prop
  | .node k m l lo hi => plNode k m l lo hi ∧ allPl l
def allPl : List Tree → Prop
  | [] => True
  | t :: r => t.pl ∧ allPl r
end
theorem allPl_iff : ∀ {l : List Tree}, allPl l ↔ ∀ t ∈ l, t.pl
  | [] => by simp [allPl]
  | a :: r => by simp only [allPl, List.mem_cons, forall_eq_or_imp, allPl_iff (l := r)]
theorem pl_empty : emptyT.pl := ⟨.inl ⟨.inl rfl, rfl, rfl, rfl⟩, trivial⟩
theorem pl_byte {m : Nat → Bool} : Tree.pl (.node 1 m [] 0 0) := ⟨.inl ⟨.inr rfl, rfl, rfl, rfl⟩, trivial⟩
theorem pl_sub {t : Tree} (h : t.pl) : ∀ x ∈ t.sub, x.pl := by
  cases t with
  | node q m l lo hi => exact allPl_iff.1 h.2
theorem pl_2 {t : Tree} (h : t.pl) (hk : t.kind = 2) : ∀ x ∈ t.sub, x.kind ≠ 2 ∧ x.kind ≠ 0 ∧ x.isV = false := by
  cases t with
  | node q m l lo hi =>
    have h' : q = 2 := hk
    subst h'
    rcases h.1 with ⟨h1, _⟩ | ⟨_, _, _, _, _, h2⟩ | ⟨h1, _⟩ | ⟨h1, _⟩
    · omega
    · exact h2
    · exact absurd h1 (by decide)
    · exact absurd h1 (by decide)
theorem pl_3 {t : Tree} (h : t.pl) (hk : t.kind = 3) : ∀ x ∈ t.sub, x.kind ≠ 3 ∧ x.isV = false := by
  cases t with
  | node q m l lo hi =>
    have h' : q = 3 := hk
    subst h'
    rcases h.1 with ⟨h1, _⟩ | ⟨h1, _⟩ | ⟨_, _, _, _, _, h2, _⟩ | ⟨h1, _⟩
    · omega
    · exact absurd h1 (by decide)
    · exact h2
    · exact absurd h1 (by decide)
theorem seg_pl {k : Int} {t : Tree} (h : t.pl) : ∀ x ∈ seg k t, x.pl := by
  intro x hx
  unfold seg at hx
  split at hx
  · exact pl_sub h x hx
  · simp at hx; rw [hx]; exact h
theorem flat_pl {k : Int} {l : List Tree} (h : ∀ t ∈ l, t.pl) : ∀ x ∈ flatT k l, x.pl := by
  intro x hx
  obtain ⟨t, ht, hx⟩ := mem_flat.1 hx
  exact seg_pl (h t ht) x hx
theorem flat2_kind {l : List Tree} (h : ∀ t ∈ l, t.pl) : ∀ x ∈ flatT 2 l, x.kind ≠ 2 := by
  intro x hx
  obtain ⟨t, ht, hx⟩ := mem_flat.1 hx
  unfold seg at hx
  split at hx
  · rename_i hk; exact (pl_2 (h t ht) hk x hx).1
  · rename_i hk; simp at hx; rw [hx]; exact hk
theorem flat3_kind {l : List Tree} (h : ∀ t ∈ l, t.pl) : ∀ x ∈ flatT 3 l, x.kind ≠ 3 := by
  intro x hx
  obtain ⟨t, ht, hx⟩ := mem_flat.1 hx
  unfold seg at hx
  split at hx
  · rename_i hk; exact (pl_3 (h t ht) hk x hx).1
  · rename_i hk; simp at hx; rw [hx]; exact hk
theorem cat_pl {l : List Tree} (h : ∀ t ∈ l, t.pl) (hk : ∀ t ∈ l, t.kind ≠ 2) : (rowT 2 emptyT (catStay l)).pl := by
  unfold catStay
  split
  · rename_i t ht
    exact h t (List.mem_of_find?_eq_some ht)
  · rename_i hn
    have hv : ∀ t ∈ l, t.isV = false := fun t ht => by simpa using List.find?_eq_none.1 hn t ht
    have h' : ∀ t ∈ catKeep l, t.pl ∧ (t.kind ≠ 2 ∧ t.kind ≠ 0 ∧ t.isV = false) := fun t ht => by
      unfold catKeep at ht
      obtain ⟨h1, h2⟩ := List.mem_filter.1 ht
      exact ⟨h t h1, hk t h1, by simpa using h2, hv t h1⟩
    match catKeep l, h' with
    | [], _ => exact pl_empty
    | [t], h' => exact (h' t (by simp)).1
    | a :: b :: r, h' =>
      rw [rowT_many 2 _ (by simp)]
      exact ⟨.inr (.inl ⟨rfl, rfl, rfl, rfl, by simp, fun t ht => (h' t ht).2⟩), allPl_iff.2 fun t ht => (h' t ht).1⟩
theorem apart_app : ∀ (l : List Tree) (x : Tree), apartT l → (∀ t ∈ l, t.same x = false) → apartT (l ++ [x])
  | [], x, _, _ => by simp [apartT]
  | a :: r, x, h, hx => by
    rw [List.cons_append]
    refine ⟨fun u hu => ?_, apart_app r x h.2 (fun t ht => hx t (by simp [ht]))⟩
    rcases List.mem_append.1 hu with hu | hu
    · exact h.1 u hu
    · simp at hu; rw [hu]; exact hx a (by simp)
theorem told_apart {all : Nat → Bool} : ∀ (l told : List Tree), apartT told → apartT (l.foldl (altStep all) told)
  | [], told, h => h
  | t :: r, told, h => by
    rw [List.foldl_cons]
    refine told_apart r _ ?_
    unfold altStep
    split
    · exact h
    · split
      · exact h
      · rename_i hs
        exact apart_app told _ h (fun u hu => by
          have := List.any_eq_false.1 (by simpa using hs) u hu
          simpa using this)
theorem turn_kind {all : Nat → Bool} {t : Tree} : (turnT all t).kind = t.kind := by
  unfold turnT
  split
  · rename_i h; rw [beq_iff_eq] at h; rw [h]; rfl
  · rfl
theorem turn_set {all : Nat → Bool} {t : Tree} (h : t.kind = 1) : (turnT all t).set = all := by
  unfold turnT
  rw [if_pos (by simpa using h)]; rfl
theorem turn_pl {all : Nat → Bool} {t : Tree} (h : t.pl) : (turnT all t).pl := by
  unfold turnT
  split
  · exact pl_byte
  · exact h
theorem alt_pl {l : List Tree} (h : ∀ t ∈ l, t.pl) (hk : ∀ t ∈ l, t.kind ≠ 3) : (rowT 3 voidT (altStay l)).pl := by
  have ha : apartT (altStay l) := told_apart l [] trivial
  have h' : ∀ t ∈ altStay l, t.pl ∧ (t.kind ≠ 3 ∧ t.isV = false) ∧ (t.kind = 1 → t.set = unionT l) := fun x hx => by
    obtain ⟨t, ht, hv, rfl⟩ := altStay_mem hx
    exact ⟨turn_pl (h t ht), ⟨by rw [turn_kind]; exact hk t ht, turn_live ht hv⟩, fun h1 => turn_set (by rw [turn_kind] at h1; exact h1)⟩
  generalize unionT l = all at h'
  match altStay l, ha, h' with
  | [], _, _ => exact pl_byte
  | [t], _, h' => exact (h' t (by simp)).1
  | a :: b :: r, ha, h' =>
    rw [rowT_many 3 _ (by simp)]
    exact ⟨.inr (.inr (.inl ⟨rfl, rfl, rfl, rfl, by simp, fun t ht => (h' t ht).2.1, ha, all, fun t ht => (h' t ht).2.2⟩)), allPl_iff.2 fun t ht => (h' t ht).1⟩
theorem rep_pl {t : Tree} (h : t.pl) (lo hi : Int) : (repPlain t lo hi).pl := by
  by_cases h1 : ((hi == 0) || ((t.kind == 0) || (t.isV && (lo == 0)))) = true
  · have : repPlain t lo hi = emptyT := by unfold repPlain; rw [if_pos h1]
    rw [this]; exact pl_empty
  · by_cases h2 : (t.isV || (((lo == 1) && (hi == 1)) || ((starB lo hi && (t.kind == 4)) && starB t.lo t.hi))) = true
    · have : repPlain t lo hi = t := by unfold repPlain; rw [if_neg h1, if_pos h2]
      rw [this]; exact h
    · have : repPlain t lo hi = .node 4 (fun _ => false) [t] lo hi := by unfold repPlain; rw [if_neg h1, if_neg h2]
      rw [this]
      exact ⟨.inr (.inr (.inr ⟨rfl, rfl, t, rfl, this⟩)), h, trivial⟩

mutual
theorem plain_pl : ∀ T : Tree, T.ok = true → T.plain.pl
  | .node k m l lo hi, h => by
    obtain ⟨h1, h2⟩ := ok_open h
    have hl := plainL_pl l h1
    unfold Tree.plain plainNode
    rcases okNode_kinds h2 with rfl | rfl | rfl | rfl | rfl
    · rw [if_neg (by decide), if_neg (by decide), if_neg (by decide)]
      obtain ⟨hn, rfl, rfl⟩ := okNode0 h2 (.inl rfl)
      exact ⟨.inl ⟨.inl rfl, rfl, rfl, rfl⟩, trivial⟩
    · rw [if_neg (by decide), if_neg (by decide), if_neg (by decide)]
      exact pl_byte
    · rw [if_pos rfl]
      exact cat_pl (flat_pl hl) (flat2_kind hl)
    · rw [if_neg (by decide), if_pos rfl]
      exact alt_pl (flat_pl hl) (flat3_kind hl)
    · rw [if_neg (by decide), if_neg (by decide), if_pos rfl]
      obtain ⟨g0, g1, g2, t, rfl, _⟩ := ok4 h
      exact rep_pl (hl _ (by simp [plainL])) lo hi
theorem plainL_pl : ∀ l : List Tree, (∀ t ∈ l, t.ok = true) → ∀ t ∈ plainL l, t.pl
  | [], _ => by intro t ht; simp [plainL] at ht
  | a :: r, h => by
    intro t ht
    simp only [plainL, List.mem_cons] at ht
    rcases ht with rfl | ht
    · exact plain_pl a (h a (by simp))
    · exact plainL_pl r (fun u hu => h u (by simp [hu])) t ht
end

/-! ### and then it is itself -/
theorem flat_id {k : Int} : ∀ l : List Tree, (∀ t ∈ l, t.kind ≠ k) → flatT k l = l
  | [], _ => rfl
  | t :: r, h => by
    have e : flatT k (t :: r) = seg k t ++ flatT k r := rfl
    rw [e, flat_id r (fun u hu => h u (by simp [hu]))]
    unfold seg
    rw [if_neg (h t (by simp))]
    rfl
theorem catStay_id {l : List Tree} (h : ∀ t ∈ l, t.kind ≠ 0 ∧ t.isV = false) : catStay l = l := by
  rw [catStay_none (fun t ht => (h t ht).2)]
  unfold catKeep
  exact List.filter_eq_self.2 fun t ht => by simpa using (h t ht).1
theorem union_all {all : Nat → Bool} : ∀ (l : List Tree) (m0 : Nat → Bool), (∀ t ∈ l, t.kind = 1 → t.set = all) → (m0 = (fun _ => false) ∨ m0 = all) → (∃ t ∈ l, t.kind = 1) ∨ m0 = all →
    l.foldl (fun m t => if t.kind == 1 then sOr m t.set else m) m0 = all
  | [], m0, _, _, h3 => by
    rcases h3 with ⟨t, ht, _⟩ | h3
    · cases ht
    · exact h3
  | a :: r, m0, h1, h2, h3 => by
    rw [List.foldl_cons]
    by_cases hk : a.kind = 1
    · rw [if_pos (by simpa using hk), h1 a (by simp) hk]
      have e : sOr m0 all = all := by
        rcases h2 with rfl | rfl
        · funext b; simp [sOr]
        · funext b; simp [sOr]
      rw [e]
      exact union_all r all (fun t ht => h1 t (by simp [ht])) (.inr rfl) (.inr rfl)
    · rw [if_neg (by simpa using hk)]
      refine union_all r m0 (fun t ht => h1 t (by simp [ht])) h2 ?_
      rcases h3 with ⟨t, ht, h4⟩ | h3
      · rcases List.mem_cons.1 ht with rfl | ht
        · exact absurd h4 hk
        · exact .inl ⟨t, ht, h4⟩
      · exact .inr h3
theorem told_id {all : Nat → Bool} : ∀ (l told : List Tree), (∀ t ∈ l, t.isV = false ∧ turnT all t = t) → apartT (told ++ l) → l.foldl (altStep all) told = told ++ l
  | [], told, _, _ => by simp
  | t :: r, told, h, ha => by
    have h0 := h t (by simp)
    have hs : ∀ u ∈ told, u.same t = false := by
      clear h h0
      induction told with
      | nil => intro u hu; cases hu
      | cons a told ih =>
        intro u hu
        rw [List.cons_append] at ha
        rcases List.mem_cons.1 hu with rfl | hu
        · exact ha.1 t (by simp)
        · exact ih ha.2 u hu
    rw [List.foldl_cons]
    have e : altStep all told t = told ++ [t] := by
      unfold altStep
      rw [if_neg (by rw [h0.1]; simp), h0.2, if_neg]
      intro h1
      obtain ⟨u, hu, h2⟩ := List.any_eq_true.1 h1
      rw [hs u hu] at h2; cases h2
    rw [e, told_id r _ (fun u hu => h u (by simp [hu])) (by rw [List.append_assoc]; exact ha), List.append_assoc]
    rfl
theorem turn_id {all : Nat → Bool} {t : Tree} (h : t.pl) (hs : t.kind = 1 → t.set = all) : turnT all t = t := by
  unfold turnT
  split
  · rename_i hk
    rw [beq_iff_eq] at hk
    have hs := hs hk
    cases t with
    | node q m l lo hi =>
      have h' : q = 1 := hk
      subst h'
      have e : m = all := hs
      subst e
      rcases h.1 with ⟨_, rfl, rfl, rfl⟩ | ⟨h1, _⟩ | ⟨h1, _⟩ | ⟨h1, _⟩
      · rfl
      · exact absurd h1 (by decide)
      · exact absurd h1 (by decide)
      · exact absurd h1 (by decide)
  · rfl
mutual
theorem pl_plain : ∀ T : Tree, T.pl → T.plain = T
  | .node k m l lo hi, h => by
    have hl := plL_plain l h.2
    unfold Tree.plain plainNode
    rw [hl]
    rcases h.1 with ⟨h1, rfl, rfl, rfl⟩ | ⟨rfl, rfl, rfl, rfl, hn, h2⟩ | ⟨rfl, rfl, rfl, rfl, hn, h2, ha, all, hs⟩ | ⟨rfl, rfl, t, rfl, h2⟩
    · rcases h1 with rfl | rfl <;> (rw [if_neg (by decide), if_neg (by decide), if_neg (by decide)])
    · rw [if_pos rfl, flat_id l (fun t ht => (h2 t ht).1), catStay_id (fun t ht => (h2 t ht).2), rowT_many 2 _ hn]
    · rw [if_neg (by decide), if_pos rfl, flat_id l (fun t ht => (h2 t ht).1)]
      have e : altStay l = l := by
        unfold altStay altTold
        have hpl := allPl_iff.1 h.2
        by_cases hb : ∃ t ∈ l, t.kind = 1
        · have hu : unionT l = all := union_all l _ hs (.inl rfl) (.inl hb)
          rw [hu]
          exact told_id l [] (fun t ht => ⟨(h2 t ht).2, turn_id (hpl t ht) (hs t ht)⟩) ha
        · exact told_id l [] (fun t ht => ⟨(h2 t ht).2, turn_id (hpl t ht) (fun hk => absurd ⟨t, ht, hk⟩ hb)⟩) ha
      rw [e, rowT_many 3 _ hn]
    · rw [if_neg (by decide), if_neg (by decide), if_pos rfl]
      exact h2
theorem plL_plain : ∀ l : List Tree, allPl l → plainL l = l
  | [], _ => rfl
  | t :: r, h => by
    simp only [plainL]
    rw [pl_plain t h.1, plL_plain r h.2]
end
/-- A PLAIN TREE IS PLAIN -/
theorem plain_plain (T : Tree) (h : T.ok = true) : T.plain.plain = T.plain := pl_plain _ (plain_pl T h)
theorem plain_mayN (T : Tree) (h : T.mayN = true) : T.plain.mayN = true := by
  obtain ⟨h1, h2, h3⟩ := mayN_ok h
  have hr := ok_reps T h1
  have g1 := plain_nodes T hr
  have g2 := plain_deep T hr
  unfold Tree.mayN
  rw [plain_ok T h1, decide_eq_true (by omega), decide_eq_true (by omega)]
  rfl
end Go.Proofs.YtkladjjeacjgpaaDoor

/-
  A ReAlt MADE PLAINER as hackleref07's Norm does it, Sub by Sub, is what altStay says: pure facts.
-/
namespace Go.Proofs.YtkladjjeacjgpaaDoor
open Go.RowKit

def addS (m : Nat → Bool) (t : Tree) : Tree := if t.kind == 1 then .node 1 (sOr t.set m) [] 0 0 else t
def stepN (out : List Tree) (x : Tree) : List Tree :=
  if x.isV then out else if x.kind == 1 then (if out.any (fun t => t.kind == 1) then out.map (addS x.set) else out ++ [x]) else if out.any (fun t => t.same x) then out else out ++ [x]
def uniV (l : List Tree) : Nat → Bool := l.foldl (fun m t => if t.kind == 1 && !t.isV then sOr m t.set else m) (fun _ => false)
theorem uniV_snoc (l : List Tree) (x : Tree) : uniV (l ++ [x]) = if x.kind == 1 && !x.isV then sOr (uniV l) x.set else uniV l := by unfold uniV; rw [List.foldl_append]; rfl
theorem told_snoc (u : Nat → Bool) (l : List Tree) (x : Tree) : altTold u (l ++ [x]) = altStep u (altTold u l) x := by unfold altTold; rw [List.foldl_append]; rfl
theorem turn_one {u : Nat → Bool} {t : Tree} (h : t.kind = 1) : turnT u t = .node 1 u [] 0 0 := by unfold turnT; rw [if_pos (by simpa using h)]
theorem turn_else {u : Nat → Bool} {t : Tree} (h : t.kind ≠ 1) : turnT u t = t := by unfold turnT; rw [if_neg (by simpa using h)]
theorem told_one {u : Nat → Bool} {l : List Tree} {t : Tree} (h : t ∈ altTold u l) (hk : t.kind = 1) : t = .node 1 u [] 0 0 := by
  unfold altTold at h
  rcases told_mem l [] h with h | ⟨x, _, _, rfl⟩
  · cases h
  · rw [turn_kind] at hk
    exact turn_one hk
theorem same_kind {t x : Tree} (h : t.same x = true) : t.kind = x.kind := by
  rw [same_node] at h
  unfold nodeEqB at h
  simp only [Bool.and_eq_true] at h
  simpa using h.1.1
theorem same_not {t x : Tree} (h : t.kind ≠ x.kind) : t.same x = false := by
  rw [Bool.eq_false_iff]; intro h2; exact h (same_kind h2)
theorem turn_same {u u' : Nat → Bool} {t x : Tree} (ht : t.kind = 1 → t = .node 1 u [] 0 0) : (turnT u' t).same (turnT u' x) = t.same (turnT u x) := by
  by_cases h1 : t.kind = 1
  · by_cases h2 : x.kind = 1
    · rw [turn_one h1, turn_one h2, turn_one h2, ht h1, same_refl, same_refl]
    · rw [turn_one h1, turn_else h2, turn_else h2, same_not (by intro e; exact h2 (e ▸ rfl)), same_not (by intro e; exact h2 (e ▸ h1))]
  · by_cases h2 : x.kind = 1
    · rw [turn_else h1, turn_one h2, turn_one h2, same_not (by intro e; exact h1 e), same_not (by intro e; exact h1 e)]
    · rw [turn_else h1, turn_else h2, turn_else h2]
theorem turn_turn {u u' : Nat → Bool} {t : Tree} : turnT u' (turnT u t) = turnT u' t := by
  by_cases h : t.kind = 1
  · rw [turn_one h, turn_one h, turn_one rfl]
  · rw [turn_else (u := u) h]
theorem any_congr {α : Type} {p q : α → Bool} : ∀ {l : List α}, (∀ t ∈ l, p t = q t) → l.any p = l.any q
  | [], _ => rfl
  | a :: l, h => by rw [List.any_cons, List.any_cons, h a (by simp), any_congr (fun t ht => h t (by simp [ht]))]
theorem snoc_rec {p : List Tree → Prop} (h0 : p []) (h1 : ∀ l x, p l → p (l ++ [x])) (l : List Tree) : p l := by
  have : ∀ n, n ≤ l.length → p (l.take n) := by
    intro n
    induction n with
    | zero => intro _; simpa using h0
    | succ n ih =>
      intro h
      rw [List.take_succ_eq_append_getElem (by omega)]
      exact h1 _ _ (ih (by omega))
  have := this l.length (Nat.le_refl _)
  rwa [List.take_length] at this
theorem told_chg (u u' : Nat → Bool) (l : List Tree) : altTold u' l = (altTold u l).map (turnT u') := by
  induction l using snoc_rec with
  | h0 => rfl
  | h1 l x ih =>
    rw [told_snoc, told_snoc, ih]
    unfold altStep
    by_cases hv : x.isV = true
    · rw [if_pos hv, if_pos hv]
    · rw [if_neg hv, if_neg hv]
      have e : (((altTold u l).map (turnT u')).any fun t => t.same (turnT u' x)) = (altTold u l).any fun t => t.same (turnT u x) := by
        rw [List.any_map]
        exact any_congr fun t ht => turn_same (told_one ht)
      rw [e]
      split
      · rfl
      · rw [List.map_append, List.map_singleton, turn_turn]
theorem told_kinds {u : Nat → Bool} {l : List Tree} (h : ((altTold u l).any fun t => t.kind == 1) = false) : ∀ t ∈ l, (t.kind == 1 && !t.isV) = false := fun t ht => by
  rw [Bool.eq_false_iff]
  intro hc
  rw [Bool.and_eq_true] at hc
  obtain ⟨x, hx, hs⟩ := told_has (all := u) l [] ht (by simpa using hc.2)
  have h1 := same_kind hs
  rw [turn_kind] at h1
  have : ((altTold u l).any fun t => t.kind == 1) = true := List.any_eq_true.2 ⟨x, hx, by rw [h1]; exact hc.1⟩
  rw [h] at this; cases this
theorem uniV_none {l : List Tree} (h : ∀ t ∈ l, (t.kind == 1 && !t.isV) = false) : uniV l = fun _ => false := by
  induction l using snoc_rec with
  | h0 => rfl
  | h1 l x ih => rw [uniV_snoc, h x (by simp), if_neg (by simp)]; exact ih fun t ht => h t (by simp [ht])
theorem sOr_none (m : Nat → Bool) : sOr (fun _ => false) m = m := by funext b; unfold sOr; simp
/-- the loop's row is what altTold says of the bytes so far -/
theorem stepN_told (l : List Tree) (hok : ∀ t ∈ l, t.kind = 1 → t = .node 1 t.set [] 0 0) : l.foldl stepN [] = altTold (uniV l) l := by
  induction l using snoc_rec with
  | h0 => rfl
  | h1 l x ih =>
    rw [List.foldl_append, ih fun t ht => hok t (by simp [ht]), List.foldl_cons, List.foldl_nil, told_snoc]
    unfold stepN
    by_cases hv : x.isV = true
    · have hu1 : uniV (l ++ [x]) = uniV l := by rw [uniV_snoc, if_neg (by simp [hv])]
      rw [if_pos hv, hu1]
      unfold altStep
      rw [if_pos hv]
    · rw [if_neg hv]
      by_cases hk : x.kind = 1
      · have hkb : (x.kind == 1) = true := by simpa using hk
        have hvb : x.isV = false := by simpa using hv
        have hu1 : uniV (l ++ [x]) = sOr (uniV l) x.set := by rw [uniV_snoc, hkb, hvb]; rfl
        rw [if_pos hkb, hu1]
        rw [told_chg (uniV l) (sOr (uniV l) x.set) l]
        unfold altStep
        rw [if_neg hv]
        by_cases ha : ((altTold (uniV l) l).any fun t => t.kind == 1) = true
        · rw [if_pos ha, if_pos ?_]
          · apply List.map_congr_left
            intro t ht
            unfold addS
            by_cases h1 : t.kind = 1
            · rw [if_pos (by simpa using h1), turn_one h1, told_one ht h1]; rfl
            · rw [if_neg (by simpa using h1), turn_else h1]
          · obtain ⟨t, ht, h1⟩ := List.any_eq_true.1 ha
            have h1' : t.kind = 1 := by simpa using h1
            refine List.any_eq_true.2 ⟨turnT (sOr (uniV l) x.set) t, List.mem_map.2 ⟨t, ht, rfl⟩, ?_⟩
            rw [turn_one h1', turn_one hk, same_refl]
        · have ha' : ((altTold (uniV l) l).any fun t => t.kind == 1) = false := by simpa using ha
          have hu := uniV_none (told_kinds ha')
          rw [if_neg ha, hu, sOr_none]
          have hmap : (altTold (fun _ => false) l).map (turnT x.set) = altTold (fun _ => false) l := by
            conv => rhs; rw [← List.map_id (altTold (fun _ => false) l)]
            apply List.map_congr_left
            intro t ht
            rw [hu] at ha'
            have : ¬ t.kind = 1 := fun e => by
              have := List.any_eq_false.1 ha' t ht
              simp [e] at this
            exact turn_else this
          rw [hmap, if_neg ?_, turn_one hk, ← hok x (by simp) hk]
          intro h
          obtain ⟨t, ht, hs⟩ := List.any_eq_true.1 h
          have h1 := same_kind hs
          rw [turn_kind, hk] at h1
          rw [hu] at ha'
          have := List.any_eq_false.1 ha' t ht
          simp [h1] at this
      · have hkb : (x.kind == 1) = false := by simpa using hk
        have hu1 : uniV (l ++ [x]) = uniV l := by rw [uniV_snoc, hkb]; rfl
        rw [hkb, if_neg (by decide), hu1]
        unfold altStep
        rw [if_neg hv, turn_else hk]
theorem uniV_union {l : List Tree} {b : Nat} (hb : b < 256) : uniV l b = unionT l b := by
  induction l using snoc_rec with
  | h0 => rfl
  | h1 l x ih =>
    have e : unionT (l ++ [x]) = if x.kind == 1 then sOr (unionT l) x.set else unionT l := by unfold unionT; rw [List.foldl_append]; rfl
    rw [uniV_snoc, e]
    by_cases hk : x.kind = 1
    · rw [if_pos (c := (x.kind == 1) = true) (by simpa using hk)]
      by_cases hv : x.isV = true
      · rw [if_neg (by simp [hv])]
        have h2 := (isV_iff.1 hv).2 b hb
        unfold sOr
        rw [h2, ih]; simp
      · rw [if_pos (by simp [hk, hv])]
        unfold sOr
        rw [ih]
    · rw [if_neg (by simp [hk]), if_neg (by simp [hk]), ih]
theorem at_turn {W : World} {v : Value} {t : Tree} {u m : Nat → Bool} (h : t.At W v) (ht : t.kind = 1 → t = .node 1 u [] 0 0) (hu : ∀ b, b < 256 → u b = m b) : (turnT m t).At W v := by
  by_cases hk : t.kind = 1
  · rw [turn_one hk]
    rw [ht hk] at h
    have hw : ∀ i, i < 4 → wd u i = wd m i := fun i hi => wd_congr fun j hj => hu _ (by omega)
    unfold Tree.At at h ⊢
    obtain ⟨A, c, rfl, hc, hs⟩ := h
    refine ⟨A, c, ?_, hc, hs⟩
    unfold reV reL
    rw [hw 0 (by decide), hw 1 (by decide), hw 2 (by decide), hw 3 (by decide)]
  · rw [turn_else hk]; exact h
end Go.Proofs.YtkladjjeacjgpaaDoor

