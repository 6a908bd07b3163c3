/-
  WITH WHICH BYTES A TREE's TEXTS BEGIN AND END: what is said of no program: the places of Ends against whether a tree has the empty text, no text, and its first and last bytes. Condition: each node of the tree may be.
-/
import Derived.Test.YtfodpkciahkehaaBegins
namespace Go.Proofs.Ytfodpkciahkehaa

mutual
/-- the empty text is one of its -/
def Tree.empty : Tree → Bool
  | .node k _ l lo _ => if k = 0 then true else if k = 1 then false else if k = 2 then allEmpty l else if k = 3 then anyEmpty l else (decide (lo ≤ 0) || headEmpty l)
def allEmpty : List Tree → Bool
  | [] => true
  | t :: r => t.empty && allEmpty r
def anyEmpty : List Tree → Bool
  | [] => false
  | t :: r => t.empty || anyEmpty r
def headEmpty : List Tree → Bool
  | [] => false
  | t :: _ => t.empty
end
mutual
/-- a text of its begins with b -/
def Tree.first (b : Nat) : Tree → Bool
  | .node k m l _ hi => if k = 0 then false else if k = 1 then m b else if k = 2 then (!anyVoid l && firstCat b l) else if k = 3 then firstAlt b l else (decide (hi ≠ 0) && headFirst b l)
def firstCat (b : Nat) : List Tree → Bool
  | [] => false
  | t :: r => t.first b || (t.empty && firstCat b r)
def firstAlt (b : Nat) : List Tree → Bool
  | [] => false
  | t :: r => t.first b || firstAlt b r
def headFirst (b : Nat) : List Tree → Bool
  | [] => false
  | t :: _ => t.first b
end
mutual
/-- a text of its ends with b -/
def Tree.last (b : Nat) : Tree → Bool
  | .node k m l _ hi => if k = 0 then false else if k = 1 then m b else if k = 2 then (!anyVoid l && lastCat b l) else if k = 3 then lastAlt b l else (decide (hi ≠ 0) && headLast b l)
def lastCat (b : Nat) : List Tree → Bool
  | [] => false
  | t :: r => lastCat b r || (allEmpty r && t.last b)
def lastAlt (b : Nat) : List Tree → Bool
  | [] => false
  | t :: r => t.last b || lastAlt b r
def headLast (b : Nat) : List Tree → Bool
  | [] => false
  | t :: _ => t.last b
end

section
variable (b : Nat) (m : Nat → Bool) (l : List Tree) (lo hi : Int)
theorem first_1 : Tree.first b (.node 1 m l lo hi) = m b := by unfold Tree.first; rw [if_neg (by decide), if_pos rfl]
theorem last_1 : Tree.last b (.node 1 m l lo hi) = m b := by unfold Tree.last; rw [if_neg (by decide), if_pos rfl]
theorem first_2 : Tree.first b (.node 2 m l lo hi) = (!anyVoid l && firstCat b l) := by unfold Tree.first; rw [if_neg (by decide), if_neg (by decide), if_pos rfl]
theorem last_2 : Tree.last b (.node 2 m l lo hi) = (!anyVoid l && lastCat b l) := by unfold Tree.last; rw [if_neg (by decide), if_neg (by decide), if_pos rfl]
theorem first_3 : Tree.first b (.node 3 m l lo hi) = firstAlt b l := by unfold Tree.first; rw [if_neg (by decide), if_neg (by decide), if_neg (by decide), if_pos rfl]
theorem last_3 : Tree.last b (.node 3 m l lo hi) = lastAlt b l := by unfold Tree.last; rw [if_neg (by decide), if_neg (by decide), if_neg (by decide), if_pos rfl]
theorem first_4 : Tree.first b (.node 4 m l lo hi) = (decide (hi ≠ 0) && headFirst b l) := by unfold Tree.first; rw [if_neg (by decide), if_neg (by decide), if_neg (by decide), if_neg (by decide)]
theorem last_4 : Tree.last b (.node 4 m l lo hi) = (decide (hi ≠ 0) && headLast b l) := by unfold Tree.last; rw [if_neg (by decide), if_neg (by decide), if_neg (by decide), if_neg (by decide)]
end

/-- the byte at a place -/
def byteAt (s : List UInt8) (i : Nat) : Nat := (s.getD i 0).toNat

/-- what a way from j to k says -/
def Way (s : List UInt8) (e : Bool) (fi la : Nat → Bool) (j k : Nat) : Prop := j ≤ k ∧ (j = k → e = true) ∧ (j < k → k ≤ s.length ∧ fi (byteAt s j) = true ∧ la (byteAt s (k - 1)) = true)

/-- EACH WAY OF A TREE -/
def Ways (s : List UInt8) (T : Tree) : Prop := ∀ (f : Nat → Bool) (k : Nat), T.ends s f k = true → T.void = false ∧ ∃ j, f j = true ∧ Way s T.empty (fun b => T.first b) (fun b => T.last b) j k

theorem ways_cat (s : List UInt8) : ∀ (l : List Tree), (∀ t ∈ l, Ways s t) → ∀ (f : Nat → Bool) (k : Nat), endsCat s l f k = true → anyVoid l = false ∧ ∃ j, f j = true ∧ Way s (allEmpty l) (fun b => firstCat b l) (fun b => lastCat b l) j k
  | [], _, f, k, h => ⟨rfl, k, h, Nat.le_refl _, fun _ => rfl, fun h => absurd h (by omega)⟩
  | t :: r, hw, f, k, h => by
    unfold endsCat at h
    obtain ⟨hv, j', h1, h2, h3, h4⟩ := ways_cat s r (fun t ht => hw t (by simp [ht])) _ k h
    obtain ⟨hv', j, g1, g2, g3, g4⟩ := hw t (by simp) f j' h1
    refine ⟨by unfold anyVoid; rw [hv, hv']; rfl, j, g1, by omega, fun e => ?_, fun e => ?_⟩
    · unfold allEmpty
      rw [g3 (by omega), h3 (by omega)]; rfl
    · unfold firstCat lastCat
      by_cases e1 : j < j'
      · obtain ⟨a1, a2, a3⟩ := g4 e1
        by_cases e2 : j' < k
        · obtain ⟨b1, b2, b3⟩ := h4 e2
          try dsimp only at *
          exact ⟨b1, by rw [a2]; rfl, by rw [b3]; rfl⟩
        · have : j' = k := by omega
          subst this
          try dsimp only at *
          exact ⟨a1, by rw [a2]; rfl, by rw [h3 rfl, a3]; simp⟩
      · have : j = j' := by omega
        subst this
        obtain ⟨b1, b2, b3⟩ := h4 (by omega)
        try dsimp only at *
        exact ⟨b1, by rw [g3 rfl, b2]; simp, by rw [b3]; rfl⟩

theorem ways_alt (s : List UInt8) : ∀ (l : List Tree), (∀ t ∈ l, Ways s t) → ∀ (f : Nat → Bool) (k : Nat), endsAlt s l f k = true → allVoid l = false ∧ ∃ j, f j = true ∧ Way s (anyEmpty l) (fun b => firstAlt b l) (fun b => lastAlt b l) j k
  | [], _, f, k, h => by simp [endsAlt] at h
  | t :: r, hw, f, k, h => by
    unfold endsAlt orB at h
    rw [Bool.or_eq_true] at h
    unfold allVoid anyEmpty
    rcases h with h | h
    · obtain ⟨hv, j, h1, h2, h3, h4⟩ := hw t (by simp) f k h
      refine ⟨by rw [hv]; rfl, j, h1, h2, fun e => by rw [h3 e]; rfl, fun e => ?_⟩
      obtain ⟨a1, a2, a3⟩ := h4 e
      unfold firstAlt lastAlt
      try dsimp only at *
      exact ⟨a1, by rw [a2]; rfl, by rw [a3]; rfl⟩
    · obtain ⟨hv, j, h1, h2, h3, h4⟩ := ways_alt s r (fun t ht => hw t (by simp [ht])) f k h
      refine ⟨by rw [hv]; simp, j, h1, h2, fun e => by rw [h3 e]; simp, fun e => ?_⟩
      obtain ⟨a1, a2, a3⟩ := h4 e
      unfold firstAlt lastAlt
      try dsimp only at *
      exact ⟨a1, by rw [a2]; simp, by rw [a3]; simp⟩

theorem ways_iter (s : List UInt8) (t : Tree) (hw : Ways s t) (f : Nat → Bool) : ∀ (n k : Nat), iterE (t.ends s) n f k = true →
    (0 < n → t.void = false) ∧ ∃ j, f j = true ∧ j ≤ k ∧ (j = k → n = 0 ∨ t.empty = true) ∧ (j < k → 0 < n ∧ k ≤ s.length ∧ t.first (byteAt s j) = true ∧ t.last (byteAt s (k - 1)) = true)
  | 0, k, h => ⟨fun h => absurd h (by omega), k, h, Nat.le_refl _, fun _ => .inl rfl, fun h => absurd h (by omega)⟩
  | n + 1, k, h => by
    obtain ⟨hv, j', g1, g2, g3, g4⟩ := hw _ k h
    obtain ⟨_, j, h1, h2, h3, h4⟩ := ways_iter s t hw f n j' g1
    refine ⟨fun _ => hv, j, h1, by omega, fun e => .inr (g3 (by omega)), fun e => ?_⟩
    refine ⟨by omega, ?_⟩
    by_cases e1 : j' < k
    · obtain ⟨a1, a2, a3⟩ := g4 e1
      by_cases e2 : j < j'
      · obtain ⟨b0, b1, b2, b3⟩ := h4 e2
        try dsimp only at *
        exact ⟨a1, b2, a3⟩
      · have : j = j' := by omega
        subst this
        try dsimp only at *
        exact ⟨a1, a2, a3⟩
    · have : j' = k := by omega
      subst this
      obtain ⟨b0, b1, b2, b3⟩ := h4 (by omega)
      try dsimp only at *
      exact ⟨b1, b2, b3⟩

theorem byteAt_get {s : List UInt8} {i : Nat} {c : UInt8} (h : s[i]? = some c) : byteAt s i = c.toNat := by
  unfold byteAt
  rw [List.getD_eq_getElem?_getD, h]; rfl

theorem ways_any (s : List UInt8) : ∀ T : Tree, T.ok = true → Ways s T := by
  intro T
  induction T using Tree.ind with
  | h k m l lo hi ih =>
    intro hok f p h
    obtain ⟨hoks, hn⟩ := ok_open hok
    have hw := fun t ht => ih t ht (hoks t ht)
    have hkind := okNode_kind hn
    unfold Tree.ends at h
    unfold Tree.void Tree.empty
    rcases hkind with ⟨rfl, hl⟩ | ⟨rfl, hl⟩ | ⟨rfl, hl⟩ | ⟨rfl, hl⟩ | ⟨rfl, hl, hlo⟩
    · rw [if_pos rfl] at h
      exact ⟨by simp, p, h, Nat.le_refl _, fun _ => by simp, fun e => absurd e (by omega)⟩
    · rw [if_neg (by decide), if_pos rfl] at h
      cases p with
      | zero => simp [stepB] at h
      | succ i =>
        unfold stepB at h
        rw [Bool.and_eq_true] at h
        obtain ⟨h1, h2⟩ := h
        cases hs : s[i]? with
        | none => rw [hs] at h2; cases h2
        | some c =>
          rw [hs] at h2
          have h2 : m c.toNat = true := h2
          have hlt : i < s.length := (List.getElem?_eq_some_iff.1 hs).1
          refine ⟨?_, i, h1, by omega, fun e => absurd e (by omega), fun _ => ⟨by omega, ?_, ?_⟩⟩
          · rw [if_neg (by decide), if_pos rfl, Bool.eq_false_iff]
            intro he
            have := setEq_iff.1 he c.toNat (by have := UInt8.toNat_lt c; omega)
            rw [h2] at this; cases this
          · show Tree.first (byteAt s i) _ = true
            rw [first_1, byteAt_get hs]; exact h2
          · show Tree.last (byteAt s (i + 1 - 1)) _ = true
            rw [last_1, Nat.add_sub_cancel, byteAt_get hs]; exact h2
    · rw [if_neg (by decide), if_neg (by decide), if_pos rfl] at h
      obtain ⟨hv, j, h1, h2, h3, h4⟩ := ways_cat s l hw f p h
      rw [if_neg (by decide), if_neg (by decide), if_pos rfl, if_neg (by decide), if_neg (by decide), if_pos rfl]
      refine ⟨hv, j, h1, h2, h3, fun e => ?_⟩
      obtain ⟨a1, a2, a3⟩ := h4 e
      refine ⟨a1, ?_, ?_⟩
      · show Tree.first (byteAt s j) _ = true
        rw [first_2, hv]; exact a2
      · show Tree.last (byteAt s (p - 1)) _ = true
        rw [last_2, hv]; exact a3
    · rw [if_neg (by decide), if_neg (by decide), if_neg (by decide), if_pos rfl] at h
      obtain ⟨hv, j, h1, h2, h3, h4⟩ := ways_alt s l hw f p h
      rw [if_neg (by decide), if_neg (by decide), if_neg (by decide), if_pos rfl, if_neg (by decide), if_neg (by decide), if_neg (by decide), if_pos rfl]
      refine ⟨hv, j, h1, h2, h3, fun e => ?_⟩
      obtain ⟨a1, a2, a3⟩ := h4 e
      refine ⟨a1, ?_, ?_⟩
      · show Tree.first (byteAt s j) _ = true
        rw [first_3]; exact a2
      · show Tree.last (byteAt s (p - 1)) _ = true
        rw [last_3]; exact a3
    · rw [if_neg (by decide), if_neg (by decide), if_neg (by decide), if_neg (by decide)] at h
      obtain ⟨t, rfl⟩ : ∃ t, l = [t] := by
        match l, hl with
        | [t], _ => exact ⟨t, rfl⟩
      have hE : headEnds s [t] = t.ends s := by unfold headEnds; rfl
      rw [hE] at h
      unfold repTo at h
      rw [List.any_eq_true] at h
      obtain ⟨q, hq1, hq2⟩ := h
      rw [List.mem_range] at hq1
      rw [Bool.and_eq_true, decide_eq_true_eq] at hq2
      obtain ⟨hq2, hq3⟩ := hq2
      obtain ⟨hv, j, h1, h2, h3, h4⟩ := ways_iter s t (hw t (by simp)) f q p hq3
      rw [if_neg (by decide), if_neg (by decide), if_neg (by decide), if_neg (by decide), if_neg (by decide), if_neg (by decide), if_neg (by decide), if_neg (by decide)]
      unfold headVoid headEmpty
      refine ⟨?_, j, h1, h2, fun e => ?_, fun e => ?_⟩
      · by_cases hl0 : 0 < lo
        · rw [hv (by omega)]; simp
        · rw [decide_eq_false hl0]; rfl
      · rcases h3 e with h | h
        · rw [decide_eq_true (by omega)]; rfl
        · rw [h]; simp
      · obtain ⟨a0, a1, a2, a3⟩ := h4 e
        have hh0 : hi ≠ 0 := by
          intro e0
          subst e0
          unfold mostOf at hq1
          rw [if_neg (by omega)] at hq1
          simp at hq1; omega
        refine ⟨a1, ?_, ?_⟩
        · show Tree.first (byteAt s j) _ = true
          rw [first_4, decide_eq_true hh0]; unfold headFirst; exact a2
        · show Tree.last (byteAt s (p - 1)) _ = true
          rw [last_4, decide_eq_true hh0]; unfold headLast; exact a3

theorem stays_cat (s : List UInt8) (p : Nat) : ∀ (l : List Tree), (∀ t ∈ l, ∀ f : Nat → Bool, t.empty = true → f p = true → t.ends s f p = true) → ∀ f : Nat → Bool, allEmpty l = true → f p = true → endsCat s l f p = true
  | [], _, f, _, hf => hf
  | t :: r, h, f, he, hf => by
    unfold allEmpty at he
    rw [Bool.and_eq_true] at he
    unfold endsCat
    exact stays_cat s p r (fun t ht => h t (by simp [ht])) _ he.2 (h t (by simp) f he.1 hf)
theorem stays_alt (s : List UInt8) (p : Nat) : ∀ (l : List Tree), (∀ t ∈ l, ∀ f : Nat → Bool, t.empty = true → f p = true → t.ends s f p = true) → ∀ f : Nat → Bool, anyEmpty l = true → f p = true → endsAlt s l f p = true
  | [], _, f, he, hf => by simp [anyEmpty] at he
  | t :: r, h, f, he, hf => by
    unfold anyEmpty at he
    rw [Bool.or_eq_true] at he
    unfold endsAlt orB
    rcases he with he | he
    · rw [h t (by simp) f he hf]; rfl
    · rw [stays_alt s p r (fun t ht => h t (by simp [ht])) f he hf]; simp
/-- THE EMPTY TEXT ENDS WHERE IT BEGINS -/
theorem empty_stays (s : List UInt8) (p : Nat) : ∀ T : Tree, T.ok = true → ∀ f : Nat → Bool, T.empty = true → f p = true → T.ends s f p = true := by
  intro T
  induction T using Tree.ind with
  | h k m l lo hi ih =>
    intro hok f he hf
    obtain ⟨hoks, hn⟩ := ok_open hok
    have hw := fun t ht => ih t ht (hoks t ht)
    have hkind := okNode_kind hn
    unfold Tree.ends
    unfold Tree.empty at he
    rcases hkind with ⟨rfl, hl⟩ | ⟨rfl, hl⟩ | ⟨rfl, hl⟩ | ⟨rfl, hl⟩ | ⟨rfl, hl, hlo⟩
    · rw [if_pos rfl]; exact hf
    · rw [if_neg (by decide), if_pos rfl] at he; cases he
    · rw [if_neg (by decide), if_neg (by decide), if_pos rfl] at he ⊢
      exact stays_cat s p l hw f he hf
    · rw [if_neg (by decide), if_neg (by decide), if_neg (by decide), if_pos rfl] at he ⊢
      exact stays_alt s p l hw f he hf
    · rw [if_neg (by decide), if_neg (by decide), if_neg (by decide), if_neg (by decide)] at he ⊢
      obtain ⟨t, rfl⟩ : ∃ t, l = [t] := by
        match l, hl with
        | [t], _ => exact ⟨t, rfl⟩
      have hE : headEnds s [t] = t.ends s := by unfold headEnds; rfl
      rw [hE]
      unfold headEmpty at he
      rw [Bool.or_eq_true, decide_eq_true_eq] at he
      unfold repTo
      rw [List.any_eq_true]
      rcases he with he | he
      · exact ⟨0, by rw [List.mem_range]; omega, by rw [decide_eq_true (by omega)]; exact hf⟩
      · have hit : ∀ q, iterE (t.ends s) q f p = true := by
          intro q
          induction q with
          | zero => exact hf
          | succ q ihq => exact hw t (by simp) _ he ihq
        refine ⟨lo.toNat, by rw [List.mem_range]; unfold mostOf; split <;> omega, by rw [hit]; simp⟩

/-- at place 0 ends what is empty -/
theorem ends_zero (s : List UInt8) (T : Tree) (hok : T.ok = true) (f : Nat → Bool) : T.ends s f 0 = (f 0 && T.empty) := by
  by_cases h : T.ends s f 0 = true
  · obtain ⟨_, j, h1, h2, h3, _⟩ := ways_any s T hok f 0 h
    obtain rfl : j = 0 := by omega
    rw [h, h1, h3 rfl]; rfl
  · have h2 : T.ends s f 0 = false := by simpa using h
    rw [h2]
    by_cases hf : f 0 = true
    · by_cases he : T.empty = true
      · exact absurd (empty_stays s 0 T hok f he hf) h
      · rw [hf, Bool.true_and]; simpa using Eq.symm (by simpa using he : T.empty = false)
    · have : f 0 = false := by simpa using hf
      rw [this]; rfl
theorem takes_nil (T : Tree) (hok : T.ok = true) : T.takes [] = T.empty := by
  unfold Tree.takes
  rw [List.length_nil, ends_zero _ _ hok]
  rfl
/-- EACH TEXT BEGINS AND ENDS WITH BYTES THAT ARE TOLD -/
theorem takes_some (T : Tree) (hok : T.ok = true) (s : List UInt8) (hs : s ≠ []) (h : T.takes s = true) : T.first (byteAt s 0) = true ∧ T.last (byteAt s (s.length - 1)) = true ∧ T.void = false := by
  unfold Tree.takes at h
  obtain ⟨hv, j, h1, h2, h3, h4⟩ := ways_any s T hok _ _ h
  have hj : j = 0 := by
    unfold atP updS at h1
    by_cases e : j = 0
    · exact e
    · rw [if_neg e] at h1; cases h1
  subst hj
  have hpos : 0 < s.length := List.length_pos_iff.2 hs
  obtain ⟨_, a2, a3⟩ := h4 hpos
  exact ⟨a2, a3, hv⟩

/-! ### what a text begins -/
def beginsRep (B : (Nat → Bool) → Bool) (E : (Nat → Bool) → Nat → Bool) (n : Nat) : Nat → (Nat → Bool) → Bool
  | 0, f => f n
  | q + 1, f => B f || beginsRep B E n q (E f)
mutual
def Tree.begins (s : List UInt8) : Tree → (Nat → Bool) → Bool
  | .node k m l lo hi => fun f => if k = 0 then f s.length else if k = 1 then (if setEq m (fun _ => false) then false else f s.length || (decide (0 < s.length) && (f (s.length - 1) && m (byteAt s (s.length - 1)))))
      else if k = 2 then (if anyVoid l then false else beginsCat s l f) else if k = 3 then beginsAlt s l f
      else (if (decide (0 < lo) && headVoid l) = true then false else if f s.length then true else beginsRep (headBegins s l) (headEnds s l) s.length (mostOf s lo hi) f)
def beginsCat (s : List UInt8) : List Tree → (Nat → Bool) → Bool
  | [] => fun f => f s.length
  | t :: r => fun f => t.begins s f || beginsCat s r (t.ends s f)
def beginsAlt (s : List UInt8) : List Tree → (Nat → Bool) → Bool
  | [] => fun _ => false
  | t :: r => fun f => t.begins s f || beginsAlt s r f
def headBegins (s : List UInt8) : List Tree → (Nat → Bool) → Bool
  | [] => fun _ => false
  | t :: _ => t.begins s
end

/-- of a text of one byte -/
def One (c : UInt8) (T : Tree) : Prop := ∀ f : Nat → Bool, T.begins [c] f = (!T.void && (f 1 || (f 0 && T.first c.toNat)))

theorem ends_one (c : UInt8) (T : Tree) (hok : T.ok = true) (f : Nat → Bool) (h : T.ends [c] f 1 = true) : T.void = false ∧ (f 1 = true ∨ (f 0 = true ∧ T.first c.toNat = true)) := by
  obtain ⟨hv, j, h1, h2, h3, h4⟩ := ways_any [c] T hok f 1 h
  refine ⟨hv, ?_⟩
  by_cases e : j = 1
  · subst e; exact .inl h1
  · obtain rfl : j = 0 := by omega
    obtain ⟨_, a2, _⟩ := h4 (by omega)
    exact .inr ⟨h1, a2⟩

theorem one_cat (c : UInt8) : ∀ (l : List Tree), (∀ t ∈ l, t.ok = true ∧ One c t) → anyVoid l = false → ∀ f : Nat → Bool, beginsCat [c] l f = (f 1 || (f 0 && firstCat c.toNat l))
  | [], _, _, f => by simp [beginsCat, firstCat]
  | t :: r, h, hv, f => by
    unfold anyVoid at hv
    rw [Bool.or_eq_false_iff] at hv
    obtain ⟨hok, h1⟩ := h t (by simp)
    unfold beginsCat firstCat
    rw [h1 f, one_cat c r (fun t ht => h t (by simp [ht])) hv.2, hv.1, ends_zero _ _ hok]
    have he := ends_one c t hok f
    generalize t.ends [c] f 1 = x at *
    cases x
    · generalize f 1 = a; generalize f 0 = b; generalize t.first c.toNat = d; generalize t.empty = e; generalize firstCat c.toNat r = g
      cases a <;> cases b <;> cases d <;> cases e <;> cases g <;> rfl
    · obtain ⟨_, he⟩ := he rfl
      generalize f 1 = a at *; generalize f 0 = b at *; generalize t.first c.toNat = d at *; generalize t.empty = e; generalize firstCat c.toNat r = g
      cases a <;> cases b <;> cases d <;> cases e <;> cases g <;> first | rfl | simp at he

theorem void_first (b : Nat) : ∀ T : Tree, T.ok = true → b < 256 → T.void = true → T.first b = false := by
  intro T
  induction T using Tree.ind with
  | h k m l lo hi ih =>
    intro hok hb hv
    obtain ⟨hoks, hn⟩ := ok_open hok
    have hkind := okNode_kind hn
    unfold Tree.void at hv
    rcases hkind with ⟨rfl, hl⟩ | ⟨rfl, hl⟩ | ⟨rfl, hl⟩ | ⟨rfl, hl⟩ | ⟨rfl, hl, hlo⟩
    · rw [if_pos rfl] at hv; cases hv
    · rw [if_neg (by decide), if_pos rfl] at hv
      rw [first_1]
      exact setEq_iff.1 hv b hb
    · rw [if_neg (by decide), if_neg (by decide), if_pos rfl] at hv
      rw [first_2, hv]; rfl
    · rw [if_neg (by decide), if_neg (by decide), if_neg (by decide), if_pos rfl] at hv
      rw [first_3]
      have hall : ∀ t ∈ l, t.first b = false := fun t ht => ih t ht (hoks t ht) hb (allVoid_iff.1 hv t ht)
      clear ih hoks hn hok hl hv
      induction l with
      | nil => rfl
      | cons t r ihr => unfold firstAlt; rw [hall t (by simp), ihr (fun t ht => hall t (by simp [ht]))]; rfl
    · rw [if_neg (by decide), if_neg (by decide), if_neg (by decide), if_neg (by decide)] at hv
      obtain ⟨t, rfl⟩ : ∃ t, l = [t] := by
        match l, hl with
        | [t], _ => exact ⟨t, rfl⟩
      unfold headVoid at hv
      rw [Bool.and_eq_true] at hv
      rw [first_4]
      unfold headFirst
      rw [ih t (by simp) (hoks t (by simp)) hb hv.2]; simp

theorem one_alt (c : UInt8) : ∀ (l : List Tree), (∀ t ∈ l, t.ok = true ∧ One c t) → ∀ f : Nat → Bool, beginsAlt [c] l f = (!allVoid l && (f 1 || (f 0 && firstAlt c.toNat l)))
  | [], _, f => by simp [beginsAlt, allVoid]
  | t :: r, h, f => by
    obtain ⟨hok, h1⟩ := h t (by simp)
    unfold beginsAlt allVoid firstAlt
    rw [h1 f, one_alt c r (fun t ht => h t (by simp [ht]))]
    have hv := void_first c.toNat t hok (by have := UInt8.toNat_lt c; omega)
    have hr : allVoid r = true → firstAlt c.toNat r = false := by
      intro hr
      have hall : ∀ t ∈ r, t.first c.toNat = false := fun t ht => void_first c.toNat t (h t (by simp [ht])).1 (by have := UInt8.toNat_lt c; omega) (allVoid_iff.1 hr t ht)
      clear h hr hv h1 hok
      induction r with
      | nil => rfl
      | cons t r ihr => unfold firstAlt; rw [hall t (by simp), ihr (fun t ht => hall t (by simp [ht]))]; rfl
    generalize f 1 = a; generalize f 0 = b; generalize t.first c.toNat = d at *; generalize t.void = e at *; generalize firstAlt c.toNat r = g at *; generalize allVoid r = q at *
    cases a <;> cases b <;> cases d <;> cases e <;> cases g <;> cases q <;> first | rfl | exact absurd (hv rfl) (by simp) | exact absurd (hr rfl) (by simp)

theorem one_rep_void (c : UInt8) (t : Tree) (hok : t.ok = true) (h1 : One c t) (hv : t.void = true) : ∀ (q : Nat) (f : Nat → Bool), f 1 = false → beginsRep (t.begins [c]) (t.ends [c]) 1 q f = false
  | 0, f, hf => hf
  | q + 1, f, hf => by
    unfold beginsRep
    rw [h1 f, hv]
    have he : t.ends [c] f 1 = false := by
      rw [Bool.eq_false_iff]; intro h
      rw [(ends_one c t hok f h).1] at hv; cases hv
    rw [one_rep_void c t hok h1 hv q _ he]; rfl
theorem one_rep_none (c : UInt8) (t : Tree) (hok : t.ok = true) (h1 : One c t) : ∀ (q : Nat) (f : Nat → Bool), f 1 = false → (f 0 && t.first c.toNat) = false → beginsRep (t.begins [c]) (t.ends [c]) 1 q f = false
  | 0, f, hf, _ => hf
  | q + 1, f, hf, hg => by
    unfold beginsRep
    have he : t.ends [c] f 1 = false := by
      rw [Bool.eq_false_iff]; intro h
      rcases (ends_one c t hok f h).2 with h2 | ⟨h2, h3⟩
      · rw [hf] at h2; cases h2
      · rw [h2, h3] at hg; cases hg
    have he0 : (t.ends [c] f 0 && t.first c.toNat) = false := by
      rw [ends_zero _ _ hok]
      generalize f 0 = b at *; generalize t.first c.toNat = d at *; generalize t.empty = e
      cases b <;> cases d <;> cases e <;> first | rfl | cases hg
    rw [h1 f, one_rep_none c t hok h1 q _ he he0, hf, hg]; simp

section
variable (m : Nat → Bool) (l : List Tree) (lo hi : Int)
theorem void_0 : Tree.void (.node 0 m l lo hi) = false := by unfold Tree.void; rw [if_pos rfl]
theorem void_1 : Tree.void (.node 1 m l lo hi) = setEq m (fun _ => false) := by unfold Tree.void; rw [if_neg (by decide), if_pos rfl]
theorem void_2 : Tree.void (.node 2 m l lo hi) = anyVoid l := by unfold Tree.void; rw [if_neg (by decide), if_neg (by decide), if_pos rfl]
theorem void_3 : Tree.void (.node 3 m l lo hi) = allVoid l := by unfold Tree.void; rw [if_neg (by decide), if_neg (by decide), if_neg (by decide), if_pos rfl]
theorem void_4 : Tree.void (.node 4 m l lo hi) = (decide (0 < lo) && headVoid l) := by unfold Tree.void; rw [if_neg (by decide), if_neg (by decide), if_neg (by decide), if_neg (by decide)]
end

/-- WITH WHICH BYTES TEXTS BEGIN: just those that begin one -/
theorem one_any (c : UInt8) : ∀ T : Tree, T.ok = true → One c T := by
  intro T
  induction T using Tree.ind with
  | h k m l lo hi ih =>
    intro hok f
    obtain ⟨hoks, hn⟩ := ok_open hok
    have hw : ∀ t ∈ l, t.ok = true ∧ One c t := fun t ht => ⟨hoks t ht, ih t ht (hoks t ht)⟩
    have hkind := okNode_kind hn
    have hc : c.toNat < 256 := by have := UInt8.toNat_lt c; omega
    unfold Tree.begins
    rcases hkind with ⟨rfl, hl⟩ | ⟨rfl, hl⟩ | ⟨rfl, hl⟩ | ⟨rfl, hl⟩ | ⟨rfl, hl, hlo⟩
    · have : Tree.first c.toNat (.node 0 m l lo hi) = false := by unfold Tree.first; rw [if_pos rfl]
      rw [if_pos rfl, void_0, this]
      show f 1 = _
      simp
    · rw [if_neg (by decide), if_pos rfl, void_1, first_1]
      by_cases he : setEq m (fun _ => false) = true
      · rw [if_pos he, he]; rfl
      · rw [if_neg he]
        have : setEq m (fun _ => false) = false := by simpa using he
        rw [this]
        show (f 1 || (decide (0 < 1) && (f 0 && m (byteAt [c] 0)))) = _
        have hb : byteAt [c] 0 = c.toNat := rfl
        rw [hb]; simp
    · rw [if_neg (by decide), if_neg (by decide), if_pos rfl, void_2, first_2]
      cases hv : anyVoid l
      · rw [if_neg (by simp), one_cat c l hw hv f]; simp
      · rw [if_pos rfl]; rfl
    · rw [if_neg (by decide), if_neg (by decide), if_neg (by decide), if_pos rfl, void_3, first_3]
      exact one_alt c l hw f
    · rw [if_neg (by decide), if_neg (by decide), if_neg (by decide), if_neg (by decide), void_4, first_4]
      obtain ⟨t, rfl⟩ : ∃ t, l = [t] := by
        match l, hl with
        | [t], _ => exact ⟨t, rfl⟩
      obtain ⟨hokt, h1⟩ := hw t (by simp)
      have hE : headEnds [c] [t] = t.ends [c] := by unfold headEnds; rfl
      have hB : headBegins [c] [t] = t.begins [c] := by unfold headBegins; rfl
      have hV : headVoid [t] = t.void := by unfold headVoid; rfl
      have hF : headFirst c.toNat [t] = t.first c.toNat := by unfold headFirst; rfl
      rw [hE, hB, hV, hF]
      have hlen : [c].length = 1 := rfl
      rw [hlen]
      by_cases hvo : (decide (0 < lo) && t.void) = true
      · rw [if_pos hvo, hvo]; rfl
      · rw [if_neg hvo]
        have hvo2 : (decide (0 < lo) && t.void) = false := by simpa using hvo
        rw [hvo2]
        by_cases hf1 : f 1 = true
        · rw [if_pos hf1, hf1]; rfl
        · rw [if_neg hf1]
          have hf2 : f 1 = false := by simpa using hf1
          rw [hf2]
          by_cases hh0 : hi = 0
          · subst hh0
            have hM : mostOf [c] lo 0 = 0 := by unfold mostOf; rw [if_neg (by omega)]; rfl
            rw [hM]
            show f 1 = _
            rw [hf2]; simp
          · obtain ⟨q, hq⟩ : ∃ q, mostOf [c] lo hi = q + 1 := by
              refine ⟨mostOf [c] lo hi - 1, ?_⟩
              have : 0 < mostOf [c] lo hi := by unfold mostOf; split <;> omega
              omega
            rw [hq, decide_eq_true hh0]
            cases hv : t.void
            · by_cases hg : (f 0 && t.first c.toNat) = true
              · unfold beginsRep
                rw [h1 f, hv, hf2, hg]; simp [hg]
              · have hg2 : (f 0 && t.first c.toNat) = false := by simpa using hg
                rw [one_rep_none c t hokt h1 _ f hf2 hg2]; simp [hg2]
            · rw [one_rep_void c t hokt h1 hv _ f hf2, void_first c.toNat t hokt hc hv]; simp

end Go.Proofs.Ytfodpkciahkehaa

