/-
  WITH WHICH BYTES A TREE's TEXTS BEGIN AND END: what is said of no program: the places of Ends against whether a tree has the empty text, no text, and its first and last bytes. Condition: each node of the tree may be.
-/
import Derived.Test.YtgbljnnmhmlifaaQG33
namespace Go.Proofs.Ytgbljnnmhmlifaa

mutual
def Tree.empty : Tree → Bool
  | .node k _ l lo _ => if k = 0 then true else if k = 1 then false else if k = 2 then allEmpty l else if k = 3 then anyEmpty l else (decide (lo ≤ 0) || headEmpty l)
def allEmpty : List Tree → Bool
  | [] => true
  | t :: r => t.empty && allEmpty r
def anyEmpty : List Tree → Bool
  | [] => false
  | t :: r => t.empty || anyEmpty r
def headEmpty : List Tree → Bool
  | [] => false
  | t :: _ => t.empty
end
mutual
def Tree.first (b : Nat) : Tree → Bool
  | .node k m l _ hi => if k = 0 then false else if k = 1 then m b else if k = 2 then (!anyVoid l && firstCat b l) else if k = 3 then firstAlt b l else (decide (hi ≠ 0) && headFirst b l)
def firstCat (b : Nat) : List Tree → Bool
  | [] => false
  | t :: r => t.first b || (t.empty && firstCat b r)
def firstAlt (b : Nat) : List Tree → Bool
  | [] => false
  | t :: r => t.first b || firstAlt b r
def headFirst (b : Nat) : List Tree → Bool
  | [] => false
  | t :: _ => t.first b
end
mutual
def Tree.last (b : Nat) : Tree → Bool
  | .node k m l _ hi => if k = 0 then false else if k = 1 then m b else if k = 2 then (!anyVoid l && lastCat b l) else if k = 3 then lastAlt b l else (decide (hi ≠ 0) && headLast b l)
def lastCat (b : Nat) : List Tree → Bool
  | [] => false
  | t :: r => lastCat b r || (allEmpty r && t.last b)
def lastAlt (b : Nat) : List Tree → Bool
  | [] => false
  | t :: r => t.last b || lastAlt b r
def headLast (b : Nat) : List Tree → Bool
  | [] => false
  | t :: _ => t.last b
end

section
variable (b : Nat) (m : Nat → Bool) (l : List Tree) (lo hi : Int)
theorem first_1 : Tree.first b (.node 1 m l lo hi) = m b := by unfold Tree.first; rw [if_neg (by decide), if_pos rfl]
theorem last_1 : Tree.last b (.node 1 m l lo hi) = m b := by unfold Tree.last; rw [if_neg (by decide), if_pos rfl]
theorem first_2 : Tree.first b (.node 2 m l lo hi) = (!anyVoid l && firstCat b l) := by unfold Tree.first; rw [if_neg (by decide), if_neg (by decide), if_pos rfl]
theorem last_2 : Tree.last b (.node 2 m l lo hi) = (!anyVoid l && lastCat b l) := by unfold Tree.last; rw [if_neg (by decide), if_neg (by decide), if_pos rfl]
theorem first_3 : Tree.first b (.node 3 m l lo hi) = firstAlt b l := by unfold Tree.first; rw [if_neg (by decide), if_neg (by decide), if_neg (by decide), if_pos rfl]
theorem last_3 : Tree.last b (.node 3 m l lo hi) = lastAlt b l := by unfold Tree.last; rw [if_neg (by decide), if_neg (by decide), if_neg (by decide), if_pos rfl]
theorem first_4 : Tree.first b (.node 4 m l lo hi) = (decide (hi ≠ 0) && headFirst b l) := by unfold Tree.first; rw [if_neg (by decide), if_neg (by decide), if_neg (by decide), if_neg (by decide)]
theorem last_4 : Tree.last b (.node 4 m l lo hi) = (decide (hi ≠ 0) && headLast b l) := by unfold Tree.last; rw [if_neg (by decide), if_neg (by decide), if_neg (by decide), if_neg (by decide)]
end

def byteAt (s : List UInt8) (i : Nat) : Nat := (s.getD i 0).toNat

def Way (s : List UInt8) (e : Bool) (fi la : Nat → Bool) (j k : Nat) : Prop := j ≤ k ∧ (j = k → e = true) ∧ (j < k → k ≤ s.length ∧ fi (byteAt s j) = true ∧ la (byteAt s (k - 1)) = true)

def Ways (s : List UInt8) (T : Tree) : Prop := ∀ (f : Nat → Bool) (k : Nat), T.ends s f k = true → T.void = false ∧ ∃ j, f j = true ∧ Way s T.empty (fun b => T.first b) (fun b => T.last b) j k

theorem ways_cat (s : List UInt8) : ∀ (l : List Tree), (∀ t ∈ l, Ways s t) → ∀ (f : Nat → Bool) (k : Nat), endsCat s l f k = true → anyVoid l = false ∧ ∃ j, f j = true ∧ Way s (allEmpty l) (fun b => firstCat b l) (fun b => lastCat b l) j k
  | [], _, f, k, h => ⟨rfl, k, h, Nat.le_refl _, fun _ => rfl, fun h => absurd h (by omega)⟩
  | t :: r, hw, f, k, h => by
    unfold endsCat at h
    obtain ⟨hv, j', h1, h2, h3, h4⟩ := ways_cat s r (fun t ht => hw t (by simp [ht])) _ k h
    obtain ⟨hv', j, g1, g2, g3, g4⟩ := hw t (by simp) f j' h1
    refine ⟨by unfold anyVoid; rw [hv, hv']; rfl, j, g1, by omega, fun e => ?_, fun e => ?_⟩
    · unfold allEmpty
      rw [g3 (by omega), h3 (by omega)]; rfl
    · unfold firstCat lastCat
      by_cases e1 : j < j'
      · obtain ⟨a1, a2, a3⟩ := g4 e1
        by_cases e2 : j' < k
        · obtain ⟨b1, b2, b3⟩ := h4 e2
          try dsimp only at *
          exact ⟨b1, by rw [a2]; rfl, by rw [b3]; rfl⟩
        · have : j' = k := by omega
          subst this
          try dsimp only at *
          exact ⟨a1, by rw [a2]; rfl, by rw [h3 rfl, a3]; simp⟩
      · have : j = j' := by omega
        subst this
        obtain ⟨b1, b2, b3⟩ := h4 (by omega)
        try dsimp only at *
        exact ⟨b1, by rw [g3 rfl, b2]; simp, by rw [b3]; rfl⟩

theorem ways_alt (s : List UInt8) : ∀ (l : List Tree), (∀ t ∈ l, Ways s t) → ∀ (f : Nat → Bool) (k : Nat), endsAlt s l f k = true → allVoid l = false ∧ ∃ j, f j = true ∧ Way s (anyEmpty l) (fun b => firstAlt b l) (fun b => lastAlt b l) j k
  | [], _, f, k, h => by simp [endsAlt] at h
  | t :: r, hw, f, k, h => by
    unfold endsAlt orB at h
    rw [Bool.or_eq_true] at h
    unfold allVoid anyEmpty
    rcases h with h | h
    · obtain ⟨hv, j, h1, h2, h3, h4⟩ := hw t (by simp) f k h
      refine ⟨by rw [hv]; rfl, j, h1, h2, fun e => by rw [h3 e]; rfl, fun e => ?_⟩
      obtain ⟨a1, a2, a3⟩ := h4 e
      unfold firstAlt lastAlt
      try dsimp only at *
      exact ⟨a1, by rw [a2]; rfl, by rw [a3]; rfl⟩
    · obtain ⟨hv, j, h1, h2, h3, h4⟩ := ways_alt s r (fun t ht => hw t (by simp [ht])) f k h
      refine ⟨by rw [hv]; simp, j, h1, h2, fun e => by rw [h3 e]; simp, fun e => ?_⟩
      obtain ⟨a1, a2, a3⟩ := h4 e
      unfold firstAlt lastAlt
      try dsimp only at *
      exact ⟨a1, by rw [a2]; simp, by rw [a3]; simp⟩

theorem ways_iter (s : List UInt8) (t : Tree) (hw : Ways s t) (f : Nat → Bool) : ∀ (n k : Nat), iterE (t.ends s) n f k = true →
    (0 < n → t.void = false) ∧ ∃ j, f j = true ∧ j ≤ k ∧ (j = k → n = 0 ∨ t.empty = true) ∧ (j < k → 0 < n ∧ k ≤ s.length ∧ t.first (byteAt s j) = true ∧ t.last (byteAt s (k - 1)) = true)
  | 0, k, h => ⟨fun h => absurd h (by omega), k, h, Nat.le_refl _, fun _ => .inl rfl, fun h => absurd h (by omega)⟩
  | n + 1, k, h => by
    obtain ⟨hv, j', g1, g2, g3, g4⟩ := hw _ k h
    obtain ⟨_, j, h1, h2, h3, h4⟩ := ways_iter s t hw f n j' g1
    refine ⟨fun _ => hv, j, h1, by omega, fun e => .inr (g3 (by omega)), fun e => ?_⟩
    refine ⟨by omega, ?_⟩
    by_cases e1 : j' < k
    · obtain ⟨a1, a2, a3⟩ := g4 e1
      by_cases e2 : j < j'
      · obtain ⟨b0, b1, b2, b3⟩ := h4 e2
        try dsimp only at *
        exact ⟨a1, b2, a3⟩
      · have : j = j' := by omega
        subst this
        try dsimp only at *
        exact ⟨a1, a2, a3⟩
    · have : j' = k := by omega
      subst this
      obtain ⟨b0, b1, b2, b3⟩ := h4 (by omega)
      try dsimp only at *
      exact ⟨b1, b2, b3⟩

theorem byteAt_get {s : List UInt8} {i : Nat} {c : UInt8} (h : s[i]? = some c) : byteAt s i = c.toNat := by
  unfold byteAt
  rw [List.getD_eq_getElem?_getD, h]; rfl

theorem ways_any (s : List UInt8) : ∀ T : Tree, T.ok = true → Ways s T := by
  intro T
  induction T using Tree.ind with
  | h k m l lo hi ih =>
    intro hok f p h
    obtain ⟨hoks, hn⟩ := ok_open hok
    have hw := fun t ht => ih t ht (hoks t ht)
    have hkind := okNode_kind hn
    unfold Tree.ends at h
    unfold Tree.void Tree.empty
    rcases hkind with ⟨rfl, hl⟩ | ⟨rfl, hl⟩ | ⟨rfl, hl⟩ | ⟨rfl, hl⟩ | ⟨rfl, hl, hlo⟩
    · rw [if_pos rfl] at h
      exact ⟨by simp, p, h, Nat.le_refl _, fun _ => by simp, fun e => absurd e (by omega)⟩
    · rw [if_neg (by decide), if_pos rfl] at h
      cases p with
      | zero => simp [stepB] at h
      | succ i =>
        unfold stepB at h
        rw [Bool.and_eq_true] at h
        obtain ⟨h1, h2⟩ := h
        cases hs : s[i]? with
        | none => rw [hs] at h2; cases h2
        | some c =>
          rw [hs] at h2
          have h2 : m c.toNat = true := h2
          have hlt : i < s.length := (List.getElem?_eq_some_iff.1 hs).1
          refine ⟨?_, i, h1, by omega, fun e => absurd e (by omega), fun _ => ⟨by omega, ?_, ?_⟩⟩
          · rw [if_neg (by decide), if_pos rfl, Bool.eq_false_iff]
            intro he
            have := setEq_iff.1 he c.toNat (by have := UInt8.toNat_lt c; omega)
            rw [h2] at this; cases this
          · show Tree.first (byteAt s i) _ = true
            rw [first_1, byteAt_get hs]; exact h2
          · show Tree.last (byteAt s (i + 1 - 1)) _ = true
            rw [last_1, Nat.add_sub_cancel, byteAt_get hs]; exact h2
    · rw [if_neg (by decide), if_neg (by decide), if_pos rfl] at h
      obtain ⟨hv, j, h1, h2, h3, h4⟩ := ways_cat s l hw f p h
      rw [if_neg (by decide), if_neg (by decide), if_pos rfl, if_neg (by decide), if_neg (by decide), if_pos rfl]
      refine ⟨hv, j, h1, h2, h3, fun e => ?_⟩
      obtain ⟨a1, a2, a3⟩ := h4 e
      refine ⟨a1, ?_, ?_⟩
      · show Tree.first (byteAt s j) _ = true
        rw [first_2, hv]; exact a2
      · show Tree.last (byteAt s (p - 1)) _ = true
        rw [last_2, hv]; exact a3
    · rw [if_neg (by decide), if_neg (by decide), if_neg (by decide), if_pos rfl] at h
      obtain ⟨hv, j, h1, h2, h3, h4⟩ := ways_alt s l hw f p h
      rw [if_neg (by decide), if_neg (by decide), if_neg (by decide), if_pos rfl, if_neg (by decide), if_neg (by decide), if_neg (by decide), if_pos rfl]
      refine ⟨hv, j, h1, h2, h3, fun e => ?_⟩
      obtain ⟨a1, a2, a3⟩ := h4 e
      refine ⟨a1, ?_, ?_⟩
      · show Tree.first (byteAt s j) _ = true
        rw [first_3]; exact a2
      · show Tree.last (byteAt s (p - 1)) _ = true
        rw [last_3]; exact a3
    · rw [if_neg (by decide), if_neg (by decide), if_neg (by decide), if_neg (by decide)] at h
      obtain ⟨t, rfl⟩ : ∃ t, l = [t] := by
        match l, hl with
        | [t], _ => exact ⟨t, rfl⟩
      have hE : headEnds s [t] = t.ends s := by unfold headEnds; rfl
      rw [hE] at h
      unfold repTo at h
      rw [List.any_eq_true] at h
      obtain ⟨q, hq1, hq2⟩ := h
      rw [List.mem_range] at hq1
      rw [Bool.and_eq_true, decide_eq_true_eq] at hq2
      obtain ⟨hq2, hq3⟩ := hq2
      obtain ⟨hv, j, h1, h2, h3, h4⟩ := ways_iter s t (hw t (by simp)) f q p hq3
      rw [if_neg (by decide), if_neg (by decide), if_neg (by decide), if_neg (by decide), if_neg (by decide), if_neg (by decide), if_neg (by decide), if_neg (by decide)]
      unfold headVoid headEmpty
      refine ⟨?_, j, h1, h2, fun e => ?_, fun e => ?_⟩
      · by_cases hl0 : 0 < lo
        · rw [hv (by omega)]; simp
        · rw [decide_eq_false hl0]; rfl
      · rcases h3 e with h | h
        · rw [decide_eq_true (by omega)]; rfl
        · rw [h]; simp
      · obtain ⟨a0, a1, a2, a3⟩ := h4 e
        have hh0 : hi ≠ 0 := by
          intro e0
          subst e0
          unfold mostOf at hq1
          rw [if_neg (by omega)] at hq1
          simp at hq1; omega
        refine ⟨a1, ?_, ?_⟩
        · show Tree.first (byteAt s j) _ = true
          rw [first_4, decide_eq_true hh0]; unfold headFirst; exact a2
        · show Tree.last (byteAt s (p - 1)) _ = true
          rw [last_4, decide_eq_true hh0]; unfold headLast; exact a3

def beginsRep (B : (Nat → Bool) → Bool) (E : (Nat → Bool) → Nat → Bool) (n : Nat) : Nat → (Nat → Bool) → Bool
  | 0, f => f n
  | q + 1, f => B f || beginsRep B E n q (E f)
mutual
def Tree.begins (s : List UInt8) : Tree → (Nat → Bool) → Bool
  | .node k m l lo hi => fun f => if k = 0 then f s.length else if k = 1 then (if setEq m (fun _ => false) then false else f s.length || (decide (0 < s.length) && (f (s.length - 1) && m (byteAt s (s.length - 1)))))
      else if k = 2 then (if anyVoid l then false else beginsCat s l f) else if k = 3 then beginsAlt s l f
      else (if (decide (0 < lo) && headVoid l) = true then false else if f s.length then true else beginsRep (headBegins s l) (headEnds s l) s.length (mostOf s lo hi) f)
def beginsCat (s : List UInt8) : List Tree → (Nat → Bool) → Bool
  | [] => fun f => f s.length
  | t :: r => fun f => t.begins s f || beginsCat s r (t.ends s f)
def beginsAlt (s : List UInt8) : List Tree → (Nat → Bool) → Bool
  | [] => fun _ => false
  | t :: r => fun f => t.begins s f || beginsAlt s r f
def headBegins (s : List UInt8) : List Tree → (Nat → Bool) → Bool
  | [] => fun _ => false
  | t :: _ => t.begins s
end

section
variable (m : Nat → Bool) (l : List Tree) (lo hi : Int)
theorem void_1 : Tree.void (.node 1 m l lo hi) = setEq m (fun _ => false) := by unfold Tree.void; rw [if_neg (by decide), if_pos rfl]
theorem void_2 : Tree.void (.node 2 m l lo hi) = anyVoid l := by unfold Tree.void; rw [if_neg (by decide), if_neg (by decide), if_pos rfl]
theorem void_3 : Tree.void (.node 3 m l lo hi) = allVoid l := by unfold Tree.void; rw [if_neg (by decide), if_neg (by decide), if_neg (by decide), if_pos rfl]
theorem void_4 : Tree.void (.node 4 m l lo hi) = (decide (0 < lo) && headVoid l) := by unfold Tree.void; rw [if_neg (by decide), if_neg (by decide), if_neg (by decide), if_neg (by decide)]
end

end Go.Proofs.Ytgbljnnmhmlifaa

