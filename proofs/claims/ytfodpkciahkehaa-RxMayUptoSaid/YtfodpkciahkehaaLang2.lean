/-
  WHAT A TEXT AND AN ALTERNATIVE TAKE, and that a tree is alike itself: what is said of no program. No condition.
-/
import Derived.Test.YtfodpkciahkehaaMake2
import Derived.Test.YtfodpkciahkehaaLang
import Derived.Test.YtfodpkciahkehaaRef4b
import Derived.Test.YtfodpkciahkehaaMayt
namespace Go.Proofs.Ytfodpkciahkehaa

mutual
theorem same_refl : ∀ T : Tree, T.same T = true
  | .node k m l lo hi => by
    unfold Tree.same
    simp [setEq_refl, sameL_refl l]
theorem sameL_refl : ∀ l : List Tree, sameL l l = true
  | [] => by unfold sameL; rfl
  | t :: r => by unfold sameL; rw [same_refl t, sameL_refl r]; rfl
end

/-! ### one of several -/
theorem endsAlt_any (s : List UInt8) (f : Nat → Bool) (k : Nat) : ∀ l : List Tree, endsAlt s l f k = l.any fun t => t.ends s f k
  | [] => by unfold endsAlt; rfl
  | t :: r => by
    unfold endsAlt
    rw [List.any_cons, ← endsAlt_any s f k r]
    rfl
theorem alt_takes (s : List UInt8) (l : List Tree) : (rowT 3 (.node 1 (fun _ => false) [] 0 0) l).takes s = l.any fun t => t.takes s := by
  match l with
  | [] =>
    show Tree.ends s (.node 1 (fun _ => false) [] 0 0) (atP 0) s.length = false
    unfold Tree.ends
    rw [if_neg (by decide), if_pos rfl]
    cases s.length with
    | zero => rfl
    | succ i =>
      show (atP 0 i && (match s[i]? with | some c => false | none => false)) = false
      cases s[i]? <;> simp
  | [t] => simp [rowT]
  | t :: t2 :: r =>
    rw [rowT_many 3 _ (by simp)]
    show Tree.ends s (.node 3 (fun _ => false) (t :: t2 :: r) 0 0) (atP 0) s.length = _
    unfold Tree.ends
    rw [if_neg (by decide), if_neg (by decide), if_neg (by decide), if_pos rfl, endsAlt_any]
    rfl

/-! ### a text -/
theorem byte_ends (s : List UInt8) (c : UInt8) (f : Nat → Bool) : (byteT c).ends s f = stepB (sOf [c.toNat]) s f := by
  unfold byteT Tree.ends
  rw [if_neg (by decide), if_pos rfl]
theorem cat_cons (s : List UInt8) (t : Tree) (r : List Tree) (f : Nat → Bool) : endsCat s (t :: r) f = endsCat s r (t.ends s f) := by
  show (fun f => endsCat s r (t.ends s f)) f = _
  rfl
theorem cat_nil (s : List UInt8) (f : Nat → Bool) : endsCat s [] f = f := by
  show (fun f => f) f = f
  rfl
theorem text_far (s : List UInt8) : ∀ (l : List UInt8) (f : Nat → Bool) (k : Nat), endsCat s (l.map byteT) f k = true → ∃ j, f j = true ∧ k = j + l.length
  | [], f, k => fun h => ⟨k, by rw [List.map_nil, cat_nil] at h; exact h, rfl⟩
  | c :: l, f, k => fun h => by
    rw [List.map_cons, cat_cons, byte_ends] at h
    obtain ⟨j, h1, h2⟩ := text_far s l _ k h
    match j, h1, h2 with
    | i + 1, h1, h2 =>
      have h3 : (f i && (match s[i]? with | some x => sOf [c.toNat] x.toNat | none => false)) = true := h1
      rw [Bool.and_eq_true] at h3
      exact ⟨i, h3.1, by rw [List.length_cons]; omega⟩
theorem text_near (s : List UInt8) : ∀ (l : List UInt8) (f : Nat → Bool) (p : Nat), f p = true → (∀ (i : Nat) (h : i < l.length), s[p + i]? = some l[i]) → endsCat s (l.map byteT) f (p + l.length) = true
  | [], f, p => fun h _ => by rw [List.map_nil, cat_nil]; simpa using h
  | c :: l, f, p => fun h hp => by
    rw [List.map_cons, cat_cons, byte_ends]
    have h0 : s[p]? = some c := hp 0 (by simp)
    have h1 : stepB (sOf [c.toNat]) s f (p + 1) = true := by
      show (f p && (match s[p]? with | some x => sOf [c.toNat] x.toNat | none => false)) = true
      rw [h, h0]
      simp [sOf]
    have := text_near s l (stepB (sOf [c.toNat]) s f) (p + 1) h1 (fun i hi => by
      have := hp (i + 1) (by simpa using hi)
      rw [show p + 1 + i = p + (i + 1) by omega, this]
      simp)
    rw [List.length_cons, show p + (l.length + 1) = p + 1 + l.length by omega]
    exact this
theorem text_ends (s s' : List UInt8) : (textT s).takes s' = endsCat s' (s.map byteT) (atP 0) s'.length := by
  unfold Tree.takes textT
  match s with
  | [] =>
    show Tree.ends s' (.node 0 (fun _ => false) [] 0 0) (atP 0) s'.length = _
    unfold Tree.ends
    rw [if_pos rfl, List.map_nil, cat_nil]
  | [c] =>
    show Tree.ends s' (byteT c) (atP 0) s'.length = _
    rw [List.map_cons, List.map_nil, cat_cons, cat_nil]
  | c :: d :: r =>
    rw [rowT_many 2 _ (by simp)]
    unfold Tree.ends
    rw [if_neg (by decide), if_neg (by decide), if_pos rfl]
theorem at_zero {j : Nat} (h : atP 0 j = true) : j = 0 := by
  unfold atP updS at h
  by_cases hj : j = 0
  · exact hj
  · simp [hj] at h
/-- a text takes itself, and nothing of another length -/
theorem text_self (s : List UInt8) : (textT s).takes s = true := by
  rw [text_ends]
  have := text_near s s (atP 0) 0 rfl (fun i hi => by rw [Nat.zero_add]; exact List.getElem?_eq_getElem hi)
  rwa [Nat.zero_add] at this
theorem text_other (s s' : List UInt8) (h : s'.length ≠ s.length) : (textT s).takes s' = false := by
  rw [text_ends]
  cases hc : endsCat s' (s.map byteT) (atP 0) s'.length
  · rfl
  · obtain ⟨j, h1, h2⟩ := text_far s' s _ _ hc
    have := at_zero h1
    omega

/-! ### a text's nodes -/
theorem text_row_nodes : ∀ l : List UInt8, nodesL (l.map byteT) = l.length
  | [] => rfl
  | c :: l => by
    rw [List.map_cons, List.length_cons, nodesL, text_row_nodes l]
    have : (byteT c).nodes = 1 := by unfold byteT Tree.nodes nodesL; rfl
    omega
theorem text_nodes (s : List UInt8) : (textT s).nodes ≤ s.length + 1 := by
  unfold textT
  match s with
  | [] => show Tree.nodes (.node 0 (fun _ => false) [] 0 0) ≤ _; unfold Tree.nodes nodesL; simp
  | [c] => show (byteT c).nodes ≤ _; unfold byteT Tree.nodes nodesL; simp
  | c :: d :: r =>
    rw [rowT_many 2 _ (by simp)]
    have := text_row_nodes (c :: d :: r)
    simp only [Tree.nodes]
    omega

theorem byte_ok (c : UInt8) : (byteT c).ok = true := by
  unfold byteT Tree.ok allOk okNode
  simp
theorem byte_row_ok : ∀ l : List UInt8, allOk (l.map byteT) = true
  | [] => rfl
  | c :: l => by rw [List.map_cons, allOk, byte_ok, byte_row_ok l]; rfl
theorem byte_row_deep : ∀ l : List UInt8, deepL (l.map byteT) ≤ 1
  | [] => by rw [List.map_nil, deepL]; omega
  | c :: l => by
    rw [List.map_cons, deepL]
    have h1 := byte_row_deep l
    have h2 : (byteT c).deepN = 1 := by unfold byteT Tree.deepN deepL; rfl
    omega
theorem text_ok (s : List UInt8) : (textT s).ok = true := by
  unfold textT
  match s with
  | [] => show Tree.ok (.node 0 (fun _ => false) [] 0 0) = true; unfold Tree.ok allOk okNode; simp [setEq_refl]
  | [c] => exact byte_ok c
  | c :: d :: r =>
    rw [rowT_many 2 _ (by simp)]
    unfold Tree.ok
    rw [byte_row_ok, Bool.true_and]
    unfold okNode
    simp [setEq_refl]
/-- a text of at most 299 bytes may be -/
theorem text_may (s : List UInt8) (h : s.length ≤ 299) : (textT s).mayN = true := by
  unfold Tree.mayN
  have h1 := text_nodes s
  have h2 : (textT s).deepN ≤ 2 := by
    unfold textT
    match s with
    | [] => show Tree.deepN (.node 0 (fun _ => false) [] 0 0) ≤ 2; unfold Tree.deepN deepL; omega
    | [c] => show (byteT c).deepN ≤ 2; unfold byteT Tree.deepN deepL; omega
    | c :: d :: r =>
      rw [rowT_many 2 _ (by simp)]
      have := byte_row_deep (c :: d :: r)
      simp only [Tree.deepN]
      omega
  rw [text_ok, decide_eq_true (show (textT s).nodes ≤ 300 by omega), decide_eq_true (show (textT s).deepN ≤ 30 by omega)]
  rfl

end Go.Proofs.Ytfodpkciahkehaa

