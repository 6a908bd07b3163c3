/-
  A TEXT OF ESCAPES, READ: each byte as \x and two digits, with a dot ahead or a class behind: its tree, and which texts that takes. Of no program. Condition: at most 299 bytes are said.
-/
import Derived.Test.YtngagijcdehjpaaFine
import Derived.Test.YtngagijcdehjpaaBegins
namespace Go.Proofs.Ytngagijcdehjpaa
open Go.RowKit
section
variable {s : ByteArray} {fr : Frs} {g : Nat → Res Tree}
theorem bt_at {pre rest : List UInt8} {x : UInt8} (h : s.data.toList = pre ++ x :: rest) : pre.length < s.size ∧ bt s pre.length = x.toNat := by
  have hl : pre.length < s.size := by rw [← size_list, h]; simp
  refine ⟨hl, ?_⟩
  rw [bt_list s _ hl]
  have h2 : s.data.toList[pre.length]'(by rw [size_list]; exact hl) = (pre ++ x :: rest)[pre.length]'(by simp) := by simp only [h]
  rw [h2]
  simp
theorem sgn_here {pre rest : List UInt8} {x : UInt8} (h : s.data.toList = pre ++ x :: rest) : sgnAt s pre.length = sgn x.toNat := by
  obtain ⟨h1, h2⟩ := bt_at h
  unfold sgnAt
  rw [if_pos h1, h2]
theorem isAt_here {pre rest : List UInt8} {x : UInt8} {b : Nat} (h : s.data.toList = pre ++ x :: rest) : isAt s pre.length b = decide (x.toNat = b) := by
  obtain ⟨h1, h2⟩ := bt_at h
  unfold isAt
  rw [decide_eq_true h1, h2, Bool.true_and]
theorem sgn_past {pre : List UInt8} (h : s.data.toList = pre) : sgnAt s pre.length = 0 := by
  unfold sgnAt
  rw [if_neg (by rw [← size_list, h]; omega)]
/-- small letters, great letters -/
def loD (n : Nat) : UInt8 := ([48, 49, 50, 51, 52, 53, 54, 55, 56, 57, 97, 98, 99, 100, 101, 102] : List UInt8).getD n 0
def upD (n : Nat) : UInt8 := ([48, 49, 50, 51, 52, 53, 54, 55, 56, 57, 65, 66, 67, 68, 69, 70] : List UInt8).getD n 0
theorem digs : ∀ n : Fin 16, dig (loD n.val).toNat 16 = (n.val : Int) ∧ dig (upD n.val).toNat 16 = (n.val : Int) := by decide +kernel
/-- a byte as an escape of two digits -/
def encB (b : UInt8) : List UInt8 := [92, 120, loD (b.toNat / 16), upD (b.toNat % 16)]
/-- what may stand behind: nothing, a \ or a [ -/
def RestOk (rest : List UInt8) : Prop := rest = [] ∨ (∃ r, rest = 92 :: r) ∨ ∃ r, rest = 91 :: r
theorem rest_sgn {pre rest : List UInt8} (h : s.data.toList = pre ++ rest) (hr : RestOk rest) : sgnAt s pre.length = 0 ∨ sgnAt s pre.length = 16 ∨ sgnAt s pre.length = 10 := by
  rcases hr with rfl | ⟨r, rfl⟩ | ⟨r, rfl⟩
  · exact .inl (sgn_past (by simpa using h))
  · right; left; rw [sgn_here h]; decide
  · right; right; rw [sgn_here h]; decide
theorem item_atom {i j : Nat} {t : Tree} (ha : atomP g s fr i = .ok (t, j)) (hr : sgnAt s j = 0 ∨ sgnAt s j = 16 ∨ sgnAt s j = 10) : itemP g s fr i = .ok (t, j) := by
  unfold itemP
  rw [ha]
  simp only [Res.then]
  rw [if_neg (by omega), if_neg (by omega), if_neg (by omega), if_neg (by omega)]
/-- a piece of text that is read as bytes of a set -/
def TokOk (tok : List UInt8) (m : Nat → Bool) : Prop := tok ≠ [] ∧ ∀ (s : ByteArray) (fr : Frs) (g : Nat → Res Tree) (pre rest : List UInt8), s.data.toList = pre ++ (tok ++ rest) → RestOk rest → itemP g s fr pre.length = .ok (byteT m, pre.length + tok.length) ∧ endsP s pre.length = false
theorem ends_not {i : Nat} (hi : i < s.size) (h2 : sgnAt s i ≠ 2) (h9 : sgnAt s i ≠ 9) : endsP s i = false := by
  unfold endsP
  rw [decide_eq_false h2, decide_eq_false h9, decide_eq_false (by omega)]; rfl
theorem tok_esc (b : UInt8) : TokOk (encB b) (sOf [b.toNat]) := by
  refine ⟨by unfold encB; simp, fun s fr g pre rest h hr => ?_⟩
  unfold encB at h ⊢
  have h0 : s.data.toList = pre ++ (92 : UInt8) :: (120 :: loD (b.toNat / 16) :: upD (b.toNat % 16) :: rest) := by simpa using h
  have h1 : s.data.toList = (pre ++ [92]) ++ (120 : UInt8) :: (loD (b.toNat / 16) :: upD (b.toNat % 16) :: rest) := by simpa using h
  have h2 : s.data.toList = (pre ++ [92, 120]) ++ loD (b.toNat / 16) :: (upD (b.toNat % 16) :: rest) := by simpa using h
  have h3 : s.data.toList = (pre ++ [92, 120, loD (b.toNat / 16)]) ++ upD (b.toNat % 16) :: rest := by simpa using h
  have h4 : s.data.toList = (pre ++ [92, 120, loD (b.toNat / 16), upD (b.toNat % 16)]) ++ rest := by simpa using h
  have l1 : (pre ++ [(92 : UInt8)]).length = pre.length + 1 := by simp
  have l2 : (pre ++ [(92 : UInt8), 120]).length = pre.length + 1 + 1 := by simp
  have l3 : (pre ++ [92, 120, loD (b.toNat / 16)]).length = pre.length + 1 + 1 + 1 := by simp
  have l4 : (pre ++ [92, 120, loD (b.toNat / 16), upD (b.toNat % 16)]).length = pre.length + 4 := by simp
  have s0 : sgnAt s pre.length = 16 := by rw [sgn_here h0]; decide
  have s1 : sgnAt s (pre.length + 1) = 1 := by rw [← l1, sgn_here h1]; decide
  have i1 : ∀ c, isAt s (pre.length + 1) c = decide (120 = c) := fun c => by rw [← l1, isAt_here h1]; rfl
  obtain ⟨z2, b2⟩ := bt_at h2
  obtain ⟨z3, b3⟩ := bt_at h3
  rw [l2] at z2 b2
  rw [l3] at z3 b3
  have hb := UInt8.toNat_lt b
  have d2 : digP s 16 (pre.length + 1 + 1) = .ok (b.toNat / 16, pre.length + 1 + 1 + 1) := by
    have := (digs ⟨b.toNat / 16, by omega⟩).1
    unfold digP
    simp only at this
    rw [b2, this, if_pos ⟨z2, by omega⟩]
    rfl
  have d3 : digP s 16 (pre.length + 1 + 1 + 1) = .ok (b.toNat % 16, pre.length + 4) := by
    have := (digs ⟨b.toNat % 16, by omega⟩).2
    unfold digP
    simp only at this
    rw [b3, this, if_pos ⟨z3, by omega⟩]
    rfl
  have he : escP s pre.length = .ok (b.toNat, pre.length + 4) := by
    unfold escP
    rw [s1, if_neg (by decide), if_pos rfl]
    unfold letterP
    rw [i1, i1, i1, i1]
    simp only [d2, d3, Res.then]
    rw [show 16 * (b.toNat / 16) + b.toNat % 16 = b.toNat by omega]
    rfl
  have ha : atomP g s fr pre.length = .ok (byteT (sOf [b.toNat]), pre.length + 4) := by
    unfold atomP
    rw [s0, he]
    rfl
  have hr4 := rest_sgn h4 hr
  rw [l4] at hr4
  exact ⟨item_atom ha hr4, ends_not (bt_at h0).1 (by rw [s0]; decide) (by rw [s0]; decide)⟩
theorem tok_dot : TokOk [46] (sNot fun _ => false) := by
  refine ⟨by simp, fun s fr g pre rest h hr => ?_⟩
  have h0 : s.data.toList = pre ++ (46 : UInt8) :: rest := by simpa using h
  have h1 : s.data.toList = (pre ++ [46]) ++ rest := by simpa using h
  have l1 : (pre ++ [(46 : UInt8)]).length = pre.length + 1 := by simp
  have s0 : sgnAt s pre.length = 12 := by rw [sgn_here h0]; decide
  have ha : atomP g s fr pre.length = .ok (byteT (sNot fun _ => false), pre.length + 1) := by
    unfold atomP
    rw [s0]
    rfl
  have hr4 := rest_sgn h1 hr
  rw [l1] at hr4
  exact ⟨item_atom ha hr4, ends_not (bt_at h0).1 (by rw [s0]; decide) (by rw [s0]; decide)⟩
theorem tok_any : TokOk [91, 94, 93] (sNot fun _ => false) := by
  refine ⟨by simp, fun s fr g pre rest h hr => ?_⟩
  have h0 : s.data.toList = pre ++ (91 : UInt8) :: (94 :: 93 :: rest) := by simpa using h
  have h1 : s.data.toList = (pre ++ [91]) ++ (94 : UInt8) :: (93 :: rest) := by simpa using h
  have h2 : s.data.toList = (pre ++ [91, 94]) ++ (93 : UInt8) :: rest := by simpa using h
  have h3 : s.data.toList = (pre ++ [91, 94, 93]) ++ rest := by simpa using h
  have l1 : (pre ++ [(91 : UInt8)]).length = pre.length + 1 := by simp
  have l2 : (pre ++ [(91 : UInt8), 94]).length = pre.length + 2 := by simp
  have l3 : (pre ++ [(91 : UInt8), 94, 93]).length = pre.length + 3 := by simp
  have s0 : sgnAt s pre.length = 10 := by rw [sgn_here h0]; decide
  have i1 : isAt s (pre.length + 1) 94 = true := by rw [← l1, isAt_here h1]; rfl
  have i2 : isAt s (pre.length + 2) 93 = true := by rw [← l2, isAt_here h2]; rfl
  have hz := (bt_at h2).1
  rw [l2] at hz
  have hc : classP s pre.length = .ok (sNot fun _ => false, pre.length + 3) := by
    unfold classP
    rw [if_pos i1, show s.size + 1 - (pre.length + 2) = (s.size - (pre.length + 2)) + 1 by omega, classF, if_pos i2]
    rfl
  have ha : atomP g s fr pre.length = .ok (byteT (sNot fun _ => false), pre.length + 3) := by
    unfold atomP
    rw [s0, hc]
    rfl
  have hr4 := rest_sgn h3 hr
  rw [l3] at hr4
  exact ⟨item_atom ha hr4, ends_not (bt_at h0).1 (by rw [s0]; decide) (by rw [s0]; decide)⟩
/-- pieces, each with a set -/
abbrev Toks := List (List UInt8 × (Nat → Bool))
def textOf (l : Toks) : List UInt8 := l.flatMap (·.1)
def treeOf (l : Toks) : Tree := rowT 2 emptyT (l.map fun x => byteT x.2)
/-- each piece begins so that the one ahead of it ends -/
def Heads (l : Toks) : Prop := ∀ x ∈ l, RestOk x.1
theorem text_rest {l : Toks} (h : Heads l) (h1 : ∀ x ∈ l, x.1 ≠ []) : RestOk (textOf l) := by
  match l with
  | [] => exact .inl rfl
  | x :: r =>
    rcases h x (by simp) with e | ⟨q, e⟩ | ⟨q, e⟩
    · exact absurd e (h1 x (by simp))
    · exact .inr (.inl ⟨q ++ textOf r, by simp [textOf, e]⟩)
    · exact .inr (.inr ⟨q ++ textOf r, by simp [textOf, e]⟩)
theorem rowF_toks (s : ByteArray) (fr : Frs) (g : Nat → Res Tree) : ∀ (l : Toks) (k : Nat) (acc : List Tree) (pre : List UInt8), (∀ x ∈ l, TokOk x.1 x.2) → Heads l.tail → s.data.toList = pre ++ textOf l → l.length < k →
    rowF g s fr k acc pre.length = .ok (acc ++ l.map fun x => byteT x.2, s.size)
  | [], k, acc, pre, _, _, h, hk => by
    obtain ⟨k, rfl⟩ : ∃ q, k = q + 1 := ⟨k - 1, by simp at hk; omega⟩
    have hs : pre.length = s.size := by rw [← size_list, h]; simp [textOf]
    rw [rowF, if_pos (by unfold endsP; rw [hs]; simp), hs]
    simp
  | x :: r, k, acc, pre, ht, hh, h, hk => by
    obtain ⟨k, rfl⟩ : ∃ q, k = q + 1 := ⟨k - 1, by simp at hk; omega⟩
    have hx := ht x (by simp)
    have h2 : s.data.toList = pre ++ (x.1 ++ textOf r) := by rw [h]; simp [textOf]
    obtain ⟨h3, h4⟩ := hx.2 s fr g pre (textOf r) h2 (text_rest hh fun y hy => (ht y (by simp [hy])).1)
    rw [rowF, if_neg (by rw [h4]; decide), h3]
    simp only [Res.then]
    have := rowF_toks s fr g r k (acc ++ [byteT x.2]) (pre ++ x.1) (fun y hy => ht y (by simp [hy])) (fun y hy => hh y (List.mem_of_mem_tail hy)) (by rw [h2]; simp) (by simp at hk; omega)
    rw [List.length_append] at this
    rw [this]
    simp
/-! ### the tree of pieces -/
theorem toks_nodes : ∀ l : Toks, nodesL (l.map fun x => byteT x.2) = l.length
  | [] => rfl
  | c :: l => by
    rw [List.map_cons, List.length_cons, nodesL, toks_nodes l]
    have : (byteT c.2).nodes = 1 := by unfold byteT Tree.nodes nodesL; rfl
    omega
theorem toks_ok : ∀ l : Toks, allOk (l.map fun x => byteT x.2) = true
  | [] => rfl
  | c :: l => by
    have : (byteT c.2).ok = true := by unfold byteT Tree.ok allOk okNode; simp
    rw [List.map_cons, allOk, this, toks_ok l]; rfl
theorem toks_deep : ∀ l : Toks, deepL (l.map fun x => byteT x.2) ≤ 1
  | [] => by rw [List.map_nil, deepL]; omega
  | c :: l => by
    rw [List.map_cons, deepL]
    have h1 := toks_deep l
    have h2 : (byteT c.2).deepN = 1 := by unfold byteT Tree.deepN deepL; rfl
    omega
theorem tree_facts (l : Toks) (h : l.length ≤ 299) : (treeOf l).nodes ≤ 300 ∧ (treeOf l).deepN ≤ 30 ∧ (treeOf l).ok = true := by
  unfold treeOf
  match l, h with
  | [], _ =>
    show (Tree.nodes (.node 0 (fun _ => false) [] 0 0) ≤ 300 ∧ Tree.deepN (.node 0 (fun _ => false) [] 0 0) ≤ 30 ∧ Tree.ok (.node 0 (fun _ => false) [] 0 0) = true)
    unfold Tree.nodes nodesL Tree.deepN deepL Tree.ok allOk okNode
    simp [setEq_refl]
  | [c], _ =>
    show (byteT c.2).nodes ≤ 300 ∧ (byteT c.2).deepN ≤ 30 ∧ (byteT c.2).ok = true
    unfold byteT Tree.nodes nodesL Tree.deepN deepL Tree.ok allOk okNode
    simp
  | c :: d :: r, h =>
    rw [rowT_many 2 _ (by simp)]
    have h1 := toks_nodes (c :: d :: r)
    have h2 := toks_deep (c :: d :: r)
    have h3 := toks_ok (c :: d :: r)
    simp only [Tree.nodes, Tree.deepN]
    refine ⟨by omega, by omega, ?_⟩
    unfold Tree.ok
    rw [h3, Bool.true_and]
    unfold okNode
    simp [setEq_refl]
theorem tree_may (l : Toks) (h : l.length ≤ 299) : (treeOf l).mayN = true := by
  obtain ⟨h1, h2, h3⟩ := tree_facts l h
  unfold Tree.mayN
  rw [decide_eq_true h1, decide_eq_true h2, h3]; rfl
theorem treeOf_ends (x : List UInt8) (l : Toks) (f : Nat → Bool) : (treeOf l).ends x f = endsCat x (l.map fun y => byteT y.2) f := by
  unfold treeOf
  match l with
  | [] =>
    show Tree.ends x (.node 0 (fun _ => false) [] 0 0) f = _
    unfold Tree.ends
    rw [if_pos rfl, List.map_nil]
    unfold endsCat; rfl
  | [c] =>
    show Tree.ends x (byteT c.2) f = _
    rw [List.map_cons, List.map_nil]
    unfold endsCat
    unfold endsCat; rfl
  | c :: d :: r =>
    rw [rowT_many 2 _ (by simp)]
    conv => lhs; unfold Tree.ends
    rw [if_neg (by decide), if_neg (by decide), if_pos rfl]
theorem toks_take (x : List UInt8) : ∀ (l : Toks) (f : Nat → Bool) (p : Nat), f p = true → (∀ (i : Nat) (h : i < l.length), ∃ c, x[p + i]? = some c ∧ (l[i]).2 c.toNat = true) → endsCat x (l.map fun y => byteT y.2) f (p + l.length) = true
  | [], f, p, hp, _ => by unfold endsCat; exact hp
  | t :: r, f, p, hp, h => by
    rw [List.map_cons]
    unfold endsCat
    obtain ⟨c, h1, h2⟩ := h 0 (by simp)
    have hs : Tree.ends x (byteT t.2) f (p + 1) = true := by
      unfold byteT Tree.ends
      rw [if_neg (by decide), if_pos rfl]
      rw [Nat.add_zero] at h1
      show (f p && (match x[p]? with | some c => t.2 c.toNat | none => false)) = true
      rw [hp, h1]
      exact h2
    have := toks_take x r _ (p + 1) hs fun i hi => by
      obtain ⟨c, h3, h4⟩ := h (i + 1) (by simpa using hi)
      exact ⟨c, by rw [show p + 1 + i = p + (i + 1) by omega]; exact h3, by simpa using h4⟩
    rw [List.length_cons, show p + (r.length + 1) = p + 1 + r.length by omega]
    exact this
theorem tree_takes {x : List UInt8} {l : Toks} (hl : x.length = l.length) (h : ∀ (i : Nat) (h : i < l.length), ∃ c, x[i]? = some c ∧ (l[i]).2 c.toNat = true) : (treeOf l).takes x = true := by
  unfold Tree.takes
  rw [treeOf_ends]
  have := toks_take x l (atP 0) 0 (by unfold atP updS; simp) (fun i hi => by rw [Nat.zero_add]; exact h i hi)
  rw [Nat.zero_add] at this
  rw [hl]; exact this
/-! ### the whole -/
theorem toks_len {l : Toks} (ht : ∀ x ∈ l, TokOk x.1 x.2) : l.length ≤ (textOf l).length := by
  induction l with
  | nil => simp
  | cons x r ih =>
    have h1 := (ht x (by simp)).1
    have h2 := ih fun y hy => ht y (by simp [hy])
    have h3 : 0 < x.1.length := Nat.pos_of_ne_zero fun h => h1 (List.eq_nil_of_length_eq_zero h)
    simp only [textOf, List.flatMap_cons, List.length_append, List.length_cons] at h2 ⊢
    omega
theorem parse_toks {l : Toks} (ht : ∀ x ∈ l, TokOk x.1 x.2) (hh : Heads l.tail) (hl : l.length ≤ 299) (hs : s.size ≤ 400) (h : s.data.toList = textOf l) : parseP s fr = .ok (treeOf l) := by
  have hsz : s.size = (textOf l).length := by rw [← size_list, h]
  have hlen := toks_len ht
  have hrow : ∀ g, rowP g s fr 0 = .ok (treeOf l, s.size) := fun g => by
    unfold rowP
    have := rowF_toks s fr g l (s.size + 1 - 0) [] [] ht hh (by simpa using h) (by omega)
    rw [List.length_nil] at this
    rw [this]
    rfl
  have halt : altsP s fr 30 0 = .ok (treeOf l, s.size) := by
    rw [altsP_is]
    unfold altP
    rw [hrow]
    simp only [Res.then]
    rw [show s.size + 1 - s.size = 0 + 1 by omega, altF, if_neg (by unfold isAt; rw [decide_eq_false (by omega : ¬ s.size < s.size)]; simp)]
    rfl
  have hw : wholeP s fr = .ok (treeOf l, s.size) := by
    unfold wholeP
    rw [halt]
    simp only [Res.then]
    rw [if_neg (by omega)]
  obtain ⟨h1, h2, h3⟩ := tree_facts l hl
  unfold parseP
  rw [if_neg (by omega), hw]
  simp only
  rw [if_neg (by omega), if_neg (by omega), if_pos (tree_may l hl)]
/-! ### bytes, escaped -/
def escL (l : List UInt8) : Toks := l.map fun b => (encB b, sOf [b.toNat])
def dotL (l : List UInt8) : Toks := ([46], sNot fun _ => false) :: (escL l ++ [([91, 94, 93], sNot fun _ => false)])
def enc (l : List UInt8) : List UInt8 := l.flatMap encB
theorem enc_snoc (l : List UInt8) (b : UInt8) : enc (l ++ [b]) = enc l ++ encB b := by simp [enc]
theorem enc_length (l : List UInt8) : (enc l).length = 4 * l.length := by
  induction l with
  | nil => rfl
  | cons b r ih =>
    have : enc (b :: r) = encB b ++ enc r := by simp [enc]
    rw [this, List.length_append, ih]
    simp [encB]; omega
theorem esc_text (l : List UInt8) : textOf (escL l) = enc l := by
  unfold textOf escL enc
  simp [List.flatMap_map]
theorem esc_toks (l : List UInt8) : ∀ x ∈ escL l, TokOk x.1 x.2 := fun x hx => by
  unfold escL at hx
  obtain ⟨b, _, rfl⟩ := List.mem_map.1 hx
  exact tok_esc b
theorem esc_heads (l : List UInt8) : Heads (escL l) := fun x hx => by
  unfold escL at hx
  obtain ⟨b, _, rfl⟩ := List.mem_map.1 hx
  exact .inr (.inl ⟨_, rfl⟩)
theorem parse_esc {l : List UInt8} (hl : l.length ≤ 90) (h : s.data.toList = enc l) : parseP s fr = .ok (treeOf (escL l)) := by
  have hsz : s.size = 4 * l.length := by rw [← size_list, h, enc_length]
  exact parse_toks (esc_toks l) (fun x hx => esc_heads l x (List.mem_of_mem_tail hx)) (by simp [escL]; omega) (by omega) (by rw [h, esc_text])
theorem parse_dot {l : List UInt8} (hl : l.length ≤ 90) (h : s.data.toList = 46 :: (enc l ++ [91, 94, 93])) : parseP s fr = .ok (treeOf (dotL l)) := by
  have hsz : s.size = 4 * l.length + 4 := by rw [← size_list, h]; simp [enc_length]
  refine parse_toks (fun x hx => ?_) (fun x hx => ?_) (by simp [dotL, escL]; omega) (by omega) (by rw [h]; simp [dotL, textOf, ← esc_text])
  · unfold dotL at hx
    simp only [List.mem_cons, List.mem_append, List.not_mem_nil, or_false] at hx
    rcases hx with rfl | hx | rfl
    · exact tok_dot
    · exact esc_toks l x hx
    · exact tok_any
  · unfold dotL at hx
    simp only [List.tail_cons, List.mem_append, List.mem_cons, List.not_mem_nil, or_false] at hx
    rcases hx with hx | rfl
    · exact esc_heads l x hx
    · exact .inr (.inr ⟨_, rfl⟩)
theorem of_self (b : UInt8) : sOf [b.toNat] b.toNat = true := by unfold sOf; simp
theorem takes_esc (l : List UInt8) : (treeOf (escL l)).takes l = true := by
  refine tree_takes (by simp [escL]) fun i hi => ?_
  have hl : i < l.length := by simpa [escL] using hi
  exact ⟨l[i], List.getElem?_eq_getElem hl, by simp only [escL, List.getElem_map]; exact of_self _⟩
theorem takes_dot (l : List UInt8) (a b : UInt8) : (treeOf (dotL l)).takes (a :: (l ++ [b])) = true := by
  refine tree_takes (by simp [dotL, escL]) fun i hi => ?_
  match i, hi with
  | 0, _ => exact ⟨a, rfl, rfl⟩
  | i + 1, hi =>
    by_cases hl : i < l.length
    · refine ⟨l[i], by simp [List.getElem?_append_left hl], ?_⟩
      simp only [dotL, List.getElem_cons_succ]
      rw [List.getElem_append_left (by simpa [escL] using hl)]
      simp only [escL, List.getElem_map]
      exact of_self _
    · obtain rfl : i = l.length := by simp [dotL, escL] at hi; omega
      refine ⟨b, by simp, ?_⟩
      simp only [dotL, List.getElem_cons_succ]
      rw [List.getElem_append_right (by simp [escL])]
      simp [escL, sNot]
end
end Go.Proofs.Ytngagijcdehjpaa
