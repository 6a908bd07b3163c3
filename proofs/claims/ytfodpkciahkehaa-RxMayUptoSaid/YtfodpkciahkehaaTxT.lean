/-
  WHAT IS SO OF A TREE's TEXTS: package rx's way of counting against the document's: of no program. Condition: each node of the tree may be.
-/
import Derived.Test.YtfodpkciahkehaaTx
import Derived.Test.YtfodpkciahkehaaLang
namespace Go.Proofs.Ytfodpkciahkehaa

mutual
def Tree.tx : Tree → Tx
  | .node k m l lo hi => if k = 0 then .one else if k = 1 then ⟨setEq m (fun _ => false), false, m, m⟩ else if k = 2 then (txs l).foldl thenX .one else if k = 3 then (txs l).foldl orX .none
      else if hi = 0 then .one else if lo = 0 then orX ((txs l).headD .zero) .one else (txs l).headD .zero
def txs : List Tree → List Tx
  | [] => []
  | t :: r => t.tx :: txs r
end
theorem txs_map : ∀ l : List Tree, txs l = l.map Tree.tx
  | [] => rfl
  | t :: r => by unfold txs; rw [txs_map r]; rfl

/-- says the same -/
structure Says (x : Tx) (v e : Bool) (f l : Nat → Bool) : Prop where
  v : x.v = v
  e : x.e = e
  f : ∀ b, b < 256 → x.f b = f b
  l : ∀ b, b < 256 → x.l b = l b

theorem void_not_empty : ∀ T : Tree, T.ok = true → T.void = true → T.empty = false := by
  intro T
  induction T using Tree.ind with
  | h k m l lo hi ih =>
    intro hok hv
    obtain ⟨hoks, hn⟩ := ok_open hok
    have hkind := okNode_kind hn
    unfold Tree.void at hv
    unfold Tree.empty
    rcases hkind with ⟨rfl, hl⟩ | ⟨rfl, hl⟩ | ⟨rfl, hl⟩ | ⟨rfl, hl⟩ | ⟨rfl, hl, hlo⟩
    · rw [if_pos rfl] at hv; cases hv
    · rw [if_neg (by decide), if_pos rfl]
    · rw [if_neg (by decide), if_neg (by decide), if_pos rfl] at hv ⊢
      have hall : ∀ t ∈ l, t.void = true → t.empty = false := fun t ht => ih t ht (hoks t ht)
      clear ih hoks hn hok hl
      induction l with
      | nil => cases hv
      | cons t r ihr =>
        unfold anyVoid at hv
        unfold allEmpty
        rw [Bool.or_eq_true] at hv
        rcases hv with hv | hv
        · rw [hall t (by simp) hv]; rfl
        · rw [ihr hv (fun t ht => hall t (by simp [ht]))]; simp
    · rw [if_neg (by decide), if_neg (by decide), if_neg (by decide), if_pos rfl] at hv ⊢
      have hall : ∀ t ∈ l, t.empty = false := fun t ht => ih t ht (hoks t ht) (allVoid_iff.1 hv t ht)
      clear ih hoks hn hok hl hv
      induction l with
      | nil => rfl
      | cons t r ihr => unfold anyEmpty; rw [hall t (by simp), ihr (fun t ht => hall t (by simp [ht]))]; rfl
    · rw [if_neg (by decide), if_neg (by decide), if_neg (by decide), if_neg (by decide)] at hv ⊢
      obtain ⟨t, rfl⟩ : ∃ t, l = [t] := by
        match l, hl with
        | [t], _ => exact ⟨t, rfl⟩
      unfold headVoid at hv
      unfold headEmpty
      rw [Bool.and_eq_true, decide_eq_true_eq] at hv
      rw [ih t (by simp) (hoks t (by simp)) hv.2, decide_eq_false (by omega)]; rfl

theorem void_last (b : Nat) : ∀ T : Tree, T.ok = true → b < 256 → T.void = true → T.last b = false := by
  intro T
  induction T using Tree.ind with
  | h k m l lo hi ih =>
    intro hok hb hv
    obtain ⟨hoks, hn⟩ := ok_open hok
    have hkind := okNode_kind hn
    unfold Tree.void at hv
    rcases hkind with ⟨rfl, hl⟩ | ⟨rfl, hl⟩ | ⟨rfl, hl⟩ | ⟨rfl, hl⟩ | ⟨rfl, hl, hlo⟩
    · rw [if_pos rfl] at hv; cases hv
    · rw [if_neg (by decide), if_pos rfl] at hv
      rw [last_1]
      exact setEq_iff.1 hv b hb
    · rw [if_neg (by decide), if_neg (by decide), if_pos rfl] at hv
      rw [last_2, hv]; rfl
    · rw [if_neg (by decide), if_neg (by decide), if_neg (by decide), if_pos rfl] at hv
      rw [last_3]
      have hall : ∀ t ∈ l, t.last b = false := fun t ht => ih t ht (hoks t ht) hb (allVoid_iff.1 hv t ht)
      clear ih hoks hn hok hl hv
      induction l with
      | nil => rfl
      | cons t r ihr => unfold lastAlt; rw [hall t (by simp), ihr (fun t ht => hall t (by simp [ht]))]; rfl
    · rw [if_neg (by decide), if_neg (by decide), if_neg (by decide), if_neg (by decide)] at hv
      obtain ⟨t, rfl⟩ : ∃ t, l = [t] := by
        match l, hl with
        | [t], _ => exact ⟨t, rfl⟩
      unfold headVoid at hv
      rw [Bool.and_eq_true] at hv
      rw [last_4]
      unfold headLast
      rw [ih t (by simp) (hoks t (by simp)) hb hv.2]; simp

/-! ### rows of trees, from the left -/
theorem anyVoid_snoc : ∀ (l : List Tree) (t : Tree), anyVoid (l ++ [t]) = (anyVoid l || t.void)
  | [], t => by simp [anyVoid]
  | a :: l, t => by simp only [List.cons_append, anyVoid, anyVoid_snoc l t, Bool.or_assoc]
theorem allEmpty_snoc : ∀ (l : List Tree) (t : Tree), allEmpty (l ++ [t]) = (allEmpty l && t.empty)
  | [], t => by simp [allEmpty]
  | a :: l, t => by simp only [List.cons_append, allEmpty, allEmpty_snoc l t, Bool.and_assoc]
theorem firstCat_snoc (b : Nat) : ∀ (l : List Tree) (t : Tree), firstCat b (l ++ [t]) = (firstCat b l || (allEmpty l && t.first b))
  | [], t => by simp [firstCat, allEmpty]
  | a :: l, t => by
    simp only [List.cons_append, firstCat, allEmpty, firstCat_snoc b l t]
    generalize a.first b = p; generalize a.empty = q; generalize firstCat b l = r; generalize allEmpty l = s; generalize t.first b = u
    cases p <;> cases q <;> cases r <;> cases s <;> cases u <;> rfl
theorem lastCat_snoc (b : Nat) : ∀ (l : List Tree) (t : Tree), lastCat b (l ++ [t]) = (t.last b || (t.empty && lastCat b l))
  | [], t => by simp [lastCat, allEmpty]
  | a :: l, t => by
    simp only [List.cons_append, lastCat, lastCat_snoc b l t, allEmpty_snoc]
    generalize a.last b = p; generalize t.empty = q; generalize lastCat b l = r; generalize allEmpty l = s; generalize t.last b = u
    cases p <;> cases q <;> cases r <;> cases s <;> cases u <;> rfl

theorem list_snoc {α : Type} {C : List α → Prop} (h0 : C []) (h1 : ∀ l x, C l → C (l ++ [x])) : ∀ l, C l := by
  intro l
  have : ∀ r : List α, C r.reverse := by
    intro r
    induction r with
    | nil => exact h0
    | cons x r ih => rw [List.reverse_cons]; exact h1 _ _ ih
  have h2 := this l.reverse
  rwa [List.reverse_reverse] at h2

theorem says_cat : ∀ l : List Tree, (∀ t ∈ l, Says t.tx t.void t.empty (fun b => t.first b) (fun b => t.last b)) →
    Says ((txs l).foldl thenX .one) (anyVoid l) (!anyVoid l && allEmpty l) (fun b => !anyVoid l && firstCat b l) (fun b => !anyVoid l && lastCat b l) := by
  intro l
  induction l using list_snoc with
  | h0 => intro _; exact ⟨rfl, rfl, fun b _ => rfl, fun b _ => rfl⟩
  | h1 l t ih =>
    intro h
    have hl := ih fun x hx => h x (by simp [hx])
    have ht := h t (by simp)
    rw [txs_map, List.map_append, List.map_cons, List.map_nil, List.foldl_append, ← txs_map]
    simp only [List.foldl_cons, List.foldl_nil]
    generalize (txs l).foldl thenX .one = x at *
    generalize t.tx = y at *
    obtain ⟨xv, xe, xf, xl⟩ := x
    obtain ⟨yv, ye, yf, yl⟩ := y
    obtain ⟨a1, a2, a3, a4⟩ := hl
    obtain ⟨b1, b2, b3, b4⟩ := ht
    dsimp only at a1 a2 a3 a4 b1 b2 b3 b4
    rw [anyVoid_snoc, allEmpty_snoc]
    unfold thenX
    dsimp only
    by_cases hv : (xv || yv) = true
    · rw [if_pos hv]
      rw [a1, b1] at hv
      refine ⟨hv.symm, by rw [hv]; rfl, fun b hb => ?_, fun b hb => ?_⟩
      · show false = _
        rw [hv]; rfl
      · show false = _
        rw [hv]; rfl
    · rw [if_neg hv]
      rw [a1, b1] at hv
      have hv2 : (anyVoid l || t.void) = false := by simpa using hv
      obtain ⟨v1, v2⟩ := Bool.or_eq_false_iff.1 hv2
      rw [hv2]
      rw [v1] at a2 a3 a4
      simp only [Bool.not_false, Bool.true_and] at a2 a3 a4 ⊢
      refine ⟨rfl, by rw [a2, b2], fun b hb => ?_, fun b hb => ?_⟩
      · rw [firstCat_snoc]
        dsimp only
        cases xe
        · rw [if_neg (by decide), ← a2, a3 b hb]; simp
        · rw [if_pos rfl, ← a2]
          show (xf b || yf b) = _
          rw [a3 b hb, b3 b hb]; simp
      · rw [lastCat_snoc]
        dsimp only
        cases ye
        · rw [if_neg (by decide), ← b2, b4 b hb]; simp
        · rw [if_pos rfl, ← b2]
          show (xl b || yl b) = _
          rw [a4 b hb, b4 b hb, Bool.or_comm]; simp

theorem allVoid_snoc : ∀ (l : List Tree) (t : Tree), allVoid (l ++ [t]) = (allVoid l && t.void)
  | [], t => by simp [allVoid]
  | a :: l, t => by simp only [List.cons_append, allVoid, allVoid_snoc l t, Bool.and_assoc]
theorem anyEmpty_snoc : ∀ (l : List Tree) (t : Tree), anyEmpty (l ++ [t]) = (anyEmpty l || t.empty)
  | [], t => by simp [anyEmpty]
  | a :: l, t => by simp only [List.cons_append, anyEmpty, anyEmpty_snoc l t, Bool.or_assoc]
theorem firstAlt_snoc (b : Nat) : ∀ (l : List Tree) (t : Tree), firstAlt b (l ++ [t]) = (firstAlt b l || t.first b)
  | [], t => by simp [firstAlt]
  | a :: l, t => by simp only [List.cons_append, firstAlt, firstAlt_snoc b l t, Bool.or_assoc]
theorem lastAlt_snoc (b : Nat) : ∀ (l : List Tree) (t : Tree), lastAlt b (l ++ [t]) = (lastAlt b l || t.last b)
  | [], t => by simp [lastAlt]
  | a :: l, t => by simp only [List.cons_append, lastAlt, lastAlt_snoc b l t, Bool.or_assoc]
theorem says_alt : ∀ l : List Tree, (∀ t ∈ l, Says t.tx t.void t.empty (fun b => t.first b) (fun b => t.last b)) →
    Says ((txs l).foldl orX .none) (allVoid l) (anyEmpty l) (fun b => firstAlt b l) (fun b => lastAlt b l) := by
  intro l
  induction l using list_snoc with
  | h0 => intro _; exact ⟨rfl, rfl, fun b _ => rfl, fun b _ => rfl⟩
  | h1 l t ih =>
    intro h
    have hl := ih fun x hx => h x (by simp [hx])
    have ht := h t (by simp)
    rw [txs_map, List.map_append, List.map_cons, List.map_nil, List.foldl_append, ← txs_map]
    simp only [List.foldl_cons, List.foldl_nil]
    generalize (txs l).foldl orX .none = x at *
    generalize t.tx = y at *
    refine ⟨?_, ?_, fun b hb => ?_, fun b hb => ?_⟩
    · rw [allVoid_snoc, ← hl.v, ← ht.v]; rfl
    · rw [anyEmpty_snoc, ← hl.e, ← ht.e]; rfl
    · show (x.f b || y.f b) = _
      rw [firstAlt_snoc, hl.f b hb, ht.f b hb]
    · show (x.l b || y.l b) = _
      rw [lastAlt_snoc, hl.l b hb, ht.l b hb]

/-- WHAT PACKAGE rx TELLS OF A TREE's TEXTS IS WHAT IS SO -/
theorem says_any : ∀ T : Tree, T.ok = true → Says T.tx T.void T.empty (fun b => T.first b) (fun b => T.last b) := by
  intro T
  induction T using Tree.ind with
  | h k m l lo hi ih =>
    intro hok
    have hve := void_not_empty _ hok
    obtain ⟨hoks, hn⟩ := ok_open hok
    have hw := fun t ht => ih t ht (hoks t ht)
    have hkind := okNode_kind hn
    unfold Tree.tx
    rcases hkind with ⟨rfl, hl⟩ | ⟨rfl, hl⟩ | ⟨rfl, hl⟩ | ⟨rfl, hl⟩ | ⟨rfl, hl, hlo⟩
    · rw [if_pos rfl]
      refine ⟨by rw [void_0]; rfl, by unfold Tree.empty; rw [if_pos rfl]; rfl, fun b _ => ?_, fun b _ => ?_⟩
      · unfold Tree.first; rw [if_pos rfl]; rfl
      · unfold Tree.last; rw [if_pos rfl]; rfl
    · rw [if_neg (by decide), if_pos rfl]
      refine ⟨by rw [void_1], by unfold Tree.empty; rw [if_neg (by decide), if_pos rfl], fun b _ => by rw [first_1], fun b _ => by rw [last_1]⟩
    · rw [if_neg (by decide), if_neg (by decide), if_pos rfl]
      obtain ⟨s1, s2, s3, s4⟩ := says_cat l hw
      rw [void_2] at hve
      have he : Tree.empty (.node 2 m l lo hi) = allEmpty l := by unfold Tree.empty; rw [if_neg (by decide), if_neg (by decide), if_pos rfl]
      rw [he] at hve
      refine ⟨by rw [s1, void_2], ?_, fun b hb => by rw [s3 b hb]; rw [first_2], fun b hb => by rw [s4 b hb]; rw [last_2]⟩
      rw [s2, he]
      cases hv : anyVoid l
      · simp
      · rw [hve hv]; rfl
    · rw [if_neg (by decide), if_neg (by decide), if_neg (by decide), if_pos rfl]
      obtain ⟨s1, s2, s3, s4⟩ := says_alt l hw
      refine ⟨by rw [s1, void_3], ?_, fun b hb => by rw [s3 b hb]; rw [first_3], fun b hb => by rw [s4 b hb]; rw [last_3]⟩
      rw [s2]; unfold Tree.empty; rw [if_neg (by decide), if_neg (by decide), if_neg (by decide), if_pos rfl]
    · rw [if_neg (by decide), if_neg (by decide), if_neg (by decide), if_neg (by decide)]
      obtain ⟨t, rfl⟩ : ∃ t, l = [t] := by
        match l, hl with
        | [t], _ => exact ⟨t, rfl⟩
      have hx : (txs [t]).headD .zero = t.tx := rfl
      rw [hx]
      obtain ⟨s1, s2, s3, s4⟩ := hw t (by simp)
      have hV : headVoid [t] = t.void := by unfold headVoid; rfl
      have hE : headEmpty [t] = t.empty := by unfold headEmpty; rfl
      have he : Tree.empty (.node 4 m [t] lo hi) = (decide (lo ≤ 0) || t.empty) := by
        rw [← hE]
        conv =>
          lhs
          unfold Tree.empty
        rw [if_neg (by decide), if_neg (by decide), if_neg (by decide), if_neg (by decide)]
      by_cases h0 : hi = 0
      · subst h0
        have hl0 : lo = 0 := by omega
        subst hl0
        rw [if_pos rfl]
        refine ⟨by rw [void_4]; rfl, by rw [he]; rfl, fun b _ => ?_, fun b _ => ?_⟩
        · rw [first_4]; rfl
        · rw [last_4]; rfl
      · rw [if_neg h0]
        have hF : ∀ b, headFirst b [t] = t.first b := fun b => by unfold headFirst; rfl
        have hL : ∀ b, headLast b [t] = t.last b := fun b => by unfold headLast; rfl
        by_cases h1 : lo = 0
        · subst h1
          rw [if_pos rfl]
          refine ⟨by rw [void_4]; show (t.tx.v && false) = _; simp, by rw [he]; show (t.tx.e || true) = _; simp, fun b hb => ?_, fun b hb => ?_⟩
          · show (t.tx.f b || false) = _
            rw [s3 b hb]; rw [first_4, hF, decide_eq_true h0]; simp
          · show (t.tx.l b || false) = _
            rw [s4 b hb]; rw [last_4, hL, decide_eq_true h0]; simp
        · rw [if_neg h1]
          refine ⟨by rw [s1, void_4, hV, decide_eq_true (by omega)]; simp, by rw [s2, he, decide_eq_false (by omega)]; simp, fun b hb => ?_, fun b hb => ?_⟩
          · rw [s3 b hb]; rw [first_4, hF, decide_eq_true h0]; simp
          · rw [s4 b hb]; rw [last_4, hL, decide_eq_true h0]; simp

end Go.Proofs.Ytfodpkciahkehaa

