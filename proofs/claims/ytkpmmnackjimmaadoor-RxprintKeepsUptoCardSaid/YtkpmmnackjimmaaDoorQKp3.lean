/-
  A PLAIN TREE IS PLAIN: made plain once more it is itself. Condition: the tree's nodes may be. No program.
-/
import Derived.Test.YtkpmmnackjimmaaDoorQKp2
import Derived.Test.YtkpmmnackjimmaaDoorQTnorm
namespace Go.Proofs.YtkpmmnackjimmaaDoor

/-- of which no two are alike -/
def apartT : List Tree → Prop
  | [] => True
  | t :: r => (∀ u ∈ r, t.same u = false) ∧ apartT r
def plNode (k : Int) (m : Nat → Bool) (l : List Tree) (lo hi : Int) : Prop :=
  ((k = 0 ∨ k = 1) ∧ l = [] ∧ lo = 0 ∧ hi = 0) ∨
  (k = 2 ∧ m = (fun _ => false) ∧ lo = 0 ∧ hi = 0 ∧ 2 ≤ l.length ∧ ∀ t ∈ l, t.kind ≠ 2 ∧ t.kind ≠ 0 ∧ t.isV = false) ∨
  (k = 3 ∧ m = (fun _ => false) ∧ lo = 0 ∧ hi = 0 ∧ 2 ≤ l.length ∧ (∀ t ∈ l, t.kind ≠ 3 ∧ t.isV = false) ∧ apartT l ∧ ∃ all, ∀ t ∈ l, t.kind = 1 → t.set = all) ∨
  (k = 4 ∧ m = (fun _ => false) ∧ ∃ t, l = [t] ∧ repPlain t lo hi = .node 4 (fun _ => false) [t] lo hi)
/- plain, through and through -/
mutual
def Tree.pl : Tree → Prop
  | .node k m l lo hi => plNode k m l lo hi ∧ allPl l
def allPl : List Tree → Prop
  | [] => True
  | t :: r => t.pl ∧ allPl r
end
theorem allPl_iff : ∀ {l : List Tree}, allPl l ↔ ∀ t ∈ l, t.pl
  | [] => by simp [allPl]
  | a :: r => by simp only [allPl, List.mem_cons, forall_eq_or_imp, allPl_iff (l := r)]
theorem pl_empty : emptyT.pl := ⟨.inl ⟨.inl rfl, rfl, rfl, rfl⟩, trivial⟩
theorem pl_byte {m : Nat → Bool} : Tree.pl (.node 1 m [] 0 0) := ⟨.inl ⟨.inr rfl, rfl, rfl, rfl⟩, trivial⟩
theorem pl_sub {t : Tree} (h : t.pl) : ∀ x ∈ t.sub, x.pl := by
  cases t with
  | node q m l lo hi => exact allPl_iff.1 h.2
theorem pl_2 {t : Tree} (h : t.pl) (hk : t.kind = 2) : ∀ x ∈ t.sub, x.kind ≠ 2 ∧ x.kind ≠ 0 ∧ x.isV = false := by
  cases t with
  | node q m l lo hi =>
    have h' : q = 2 := hk
    subst h'
    rcases h.1 with ⟨h1, _⟩ | ⟨_, _, _, _, _, h2⟩ | ⟨h1, _⟩ | ⟨h1, _⟩
    · omega
    · exact h2
    · exact absurd h1 (by decide)
    · exact absurd h1 (by decide)
theorem pl_3 {t : Tree} (h : t.pl) (hk : t.kind = 3) : ∀ x ∈ t.sub, x.kind ≠ 3 ∧ x.isV = false := by
  cases t with
  | node q m l lo hi =>
    have h' : q = 3 := hk
    subst h'
    rcases h.1 with ⟨h1, _⟩ | ⟨h1, _⟩ | ⟨_, _, _, _, _, h2, _⟩ | ⟨h1, _⟩
    · omega
    · exact absurd h1 (by decide)
    · exact h2
    · exact absurd h1 (by decide)
theorem seg_pl {k : Int} {t : Tree} (h : t.pl) : ∀ x ∈ seg k t, x.pl := by
  intro x hx
  unfold seg at hx
  split at hx
  · exact pl_sub h x hx
  · simp at hx; rw [hx]; exact h
theorem flat_pl {k : Int} {l : List Tree} (h : ∀ t ∈ l, t.pl) : ∀ x ∈ flatT k l, x.pl := by
  intro x hx
  obtain ⟨t, ht, hx⟩ := mem_flat.1 hx
  exact seg_pl (h t ht) x hx
theorem flat2_kind {l : List Tree} (h : ∀ t ∈ l, t.pl) : ∀ x ∈ flatT 2 l, x.kind ≠ 2 := by
  intro x hx
  obtain ⟨t, ht, hx⟩ := mem_flat.1 hx
  unfold seg at hx
  split at hx
  · rename_i hk; exact (pl_2 (h t ht) hk x hx).1
  · rename_i hk; simp at hx; rw [hx]; exact hk
theorem flat3_kind {l : List Tree} (h : ∀ t ∈ l, t.pl) : ∀ x ∈ flatT 3 l, x.kind ≠ 3 := by
  intro x hx
  obtain ⟨t, ht, hx⟩ := mem_flat.1 hx
  unfold seg at hx
  split at hx
  · rename_i hk; exact (pl_3 (h t ht) hk x hx).1
  · rename_i hk; simp at hx; rw [hx]; exact hk
theorem cat_pl {l : List Tree} (h : ∀ t ∈ l, t.pl) (hk : ∀ t ∈ l, t.kind ≠ 2) : (rowT 2 emptyT (catStay l)).pl := by
  unfold catStay
  split
  · rename_i t ht
    exact h t (List.mem_of_find?_eq_some ht)
  · rename_i hn
    have hv : ∀ t ∈ l, t.isV = false := fun t ht => by simpa using List.find?_eq_none.1 hn t ht
    have h' : ∀ t ∈ catKeep l, t.pl ∧ (t.kind ≠ 2 ∧ t.kind ≠ 0 ∧ t.isV = false) := fun t ht => by
      unfold catKeep at ht
      obtain ⟨h1, h2⟩ := List.mem_filter.1 ht
      exact ⟨h t h1, hk t h1, by simpa using h2, hv t h1⟩
    match catKeep l, h' with
    | [], _ => exact pl_empty
    | [t], h' => exact (h' t (by simp)).1
    | a :: b :: r, h' =>
      rw [rowT_many 2 _ (by simp)]
      exact ⟨.inr (.inl ⟨rfl, rfl, rfl, rfl, by simp, fun t ht => (h' t ht).2⟩), allPl_iff.2 fun t ht => (h' t ht).1⟩
theorem apart_app : ∀ (l : List Tree) (x : Tree), apartT l → (∀ t ∈ l, t.same x = false) → apartT (l ++ [x])
  | [], x, _, _ => by simp [apartT]
  | a :: r, x, h, hx => by
    rw [List.cons_append]
    refine ⟨fun u hu => ?_, apart_app r x h.2 (fun t ht => hx t (by simp [ht]))⟩
    rcases List.mem_append.1 hu with hu | hu
    · exact h.1 u hu
    · simp at hu; rw [hu]; exact hx a (by simp)
theorem told_apart {all : Nat → Bool} : ∀ (l told : List Tree), apartT told → apartT (l.foldl (altStep all) told)
  | [], told, h => h
  | t :: r, told, h => by
    rw [List.foldl_cons]
    refine told_apart r _ ?_
    unfold altStep
    split
    · exact h
    · split
      · exact h
      · rename_i hs
        exact apart_app told _ h (fun u hu => by
          have := List.any_eq_false.1 (by simpa using hs) u hu
          simpa using this)
theorem turn_kind {all : Nat → Bool} {t : Tree} : (turnT all t).kind = t.kind := by
  unfold turnT
  split
  · rename_i h; rw [beq_iff_eq] at h; rw [h]; rfl
  · rfl
theorem turn_set {all : Nat → Bool} {t : Tree} (h : t.kind = 1) : (turnT all t).set = all := by
  unfold turnT
  rw [if_pos (by simpa using h)]; rfl
theorem turn_pl {all : Nat → Bool} {t : Tree} (h : t.pl) : (turnT all t).pl := by
  unfold turnT
  split
  · exact pl_byte
  · exact h
theorem alt_pl {l : List Tree} (h : ∀ t ∈ l, t.pl) (hk : ∀ t ∈ l, t.kind ≠ 3) : (rowT 3 voidT (altStay l)).pl := by
  have ha : apartT (altStay l) := told_apart l [] trivial
  have h' : ∀ t ∈ altStay l, t.pl ∧ (t.kind ≠ 3 ∧ t.isV = false) ∧ (t.kind = 1 → t.set = unionT l) := fun x hx => by
    obtain ⟨t, ht, hv, rfl⟩ := altStay_mem hx
    exact ⟨turn_pl (h t ht), ⟨by rw [turn_kind]; exact hk t ht, turn_live ht hv⟩, fun h1 => turn_set (by rw [turn_kind] at h1; exact h1)⟩
  generalize unionT l = all at h'
  match altStay l, ha, h' with
  | [], _, _ => exact pl_byte
  | [t], _, h' => exact (h' t (by simp)).1
  | a :: b :: r, ha, h' =>
    rw [rowT_many 3 _ (by simp)]
    exact ⟨.inr (.inr (.inl ⟨rfl, rfl, rfl, rfl, by simp, fun t ht => (h' t ht).2.1, ha, all, fun t ht => (h' t ht).2.2⟩)), allPl_iff.2 fun t ht => (h' t ht).1⟩
theorem rep_pl {t : Tree} (h : t.pl) (lo hi : Int) : (repPlain t lo hi).pl := by
  by_cases h1 : ((hi == 0) || ((t.kind == 0) || (t.isV && (lo == 0)))) = true
  · have : repPlain t lo hi = emptyT := by unfold repPlain; rw [if_pos h1]
    rw [this]; exact pl_empty
  · by_cases h2 : (t.isV || (((lo == 1) && (hi == 1)) || ((starB lo hi && (t.kind == 4)) && starB t.lo t.hi))) = true
    · have : repPlain t lo hi = t := by unfold repPlain; rw [if_neg h1, if_pos h2]
      rw [this]; exact h
    · have : repPlain t lo hi = .node 4 (fun _ => false) [t] lo hi := by unfold repPlain; rw [if_neg h1, if_neg h2]
      rw [this]
      exact ⟨.inr (.inr (.inr ⟨rfl, rfl, t, rfl, this⟩)), h, trivial⟩

mutual
theorem plain_pl : ∀ T : Tree, T.ok = true → T.plain.pl
  | .node k m l lo hi, h => by
    obtain ⟨h1, h2⟩ := ok_open h
    have hl := plainL_pl l h1
    unfold Tree.plain plainNode
    rcases okNode_kinds h2 with rfl | rfl | rfl | rfl | rfl
    · rw [if_neg (by decide), if_neg (by decide), if_neg (by decide)]
      obtain ⟨hn, rfl, rfl⟩ := okNode0 h2 (.inl rfl)
      exact ⟨.inl ⟨.inl rfl, rfl, rfl, rfl⟩, trivial⟩
    · rw [if_neg (by decide), if_neg (by decide), if_neg (by decide)]
      exact pl_byte
    · rw [if_pos rfl]
      exact cat_pl (flat_pl hl) (flat2_kind hl)
    · rw [if_neg (by decide), if_pos rfl]
      exact alt_pl (flat_pl hl) (flat3_kind hl)
    · rw [if_neg (by decide), if_neg (by decide), if_pos rfl]
      obtain ⟨g0, g1, g2, t, rfl, _⟩ := ok4 h
      exact rep_pl (hl _ (by simp [plainL])) lo hi
theorem plainL_pl : ∀ l : List Tree, (∀ t ∈ l, t.ok = true) → ∀ t ∈ plainL l, t.pl
  | [], _ => by intro t ht; simp [plainL] at ht
  | a :: r, h => by
    intro t ht
    simp only [plainL, List.mem_cons] at ht
    rcases ht with rfl | ht
    · exact plain_pl a (h a (by simp))
    · exact plainL_pl r (fun u hu => h u (by simp [hu])) t ht
end

/-! ### and then it is itself -/
theorem flat_id {k : Int} : ∀ l : List Tree, (∀ t ∈ l, t.kind ≠ k) → flatT k l = l
  | [], _ => rfl
  | t :: r, h => by
    have e : flatT k (t :: r) = seg k t ++ flatT k r := rfl
    rw [e, flat_id r (fun u hu => h u (by simp [hu]))]
    unfold seg
    rw [if_neg (h t (by simp))]
    rfl
theorem catStay_id {l : List Tree} (h : ∀ t ∈ l, t.kind ≠ 0 ∧ t.isV = false) : catStay l = l := by
  rw [catStay_none (fun t ht => (h t ht).2)]
  unfold catKeep
  exact List.filter_eq_self.2 fun t ht => by simpa using (h t ht).1
theorem union_all {all : Nat → Bool} : ∀ (l : List Tree) (m0 : Nat → Bool), (∀ t ∈ l, t.kind = 1 → t.set = all) → (m0 = (fun _ => false) ∨ m0 = all) → (∃ t ∈ l, t.kind = 1) ∨ m0 = all →
    l.foldl (fun m t => if t.kind == 1 then sOr m t.set else m) m0 = all
  | [], m0, _, _, h3 => by
    rcases h3 with ⟨t, ht, _⟩ | h3
    · cases ht
    · exact h3
  | a :: r, m0, h1, h2, h3 => by
    rw [List.foldl_cons]
    by_cases hk : a.kind = 1
    · rw [if_pos (by simpa using hk), h1 a (by simp) hk]
      have e : sOr m0 all = all := by
        rcases h2 with rfl | rfl
        · funext b; simp [sOr]
        · funext b; simp [sOr]
      rw [e]
      exact union_all r all (fun t ht => h1 t (by simp [ht])) (.inr rfl) (.inr rfl)
    · rw [if_neg (by simpa using hk)]
      refine union_all r m0 (fun t ht => h1 t (by simp [ht])) h2 ?_
      rcases h3 with ⟨t, ht, h4⟩ | h3
      · rcases List.mem_cons.1 ht with rfl | ht
        · exact absurd h4 hk
        · exact .inl ⟨t, ht, h4⟩
      · exact .inr h3
theorem told_id {all : Nat → Bool} : ∀ (l told : List Tree), (∀ t ∈ l, t.isV = false ∧ turnT all t = t) → apartT (told ++ l) → l.foldl (altStep all) told = told ++ l
  | [], told, _, _ => by simp
  | t :: r, told, h, ha => by
    have h0 := h t (by simp)
    have hs : ∀ u ∈ told, u.same t = false := by
      clear h h0
      induction told with
      | nil => intro u hu; cases hu
      | cons a told ih =>
        intro u hu
        rw [List.cons_append] at ha
        rcases List.mem_cons.1 hu with rfl | hu
        · exact ha.1 t (by simp)
        · exact ih ha.2 u hu
    rw [List.foldl_cons]
    have e : altStep all told t = told ++ [t] := by
      unfold altStep
      rw [if_neg (by rw [h0.1]; simp), h0.2, if_neg]
      intro h1
      obtain ⟨u, hu, h2⟩ := List.any_eq_true.1 h1
      rw [hs u hu] at h2; cases h2
    rw [e, told_id r _ (fun u hu => h u (by simp [hu])) (by rw [List.append_assoc]; exact ha), List.append_assoc]
    rfl
theorem turn_id {all : Nat → Bool} {t : Tree} (h : t.pl) (hs : t.kind = 1 → t.set = all) : turnT all t = t := by
  unfold turnT
  split
  · rename_i hk
    rw [beq_iff_eq] at hk
    have hs := hs hk
    cases t with
    | node q m l lo hi =>
      have h' : q = 1 := hk
      subst h'
      have e : m = all := hs
      subst e
      rcases h.1 with ⟨_, rfl, rfl, rfl⟩ | ⟨h1, _⟩ | ⟨h1, _⟩ | ⟨h1, _⟩
      · rfl
      · exact absurd h1 (by decide)
      · exact absurd h1 (by decide)
      · exact absurd h1 (by decide)
  · rfl
mutual
theorem pl_plain : ∀ T : Tree, T.pl → T.plain = T
  | .node k m l lo hi, h => by
    have hl := plL_plain l h.2
    unfold Tree.plain plainNode
    rw [hl]
    rcases h.1 with ⟨h1, rfl, rfl, rfl⟩ | ⟨rfl, rfl, rfl, rfl, hn, h2⟩ | ⟨rfl, rfl, rfl, rfl, hn, h2, ha, all, hs⟩ | ⟨rfl, rfl, t, rfl, h2⟩
    · rcases h1 with rfl | rfl <;> (rw [if_neg (by decide), if_neg (by decide), if_neg (by decide)])
    · rw [if_pos rfl, flat_id l (fun t ht => (h2 t ht).1), catStay_id (fun t ht => (h2 t ht).2), rowT_many 2 _ hn]
    · rw [if_neg (by decide), if_pos rfl, flat_id l (fun t ht => (h2 t ht).1)]
      have e : altStay l = l := by
        unfold altStay altTold
        have hpl := allPl_iff.1 h.2
        by_cases hb : ∃ t ∈ l, t.kind = 1
        · have hu : unionT l = all := union_all l _ hs (.inl rfl) (.inl hb)
          rw [hu]
          exact told_id l [] (fun t ht => ⟨(h2 t ht).2, turn_id (hpl t ht) (hs t ht)⟩) ha
        · exact told_id l [] (fun t ht => ⟨(h2 t ht).2, turn_id (hpl t ht) (fun hk => absurd ⟨t, ht, hk⟩ hb)⟩) ha
      rw [e, rowT_many 3 _ hn]
    · rw [if_neg (by decide), if_neg (by decide), if_pos rfl]
      exact h2
theorem plL_plain : ∀ l : List Tree, allPl l → plainL l = l
  | [], _ => rfl
  | t :: r, h => by
    simp only [plainL]
    rw [pl_plain t h.1, plL_plain r h.2]
end
/-- A PLAIN TREE IS PLAIN -/
theorem plain_plain (T : Tree) (h : T.ok = true) : T.plain.plain = T.plain := pl_plain _ (plain_pl T h)
theorem plain_mayN (T : Tree) (h : T.mayN = true) : T.plain.mayN = true := by
  obtain ⟨h1, h2, h3⟩ := mayN_ok h
  have hr := ok_reps T h1
  have g1 := plain_nodes T hr
  have g2 := plain_deep T hr
  unfold Tree.mayN
  rw [plain_ok T h1, decide_eq_true (by omega), decide_eq_true (by omega)]
  rfl
end Go.Proofs.YtkpmmnackjimmaaDoor

