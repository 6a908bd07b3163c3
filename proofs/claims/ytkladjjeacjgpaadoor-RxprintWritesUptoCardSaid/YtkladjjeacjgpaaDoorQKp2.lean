/-
  A PLAIN TREE HAS THE TREE's TEXTS, MAY BE, AND IS NO DEEPER. Condition: the tree's nodes may be. No program.
-/
import Derived.Test.YtkladjjeacjgpaaDoorQTplain
import Derived.Test.YtkladjjeacjgpaaDoorQKp1
namespace Go.Proofs.YtkladjjeacjgpaaDoor

theorem isV_iff {t : Tree} : t.isV = true ↔ t.kind = 1 ∧ ∀ b, b < 256 → t.set b = false := by
  unfold Tree.isV voidB
  rw [Bool.and_eq_true, beq_iff_eq, setEq_iff]
theorem isV_ends {t : Tree} (h : t.isV = true) (s : List UInt8) (f : Nat → Bool) (k : Nat) : t.ends s f k = false := by
  cases t with
  | node q m l lo hi =>
    obtain ⟨h1, h2⟩ := isV_iff.1 h
    have h1' : q = 1 := h1
    subst h1'
    have h2' : ∀ b, b < 256 → m b = false := h2
    rw [ends_1]
    match k with
    | 0 => rfl
    | i + 1 =>
      show (f i && (match s[i]? with | some c => m c.toNat | none => false)) = false
      cases s[i]? with
      | none => simp
      | some c => show (f i && m c.toNat) = false; rw [h2' _ (UInt8.toNat_lt c)]; simp
theorem isV_void {t : Tree} (h : t.isV = true) : t.void = true := by
  cases t with
  | node q m l lo hi =>
    obtain ⟨h1, h2⟩ := isV_iff.1 h
    have h1' : q = 1 := h1
    subst h1'
    have h2' : ∀ b, b < 256 → m b = false := h2
    rw [void_1]
    exact setEq_iff.2 h2'
theorem kind0_ends {t : Tree} (h : t.kind = 0) (s : List UInt8) : t.ends s = fun f => f := by
  cases t with
  | node q m l lo hi => have h' : q = 0 := h; subst h'; exact ends_0
theorem kind0_void {t : Tree} (h : t.kind = 0) : t.void = false := by
  cases t with
  | node q m l lo hi => have h' : q = 0 := h; subst h'; exact void_0 _ _ _ _
theorem emptyT_ends (s : List UInt8) : emptyT.ends s = fun f => f := ends_0
theorem voidT_isV : voidT.isV = true := isV_iff.2 ⟨rfl, fun _ _ => rfl⟩

/-! ### rows -/
theorem row2_ends (s : List UInt8) : ∀ l : List Tree, (rowT 2 emptyT l).ends s = endsCat s l
  | [] => by show emptyT.ends s = _; rw [emptyT_ends]; funext f; rw [cat_nil]
  | [t] => by show t.ends s = _; funext f; rw [cat_cons, cat_nil]
  | a :: b :: r => by rw [rowT_many 2 _ (by simp)]; exact ends_2
theorem row3_ends (s : List UInt8) (f : Nat → Bool) (k : Nat) : ∀ l : List Tree, (rowT 3 voidT l).ends s f k = l.any fun t => t.ends s f k
  | [] => by show voidT.ends s f k = _; rw [isV_ends voidT_isV]; rfl
  | [t] => by show t.ends s f k = _; simp
  | a :: b :: r => by rw [rowT_many 3 _ (by simp), ends_3, endsAlt_any]
theorem row2_void : ∀ l : List Tree, (rowT 2 emptyT l).void = anyVoid l
  | [] => by show emptyT.void = _; exact void_0 _ _ _ _
  | [t] => by show t.void = _; simp [anyVoid]
  | a :: b :: r => by rw [rowT_many 2 _ (by simp)]; exact void_2 _ _ _ _
theorem row3_void : ∀ l : List Tree, (rowT 3 voidT l).void = allVoid l
  | [] => by show voidT.void = _; exact isV_void voidT_isV
  | [t] => by show t.void = _; simp [allVoid]
  | a :: b :: r => by rw [rowT_many 3 _ (by simp)]; exact void_3 _ _ _ _

/-! ### Subs in their Sub's place -/
theorem flat2_ends (s : List UInt8) : ∀ l : List Tree, endsCat s (flatT 2 l) = endsCat s l
  | [] => rfl
  | t :: r => by
    have e : flatT 2 (t :: r) = seg 2 t ++ flatT 2 r := rfl
    funext f
    rw [e, endsCat_append, flat2_ends s r, cat_cons]
    congr 1
    unfold seg
    split
    · rename_i h
      cases t with
      | node q m l lo hi => have h' : q = 2 := h; subst h'; rw [ends_2]; rfl
    · rw [cat_cons, cat_nil]
theorem flat2_void : ∀ l : List Tree, anyVoid (flatT 2 l) = anyVoid l
  | [] => rfl
  | t :: r => by
    have e : flatT 2 (t :: r) = seg 2 t ++ flatT 2 r := rfl
    have ha : ∀ a b : List Tree, anyVoid (a ++ b) = (anyVoid a || anyVoid b) := by
      intro a
      induction a with
      | nil => intro b; simp [anyVoid]
      | cons x a ih => intro b; simp only [List.cons_append, anyVoid, ih, Bool.or_assoc]
    rw [e, ha, flat2_void r]
    show _ = (t.void || anyVoid r)
    congr 1
    unfold seg
    split
    · rename_i h
      cases t with
      | node q m l lo hi => have h' : q = 2 := h; subst h'; rw [void_2]; rfl
    · simp [anyVoid]
theorem flat3_any (p : Tree → Bool) (hp : ∀ t : Tree, t.kind = 3 → p t = t.sub.any p) : ∀ l : List Tree, (flatT 3 l).any p = l.any p
  | [] => rfl
  | t :: r => by
    have e : flatT 3 (t :: r) = seg 3 t ++ flatT 3 r := rfl
    rw [e, List.any_append, flat3_any p hp r, List.any_cons]
    congr 1
    unfold seg
    split
    · rename_i h; rw [hp t h]
    · simp

/-! ### what stays -/
theorem mem_flat {k : Int} {l : List Tree} {x : Tree} : x ∈ flatT k l ↔ ∃ t ∈ l, x ∈ seg k t := by unfold flatT; rw [List.mem_flatMap]
theorem cat_filter (s : List UInt8) : ∀ l : List Tree, endsCat s (catKeep l) = endsCat s l
  | [] => rfl
  | t :: r => by
    have ih := cat_filter s r
    unfold catKeep at *
    funext f
    rw [cat_cons, List.filter_cons]
    split
    · rw [cat_cons, ih]
    · rename_i h
      have h0 : t.kind = 0 := by simpa using h
      rw [ih, kind0_ends h0]
theorem void_filter : ∀ l : List Tree, anyVoid (catKeep l) = anyVoid l
  | [] => rfl
  | t :: r => by
    have ih := void_filter r
    unfold catKeep at *
    rw [List.filter_cons]
    split
    · simp only [anyVoid, ih]
    · rename_i h
      have h0 : t.kind = 0 := by simpa using h
      simp only [anyVoid, ih, kind0_void h0, Bool.false_or]
theorem cat_dead (s : List UInt8) {t : Tree} (ht : ∀ f k, t.ends s f k = false) : ∀ (l : List Tree) (f : Nat → Bool) (k : Nat), t ∈ l → endsCat s l f k = false
  | a :: r, f, k, h => by
    rw [cat_cons]
    rcases List.mem_cons.1 h with rfl | h
    · exact adds_none (adds_cat s r (fun u _ => ends_adds s u)) (ht f) k
    · exact cat_dead s ht r _ k h
theorem catStay_ends (s : List UInt8) (l : List Tree) : endsCat s (catStay l) = endsCat s l := by
  unfold catStay
  split
  · rename_i t ht
    have hm := List.mem_of_find?_eq_some ht
    have hv := List.find?_some ht
    funext f k
    rw [cat_cons, cat_nil, isV_ends hv, cat_dead s (isV_ends hv s) l f k hm]
  · exact cat_filter s l
theorem catStay_void (l : List Tree) : anyVoid (catStay l) = anyVoid l := by
  unfold catStay
  split
  · rename_i t ht
    have hm := List.mem_of_find?_eq_some ht
    have hv := isV_void (List.find?_some ht)
    rw [anyVoid_iff.2 ⟨t, hm, hv⟩]
    simp [anyVoid, hv]
  · exact void_filter l
theorem union_iff {b : Nat} : ∀ (l : List Tree) (m0 : Nat → Bool), l.foldl (fun m t => if t.kind == 1 then sOr m t.set else m) m0 b = true ↔ m0 b = true ∨ ∃ t ∈ l, t.kind = 1 ∧ t.set b = true
  | [], m0 => by simp
  | t :: r, m0 => by
    rw [List.foldl_cons, union_iff r]
    by_cases h : t.kind = 1
    · have e : (t.kind == 1) = true := by simpa using h
      rw [if_pos e]
      simp only [sOr, Bool.or_eq_true, List.mem_cons, exists_eq_or_imp]
      simp only [h, true_and]
      exact or_assoc
    · have e : ¬ (t.kind == 1) = true := by simpa using h
      rw [if_neg e]
      simp only [List.mem_cons, exists_eq_or_imp]
      simp only [h, false_and, false_or]
theorem unionT_iff {b : Nat} {l : List Tree} : unionT l b = true ↔ ∃ t ∈ l, t.kind = 1 ∧ t.set b = true := by
  unfold unionT; rw [union_iff]; simp
theorem told_mem {all : Nat → Bool} : ∀ (l told : List Tree) {x : Tree}, x ∈ l.foldl (altStep all) told → x ∈ told ∨ ∃ t ∈ l, t.isV = false ∧ x = turnT all t
  | [], told, x, h => .inl h
  | t :: r, told, x, h => by
    rw [List.foldl_cons] at h
    rcases told_mem r _ h with h1 | ⟨u, hu, h2⟩
    · unfold altStep at h1
      split at h1
      · exact .inl h1
      · rename_i hv
        split at h1
        · exact .inl h1
        · rcases List.mem_append.1 h1 with h1 | h1
          · exact .inl h1
          · exact .inr ⟨t, by simp, by simpa using hv, by simpa using h1⟩
    · exact .inr ⟨u, by simp [hu], h2⟩
theorem told_keeps {all : Nat → Bool} (l told : List Tree) {x : Tree} (h : x ∈ told) : x ∈ l.foldl (altStep all) told := by
  obtain ⟨r, hr⟩ := altFold_more (all := all) l told
  rw [hr]; exact List.mem_append.2 (.inl h)
theorem told_has {all : Nat → Bool} : ∀ (l told : List Tree) {t : Tree}, t ∈ l → t.isV = false → ∃ x ∈ l.foldl (altStep all) told, x.same (turnT all t) = true
  | a :: r, told, t, h, hv => by
    rw [List.foldl_cons]
    rcases List.mem_cons.1 h with rfl | h
    · have : ∃ x ∈ altStep all told t, x.same (turnT all t) = true := by
        unfold altStep
        rw [if_neg (by rw [hv]; simp)]
        split
        · rename_i hs; exact List.any_eq_true.1 hs
        · exact ⟨turnT all t, by simp, same_refl _⟩
      obtain ⟨x, hx, hs⟩ := this
      exact ⟨x, told_keeps r _ hx, hs⟩
    · exact told_has r _ h hv
theorem altStay_ends (s : List UInt8) (l : List Tree) (f : Nat → Bool) (k : Nat) : ((altStay l).any fun t => t.ends s f k) = l.any fun t => t.ends s f k := by
  rw [Bool.eq_iff_iff, List.any_eq_true, List.any_eq_true]
  unfold altStay altTold
  constructor
  · rintro ⟨x, hx, h⟩
    rcases told_mem l [] hx with h1 | ⟨t, ht, hv, rfl⟩
    · cases h1
    · unfold turnT at h
      split at h
      · rename_i hk
        rw [ends_1] at h
        match k, h with
        | i + 1, h =>
          have h' : (f i && (match s[i]? with | some c => unionT l c.toNat | none => false)) = true := h
          cases hc : s[i]? with
          | none => rw [hc] at h'; simp at h'
          | some c =>
            rw [hc] at h'
            have h2 : f i = true ∧ unionT l c.toNat = true := by simpa using h'
            obtain ⟨u, hu, hk1, hb⟩ := unionT_iff.1 h2.2
            refine ⟨u, hu, ?_⟩
            cases u with
            | node q m l' lo hi =>
              have hk' : q = 1 := hk1
              subst hk'
              have hb' : m c.toNat = true := hb
              rw [ends_1]
              show (f i && (match s[i]? with | some c => m c.toNat | none => false)) = true
              rw [hc, h2.1]
              simpa using hb'
      · exact ⟨t, ht, h⟩
  · rintro ⟨t, ht, h⟩
    have hv : t.isV = false := by
      cases hv : t.isV with
      | false => rfl
      | true => rw [isV_ends hv] at h; cases h
    obtain ⟨x, hx, hs⟩ := told_has (all := unionT l) l [] ht hv
    refine ⟨x, hx, ?_⟩
    rw [same_ends s x _ hs]
    unfold turnT
    split
    · rename_i hk
      have hk1 : t.kind = 1 := by simpa using hk
      rw [ends_1]
      cases t with
      | node q m l' lo hi =>
        have hk' : q = 1 := hk1
        subst hk'
        rw [ends_1] at h
        match k, h with
        | i + 1, h =>
          have h' : (f i && (match s[i]? with | some c => m c.toNat | none => false)) = true := h
          show (f i && (match s[i]? with | some c => unionT l c.toNat | none => false)) = true
          cases hc : s[i]? with
          | none => rw [hc] at h'; simp at h'
          | some c =>
            rw [hc] at h'
            have h2 : f i = true ∧ m c.toNat = true := by simpa using h'
            have := unionT_iff.2 ⟨_, ht, rfl, h2.2⟩
            simp [h2.1, this]
    · exact h
theorem turn_live {l : List Tree} {t : Tree} (ht : t ∈ l) (hv : t.isV = false) : (turnT (unionT l) t).isV = false := by
  unfold turnT
  split
  · rename_i hk
    have hk1 : t.kind = 1 := by simpa using hk
    rw [Bool.eq_false_iff]
    intro h
    obtain ⟨_, h2⟩ := isV_iff.1 h
    have : t.isV = true := isV_iff.2 ⟨hk1, fun b hb => by
      cases hb1 : t.set b with
      | false => rfl
      | true =>
        have h3 : unionT l b = false := h2 b hb
        rw [unionT_iff.2 ⟨t, ht, hk1, hb1⟩] at h3
        cases h3⟩
    rw [this] at hv; cases hv
  · exact hv
theorem kind1_void {t : Tree} (h : t.kind = 1) : t.void = t.isV := by
  cases t with
  | node q m l lo hi => have h' : q = 1 := h; subst h'; rw [void_1]; rfl
theorem turn_void {l : List Tree} {t : Tree} (ht : t ∈ l) (hv : t.isV = false) : (turnT (unionT l) t).void = t.void := by
  by_cases hk : t.kind = 1
  · have h1 := turn_live ht hv
    have h2 : (turnT (unionT l) t).kind = 1 := by unfold turnT; rw [if_pos (by simpa using hk)]; rfl
    rw [kind1_void h2, kind1_void hk, h1, hv]
  · unfold turnT; rw [if_neg (by simpa using hk)]
theorem altStay_void (l : List Tree) : allVoid (altStay l) = allVoid l := by
  rw [Bool.eq_iff_iff, allVoid_iff, allVoid_iff]
  unfold altStay altTold
  constructor
  · intro h t ht
    cases hv : t.isV with
    | true => exact isV_void hv
    | false =>
      obtain ⟨x, hx, hs⟩ := told_has (all := unionT l) l [] ht hv
      have := h x hx
      rw [same_void x _ hs, turn_void ht hv] at this
      exact this
  · intro h x hx
    rcases told_mem l [] hx with h1 | ⟨t, ht, hv, rfl⟩
    · cases h1
    · rw [turn_void ht hv]; exact h t ht
theorem allVoid_any : ∀ l : List Tree, allVoid l = !(l.any fun t => !t.void)
  | [] => rfl
  | t :: r => by simp only [allVoid, List.any_cons, allVoid_any r]; cases t.void <;> simp
theorem flat3_void (l : List Tree) : allVoid (flatT 3 l) = allVoid l := by
  rw [allVoid_any, allVoid_any, flat3_any]
  intro t ht
  cases t with
  | node q m l lo hi =>
    have h' : q = 3 := ht
    subst h'
    rw [void_3, allVoid_any]
    simp [Tree.sub]

/-! ### what is repeated -/
theorem iter_id {n : Nat} {f : Nat → Bool} : iterE (fun f => f) n f = f := by
  induction n with
  | zero => rfl
  | succ n ih => exact ih
theorem ok4 {m : Nat → Bool} {l : List Tree} {lo hi : Int} (h : Tree.ok (.node 4 m l lo hi) = true) : 0 ≤ lo ∧ lo ≤ 64 ∧ (hi = -1 ∨ (lo ≤ hi ∧ hi ≤ 64)) ∧ ∃ t, l = [t] ∧ t.ok = true := by
  have h2 := ok_open h
  have h3 := h2.2
  unfold okNode at h3
  split at h3
  · cases h3
  · rw [if_neg (by decide), if_neg (by decide), if_pos rfl] at h3
    have h4 := of_decide_eq_true h3
    refine ⟨h4.2.1, h4.2.2.1, h4.2.2.2, ?_⟩
    match l, h4.1, h2.1 with
    | [t], _, h => exact ⟨t, rfl, h t (by simp)⟩
theorem rep_ends (s : List UInt8) (t : Tree) (hok : t.ok = true) (lo hi : Int) (h0 : 0 ≤ lo) (h1 : hi = -1 ∨ lo ≤ hi) (f : Nat → Bool) (k : Nat) :
    (repPlain t lo hi).ends s f k = repTo (t.ends s) lo.toNat (mostOf s lo hi + 1) f k := by
  have hmost : lo.toNat ≤ mostOf s lo hi := by
    unfold mostOf
    split <;> omega
  unfold repPlain
  split
  · rename_i hc
    rw [emptyT_ends]
    rw [Bool.or_eq_true, Bool.or_eq_true, Bool.and_eq_true, beq_iff_eq, beq_iff_eq, beq_iff_eq] at hc
    rcases hc with hc | hc | ⟨hc, hl⟩
    · subst hc
      have hl : lo = 0 := by omega
      subst hl
      have e : mostOf s 0 0 = 0 := rfl
      rw [e]
      simp [repTo, iterE]
    · rw [kind0_ends hc, Bool.eq_iff_iff, repTo_iff]
      constructor
      · intro h; exact ⟨lo.toNat, by omega, Nat.le_refl _, by rw [iter_id]; exact h⟩
      · rintro ⟨n, _, _, h⟩; rw [iter_id] at h; exact h
    · subst hl
      rw [Bool.eq_iff_iff, repTo_iff]
      constructor
      · intro h; exact ⟨0, by omega, by simp, h⟩
      · rintro ⟨n, _, _, h⟩
        match n, h with
        | 0, h => exact h
        | n + 1, h =>
          have h' : t.ends s (iterE (t.ends s) n f) k = true := h
          rw [isV_ends hc] at h'; cases h'
  · rename_i hc
    split
    · rename_i hd
      rw [Bool.or_eq_true, Bool.or_eq_true, Bool.and_eq_true, Bool.and_eq_true, Bool.and_eq_true, beq_iff_eq, beq_iff_eq, beq_iff_eq] at hd
      rcases hd with hd | ⟨rfl, rfl⟩ | ⟨⟨hs1, hk4⟩, hs2⟩
      · rw [isV_ends hd]
        symm
        rw [Bool.eq_false_iff]
        intro h
        obtain ⟨n, _, h2, h3⟩ := repTo_iff.1 h
        have hl : ¬ lo = 0 := by
          intro e
          apply hc
          rw [hd, e]; simp
        match n, h2, h3 with
        | 0, h2, _ => omega
        | n + 1, _, h3 =>
          have h' : t.ends s (iterE (t.ends s) n f) k = true := h3
          rw [isV_ends hd] at h'; cases h'
      · have e : mostOf s 1 1 = 1 := rfl
        rw [e, Bool.eq_iff_iff, repTo_iff]
        constructor
        · intro h; exact ⟨1, by omega, by simp, h⟩
        · rintro ⟨n, h1, h2, h⟩
          have : n = 1 := by have : (1 : Int).toNat = 1 := rfl; omega
          subst this
          exact h
      · unfold starB at hs1 hs2
        rw [Bool.and_eq_true, beq_iff_eq, beq_iff_eq] at hs1 hs2
        obtain ⟨rfl, rfl⟩ := hs1
        cases t with
        | node q m l lo' hi' =>
          have hk' : q = 4 := hk4
          subst hk'
          have e1 : lo' = 0 := hs2.1
          have e2 : hi' = -1 := hs2.2
          subst e1 e2
          obtain ⟨_, _, _, u, rfl, hu⟩ := ok4 hok
          have e : mostOf s 0 (-1) + 1 = s.length + 2 := by unfold mostOf; simp
          rw [ends_4 (by decide) (by decide) (by decide) (by decide), e]
          have eh : headEnds s [u] = u.ends s := by rw [headEnds]
          rw [eh]
          exact (star_star s (ends_adds s u) (fun i k h => ends_way hu h) f k).symm
    · rw [ends_4 (by decide) (by decide) (by decide) (by decide)]
      have eh : headEnds s [t] = t.ends s := by rw [headEnds]
      rw [eh]
theorem rep_void (t : Tree) (lo hi : Int) (h0 : 0 ≤ lo) (h1 : hi = -1 ∨ lo ≤ hi) : (repPlain t lo hi).void = (decide (0 < lo) && t.void) := by
  unfold repPlain
  split
  · rename_i hc
    rw [Bool.or_eq_true, Bool.or_eq_true, Bool.and_eq_true, beq_iff_eq, beq_iff_eq, beq_iff_eq] at hc
    have e : emptyT.void = false := void_0 _ _ _ _
    rw [e]
    rcases hc with hc | hc | ⟨hc, hl⟩
    · rw [decide_eq_false (by omega)]; rfl
    · rw [kind0_void hc]; simp
    · rw [decide_eq_false (by omega)]; rfl
  · rename_i hc
    split
    · rename_i hd
      rw [Bool.or_eq_true, Bool.or_eq_true, Bool.and_eq_true, Bool.and_eq_true, Bool.and_eq_true, beq_iff_eq, beq_iff_eq, beq_iff_eq] at hd
      rcases hd with hd | ⟨rfl, rfl⟩ | ⟨⟨hs1, hk4⟩, hs2⟩
      · have hl : ¬ lo = 0 := by
          intro e
          apply hc
          rw [hd, e]; simp
        rw [isV_void hd, decide_eq_true (by omega)]; rfl
      · rw [decide_eq_true (by omega)]; simp
      · unfold starB at hs1 hs2
        rw [Bool.and_eq_true, beq_iff_eq, beq_iff_eq] at hs1 hs2
        cases t with
        | node q m l lo' hi' =>
          have hk' : q = 4 := hk4
          subst hk'
          have e1 : lo' = 0 := hs2.1
          subst e1
          rw [void_4, decide_eq_false (by omega), decide_eq_false (by omega)]
          simp
    · rw [void_4]; rfl

/-! ### the nodes may be -/
theorem okNode0 {n : Nat} {lo hi : Int} {m : Nat → Bool} {k : Int} (h : okNode k m n lo hi = true) (hk : k = 0 ∨ k = 1) : n = 0 ∧ lo = 0 ∧ hi = 0 := by
  unfold okNode at h
  split at h
  · cases h
  · rename_i hc
    have hk4 : (k != 4) = true := by rcases hk with rfl | rfl <;> decide
    rw [hk4] at hc
    simp at hc
    refine ⟨?_, hc.2.1, hc.2.2⟩
    first | exact of_decide_eq_true h | (rw [if_pos hk] at h; exact of_decide_eq_true h)
theorem okNode_kinds {n : Nat} {lo hi : Int} {m : Nat → Bool} {k : Int} (h : okNode k m n lo hi = true) : k = 0 ∨ k = 1 ∨ k = 2 ∨ k = 3 ∨ k = 4 := by
  unfold okNode at h
  split at h
  · cases h
  · split at h
    · omega
    · split at h
      · omega
      · split at h
        · omega
        · cases h
theorem empty_ok : emptyT.ok = true := by unfold emptyT Tree.ok allOk okNode; simp [setEq_refl]
theorem byteT_ok {m : Nat → Bool} : Tree.ok (.node 1 m [] 0 0) = true := by unfold Tree.ok allOk okNode; simp
theorem row_ok {k : Int} (hk : k = 2 ∨ k = 3) {z : Tree} (hz : z.ok = true) : ∀ l : List Tree, (∀ t ∈ l, t.ok = true) → (rowT k z l).ok = true
  | [], _ => hz
  | [t], h => h t (by simp)
  | a :: b :: r, h => by
    rw [rowT_many k _ (by simp)]
    unfold Tree.ok
    rw [allOk_iff.2 h, Bool.true_and]
    unfold okNode
    rcases hk with rfl | rfl <;> simp [setEq_refl]
theorem seg_ok {k : Int} {t : Tree} (h : t.ok = true) : ∀ x ∈ seg k t, x.ok = true := by
  intro x hx
  unfold seg at hx
  split at hx
  · cases t with
    | node q m l lo hi => exact (ok_open h).1 x hx
  · simp at hx; rw [hx]; exact h
theorem flat_ok {k : Int} {l : List Tree} (h : ∀ t ∈ l, t.ok = true) : ∀ x ∈ flatT k l, x.ok = true := by
  intro x hx
  obtain ⟨t, ht, hx⟩ := mem_flat.1 hx
  exact seg_ok (h t ht) x hx
theorem catStay_mem {l : List Tree} {x : Tree} (h : x ∈ catStay l) : x ∈ l := by
  unfold catStay at h
  split at h
  · rename_i t ht
    simp at h; rw [h]; exact List.mem_of_find?_eq_some ht
  · unfold catKeep at h; exact (List.mem_filter.1 h).1
theorem altStay_mem {l : List Tree} {x : Tree} (h : x ∈ altStay l) : ∃ t ∈ l, t.isV = false ∧ x = turnT (unionT l) t := by
  unfold altStay altTold at h
  rcases told_mem l [] h with h1 | h1
  · cases h1
  · exact h1
theorem turn_ok {all : Nat → Bool} {t : Tree} (h : t.ok = true) : (turnT all t).ok = true := by
  unfold turnT
  split
  · exact byteT_ok
  · exact h
theorem altStay_ok {l : List Tree} (h : ∀ t ∈ l, t.ok = true) : ∀ x ∈ altStay l, x.ok = true := by
  intro x hx
  obtain ⟨t, ht, _, rfl⟩ := altStay_mem hx
  exact turn_ok (h t ht)
theorem rep_ok {t : Tree} (h : t.ok = true) {lo hi : Int} (h0 : 0 ≤ lo) (h1 : lo ≤ 64) (h2 : hi = -1 ∨ (lo ≤ hi ∧ hi ≤ 64)) : (repPlain t lo hi).ok = true := by
  unfold repPlain
  split
  · exact empty_ok
  · split
    · exact h
    · unfold Tree.ok
      simp only [allOk, h, Bool.true_and, Bool.and_true]
      unfold okNode
      simp [setEq_refl]
      omega

mutual
theorem plain_ok : ∀ T : Tree, T.ok = true → T.plain.ok = true
  | .node k m l lo hi, h => by
    obtain ⟨h1, h2⟩ := ok_open h
    have hl := plainL_ok l h1
    unfold Tree.plain plainNode
    rcases okNode_kinds h2 with rfl | rfl | rfl | rfl | rfl
    · rw [if_neg (by decide), if_neg (by decide), if_neg (by decide)]
      obtain ⟨hn, rfl, rfl⟩ := okNode0 h2 (.inl rfl)
      have : l = [] := List.eq_nil_of_length_eq_zero hn
      subst this
      exact h
    · rw [if_neg (by decide), if_neg (by decide), if_neg (by decide)]
      exact byteT_ok
    · rw [if_pos rfl]
      exact row_ok (.inl rfl) empty_ok _ (fun x hx => flat_ok hl x (catStay_mem hx))
    · rw [if_neg (by decide), if_pos rfl]
      exact row_ok (.inr rfl) byteT_ok _ (altStay_ok (flat_ok hl))
    · rw [if_neg (by decide), if_neg (by decide), if_pos rfl]
      obtain ⟨g0, g1, g2, t, rfl, _⟩ := ok4 h
      exact rep_ok (hl _ (by simp [plainL])) g0 g1 g2
theorem plainL_ok : ∀ l : List Tree, (∀ t ∈ l, t.ok = true) → ∀ t ∈ plainL l, t.ok = true
  | [], _ => by intro t ht; simp [plainL] at ht
  | a :: r, h => by
    intro t ht
    simp only [plainL, List.mem_cons] at ht
    rcases ht with rfl | ht
    · exact plain_ok a (h a (by simp))
    · exact plainL_ok r (fun u hu => h u (by simp [hu])) t ht
end

/-! ### the texts -/
mutual
theorem plain_ends (s : List UInt8) : ∀ T : Tree, T.ok = true → T.plain.ends s = T.ends s
  | .node k m l lo hi, h => by
    obtain ⟨h1, h2⟩ := ok_open h
    obtain ⟨hc, ha, hh⟩ := plainL_ends s l h1
    unfold Tree.plain plainNode
    rcases okNode_kinds h2 with rfl | rfl | rfl | rfl | rfl
    · rw [if_neg (by decide), if_neg (by decide), if_neg (by decide), ends_0, ends_0]
    · rw [if_neg (by decide), if_neg (by decide), if_neg (by decide), ends_1, ends_1]
    · rw [if_pos rfl, row2_ends, catStay_ends, flat2_ends, hc, ends_2]
    · rw [if_neg (by decide), if_pos rfl, ends_3]
      funext f k
      rw [row3_ends, altStay_ends, flat3_any (fun t => t.ends s f k) (fun t ht => by
        cases t with
        | node q m l lo hi => have h' : q = 3 := ht; subst h'; rw [ends_3, endsAlt_any]; rfl), ← endsAlt_any, ha]
    · rw [if_neg (by decide), if_neg (by decide), if_pos rfl]
      obtain ⟨g0, g1, g2, t, rfl, ht⟩ := ok4 h
      funext f k
      rw [ends_4 (by decide) (by decide) (by decide) (by decide)]
      have e1 : (plainL [t]).headD emptyT = t.plain := by simp [plainL]
      have e2 : headEnds s [t] = t.ends s := by rw [headEnds]
      rw [e1, rep_ends s _ (plain_ok t ht) lo hi g0 (by omega), plain_ends s t ht, e2]
theorem plainL_ends (s : List UInt8) : ∀ l : List Tree, (∀ t ∈ l, t.ok = true) → endsCat s (plainL l) = endsCat s l ∧ endsAlt s (plainL l) = endsAlt s l ∧ headEnds s (plainL l) = headEnds s l
  | [], _ => by simp [plainL]
  | t :: r, h => by
    have h1 := plain_ends s t (h t (by simp))
    obtain ⟨h2, h3, _⟩ := plainL_ends s r (fun u hu => h u (by simp [hu]))
    refine ⟨?_, ?_, ?_⟩
    · funext f; simp only [plainL, endsCat]; rw [h1, h2]
    · funext f; simp only [plainL, endsAlt]; rw [h1, h3]
    · simp only [plainL, headEnds]; rw [h1]
end
mutual
theorem plain_void : ∀ T : Tree, T.ok = true → T.plain.void = T.void
  | .node k m l lo hi, h => by
    obtain ⟨h1, h2⟩ := ok_open h
    obtain ⟨hc, ha, hh⟩ := plainL_void l h1
    unfold Tree.plain plainNode
    rcases okNode_kinds h2 with rfl | rfl | rfl | rfl | rfl
    · rw [if_neg (by decide), if_neg (by decide), if_neg (by decide), void_0, void_0]
    · rw [if_neg (by decide), if_neg (by decide), if_neg (by decide), void_1, void_1]
    · rw [if_pos rfl, row2_void, catStay_void, flat2_void, hc, void_2]
    · rw [if_neg (by decide), if_pos rfl, row3_void, altStay_void, flat3_void, ha, void_3]
    · rw [if_neg (by decide), if_neg (by decide), if_pos rfl]
      obtain ⟨g0, g1, g2, t, rfl, ht⟩ := ok4 h
      have e1 : (plainL [t]).headD emptyT = t.plain := by simp [plainL]
      rw [e1, rep_void _ lo hi g0 (by omega), plain_void t ht, void_4]
      rfl
theorem plainL_void : ∀ l : List Tree, (∀ t ∈ l, t.ok = true) → anyVoid (plainL l) = anyVoid l ∧ allVoid (plainL l) = allVoid l ∧ headVoid (plainL l) = headVoid l
  | [], _ => by simp [plainL]
  | t :: r, h => by
    have h1 := plain_void t (h t (by simp))
    obtain ⟨h2, h3, _⟩ := plainL_void r (fun u hu => h u (by simp [hu]))
    simp only [plainL, anyVoid, allVoid, headVoid, h1, h2, h3]
    trivial
end
theorem plain_takes (s : List UInt8) (T : Tree) (h : T.ok = true) : T.plain.takes s = T.takes s := by unfold Tree.takes; rw [plain_ends s T h]

/-! ### how deep -/
theorem deepL_iff {n : Nat} : ∀ {l : List Tree}, deepL l ≤ n ↔ ∀ t ∈ l, t.deepN ≤ n
  | [] => by simp [deepL]
  | a :: r => by simp only [deepL, List.mem_cons, forall_eq_or_imp, Nat.max_le, deepL_iff (l := r)]
theorem deep_pos (t : Tree) : 1 ≤ t.deepN := by cases t; simp [Tree.deepN]
theorem row_deep {k : Int} {z : Tree} (hz : z.deepN ≤ 1) {n : Nat} : ∀ l : List Tree, (∀ t ∈ l, t.deepN ≤ n) → (rowT k z l).deepN ≤ n + 1
  | [], _ => by show z.deepN ≤ _; omega
  | [t], h => by show t.deepN ≤ _; have := h t (by simp); omega
  | a :: b :: r, h => by
    rw [rowT_many k _ (by simp)]
    have := deepL_iff.2 h
    simp only [Tree.deepN]; omega
theorem seg_deep {k : Int} {t : Tree} {n : Nat} (h : t.deepN ≤ n) : ∀ x ∈ seg k t, x.deepN ≤ n := by
  intro x hx
  unfold seg at hx
  split at hx
  · cases t with
    | node q m l lo hi =>
      simp only [Tree.deepN] at h
      have := deepL_iff.1 (Nat.le_refl (deepL l)) x hx
      omega
  · simp at hx; rw [hx]; exact h
theorem flat_deep {k : Int} {l : List Tree} {n : Nat} (h : ∀ t ∈ l, t.deepN ≤ n) : ∀ x ∈ flatT k l, x.deepN ≤ n := by
  intro x hx
  obtain ⟨t, ht, hx⟩ := mem_flat.1 hx
  exact seg_deep (h t ht) x hx
theorem turn_deep {all : Nat → Bool} {t : Tree} : (turnT all t).deepN ≤ t.deepN := by
  have := deep_pos t
  unfold turnT
  split
  · simp only [Tree.deepN, deepL]; omega
  · exact Nat.le_refl _
mutual
theorem plain_deep : ∀ T : Tree, T.reps = true → T.plain.deepN ≤ T.deepN
  | .node k m l lo hi, h => by
    simp only [Tree.reps, Bool.and_eq_true] at h
    have hl := plainL_deep l h.2
    unfold Tree.plain plainNode
    simp only [Tree.deepN]
    split
    · exact row_deep (by simp [emptyT, Tree.deepN, deepL]) _ (fun x hx => flat_deep hl x (catStay_mem hx))
    · split
      · refine row_deep (by simp [voidT, Tree.deepN, deepL]) _ (fun x hx => ?_)
        obtain ⟨t, ht, _, rfl⟩ := altStay_mem hx
        exact Nat.le_trans turn_deep (flat_deep hl t ht)
      · split
        · rename_i hk
          subst hk
          have hne : l ≠ [] := by simpa using h.1
          cases l with
          | nil => exact absurd rfl hne
          | cons t r =>
            have h1 := hl t.plain (by simp [plainL])
            have e1 : (plainL (t :: r)).headD emptyT = t.plain := by simp [plainL]
            rw [e1]
            unfold repPlain
            split
            · simp [emptyT, Tree.deepN, deepL]
            · split
              · simp only [deepL] at h1 ⊢; omega
              · simp only [Tree.deepN, deepL] at h1 ⊢; omega
        · simp [Tree.deepN, deepL]
theorem plainL_deep : ∀ l : List Tree, repsL l = true → ∀ t ∈ plainL l, t.deepN ≤ deepL l
  | [], _ => by intro t ht; simp [plainL] at ht
  | a :: r, h => by
    intro t ht
    simp only [repsL, Bool.and_eq_true] at h
    simp only [plainL, List.mem_cons] at ht
    simp only [deepL]
    rcases ht with rfl | ht
    · have := plain_deep a h.1; omega
    · have := plainL_deep r h.2 t ht; omega
end
end Go.Proofs.YtkladjjeacjgpaaDoor

