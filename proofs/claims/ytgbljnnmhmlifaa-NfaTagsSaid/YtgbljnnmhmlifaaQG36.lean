/-
  THE AUTOMATON OF RULES IS THE RULES (pure): the places behind a text are those that ways of the rules' parts come to; the tag is the first rule whose text it is. Condition: each rule's nodes may be.
-/
import Derived.Test.YtgbljnnmhmlifaaQG35
import Derived.Test.YtgbljnnmhmlifaaQG10
import Derived.Test.YtgbljnnmhmlifaaQG34
namespace Go.Proofs.Ytgbljnnmhmlifaa
open Go.RowKit

theorem hasI_iff {l : List Int} {q : Nat} : hasI l q = true ↔ (q : Int) ∈ l := by
  unfold hasI
  rw [List.any_eq_true]
  constructor
  · rintro ⟨x, h1, h2⟩
    have : x = (q : Int) := by simpa using h2
    rw [← this]; exact h1
  · intro h; exact ⟨_, h, by simp⟩
theorem marksE_get : ∀ (l : List Int) (E : List Bool), (∀ x ∈ l, 0 ≤ x ∧ x < (E.length : Int)) → ∀ a, (marksE E l).getD a false = (E.getD a false || hasI l a)
  | [], E, _, a => by simp [marksE, hasI]
  | x :: l, E, h, a => by
    have hx := h x (by simp)
    simp only [marksE]
    rw [marksE_get l _ (fun y hy => by rw [List.length_set]; exact h y (by simp [hy])), hasI_cons]
    by_cases hp : x = (a : Int)
    · have e1 : (E.set x.toNat true).getD a false = true := by
        rw [List.getD_eq_getElem?_getD, show x.toNat = a by omega, List.getElem?_set_self (by omega)]; rfl
      rw [e1, show (x == (a : Int)) = true by simp [hp]]; simp
    · have e1 : (E.set x.toNat true).getD a false = E.getD a false := by
        rw [List.getD_eq_getElem?_getD, List.getElem?_set_ne (by omega), ← List.getD_eq_getElem?_getD]
      rw [e1, show (x == (a : Int)) = false by simp [hp], Bool.false_or]
theorem rises_from {n : Int} : ∀ {c c' : Int} {l : List Int}, risesB n c l = true → (∀ x ∈ l, c' < x) → risesB n c' l = true
  | _, _, [], _, _ => rfl
  | c, c', x :: l, h, hx => by
    simp only [risesB, Bool.and_eq_true, decide_eq_true_eq] at h ⊢
    exact ⟨⟨hx x (by simp), h.1.2⟩, h.2⟩
theorem rises_last {n : Int} : ∀ {c : Int} {l : List Int}, risesB n c l = true → c < n → l.getLastD c < n
  | _, [], _, h => h
  | c, x :: l, h, _ => by
    simp only [risesB, Bool.and_eq_true, decide_eq_true_eq] at h
    rw [List.getLastD_cons]
    exact rises_last h.2 h.1.2
structure BsS (x : Bs) (l : List Tree) (ps : List Prt) : Prop where
  ok : x.S.Ok
  lr : x.R.length = x.S.sets.length
  le : x.E.length = x.S.sets.length
  pl : ps.length = l.length
  pt : ∀ k (h : k < l.length) (h' : k < ps.length), ∃ lo hi, hi ≤ x.S.sets.length ∧ InP lo hi ps[k] ∧ Cl (grF x.S.sets x.S.follow) lo hi ∧ SaysT (grF x.S.sets x.S.follow) l[k] ps[k] ∧ ∀ a, lo ≤ a → a < hi → x.R.getD a 0 = (k : Int)
  fi : ∀ a, hasI x.F a = ps.any fun p => hasI p.first a
  en : ∀ a, x.E.getD a false = ps.any fun p => hasI p.ends a
  em : (x.em = -1 ∧ ∀ k (h : k < ps.length), ps[k].empty = false) ∨ ∃ k, ∃ h : k < ps.length, x.em = (k : Int) ∧ ps[k].empty = true ∧ ∀ i (h : i < ps.length), i < k → ps[i].empty = false
  fr : risesB x.S.sets.length (-1) x.F = true
  rr : ∀ r ∈ x.R, 0 ≤ r ∧ r < (l.length : Int)
theorem bs_add {x : Bs} {l : List Tree} {ps : List Prt} (h : BsS x l ps) (t : Tree) (hok : t.ok = true) : BsS (x.add (l.length : Int) t) (l ++ [t]) (ps ++ [(partP t x.S).2]) := by
  obtain ⟨a1, a2, a3, a4⟩ := part_says t hok x.S h.ok
  obtain ⟨o1, o2, o3⟩ := partP_ok t x.S (ok_okT t hok) h.ok
  have hle : x.S.sets.length ≤ (partP t x.S).1.sets.length := by omega
  unfold Bs.add
  generalize hX : partP t x.S = X at *
  have hpl := h.pl
  have hlr := h.lr
  have hlE := h.le
  refine ⟨o1, ?_, ?_, by simp [hpl], ?_, ?_, ?_, ?_, ?_, ?_⟩ <;> dsimp only
  · rw [List.length_append, List.length_replicate]; omega
  · rw [marksE_len, List.length_append, List.length_replicate]; omega
  · intro k hk hk'
    rw [List.length_append, List.length_singleton] at hk hk'
    by_cases hkl : k < l.length
    · obtain ⟨lo, hi, g1, g2, g3, g4, g5⟩ := h.pt k hkl (by omega)
      have hag := a1.sub (lo' := lo) (hi' := hi) (Nat.zero_le _) g1
      refine ⟨lo, hi, by omega, ?_, g3.ag hag, ?_, fun a h1 h2 => ?_⟩
      · rw [List.getElem_append_left (by omega)]; exact g2
      · rw [List.getElem_append_left hkl, List.getElem_append_left (by omega)]; exact g4.ag g3 hag g2
      · rw [getD_app _ _ _ (by omega)]; exact g5 a h1 h2
    · obtain rfl : k = l.length := by omega
      refine ⟨_, _, Nat.le_refl _, ?_, a3, ?_, fun a h1 h2 => ?_⟩
      · rw [List.getElem_append_right (by omega)]; simpa [hpl] using a2
      · rw [List.getElem_append_right (by omega), List.getElem_append_right (by omega)]; simpa [hpl] using a4
      · rw [List.getD_eq_getElem?_getD, List.getElem?_append_right (by omega), List.getElem?_replicate, if_pos (by omega)]; rfl
  · intro a
    rw [hasI_app, h.fi a, List.any_append]; simp
  · intro a
    rw [marksE_get _ _ (fun y hy => by
      have := ok_ends o2 y hy
      rw [List.length_append, List.length_replicate]; omega), List.any_append, ← h.en a]
    congr 1
    · rw [List.getD_eq_getElem?_getD, List.getD_eq_getElem?_getD]
      by_cases ha : a < x.E.length
      · rw [List.getElem?_append_left ha]
      · rw [List.getElem?_append_right (by omega), List.getElem?_eq_none (l := x.E) (by omega), List.getElem?_replicate]
        split <;> rfl
    · simp
  · rcases h.em with ⟨e1, e2⟩ | ⟨k, hk, e1, e2, e3⟩
    · cases hp : X.2.empty with
      | true =>
        right
        refine ⟨ps.length, by simp, ?_, ?_, fun i hi hik => ?_⟩
        · rw [e1, hpl]; rfl
        · simp [hp]
        · rw [List.getElem_append_left hik]; exact e2 i hik
      | false =>
        left
        refine ⟨by rw [e1]; rfl, fun k hk => ?_⟩
        rw [List.length_append, List.length_singleton] at hk
        by_cases hkl : k < ps.length
        · rw [List.getElem_append_left hkl]; exact e2 k hkl
        · obtain rfl : k = ps.length := by omega
          simp [hp]
    · right
      refine ⟨k, by simp; omega, ?_, by rw [List.getElem_append_left hk]; exact e2, fun i hi hik => by rw [List.getElem_append_left (by omega)]; exact e3 i (by omega) hik⟩
      have : (x.em == -1) = false := by rw [e1]; simp
      rw [this, Bool.and_false]
      exact e1
  · refine risesB_app (risesB_mono (by omega) (Int.le_refl _) h.fr) (rises_from o2.1 fun y hy => ?_)
    have h1 := rises_last h.fr (by omega)
    have h0 := ok_first o2 y hy
    have h2 := a2.1 y.toNat (hasI_iff.2 (by rw [Int.toNat_of_nonneg h0.1]; exact hy))
    omega
  · intro r hr
    rw [List.length_append, List.length_singleton]
    rcases List.mem_append.1 hr with hr | hr
    · have := h.rr r hr; omega
    · have := List.eq_of_mem_replicate hr; omega
theorem bs_all (l : List Tree) (hok : ∀ t ∈ l, t.ok = true) : ∃ ps, BsS (Bs.all Bs.none 0 l) l ps := by
  have : ∀ n, n ≤ l.length → ∃ ps, BsS (Bs.all Bs.none 0 (l.take n)) (l.take n) ps := by
    intro n
    induction n with
    | zero =>
      intro _
      refine ⟨[], ⟨⟨rfl, fun r hr => by cases hr⟩, rfl, rfl, rfl, fun k h => by simp at h, fun a => rfl, fun a => rfl, .inl ⟨rfl, fun k h => by simp at h⟩, rfl, fun r hr => by cases hr⟩⟩
    | succ n ih =>
      intro hn
      obtain ⟨ps, h⟩ := ih (by omega)
      rw [List.take_succ_eq_append_getElem (by omega), Bs.all_snoc]
      have := bs_add h l[n] (hok _ (List.getElem_mem _))
      rw [Int.zero_add]
      exact ⟨_, this⟩
  have := this l.length (Nat.le_refl _)
  rwa [List.take_length] at this

theorem sl_get (s : ByteArray) {i : Nat} (h : i < s.size) : s.data.toList[i]? = some (s[i]'h) := by
  rw [List.getElem?_eq_getElem (by simpa using h)]
  rfl
theorem hit_b8 {G : Gr} (s : ByteArray) {p i : Nat} (h : i < s.size) : G.hit s.data.toList p i ↔ G.st p (b8 s i) = true := by
  unfold Gr.hit b8
  rw [dif_pos h, sl_get s h]
  constructor
  · rintro ⟨c, h1, h2⟩
    injection h1 with h1
    rw [h1]; exact h2
  · intro h1; exact ⟨_, rfl, h1⟩
theorem sl_len (s : ByteArray) : s.data.toList.length = s.size := by simp
theorem at_says {N : Nf} (hM : MayIs N) (s : ByteArray) : ∀ (j : Nat), j < s.size → ∀ q : Nat, (q : Int) ∈ atTo N s (j + 1) ↔ ∃ a, hasI N.first a = true ∧ (grF N.sets N.follow).hit s.data.toList a 0 ∧ Rch (grF N.sets N.follow) s.data.toList a 0 q j
  | 0, hj, q => by
    unfold atTo beginL
    rw [List.mem_filter]
    constructor
    · rintro ⟨h1, h2⟩
      exact ⟨q, hasI_iff.2 h1, (hit_b8 s hj).2 h2, .refl⟩
    · rintro ⟨a, h1, h2, h3⟩
      obtain rfl : a = q := by cases h3; rfl
      exact ⟨hasI_iff.1 h1, (hit_b8 s hj).1 h2⟩
  | j + 1, hj, q => by
    rw [atTo_succ N s (by omega)]
    unfold keepTo
    have ih := at_says hM s j (by omega)
    have hin := atTo_in hM s (j + 1)
    constructor
    · intro h
      obtain ⟨q', h1, h2⟩ := List.mem_map.1 h
      obtain rfl : q' = q := by omega
      obtain ⟨h3, h4⟩ := List.mem_filter.1 h1
      rw [Bool.and_eq_true] at h4
      obtain ⟨p, h5, h6⟩ := List.any_eq_true.1 h4.1
      obtain ⟨p', rfl⟩ : ∃ p' : Nat, p = (p' : Int) := ⟨p.toNat, by have := hin p h5; omega⟩
      obtain ⟨a, g1, g2, g3⟩ := (ih p').1 h5
      exact ⟨a, g1, g2, .step g3 h6 ((hit_b8 s hj).2 h4.2)⟩
    · rintro ⟨a, g1, g2, g3⟩
      cases g3 with
      | @step p _ _ g4 g5 g6 =>
        have h5 := (ih p).2 ⟨a, g1, g2, g4⟩
        have hq : q < N.sets.length := by
          have : hasI (N.follow.getD p []) q = true := g5
          have h7 := hasI_iff.1 this
          have h8 : N.follow.getD p [] ∈ N.follow ∨ N.follow.getD p [] = [] := by
            rw [List.getD_eq_getElem?_getD]
            cases e : N.follow[p]? with
            | none => exact .inr rfl
            | some r => exact .inl (List.mem_of_getElem? e)
          rcases h8 with h8 | h8
          · have := risesB_mem (hM.row _ h8) _ h7
            omega
          · rw [h8] at h7; cases h7
        refine List.mem_map.2 ⟨q, List.mem_filter.2 ⟨List.mem_range.2 hq, ?_⟩, rfl⟩
        rw [Bool.and_eq_true]
        exact ⟨List.any_eq_true.2 ⟨_, h5, g5⟩, (hit_b8 s hj).1 g6⟩
end Go.Proofs.Ytgbljnnmhmlifaa

namespace Go.Proofs.Ytgbljnnmhmlifaa
open Go.RowKit

def whichI (s : List UInt8) : Int → List Tree → Int
  | _, [] => -1
  | i, t :: r => if t.takes s then i else whichI s (i + 1) r
theorem which_is (s : List UInt8) : ∀ (l : List Tree) (i : Int), 0 ≤ i → (whichI s i l = -1 ∧ ∀ k (h : k < l.length), (l[k]).takes s = false) ∨ ∃ k, ∃ h : k < l.length, whichI s i l = i + k ∧ (l[k]).takes s = true ∧ ∀ j (h : j < l.length), j < k → (l[j]).takes s = false
  | [], _, _ => .inl ⟨rfl, fun k h => by simp at h⟩
  | t :: r, i, hi => by
    unfold whichI
    cases ht : t.takes s with
    | true =>
      rw [if_pos rfl]
      exact .inr ⟨0, by simp, by omega, ht, fun j _ h => by omega⟩
    | false =>
      rw [if_neg (by simp)]
      rcases which_is s r (i + 1) (by omega) with ⟨h1, h2⟩ | ⟨k, hk, h1, h2, h3⟩
      · refine .inl ⟨h1, fun k h => ?_⟩
        cases k with
        | zero => exact ht
        | succ k => exact h2 k (by simpa using h)
      · refine .inr ⟨k + 1, by simp; omega, by omega, h2, fun j hj hjk => ?_⟩
        cases j with
        | zero => exact ht
        | succ j => exact h3 j (by simpa using hj) (by omega)
theorem build_has (l : List Tree) (hok : ∀ t ∈ l, t.ok = true) (h40 : l.length ≤ 40) (hp : (buildN l).sets.length ≤ 2000) : (buildN l).may = true := by
  obtain ⟨ps, h⟩ := bs_all l hok
  have e : buildN l = ⟨(Bs.all Bs.none 0 l).S.sets, (Bs.all Bs.none 0 l).R, (Bs.all Bs.none 0 l).F, (Bs.all Bs.none 0 l).S.follow, (Bs.all Bs.none 0 l).E, (Bs.all Bs.none 0 l).em⟩ := rfl
  rw [e] at hp ⊢
  unfold Nf.may Nf.sized Nf.rest okR
  simp only [Bool.and_eq_true, decide_eq_true_eq, beq_iff_eq, List.all_eq_true]
  refine ⟨⟨⟨hp, h.lr⟩, h.ok.1, h.le⟩, fun r hr => ?_, fun r hr => h.ok.2 r hr, h.fr, ?_⟩
  · have := h.rr r hr; omega
  · have hpl := h.pl
    rcases h.em with ⟨e1, _⟩ | ⟨k, hk, e1, _⟩ <;> omega
theorem build_places (l : List Tree) (hok : ∀ t ∈ l, t.ok = true) : (buildN l).sets.length = sumN l := by
  have : ∀ (l : List Tree) (x : Bs) (i : Int), x.S.Ok → (∀ t ∈ l, t.ok = true) → (Bs.all x i l).S.sets.length = x.S.sets.length + sumN l := by
    intro l
    induction l with
    | nil => intro x i _ _; simp [Bs.all, sumN]
    | cons t r ih =>
      intro x i hx h
      obtain ⟨o1, _, o3⟩ := partP_ok t x.S (ok_okT t (h t (by simp))) hx
      simp only [Bs.all, sumN]
      rw [ih _ _ o1 fun y hy => h y (by simp [hy])]
      show (partP t x.S).1.sets.length + _ = _
      omega
  have := this l Bs.none 0 mk0_ok hok
  simpa [buildN, Bs.none] using this
theorem hit_takes (l : List Tree) (hok : ∀ t ∈ l, t.ok = true) (hM : MayIs (buildN l)) (s : ByteArray) (hs : 1 ≤ s.size) (r : Int) : hitR (buildN l) (atTo (buildN l) s s.size) r = true ↔ ∃ k, ∃ h : k < l.length, r = (k : Int) ∧ (l[k]).takes s.data.toList = true := by
  obtain ⟨ps, h⟩ := bs_all l hok
  obtain ⟨j, hj⟩ : ∃ j, s.size = j + 1 := ⟨s.size - 1, by omega⟩
  have hat := at_says hM s j (by omega)
  have hin := atTo_in hM s (j + 1)
  rw [hj]
  have hF : ∀ a, hasI (buildN l).first a = ps.any fun p => hasI p.first a := h.fi
  have hE : ∀ a, (buildN l).ends.getD a false = ps.any fun p => hasI p.ends a := h.en
  have hpl := h.pl
  have hPt := h.pt
  have hG : grF (Bs.all Bs.none 0 l).S.sets (Bs.all Bs.none 0 l).S.follow = grF (buildN l).sets (buildN l).follow := rfl
  have hR0 : (Bs.all Bs.none 0 l).R = (buildN l).rules := rfl
  rw [hG, hR0] at hPt
  have mem : ∀ (f : Prt → Bool), (ps.any f) = true ↔ ∃ k, ∃ h : k < ps.length, f ps[k] = true := fun f => by
    rw [List.any_eq_true]
    constructor
    · rintro ⟨p, h1, h2⟩
      obtain ⟨k, h3, h4⟩ := List.mem_iff_getElem.1 h1
      exact ⟨k, h3, by rw [h4]; exact h2⟩
    · rintro ⟨k, h3, h4⟩; exact ⟨_, List.getElem_mem h3, h4⟩
  constructor
  · intro hh
    obtain ⟨p, h1, h2⟩ := List.any_eq_true.1 hh
    rw [Bool.and_eq_true] at h2
    obtain ⟨q, rfl⟩ : ∃ q : Nat, p = (q : Int) := ⟨p.toNat, by have := hin p h1; omega⟩
    obtain ⟨a, g1, g2, g3⟩ := (hat q).1 h1
    rw [hF, mem] at g1
    obtain ⟨k, hk, g1⟩ := g1
    have he : (buildN l).ends.getD q false = true := h2.2
    rw [hE, mem] at he
    obtain ⟨k', hk', he⟩ := he
    obtain ⟨lo, hi, z1, z2, z3, z4, z5⟩ := hPt k (by omega) hk
    obtain ⟨lo', hi', y1, y2, y3, y4, y5⟩ := hPt k' (by omega) hk'
    have ha := z2.1 a g1
    have hq := g3.stay z3 ha.1 ha.2
    have hq' := y2.2 q he
    have e1 := z5 q hq.1 hq.2
    have e2 := y5 q hq'.1 hq'.2
    obtain rfl : k = k' := by omega
    refine ⟨k, by omega, ?_, ?_⟩
    · have : (buildN l).ruleAt (q : Int) = r := by simpa using h2.1
      rw [← this]; exact e1
    · unfold Tree.takes
      rw [z4]
      exact ⟨0, atP_iff.2 rfl, .inr ⟨a, q, j, g1, he, g2, g3, by rw [sl_len, hj]⟩⟩
  · rintro ⟨k, hk, rfl, ht⟩
    obtain ⟨lo, hi, z1, z2, z3, z4, z5⟩ := hPt k hk (by omega)
    unfold Tree.takes at ht
    rw [z4] at ht
    obtain ⟨x, g0, g1⟩ := ht
    obtain rfl := atP_iff.1 g0
    rcases g1 with ⟨_, g1⟩ | ⟨a, b, k', g1, g2, g3, g4, g5⟩
    · rw [sl_len] at g1; omega
    · rw [sl_len, hj] at g5
      obtain rfl : k' = j := by omega
      have hb := (hat b).2 ⟨a, by rw [hF, mem]; exact ⟨k, by omega, g1⟩, g3, g4⟩
      refine List.any_eq_true.2 ⟨_, hb, ?_⟩
      rw [Bool.and_eq_true]
      have hab := z2.1 a g1
      have hq := g4.stay z3 hab.1 hab.2
      refine ⟨?_, ?_⟩
      · have := z5 b hq.1 hq.2
        have : (buildN l).ruleAt (b : Int) = (k : Int) := this
        rw [this]; simp
      · show (buildN l).ends.getD b false = true
        rw [hE, mem]; exact ⟨k, by omega, g2⟩
theorem empty_takes (l : List Tree) (hok : ∀ t ∈ l, t.ok = true) : (buildN l).empty = whichI [] 0 l := by
  obtain ⟨ps, h⟩ := bs_all l hok
  have hpl := h.pl
  have he : ∀ k (hk : k < l.length) (hk' : k < ps.length), (l[k]).takes [] = ps[k].empty := fun k hk hk' => by
    obtain ⟨lo, hi, z1, z2, z3, z4, z5⟩ := h.pt k hk hk'
    rw [Bool.eq_iff_iff]
    unfold Tree.takes
    rw [z4]
    constructor
    · rintro ⟨j, g0, (⟨g1, _⟩ | ⟨a, b, k', g1, g2, ⟨c, g3, _⟩, _⟩)⟩
      · exact g1
      · simp at g3
    · intro g; exact ⟨0, atP_iff.2 rfl, .inl ⟨g, rfl⟩⟩
  have hem : (buildN l).empty = (Bs.all Bs.none 0 l).em := rfl
  rw [hem]
  rcases which_is [] l 0 (by decide) with ⟨h1, h2⟩ | ⟨k, hk, h1, h2, h3⟩
  · rw [h1]
    rcases h.em with ⟨e1, _⟩ | ⟨k, hk, e1, e2, _⟩
    · exact e1
    · have := h2 k (by omega)
      rw [he k (by omega) hk, e2] at this; cases this
  · rw [h1]
    rcases h.em with ⟨_, e1⟩ | ⟨k', hk', e1, e2, e3⟩
    · rw [he k hk (by omega), e1 k (by omega)] at h2; cases h2
    · rw [e1]
      rcases Nat.lt_trichotomy k k' with hlt | rfl | hlt
      · rw [he k hk (by omega), e3 k (by omega) hlt] at h2; cases h2
      · omega
      · have := h3 k' (by omega) hlt
        rw [he k' (by omega) hk', e2] at this; cases this
theorem ran_which (l : List Tree) (hok : ∀ t ∈ l, t.ok = true) (h40 : l.length ≤ 40) (hp : sumN l ≤ 2000) (s : ByteArray) : ranT (buildN l) s = whichI s.data.toList 0 l := by
  have hmay := build_has l hok h40 (by rw [build_places l hok]; exact hp)
  have hM := may_is hmay
  unfold ranT
  rw [if_pos hmay]
  split
  · rename_i h0
    rw [empty_takes l hok]
    have : s.data.toList = [] := List.eq_nil_of_length_eq_zero (by rw [sl_len]; exact h0)
    rw [this]
  · rename_i h0
    have hR : ∀ p, 0 ≤ (buildN l).ruleAt p ∧ (buildN l).ruleAt p < 40 := fun p => by
      unfold Nf.ruleAt
      rw [List.getD_eq_getElem?_getD]
      cases e : (buildN l).rules[p.toNat]? with
      | none => simp
      | some r => exact hM.rule r (List.mem_of_getElem? e)
    have ht := hit_takes l hok hM s (by omega)
    rcases tag_least (buildN l) hR (atTo (buildN l) s s.size) with ⟨h1, h2⟩ | ⟨h1, h2, h3, h4⟩
    · rw [h1]
      rcases which_is s.data.toList l 0 (by decide) with ⟨g1, _⟩ | ⟨k, hk, g1, g2, _⟩
      · exact g1.symm
      · have := h2 k
        rw [(ht k).2 ⟨k, hk, rfl, g2⟩] at this; cases this
    · obtain ⟨k, hk, g1, g2⟩ := (ht _).1 h3
      rcases which_is s.data.toList l 0 (by decide) with ⟨_, f2⟩ | ⟨k', hk', f1, f2, f3⟩
      · rw [f2 k hk] at g2; cases g2
      · rw [f1, g1]
        have := h4 k' ((ht k').2 ⟨k', hk', rfl, f2⟩)
        rcases Nat.lt_or_ge k k' with hlt | hge
        · rw [f3 k hk hlt] at g2; cases g2
        · omega
theorem Rch.mid {G : Gr} {s : List UInt8} {a i b m x : Nat} (h : Rch G s a i b m) (h1 : i ≤ x) (h2 : x ≤ m) : ∃ q, Rch G s a i q x ∧ Rch G s q x b m := by
  induction h with
  | refl => obtain rfl : x = i := by omega
            exact ⟨_, .refl, .refl⟩
  | @step q m r h3 h4 h5 ih =>
    by_cases hx : x = m + 1
    · subst hx
      exact ⟨r, .step h3 h4 h5, .refl⟩
    · obtain ⟨y, g1, g2⟩ := ih (by omega)
      exact ⟨y, g1, .step g2 h4 h5⟩
theorem begun_place (l : List Tree) (hok : ∀ t ∈ l, t.ok = true) (hM : MayIs (buildN l)) (s : ByteArray) (hs : 1 ≤ s.size) (k : Nat) (hk : k < l.length) (e : List UInt8) (ht : (l[k]).takes (s.data.toList ++ e) = true) : atTo (buildN l) s s.size ≠ [] := by
  obtain ⟨ps, h⟩ := bs_all l hok
  obtain ⟨j, hj⟩ : ∃ j, s.size = j + 1 := ⟨s.size - 1, by omega⟩
  have hpl := h.pl
  obtain ⟨lo, hi, z1, z2, z3, z4, z5⟩ := h.pt k hk (by omega)
  unfold Tree.takes at ht
  rw [z4] at ht
  obtain ⟨x, g0, g1⟩ := ht
  obtain rfl := atP_iff.1 g0
  rcases g1 with ⟨_, g1⟩ | ⟨a, b, k', g1, g2, g3, g4, g5⟩
  · rw [List.length_append, sl_len] at g1; omega
  · rw [List.length_append, sl_len] at g5
    obtain ⟨q, f1, _⟩ := g4.mid (x := j) (Nat.zero_le _) (by omega)
    have hseg : seg (s.data.toList ++ e) 0 (j + 1) = s.data.toList := by
      unfold seg
      rw [List.drop_zero, Nat.sub_zero, List.take_append_of_le_length (by rw [sl_len]; omega), List.take_of_length_le (by rw [sl_len]; omega)]
    have f2 := f1.seg (j := 0) (k := j + 1) (Nat.le_refl _) (by omega)
    have f3 := (hit_seg (k := j + 1) (Nat.le_refl 0) (by omega)).2 g3
    rw [hseg] at f2 f3
    have := (at_says hM s j (by omega) q).2 ⟨a, by
      have : hasI (buildN l).first a = ps.any fun p => hasI p.first a := h.fi a
      rw [this, List.any_eq_true]
      exact ⟨_, List.getElem_mem (by omega), g1⟩, f3, f2⟩
    rw [hj]
    intro hc
    rw [hc] at this; cases this
end Go.Proofs.Ytgbljnnmhmlifaa

namespace Go.Proofs.Ytgbljnnmhmlifaa
open Go.RowKit

def BoolIs (b : Bool) (w : World) : Ending → World → Prop := fun e w' => e = .returned (.bool b) ∧ Below w.heap.size w w'
theorem beginsAlt_iff (s : List UInt8) (f : Nat → Bool) : ∀ {l : List Tree}, beginsAlt s l f = true ↔ ∃ t ∈ l, t.begins s f = true
  | [] => by simp [beginsAlt]
  | a :: l => by simp only [beginsAlt, Bool.or_eq_true, List.mem_cons, exists_eq_or_imp, beginsAlt_iff s f (l := l)]

set_option maxHeartbeats 8000000 in
set_option maxRecDepth 20000 in
theorem begins_k0 (s : ByteArray) (n : Nat) (hn : n = s.size + 1) (m : Nat → Bool) (l : List Tree) (lo hi : Int) (A : Option Addr) (c : Nat) (w : World) (g0 : Nat) (f : Nat → Bool) (hf0 : BlkIs w g0 4 (bl n f)) :
    Calls Try.prog 42 #[reV 0 m A l.length c lo hi, .string s, .slice (some ⟨g0, 0, none⟩) n n] w (BoolIs (f s.size) w) := by
  have hB0 : Below w.heap.size w (w.alloc (.cells (reL 0 m A l.length c lo hi).toArray 39)) := (Below.refl _ _).alloc (Nat.le_refl _) _
  have hX0 := BlkIs.new w 39 (reL 0 m A l.length c lo hi).toArray
  have HB0 := Lib.hid (And.intro hB0 (And.intro hX0 (hf0.alloc (.cells (reL 0 m A l.length c lo hi).toArray 39))))
  have hsn : s.size < n := by omega
  have hsi : (s.size : Int) < (n : Int) := by omega
  have HN := Lib.hid hn
  clear hB0 hX0 hn
  unfold BoolIs at *
  unfold reV reL at *
  have d0 := bl_range (hf0.alloc (.cells (reL 0 m A l.length c lo hi).toArray 39)) hsn
  unfold reL at d0
  have hg0 := hf0.lt
  have d1 := bl_range hf0 hsn
  clear hf0
  go_enter Try.func42, Try.ntmps42
  go_wp2
  go_ret
  exact ⟨rfl, (Below.refl _ _).alloc (Nat.le_refl _) _⟩

set_option maxHeartbeats 8000000 in
set_option maxRecDepth 20000 in
theorem begins_k3 (s : ByteArray) (n : Nat) (hn : n = s.size + 1) (m : Nat → Bool) (l : List Tree) (lo hi : Int) (A : Option Addr) (c : Nat) (hc : l.length ≤ c ∧ c ≤ 9223372036854775807) (w : World) (g0 : Nat) (f : Nat → Bool) (hf0 : BlkIs w g0 4 (bl n f))
    (hs : l ≠ [] → ∃ b o, A = some ⟨b, o, none⟩ ∧ b < w.heap.size ∧ ∀ (i : Nat) (h : i < l.length), ∃ cs : List Value, Tree.At w l[i] (.agg cs.toArray) ∧ cs.length = 8 ∧ w.rangeAt b (o + i * 8) cs)
    (ih : ∀ t ∈ l, ∀ (v : Value) (w : World) (g0 : Nat) (f : Nat → Bool), Tree.At w t v → BlkIs w g0 4 (bl n f) → Calls Try.prog 42 #[v, .string s, .slice (some ⟨g0, 0, none⟩) n n] w (BoolIs (t.begins s.data.toList f) w)) :
    Calls Try.prog 42 #[reV 3 m A l.length c lo hi, .string s, .slice (some ⟨g0, 0, none⟩) n n] w (BoolIs (beginsAlt s.data.toList l f) w) := by
  have hB0 : Below w.heap.size w (w.alloc (.cells (reL 3 m A l.length c lo hi).toArray 39)) := (Below.refl _ _).alloc (Nat.le_refl _) _
  have hX0 := BlkIs.new w 39 (reL 3 m A l.length c lo hi).toArray
  have HB0 := Lib.hid (And.intro hB0 (And.intro hX0 (hf0.alloc (.cells (reL 3 m A l.length c lo hi).toArray 39))))
  have hsn : s.size < n := by omega
  have hsi : (s.size : Int) < (n : Int) := by omega
  have HN := Lib.hid hn
  have HS := Lib.hid hs
  have IH := Lib.hid ih
  clear hs ih
  clear hsn hsi HN
  clear hB0 hX0 hn
  unfold BoolIs at *
  unfold reV reL at *
  clear hf0
  obtain ⟨R, hR⟩ : ∃ R, beginsAlt s.data.toList l f = R := ⟨_, rfl⟩
  rw [hR]
  have HR := Lib.hid hR
  clear hR
  go_enter Try.func42, Try.ntmps42
  go_wp2
  go_loopw [9] (fun i wr => ∃ (j : Nat), i = .int .i64 j ∧ j ≤ l.length ∧ Hid (Below w.heap.size w wr ∧ BlkIs wr w.heap.size 39 (reL 3 m A l.length c lo hi).toArray ∧ BlkIs wr g0 4 (bl n f) ∧ ∀ t ∈ l.take j, t.begins s.data.toList f = false)) (fun i _ => l.length - (intOf i).toNat)
  case atStart => exact ⟨0, rfl, Nat.zero_le _, Lib.hid ⟨HB0.out.1, HB0.out.2.1, HB0.out.2.2, by simp⟩⟩
  case round =>
    obtain ⟨j, rfl, hj, HH⟩ := hrel
    have hbl := HH.out.2.1
    unfold reL at hbl
    obtain ⟨_, _, _, _, _, c5, _, _⟩ := hbl.eight
    by_cases hp : j < l.length
    · have hdl : decide ((j : Int) < (l.length : Int)) = true := by simp; omega
      obtain ⟨b, o, rfl, hbw, hg⟩ := HS.out (by intro e; subst e; simp at hp)
      obtain ⟨cs, hcat, hlen, hrow⟩ := hg j hp
      obtain ⟨A', n', c', rfl⟩ := hcat.eight
      obtain ⟨r0, r1, r2, r3, r4, r5, r6, r7⟩ := row_eight hrow HH.out.1
      have hcall := IH.out _ (List.getElem_mem hp) _ wr g0 _ (hcat.step HH.out.1) HH.out.2.2.1
      have hk1 : IntKind.i64.wrap ((j : Int) + 1) = ((j + 1 : Nat) : Int) := by rw [IntKind.wrap_i64]; omega
      by_cases hx : (l[j]).begins s.data.toList f = true
      · rw [hx] at hcall
        have HC := Lib.hid hcall
        have HA := Lib.hid (show R = true by rw [← HR.out, beginsAlt_iff]; exact ⟨_, List.getElem_mem hp, hx⟩)
        clear hrow hcat hcall hg hbl hx
        go_wp2_with fail
        refine HC.out.mono ?_
        rintro e w1 ⟨rfl, hb1⟩
        have HB1 := Lib.hid hb1
        clear hb1
        go_wp2
        go_ret
        rw [HA.out]
        exact ⟨rfl, HH.out.1.trans (HB1.out.mono HH.out.1.size)⟩
      · have hx2 : (l[j]).begins s.data.toList f = false := by simpa using hx
        rw [hx2] at hcall
        have HC := Lib.hid hcall
        have HA := Lib.hid (show ∀ t ∈ l.take (j + 1), t.begins s.data.toList f = false from fun t ht => (mem_take_succ hp ht).elim (HH.out.2.2.2 t) (fun e => e ▸ hx2))
        clear hrow hcat hcall hg hbl hx hx2
        go_wp2_with fail
        refine HC.out.mono ?_
        rintro e w1 ⟨rfl, hb1⟩
        have HB1 := Lib.hid hb1
        clear hb1
        go_wp2
        exact ⟨⟨j + 1, by go_num, hp, Lib.hid ⟨HH.out.1.trans (HB1.out.mono HH.out.1.size), HH.out.2.1.step HB1.out, HH.out.2.2.1.step HB1.out, HA.out⟩⟩, by simp [intOf]; omega⟩
    · have hdl : decide ((j : Int) < (l.length : Int)) = false := by simp; omega
      obtain rfl : j = l.length := by omega
      have HA := Lib.hid (show R = false by
        have hall := HH.out.2.2.2
        rw [List.take_length] at hall
        rw [← HR.out, Bool.eq_false_iff]; intro h
        rw [beginsAlt_iff] at h
        obtain ⟨t, ht, hv⟩ := h
        rw [hall t ht] at hv; cases hv)
      clear hbl
      go_wp2
      go_ret
      rw [HA.out]
      exact ⟨rfl, HH.out.1⟩

set_option maxHeartbeats 8000000 in
set_option maxRecDepth 20000 in
theorem begins_k2 (s : ByteArray) (n : Nat) (hn : n = s.size + 1) (m : Nat → Bool) (l : List Tree) (lo hi : Int) (A : Option Addr) (c : Nat) (hc : l.length ≤ c ∧ c ≤ 9223372036854775807) (V : Bool) (w : World) (g0 : Nat) (f : Nat → Bool) (hf0 : BlkIs w g0 4 (bl n f))
    (hs : l ≠ [] → ∃ b o, A = some ⟨b, o, none⟩ ∧ b < w.heap.size ∧ ∀ (i : Nat) (h : i < l.length), ∃ cs : List Value, Tree.At w l[i] (.agg cs.toArray) ∧ cs.length = 8 ∧ w.rangeAt b (o + i * 8) cs)
    (ih : ∀ t ∈ l, ∀ (v : Value) (w : World) (g0 : Nat) (f : Nat → Bool), Tree.At w t v → BlkIs w g0 4 (bl n f) → Calls Try.prog 42 #[v, .string s, .slice (some ⟨g0, 0, none⟩) n n] w (BoolIs (t.begins s.data.toList f) w))
    (ie : ∀ t ∈ l, ∀ (v : Value) (w : World) (g0 : Nat) (f : Nat → Bool), Tree.At w t v → BlkIs w g0 4 (bl n f) → Calls Try.prog 51 #[v, .string s, .slice (some ⟨g0, 0, none⟩) n n] w (EndsIs n (t.ends s.data.toList f) w))
    (iv : ∀ u, Below w.heap.size w u → Calls Try.prog 53 #[reV 2 m A l.length c lo hi] u (BoolIs V u)) :
    Calls Try.prog 42 #[reV 2 m A l.length c lo hi, .string s, .slice (some ⟨g0, 0, none⟩) n n] w (BoolIs (if V then false else beginsCat s.data.toList l f) w) := by
  have hB0 : Below w.heap.size w (w.alloc (.cells (reL 2 m A l.length c lo hi).toArray 39)) := (Below.refl _ _).alloc (Nat.le_refl _) _
  have hX0 := BlkIs.new w 39 (reL 2 m A l.length c lo hi).toArray
  have HB0 := Lib.hid (And.intro hB0 (And.intro hX0 (hf0.alloc (.cells (reL 2 m A l.length c lo hi).toArray 39))))
  have hsn : s.size < n := by omega
  have hsi : (s.size : Int) < (n : Int) := by omega
  have HN := Lib.hid hn
  have IE := Lib.hid ie
  have IV := Lib.hid iv
  clear ie iv
  have HS := Lib.hid hs
  have IH := Lib.hid ih
  clear hs ih
  clear hB0 hX0 hn
  unfold BoolIs at *
  unfold reV reL at *
  clear hf0
  have hiv := IV.out _ HB0.out.1
  have HIV := Lib.hid hiv
  clear hiv IV
  cases V with
  | true =>
    go_enter Try.func42, Try.ntmps42
    go_wp2_with fail
    refine HIV.out.mono ?_
    rintro e w1 ⟨rfl, hb1⟩
    have HB1 := Lib.hid (HB0.out.1.trans (hb1.mono HB0.out.1.size))
    clear hb1
    go_wp2
    go_ret
    exact ⟨rfl, HB1.out⟩
  | false =>
    obtain ⟨R, hR⟩ : ∃ R, beginsCat s.data.toList l f = R := ⟨_, rfl⟩
    rw [if_neg (by simp), hR]
    have HR := Lib.hid hR
    clear hR
    go_enter Try.func42, Try.ntmps42
    go_wp2_with fail
    refine HIV.out.mono ?_
    rintro e w1 ⟨rfl, hb1⟩
    have HB1 := Lib.hid (And.intro (HB0.out.1.trans (hb1.mono HB0.out.1.size)) (And.intro (HB0.out.2.1.step hb1) (HB0.out.2.2.step hb1)))
    clear hb1
    go_wp2
    go_loopw [2, 8] (fun x i wr => ∃ (j g : Nat) (f' : Nat → Bool), x = .slice (some ⟨g, 0, none⟩) n n ∧ i = .int .i64 j ∧ j ≤ l.length ∧ Hid (Below w.heap.size w wr ∧ BlkIs wr w.heap.size 39 (reL 2 m A l.length c lo hi).toArray ∧ BlkIs wr g 4 (bl n f') ∧ beginsCat s.data.toList (l.drop j) f' = R)) (fun _ i _ => l.length - (intOf i).toNat)
    case atStart => exact ⟨0, g0, f, rfl, rfl, Nat.zero_le _, Lib.hid ⟨HB1.out.1, HB1.out.2.1, HB1.out.2.2, HR.out⟩⟩
    case round =>
      obtain ⟨j, g, f', rfl, rfl, hj, HH⟩ := hrel
      have hbl := HH.out.2.1
      unfold reL at hbl
      obtain ⟨_, _, _, _, _, c5, _, _⟩ := hbl.eight
      by_cases hp : j < l.length
      · have hdl : decide ((j : Int) < (l.length : Int)) = true := by simp; omega
        obtain ⟨b, o, rfl, hbw, hg⟩ := HS.out (by intro e; subst e; simp at hp)
        obtain ⟨cs, hcat, hlen, hrow⟩ := hg j hp
        obtain ⟨A', n', c', rfl⟩ := hcat.eight
        obtain ⟨r0, r1, r2, r3, r4, r5, r6, r7⟩ := row_eight hrow HH.out.1
        have hrows := fun u (hu : Below w.heap.size w u) => row_eight hrow hu
        have hcall := IH.out _ (List.getElem_mem hp) _ wr g _ (hcat.step HH.out.1) HH.out.2.2.1
        have hends := fun u (hu : Below w.heap.size w u) (hgu : BlkIs u g 4 (bl n f')) => IE.out _ (List.getElem_mem hp) _ u g _ (hcat.step hu) hgu
        have hk1 : IntKind.i64.wrap ((j : Int) + 1) = ((j + 1 : Nat) : Int) := by rw [IntKind.wrap_i64]; omega
        have hdrop : beginsCat s.data.toList (l.drop j) f' = ((l[j]).begins s.data.toList f' || beginsCat s.data.toList (l.drop (j + 1)) ((l[j]).ends s.data.toList f')) := by
          rw [List.drop_eq_getElem_cons hp]; rfl
        have HD := Lib.hid (hdrop.symm.trans HH.out.2.2.2)
        clear hdrop
        by_cases hx : (l[j]).begins s.data.toList f' = true
        · rw [hx] at hcall
          have HC := Lib.hid hcall
          have HA := Lib.hid (show R = true by rw [← HD.out, hx]; rfl)
          clear hrow hrows hcat hcall hends hg hbl hx
          go_wp2_with fail
          refine HC.out.mono ?_
          rintro e w2 ⟨rfl, hb2⟩
          have HB2 := Lib.hid hb2
          clear hb2
          go_wp2
          go_ret
          rw [HA.out]
          exact ⟨rfl, HH.out.1.trans (HB2.out.mono HH.out.1.size)⟩
        · have hx2 : (l[j]).begins s.data.toList f' = false := by simpa using hx
          rw [hx2] at hcall
          have HC := Lib.hid hcall
          have HA := Lib.hid (show beginsCat s.data.toList (l.drop (j + 1)) ((l[j]).ends s.data.toList f') = R by rw [← HD.out, hx2]; rfl)
          have HRW := Lib.hid hrows
          have HEN := Lib.hid hends
          clear hrow hrows hcat hcall hends hg hbl hx hx2
          go_wp2_with fail
          refine HC.out.mono ?_
          rintro e w2 ⟨rfl, hb2⟩
          have HB2 := Lib.hid (And.intro (HH.out.1.trans (hb2.mono HH.out.1.size)) (And.intro (HH.out.2.1.step hb2) (HH.out.2.2.1.step hb2)))
          have hbl := HB2.out.2.1
          unfold reL at hbl
          clear c5 r0 r1 r2 r3 r4 r5 r6 r7 hb2
          obtain ⟨_, _, _, _, _, c5, _, _⟩ := hbl.eight
          obtain ⟨r0, r1, r2, r3, r4, r5, r6, r7⟩ := HRW.out _ HB2.out.1
          have hcall := HEN.out _ HB2.out.1 HB2.out.2.2
          have HC2 := Lib.hid hcall
          clear hcall hbl
          go_wp2_with fail
          refine HC2.out.mono ?_
          rintro e w3 ⟨g3, rfl, hg3, hbl3, hb3⟩
          have HB3 := Lib.hid (And.intro (HB2.out.1.trans (hb3.mono HB2.out.1.size)) (And.intro (HB2.out.2.1.step hb3) hbl3))
          clear hg3 hbl3 hb3
          go_wp2
          exact ⟨⟨j + 1, g3, _, rfl, by go_num, hp, Lib.hid ⟨HB3.out.1, HB3.out.2.1, HB3.out.2.2, HA.out⟩⟩, by simp [intOf]; omega⟩
      · have hdl : decide ((j : Int) < (l.length : Int)) = false := by simp; omega
        obtain rfl : j = l.length := by omega
        have HA := Lib.hid (show f' s.size = R by
          have h := HH.out.2.2.2
          rw [List.drop_length] at h
          exact h)
        have d0 := bl_range HH.out.2.2.1 hsn
        clear hbl
        go_wp2
        go_ret
        rw [← HA.out]
        exact ⟨rfl, HH.out.1⟩

end Go.Proofs.Ytgbljnnmhmlifaa

