/-
  WHAT nfa.Build ANSWERS of rules that may be, whose parts are made as said: a contract. Condition: as many places as may be.
-/
import Derived.Laws.ResultCell
import Derived.Test.YtgbljnnmhmlifaaQG29
namespace Go.Proofs.Ytgbljnnmhmlifaa
open Go.RowKit

attribute [local irreducible] FreeW textFrame

structure Bs where
  S : Mk
  R : List Int
  F : List Int
  E : List Bool
  em : Int
def Bs.add (x : Bs) (i : Int) (T : Tree) : Bs := ⟨(partP T x.S).1, x.R ++ List.replicate T.plN i, x.F ++ (partP T x.S).2.first, marksE (x.E ++ List.replicate T.plN false) (partP T x.S).2.ends, if (partP T x.S).2.empty && x.em == -1 then i else x.em⟩
def Bs.none : Bs := ⟨⟨[], []⟩, [], [], [], -1⟩
def Bs.all : Bs → Int → List Tree → Bs
  | x, _, [] => x
  | x, i, t :: r => Bs.all (x.add i t) (i + 1) r
theorem Bs.all_snoc (t : Tree) : ∀ (l : List Tree) (x : Bs) (i : Int), Bs.all x i (l ++ [t]) = (Bs.all x i l).add (i + l.length) t
  | [], x, i => by simp [Bs.all]
  | y :: l, x, i => by
    simp only [List.cons_append, Bs.all, Bs.all_snoc t l, List.length_cons]
    congr 1
    omega
def buildN (l : List Tree) : Nf := let x := Bs.all Bs.none 0 l; ⟨x.S.sets, x.R, x.F, x.S.follow, x.E, x.em⟩
structure Bs.Ok (x : Bs) (n c : Nat) : Prop where
  ks : x.S.Ok
  kn : x.S.sets.length = n
  kr : x.R.length = n
  ke : x.E.length = n
  kf : x.F.length ≤ c * 2000
theorem Bs.add_ok {x : Bs} {n c : Nat} (h : x.Ok n c) (i : Int) (T : Tree) (hT : T.okT) (hn : n + T.plN ≤ 2000) : (x.add i T).Ok (n + T.plN) (c + 1) := by
  obtain ⟨h1, h2, h3⟩ := partP_ok T x.S hT h.ks
  have h4 := risesB_len0 h2.1
  refine ⟨h1, by rw [← h.kn]; exact h3, by simp [Bs.add, h.kr], by simp [Bs.add, marksE_len, h.ke], ?_⟩
  have := h.kf
  have := h.kn
  simp only [Bs.add, List.length_append]
  omega
theorem Bs.all_ok : ∀ (l : List Tree) (x : Bs) (i : Int) (n c : Nat), x.Ok n c → okTs l → n + sumN l ≤ 2000 → (Bs.all x i l).Ok (n + sumN l) (c + l.length)
  | [], x, i, n, c, h, _, _ => by simpa [Bs.all, sumN] using h
  | t :: l, x, i, n, c, h, hT, hn => by
    unfold okTs at hT
    simp only [sumN] at hn
    have h1 := Bs.add_ok h i t hT.1 (by omega)
    have := Bs.all_ok l (x.add i t) (i + 1) _ _ h1 hT.2 (by omega)
    simp only [Bs.all, sumN, List.length_cons]
    rw [show n + (t.plN + sumN l) = n + t.plN + sumN l by omega, show c + (l.length + 1) = c + 1 + l.length by omega]
    exact this
theorem sets_of_row {W : World} {v : Value} {l : List (Nat → Bool)} (h : W.ownsRow 0 37 4 v l.length (cellsS l)) : SetsV W l v := by
  rcases h.2 with ⟨rfl, h1⟩ | ⟨g, cap, cur, rfl, h2, h3, h4, h5, h6, h7⟩
  · obtain rfl := List.eq_nil_of_length_eq_zero h1
    exact ⟨_, _, rfl, ⟨Nat.le_refl _, by decide⟩, fun h => absurd rfl h⟩
  · refine ⟨_, cap, rfl, ⟨h4, by unfold maxLen at h5; omega⟩, fun _ => ⟨g, 0, rfl, (Array.getElem?_eq_some_iff.1 h3).1, fun i hi k hk => ?_⟩⟩
    have e : (cellsS l)[i * 4 + k]? = some (.int .u64 (wd l[i] k : Nat)) := by
      have hs := congrArg cellsS (List.take_append_drop i l)
      rw [cellsS_app, List.drop_eq_getElem_cons hi] at hs
      have hl : (cellsS (l.take i)).length = i * 4 := by rw [cellsS_len, List.length_take]; omega
      rw [← hs, List.getElem?_append_right (by omega), hl, Nat.add_sub_cancel_left]
      simp only [cellsS, List.flatMap_cons]
      have hk4 : k = 0 ∨ k = 1 ∨ k = 2 ∨ k = 3 := by omega
      rcases hk4 with rfl | rfl | rfl | rfl <;> rfl
    have := h.cells (g := g) rfl _ _ e
    rwa [Addr.add_lit, ← Nat.add_assoc] at this
theorem bools_of_row {W : World} {v : Value} {l : List Bool} (h : W.ownsRow 0 4 1 v l.length (l.map Value.bool)) : BoolsV W l v := by
  rcases h.2 with ⟨rfl, h1⟩ | ⟨g, cap, cur, rfl, h2, h3, h4, h5, h6, h7⟩
  · obtain rfl := List.eq_nil_of_length_eq_zero h1
    exact ⟨_, _, rfl, ⟨Nat.le_refl _, by decide⟩, fun h => absurd rfl h⟩
  · refine ⟨_, cap, rfl, ⟨h4, by unfold maxLen at h5; omega⟩, fun _ => ⟨g, 0, rfl, (Array.getElem?_eq_some_iff.1 h3).1, fun i hi => ?_⟩⟩
    have := h.cells (g := g) rfl i (.bool l[i]) (by simp [hi])
    rwa [Addr.add_lit] at this
theorem rows_of_maker {M K : Nat → Bool} {W : World} {pb : Nat} {S : Mk} {r f e m vs vf : Value} {xs : List Value} (h : MkI M K W pb S r f e m vs vf xs) : RowsI W S.follow vf := by
  by_cases hne : S.follow = []
  · obtain ⟨A, c, rfl, hc⟩ := own_form h.own3
    exact ⟨A, c, rfl, hc, fun h => absurd hne h⟩
  · obtain ⟨g, c, rfl, hc, _, _, hg, hr⟩ := h.place hne
    refine ⟨_, c, rfl, hc, fun _ => ⟨g, 0, rfl, hg, fun i hi => ?_⟩⟩
    obtain ⟨A, n, c', h1, _, h2⟩ := hr i hi
    exact ⟨_, by rw [Nat.zero_add]; exact h1, h2.bare⟩
end Go.Proofs.Ytgbljnnmhmlifaa

namespace Go.Proofs.Ytgbljnnmhmlifaa
open Go.RowKit

structure Gr where
  st : Nat → Nat → Bool
  fo : Nat → Nat → Bool
def Gr.hit (G : Gr) (s : List UInt8) (p i : Nat) : Prop := ∃ c, s[i]? = some c ∧ G.st p c.toNat = true
inductive Rch (G : Gr) (s : List UInt8) (p i : Nat) : Nat → Nat → Prop
  | refl : Rch G s p i p i
  | step {q k r : Nat} : Rch G s p i q k → G.fo q r = true → G.hit s r (k + 1) → Rch G s p i r (k + 1)
theorem Rch.trans {G : Gr} {s : List UInt8} {p i q k r m : Nat} (h : Rch G s p i q k) (h' : Rch G s q k r m) : Rch G s p i r m := by
  induction h' with
  | refl => exact h
  | step _ h1 h2 ih => exact .step ih h1 h2
theorem Rch.le {G : Gr} {s : List UInt8} {p i q k : Nat} (h : Rch G s p i q k) : i ≤ k := by
  induction h with
  | refl => exact Nat.le_refl _
  | step _ _ _ ih => omega
theorem Rch.cons {G : Gr} {s : List UInt8} {p i q r m : Nat} (h1 : G.fo p q = true) (h2 : G.hit s q (i + 1)) (h : Rch G s q (i + 1) r m) : Rch G s p i r m := (Rch.step .refl h1 h2).trans h
theorem Gr.hit_lt {G : Gr} {s : List UInt8} {p i : Nat} (h : G.hit s p i) : i < s.length := by
  obtain ⟨c, h, _⟩ := h
  exact (List.getElem?_eq_some_iff.1 h).1
def PR (G : Gr) (s : List UInt8) (p : Prt) (j k : Nat) : Prop :=
  (p.empty = true ∧ j = k) ∨ ∃ a b k', hasI p.first a = true ∧ hasI p.ends b = true ∧ G.hit s a j ∧ Rch G s a j b k' ∧ k = k' + 1
theorem Rch.hit {G : Gr} {s : List UInt8} {p i q k : Nat} (h : Rch G s p i q k) (h0 : G.hit s p i) : G.hit s q k := by
  cases h with
  | refl => exact h0
  | step _ _ h2 => exact h2
theorem PR.le {G : Gr} {s : List UInt8} {p : Prt} {j k : Nat} (h : PR G s p j k) : j ≤ k ∧ (j < k → k ≤ s.length) := by
  rcases h with ⟨_, rfl⟩ | ⟨a, b, k', _, _, h1, h2, rfl⟩
  · exact ⟨Nat.le_refl _, fun h => absurd h (by omega)⟩
  · have := h2.le
    have := Gr.hit_lt (h2.hit h1)
    exact ⟨by omega, fun _ => by omega⟩

def InP (lo hi : Nat) (p : Prt) : Prop := (∀ a, hasI p.first a = true → lo ≤ a ∧ a < hi) ∧ ∀ a, hasI p.ends a = true → lo ≤ a ∧ a < hi
def Cl (G : Gr) (lo hi : Nat) : Prop := ∀ a b, lo ≤ a → a < hi → G.fo a b = true → lo ≤ b ∧ b < hi
def Ag (G G' : Gr) (lo hi : Nat) : Prop := ∀ a, lo ≤ a → a < hi → G'.st a = G.st a ∧ G'.fo a = G.fo a
theorem Ag.symm {G G' : Gr} {lo hi : Nat} (h : Ag G G' lo hi) : Ag G' G lo hi := fun a h1 h2 => ⟨(h a h1 h2).1.symm, (h a h1 h2).2.symm⟩
theorem Ag.refl (G : Gr) (lo hi : Nat) : Ag G G lo hi := fun _ _ _ => ⟨rfl, rfl⟩
theorem Ag.trans {G G' G'' : Gr} {lo hi : Nat} (h : Ag G G' lo hi) (h' : Ag G' G'' lo hi) : Ag G G'' lo hi := fun a h1 h2 => ⟨(h' a h1 h2).1.trans (h a h1 h2).1, (h' a h1 h2).2.trans (h a h1 h2).2⟩
theorem Ag.sub {G G' : Gr} {lo hi lo' hi' : Nat} (h : Ag G G' lo hi) (h1 : lo ≤ lo') (h2 : hi' ≤ hi) : Ag G G' lo' hi' := fun a h3 h4 => h a (by omega) (by omega)
theorem Cl.ag {G G' : Gr} {lo hi : Nat} (h : Cl G lo hi) (ha : Ag G G' lo hi) : Cl G' lo hi := fun a b h1 h2 h3 => h a b h1 h2 (by rw [(ha a h1 h2).2] at h3; exact h3)
theorem InP.mono {lo hi lo' hi' : Nat} {p : Prt} (h : InP lo hi p) (h1 : lo' ≤ lo) (h2 : hi ≤ hi') : InP lo' hi' p := ⟨fun a ha => by have := h.1 a ha; omega, fun a ha => by have := h.2 a ha; omega⟩
theorem Cl.cat {G : Gr} {lo mid hi : Nat} (h : Cl G lo mid) (h' : Cl G mid hi) (h1 : lo ≤ mid) (h2 : mid ≤ hi) : Cl G lo hi := fun a b g1 g2 g3 => by
  by_cases hm : a < mid
  · have := h a b g1 hm g3; omega
  · have := h' a b (by omega) g2 g3; omega
theorem Gr.hit_ag {G G' : Gr} {lo hi : Nat} {s : List UInt8} (ha : Ag G G' lo hi) {p i : Nat} (h1 : lo ≤ p) (h2 : p < hi) : G'.hit s p i ↔ G.hit s p i := by
  unfold Gr.hit; rw [(ha p h1 h2).1]
theorem Rch.stay {G : Gr} {lo hi : Nat} (hc : Cl G lo hi) {s : List UInt8} {p i q k : Nat} (h : Rch G s p i q k) (h1 : lo ≤ p) (h2 : p < hi) : lo ≤ q ∧ q < hi := by
  induction h with
  | refl => exact ⟨h1, h2⟩
  | step _ h4 _ ih => exact hc _ _ ih.1 ih.2 h4
theorem Rch.ag {G G' : Gr} {lo hi : Nat} (hc : Cl G lo hi) (ha : Ag G G' lo hi) {s : List UInt8} {p i q k : Nat} (h : Rch G s p i q k) (h1 : lo ≤ p) (h2 : p < hi) : Rch G' s p i q k := by
  induction h with
  | refl => exact .refl
  | step h3 h4 h5 ih =>
    have hq := h3.stay hc h1 h2
    have hr := hc _ _ hq.1 hq.2 h4
    exact .step ih (by rw [(ha _ hq.1 hq.2).2]; exact h4) ((Gr.hit_ag ha hr.1 hr.2).2 h5)
theorem PR.ag1 {G G' : Gr} {lo hi : Nat} (hc : Cl G lo hi) (ha : Ag G G' lo hi) {p : Prt} (hp : InP lo hi p) {s : List UInt8} {j k : Nat} (h : PR G s p j k) : PR G' s p j k := by
  rcases h with h | ⟨a, b, k', h1, h2, h3, h4, h5⟩
  · exact .inl h
  · have hx := hp.1 a h1
    exact .inr ⟨a, b, k', h1, h2, (Gr.hit_ag ha hx.1 hx.2).2 h3, h4.ag hc ha hx.1 hx.2, h5⟩
theorem PR.ag {G G' : Gr} {lo hi : Nat} (hc : Cl G lo hi) (ha : Ag G G' lo hi) {p : Prt} (hp : InP lo hi p) {s : List UInt8} {j k : Nat} : PR G' s p j k ↔ PR G s p j k :=
  ⟨fun h => h.ag1 (hc.ag ha) ha.symm hp, fun h => h.ag1 hc ha hp⟩

structure Lnk (G G' : Gr) (e f : List Int) : Prop where
  st : ∀ a, G'.st a = G.st a
  fo : ∀ a b, G'.fo a b = (G.fo a b || (hasI e a && hasI f b))
theorem Lnk.hit {G G' : Gr} {e f : List Int} (h : Lnk G G' e f) {s : List UInt8} {p i : Nat} : G'.hit s p i ↔ G.hit s p i := by
  unfold Gr.hit; rw [h.st]
theorem Rch.lnk {G G' : Gr} {e f : List Int} (hl : Lnk G G' e f) {s : List UInt8} {p i q k : Nat} (h : Rch G s p i q k) : Rch G' s p i q k := by
  induction h with
  | refl => exact .refl
  | step _ h4 h5 ih => exact .step ih (by rw [hl.fo, h4]; rfl) (hl.hit.2 h5)
theorem PR.lnk {G G' : Gr} {e f : List Int} (hl : Lnk G G' e f) {s : List UInt8} {p : Prt} {j k : Nat} (h : PR G s p j k) : PR G' s p j k := by
  rcases h with h | ⟨a, b, k', h1, h2, h3, h4, h5⟩
  · exact .inl h
  · exact .inr ⟨a, b, k', h1, h2, hl.hit.2 h3, h4.lnk hl, h5⟩
section
variable {G G' : Gr} {lo mid hi : Nat} {p q : Prt}
theorem link_split (hl : Lnk G G' p.ends q.first) (hp : InP lo mid p) (hq : InP mid hi q) (c1 : Cl G lo mid) (c2 : Cl G mid hi) {s : List UInt8} {a i b k : Nat} (h : Rch G' s a i b k) (h1 : lo ≤ a) (h2 : a < mid) :
    (lo ≤ b ∧ b < mid ∧ Rch G s a i b k) ∨ (mid ≤ b ∧ b < hi ∧ ∃ e f m, hasI p.ends e = true ∧ hasI q.first f = true ∧ Rch G s a i e m ∧ G.hit s f (m + 1) ∧ Rch G s f (m + 1) b k) := by
  induction h with
  | refl => exact .inl ⟨h1, h2, .refl⟩
  | step h3 h4 h5 ih =>
    rw [hl.fo, Bool.or_eq_true, Bool.and_eq_true] at h4
    have h5 := hl.hit.1 h5
    rcases ih with ⟨i1, i2, i3⟩ | ⟨i1, i2, e, f, m, g1, g2, g3, g4, g5⟩
    · rcases h4 with h4 | ⟨h4, h6⟩
      · have := c1 _ _ i1 i2 h4
        exact .inl ⟨this.1, this.2, .step i3 h4 h5⟩
      · have := hq.1 _ h6
        exact .inr ⟨this.1, this.2, _, _, _, h4, h6, i3, h5, .refl⟩
    · rcases h4 with h4 | ⟨h4, h6⟩
      · have := c2 _ _ i1 i2 h4
        exact .inr ⟨this.1, this.2, e, f, m, g1, g2, g3, g4, .step g5 h4 h5⟩
      · have := hp.2 _ h4; omega
theorem link_right (hl : Lnk G G' p.ends q.first) (hp : InP lo mid p) (c2 : Cl G mid hi) {s : List UInt8} {a i b k : Nat} (h : Rch G' s a i b k) (h1 : mid ≤ a) (h2 : a < hi) : mid ≤ b ∧ b < hi ∧ Rch G s a i b k := by
  induction h with
  | refl => exact ⟨h1, h2, .refl⟩
  | step h3 h4 h5 ih =>
    rw [hl.fo, Bool.or_eq_true, Bool.and_eq_true] at h4
    have h5 := hl.hit.1 h5
    rcases h4 with h4 | ⟨h4, h6⟩
    · have := c2 _ _ ih.1 ih.2.1 h4
      exact ⟨this.1, this.2, .step ih.2.2 h4 h5⟩
    · have := hp.2 _ h4; omega
theorem both_first (a : Nat) : hasI (bothP p q).first a = (hasI p.first a || (p.empty && hasI q.first a)) := by
  unfold bothP
  cases p.empty <;> simp [mergedL_has]
theorem both_ends (a : Nat) : hasI (bothP p q).ends a = (hasI q.ends a || (q.empty && hasI p.ends a)) := by
  unfold bothP
  cases q.empty <;> simp [mergedL_has, Bool.or_comm]
theorem both_in (hp : InP lo mid p) (hq : InP mid hi q) (h1 : lo ≤ mid) (h2 : mid ≤ hi) : InP lo hi (bothP p q) := by
  refine ⟨fun a ha => ?_, fun a ha => ?_⟩
  · rw [both_first, Bool.or_eq_true, Bool.and_eq_true] at ha
    rcases ha with ha | ha
    · have := hp.1 a ha; omega
    · have := hq.1 a ha.2; omega
  · rw [both_ends, Bool.or_eq_true, Bool.and_eq_true] at ha
    rcases ha with ha | ha
    · have := hq.2 a ha; omega
    · have := hp.2 a ha.2; omega
theorem both_cl (hl : Lnk G G' p.ends q.first) (hq : InP mid hi q) (c1 : Cl G lo mid) (c2 : Cl G mid hi) (h1 : lo ≤ mid) (h2 : mid ≤ hi) : Cl G' lo hi := fun a b g1 g2 g3 => by
  rw [hl.fo, Bool.or_eq_true, Bool.and_eq_true] at g3
  rcases g3 with g3 | g3
  · exact c1.cat c2 h1 h2 a b g1 g2 g3
  · have := hq.1 _ g3.2; omega
theorem gkBoth_any (hl : Lnk G G' p.ends q.first) (hp : InP lo mid p) (hq : InP mid hi q) (c1 : Cl G lo mid) (c2 : Cl G mid hi) (s : List UInt8) (j k : Nat) :
    PR G' s (bothP p q) j k ↔ ∃ m, PR G s p j m ∧ PR G s q m k := by
  constructor
  · rintro (⟨h, rfl⟩ | ⟨a, b, k', h1, h2, h3, h4, rfl⟩)
    · have h : (p.empty && q.empty) = true := h
      rw [Bool.and_eq_true] at h
      exact ⟨j, .inl ⟨h.1, rfl⟩, .inl ⟨h.2, rfl⟩⟩
    · rw [both_first, Bool.or_eq_true, Bool.and_eq_true] at h1
      rw [both_ends, Bool.or_eq_true, Bool.and_eq_true] at h2
      have h3 := hl.hit.1 h3
      rcases h1 with h1 | ⟨h0, h1⟩
      · have ha := hp.1 a h1
        rcases link_split hl hp hq c1 c2 h4 ha.1 ha.2 with ⟨i1, i2, i3⟩ | ⟨i1, i2, e, f, m, g1, g2, g3, g4, g5⟩
        · rcases h2 with h2 | ⟨h2, h2'⟩
          · have := hq.2 b h2; omega
          · exact ⟨k' + 1, .inr ⟨a, b, k', h1, h2', h3, i3, rfl⟩, .inl ⟨h2, rfl⟩⟩
        · rcases h2 with h2 | ⟨h2, h2'⟩
          · exact ⟨m + 1, .inr ⟨a, e, m, h1, g1, h3, g3, rfl⟩, .inr ⟨f, b, k', g2, h2, g4, g5, rfl⟩⟩
          · have := hp.2 b h2'; omega
      · have ha := hq.1 a h1
        obtain ⟨i1, i2, i3⟩ := link_right hl hp c2 h4 ha.1 ha.2
        rcases h2 with h2 | ⟨h2, h2'⟩
        · exact ⟨j, .inl ⟨h0, rfl⟩, .inr ⟨a, b, k', h1, h2, h3, i3, rfl⟩⟩
        · have := hp.2 b h2'; omega
  · rintro ⟨m, (⟨h1, rfl⟩ | ⟨a, b, k', h1, h2, h3, h4, rfl⟩), (⟨g1, rfl⟩ | ⟨a', b', k'', g1, g2, g3, g4, rfl⟩)⟩
    · exact .inl ⟨by show (p.empty && q.empty) = true; rw [h1, g1]; rfl, rfl⟩
    · exact .inr ⟨a', b', k'', by rw [both_first, h1, g1]; simp, by rw [both_ends, g2]; rfl, hl.hit.2 g3, g4.lnk hl, rfl⟩
    · exact .inr ⟨a, b, k', by rw [both_first, h1]; rfl, by rw [both_ends, g1, h2]; simp, hl.hit.2 h3, h4.lnk hl, rfl⟩
    · exact .inr ⟨a, b', k'', by rw [both_first, h1]; rfl, by rw [both_ends, g2]; rfl, hl.hit.2 h3,
        (h4.lnk hl).trans (Rch.cons (by rw [hl.fo, h2, g1]; simp) (hl.hit.2 g3) (g4.lnk hl)), rfl⟩
theorem gkOr_any (hp : InP lo mid p) (hq : InP mid hi q) (c1 : Cl G lo mid) (c2 : Cl G mid hi) (s : List UInt8) (j k : Nat) : PR G s (orP p q) j k ↔ PR G s p j k ∨ PR G s q j k := by
  constructor
  · rintro (⟨h, rfl⟩ | ⟨a, b, k', h1, h2, h3, h4, rfl⟩)
    · have h : (p.empty || q.empty) = true := h
      rw [Bool.or_eq_true] at h
      rcases h with h | h
      · exact .inl (.inl ⟨h, rfl⟩)
      · exact .inr (.inl ⟨h, rfl⟩)
    · have h1 : hasI (mergedL p.first q.first) a = true := h1
      have h2 : hasI (mergedL p.ends q.ends) b = true := h2
      rw [mergedL_has, Bool.or_eq_true] at h1 h2
      rcases h1 with h1 | h1
      · have ha := hp.1 a h1
        have hb := h4.stay c1 ha.1 ha.2
        rcases h2 with h2 | h2
        · exact .inl (.inr ⟨a, b, k', h1, h2, h3, h4, rfl⟩)
        · have := hq.2 b h2; omega
      · have ha := hq.1 a h1
        have hb := h4.stay c2 ha.1 ha.2
        rcases h2 with h2 | h2
        · have := hp.2 b h2; omega
        · exact .inr (.inr ⟨a, b, k', h1, h2, h3, h4, rfl⟩)
  · have hf : ∀ a, hasI (orP p q).first a = (hasI p.first a || hasI q.first a) := fun a => mergedL_has _ _ _
    have he : ∀ a, hasI (orP p q).ends a = (hasI p.ends a || hasI q.ends a) := fun a => mergedL_has _ _ _
    rintro ((⟨h, rfl⟩ | ⟨a, b, k', h1, h2, h3, h4, rfl⟩) | (⟨h, rfl⟩ | ⟨a, b, k', h1, h2, h3, h4, rfl⟩))
    · exact .inl ⟨by show (p.empty || q.empty) = true; rw [h]; rfl, rfl⟩
    · exact .inr ⟨a, b, k', by rw [hf, h1]; rfl, by rw [he, h2]; rfl, h3, h4, rfl⟩
    · exact .inl ⟨by show (p.empty || q.empty) = true; rw [h]; simp, rfl⟩
    · exact .inr ⟨a, b, k', by rw [hf, h1]; simp, by rw [he, h2]; simp, h3, h4, rfl⟩
theorem or_in (hp : InP lo mid p) (hq : InP mid hi q) (h1 : lo ≤ mid) (h2 : mid ≤ hi) : InP lo hi (orP p q) := by
  refine ⟨fun a ha => ?_, fun a ha => ?_⟩
  · have ha : hasI (mergedL p.first q.first) a = true := ha
    rw [mergedL_has, Bool.or_eq_true] at ha
    rcases ha with ha | ha
    · have := hp.1 a ha; omega
    · have := hq.1 a ha; omega
  · have ha : hasI (mergedL p.ends q.ends) a = true := ha
    rw [mergedL_has, Bool.or_eq_true] at ha
    rcases ha with ha | ha
    · have := hp.2 a ha; omega
    · have := hq.2 a ha; omega
end
inductive Pls (R : Nat → Nat → Prop) (j : Nat) : Nat → Prop
  | one {k : Nat} : R j k → Pls R j k
  | more {m k : Nat} : Pls R j m → R m k → Pls R j k
theorem Pls.mono {R R' : Nat → Nat → Prop} (h : ∀ j k, R j k → R' j k) {j k : Nat} (hp : Pls R j k) : Pls R' j k := by
  induction hp with
  | one h1 => exact .one (h _ _ h1)
  | more _ h1 ih => exact .more ih (h _ _ h1)
theorem self_split {G G' : Gr} {p : Prt} (hl : Lnk G G' p.ends p.first) {s : List UInt8} {a j b k : Nat} (h : Rch G' s a j b k) (h1 : hasI p.first a = true) (h2 : G.hit s a j) :
    ∃ f m, hasI p.first f = true ∧ G.hit s f m ∧ (m = j ∨ Pls (PR G s p) j m) ∧ Rch G s f m b k := by
  induction h with
  | refl => exact ⟨a, j, h1, h2, .inl rfl, .refl⟩
  | @step q k r h3 h4 h5 ih =>
    obtain ⟨f, m, g1, g2, g3, g4⟩ := ih
    rw [hl.fo, Bool.or_eq_true, Bool.and_eq_true] at h4
    have h5 := hl.hit.1 h5
    rcases h4 with h4 | ⟨h4, h6⟩
    · exact ⟨f, m, g1, g2, g3, .step g4 h4 h5⟩
    · have hp : PR G s p m (k + 1) := .inr ⟨f, q, k, g1, h4, g2, g4, rfl⟩
      refine ⟨r, k + 1, h6, h5, .inr ?_, .refl⟩
      rcases g3 with rfl | g3
      · exact .one hp
      · exact .more g3 hp
theorem gkSelf_any {G G' : Gr} {p : Prt} (hl : Lnk G G' p.ends p.first) (s : List UInt8) (j k : Nat) : PR G' s p j k ↔ Pls (PR G s p) j k := by
  constructor
  · rintro (h | ⟨a, b, k', h1, h2, h3, h4, rfl⟩)
    · exact .one (.inl h)
    · obtain ⟨f, m, g1, g2, g3, g4⟩ := self_split hl h4 h1 (hl.hit.1 h3)
      have hp : PR G s p m (k' + 1) := .inr ⟨f, b, k', g1, h2, g2, g4, rfl⟩
      rcases g3 with rfl | g3
      · exact .one hp
      · exact .more g3 hp
  · intro h
    induction h with
    | one h => exact h.lnk hl
    | @more m k _ h ih =>
      rcases h with ⟨h, rfl⟩ | ⟨a, b, k', h1, h2, h3, h4, rfl⟩
      · exact ih
      · rcases ih with ⟨g, rfl⟩ | ⟨a', b', k'', g1, g2, g3, g4, rfl⟩
        · exact .inr ⟨a, b, k', h1, h2, hl.hit.2 h3, h4.lnk hl, rfl⟩
        · exact .inr ⟨a', b, k', g1, h2, g3, g4.trans (Rch.cons (by rw [hl.fo, g2, h1]; simp) (hl.hit.2 h3) (h4.lnk hl)), rfl⟩
theorem shift_has (d : Nat) (l : List Int) (q : Nat) : hasI (shiftL d l) (q + d) = hasI l q := by
  unfold hasI shiftL
  rw [List.any_map]
  congr 1
  funext x
  have : ((x + (d : Int) == ((q + d : Nat) : Int)) : Bool) = (x == (q : Int)) := by
    rw [Bool.eq_iff_iff]; simp
  simpa [Function.comp] using this
theorem shift_hasN (d : Nat) (l : List Int) (hl : ∀ x ∈ l, 0 ≤ x) (b : Nat) (h : hasI (shiftL d l) b = true) : ∃ q, b = q + d ∧ hasI l q = true := by
  unfold hasI shiftL at h
  rw [List.any_map, List.any_eq_true] at h
  obtain ⟨x, hx, h⟩ := h
  have h0 := hl x hx
  have h : x + (d : Int) = (b : Int) := by simpa using h
  refine ⟨x.toNat, by omega, ?_⟩
  unfold hasI
  rw [List.any_eq_true]
  exact ⟨x, hx, by simp; omega⟩
structure Shf (G : Gr) (lo hi d : Nat) : Prop where
  st : ∀ a, lo ≤ a → a < hi → G.st (a + d) = G.st a
  fo : ∀ a b, lo ≤ a → a < hi → (G.fo (a + d) b = true ↔ ∃ q, b = q + d ∧ G.fo a q = true)
theorem Shf.hit {G : Gr} {lo hi d : Nat} (h : Shf G lo hi d) {s : List UInt8} {a i : Nat} (h1 : lo ≤ a) (h2 : a < hi) : G.hit s (a + d) i ↔ G.hit s a i := by
  unfold Gr.hit; rw [h.st a h1 h2]
theorem Shf.cl {G : Gr} {lo hi d : Nat} (h : Shf G lo hi d) (c : Cl G lo hi) : Cl G (lo + d) (hi + d) := fun a b h1 h2 h3 => by
  obtain ⟨x, rfl⟩ : ∃ x, a = x + d := ⟨a - d, by omega⟩
  obtain ⟨q, rfl, h4⟩ := (h.fo x b (by omega) (by omega)).1 h3
  have := c x q (by omega) (by omega) h4
  omega
theorem Shf.up {G : Gr} {lo hi d : Nat} (h : Shf G lo hi d) (c : Cl G lo hi) {s : List UInt8} {a i b k : Nat} (hr : Rch G s a i b k) (h1 : lo ≤ a) (h2 : a < hi) : Rch G s (a + d) i (b + d) k := by
  induction hr with
  | refl => exact .refl
  | step h3 h4 h5 ih =>
    have hq := h3.stay c h1 h2
    have hn := c _ _ hq.1 hq.2 h4
    exact .step ih ((h.fo _ _ hq.1 hq.2).2 ⟨_, rfl, h4⟩) ((h.hit hn.1 hn.2).2 h5)
theorem Shf.down {G : Gr} {lo hi d : Nat} (h : Shf G lo hi d) (c : Cl G lo hi) {s : List UInt8} {a i b k : Nat} (hr : Rch G s (a + d) i b k) (h1 : lo ≤ a) (h2 : a < hi) : ∃ q, b = q + d ∧ lo ≤ q ∧ q < hi ∧ Rch G s a i q k := by
  induction hr with
  | refl => exact ⟨a, rfl, h1, h2, .refl⟩
  | step h3 h4 h5 ih =>
    obtain ⟨q, rfl, g1, g2, g3⟩ := ih
    obtain ⟨r, rfl, h6⟩ := (h.fo _ _ g1 g2).1 h4
    have hn := c _ _ g1 g2 h6
    exact ⟨r, rfl, hn.1, hn.2, .step g3 h6 ((h.hit hn.1 hn.2).1 h5)⟩
theorem gkShift_any {G : Gr} {lo hi d : Nat} (h : Shf G lo hi d) (c : Cl G lo hi) {p : Prt} (hp : InP lo hi p) (hf : ∀ x ∈ p.first, 0 ≤ x) (he : ∀ x ∈ p.ends, 0 ≤ x) (s : List UInt8) (j k : Nat) : PR G s (shiftP d p) j k ↔ PR G s p j k := by
  constructor
  · rintro (h1 | ⟨a, b, k', h1, h2, h3, h4, rfl⟩)
    · exact .inl h1
    · obtain ⟨x, rfl, g1⟩ := shift_hasN d _ hf a h1
      obtain ⟨y, rfl, g2⟩ := shift_hasN d _ he b h2
      have hx := hp.1 x g1
      obtain ⟨q, e, _, _, h5⟩ := h.down c h4 hx.1 hx.2
      obtain rfl : y = q := by omega
      exact .inr ⟨x, y, k', g1, g2, (h.hit hx.1 hx.2).1 h3, h5, rfl⟩
  · rintro (h1 | ⟨a, b, k', h1, h2, h3, h4, rfl⟩)
    · exact .inl h1
    · have hx := hp.1 a h1
      exact .inr ⟨a + d, b + d, k', by unfold shiftP; rw [shift_has]; exact h1, by unfold shiftP; rw [shift_has]; exact h2, (h.hit hx.1 hx.2).2 h3, h.up c h4 hx.1 hx.2, rfl⟩
theorem shift_in {lo hi d : Nat} {p : Prt} (hp : InP lo hi p) (hf : ∀ x ∈ p.first, 0 ≤ x) (he : ∀ x ∈ p.ends, 0 ≤ x) : InP (lo + d) (hi + d) (shiftP d p) := by
  refine ⟨fun a ha => ?_, fun a ha => ?_⟩
  · obtain ⟨x, rfl, h1⟩ := shift_hasN d _ hf a ha
    have := hp.1 x h1; omega
  · obtain ⟨x, rfl, h1⟩ := shift_hasN d _ he a ha
    have := hp.2 x h1; omega
end Go.Proofs.Ytgbljnnmhmlifaa

