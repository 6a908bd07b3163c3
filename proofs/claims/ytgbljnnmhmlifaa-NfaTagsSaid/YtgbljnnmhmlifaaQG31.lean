/-
  ROWS OF PARTS of a graph of places: links in rows of places, parts laid one behind the other, what a row of parts, an alternative, and copies come to. Pure. No condition.
-/
import Derived.Test.YtgbljnnmhmlifaaQG30
namespace Go.Proofs.Ytgbljnnmhmlifaa
open Go.RowKit

def grF (st : List (Nat → Bool)) (F : List (List Int)) : Gr := ⟨fun p => st.getD p fun _ => false, fun p q => hasI (F.getD p []) q⟩
theorem linkF_has : ∀ (e : List Int) (F : List (List Int)) (row : List Int), (∀ x ∈ e, 0 ≤ x ∧ x < (F.length : Int)) → ∀ p q, hasI ((linkF F e row).getD p []) q = (hasI (F.getD p []) q || (hasI e p && hasI row q))
  | [], F, row, _, p, q => by simp [linkF, hasI]
  | x :: e, F, row, h, p, q => by
    have hx := h x (by simp)
    unfold linkF
    rw [linkF_has e _ row (fun y hy => by rw [List.length_set]; exact h y (by simp [hy])), hasI_cons]
    by_cases hp : x = (p : Int)
    · subst hp
      have e1 : ((F.set (p : Int).toNat (mergedL (F.getD (p : Int).toNat []) row)).getD p []) = mergedL (F.getD p []) row := by
        rw [Int.toNat_natCast, List.getD_eq_getElem?_getD, List.getElem?_set_self (by omega)]; rfl
      rw [e1, mergedL_has]
      simp only [beq_self_eq_true, Bool.true_or, Bool.true_and]
      cases hasI (F.getD p []) q <;> cases hasI row q <;> simp
    · have e1 : ((F.set x.toNat (mergedL (F.getD x.toNat []) row)).getD p []) = F.getD p [] := by
        rw [List.getD_eq_getElem?_getD, List.getElem?_set_ne (by omega), ← List.getD_eq_getElem?_getD]
      have e2 : (x == (p : Int)) = false := by simp [hp]
      rw [e1, e2, Bool.false_or]
theorem link_lnk {st : List (Nat → Bool)} {F : List (List Int)} {e row : List Int} (h : ∀ x ∈ e, 0 ≤ x ∧ x < (F.length : Int)) : Lnk (grF st F) (grF st (linkF F e row)) e row :=
  ⟨fun _ => rfl, fun a b => linkF_has e F row h a b⟩
theorem ok_ends {n : Nat} {p : Prt} (h : p.Ok n) : ∀ x ∈ p.ends, 0 ≤ x ∧ x < (n : Int) := fun x hx => by
  have := risesB_mem h.2 x hx; omega
theorem ok_first {n : Nat} {p : Prt} (h : p.Ok n) : ∀ x ∈ p.first, 0 ≤ x ∧ x < (n : Int) := fun x hx => by
  have := risesB_mem h.1 x hx; omega
theorem Lnk.ag {G G' : Gr} {e f : List Int} (h : Lnk G G' e f) {lo hi : Nat} (ho : ∀ a, lo ≤ a → a < hi → hasI e a = false) : Ag G G' lo hi := fun a h1 h2 =>
  ⟨h.st a, by funext b; rw [h.fo, ho a h1 h2]; simp⟩

def Laid (G : Gr) : Nat → List Prt → Nat → Prop
  | lo, [], hi => lo = hi
  | lo, p :: r, hi => ∃ mid, lo ≤ mid ∧ InP lo mid p ∧ Cl G lo mid ∧ Laid G mid r hi
theorem Laid.le {G : Gr} : ∀ {l : List Prt} {lo hi : Nat}, Laid G lo l hi → lo ≤ hi
  | [], _, _, h => Nat.le_of_eq h
  | _ :: _, _, _, ⟨_, h1, _, _, h2⟩ => Nat.le_trans h1 h2.le
theorem Laid.ag {G G' : Gr} : ∀ {l : List Prt} {lo hi : Nat}, Laid G lo l hi → Ag G G' lo hi → Laid G' lo l hi
  | [], _, _, h, _ => h
  | _ :: _, _, _, ⟨mid, h1, h2, h3, h4⟩, ha => ⟨mid, h1, h2, h3.ag (ha.sub (Nat.le_refl _) h4.le), h4.ag (ha.sub h1 (Nat.le_refl _))⟩
theorem Laid.snoc {G : Gr} {p : Prt} {hi : Nat} : ∀ {l : List Prt} {lo mid : Nat}, Laid G lo l mid → mid ≤ hi → InP mid hi p → Cl G mid hi → Laid G lo (l ++ [p]) hi
  | [], _, _, h, h1, h2, h3 => by obtain rfl := h; exact ⟨hi, h1, h2, h3, rfl⟩
  | _ :: _, _, _, ⟨m, g1, g2, g3, g4⟩, h1, h2, h3 => ⟨m, g1, g2, g3, g4.snoc h1 h2 h3⟩
theorem Laid.unsnoc {G : Gr} {p : Prt} {hi : Nat} : ∀ {l : List Prt} {lo : Nat}, Laid G lo (l ++ [p]) hi → ∃ mid, Laid G lo l mid ∧ mid ≤ hi ∧ InP mid hi p ∧ Cl G mid hi
  | [], lo, ⟨m, g1, g2, g3, g4⟩ => by obtain rfl := g4; exact ⟨lo, rfl, g1, g2, g3⟩
  | _ :: _, _, ⟨m, g1, g2, g3, g4⟩ => by
    obtain ⟨mid, h1, h2⟩ := g4.unsnoc
    exact ⟨mid, ⟨m, g1, g2, g3, h1⟩, h2⟩
theorem Laid.cl {G : Gr} : ∀ {l : List Prt} {lo hi : Nat}, Laid G lo l hi → Cl G lo hi
  | [], _, _, h => by obtain rfl := h; exact fun a b h1 h2 => absurd h1 (by omega)
  | _ :: _, _, _, ⟨mid, h1, _, h3, h4⟩ => h3.cat h4.cl h1 h4.le
def RowR (P : Prt → Nat → Nat → Prop) (must : Int) : Int → List Prt → Nat → Nat → Prop
  | _, [], j, k => j = k
  | i, p :: r, j, k => (∃ m, P p j m ∧ RowR P must (i + 1) r m k) ∨ (must ≤ i ∧ j = k)
theorem RowR.congr {P P' : Prt → Nat → Nat → Prop} {must : Int} : ∀ {l : List Prt} {i : Int} {j k : Nat}, (∀ p ∈ l, ∀ j k, P p j k ↔ P' p j k) → (RowR P must i l j k ↔ RowR P' must i l j k)
  | [], _, _, _, _ => Iff.rfl
  | p :: r, i, j, k, h => by
    unfold RowR
    refine or_congr (exists_congr fun m => ?_) Iff.rfl
    rw [h p (by simp), RowR.congr fun q hq => h q (by simp [hq])]
theorem PR.more {G : Gr} {s : List UInt8} {p : Prt} (c : Bool) {j k : Nat} : PR G s { p with empty := p.empty || c } j k ↔ PR G s p j k ∨ (c = true ∧ j = k) := by
  constructor
  · rintro (⟨h, rfl⟩ | h)
    · have h : (p.empty || c) = true := h
      rw [Bool.or_eq_true] at h
      rcases h with h | h
      · exact .inl (.inl ⟨h, rfl⟩)
      · exact .inr ⟨h, rfl⟩
    · exact .inl (.inr h)
  · rintro ((⟨h, rfl⟩ | h) | ⟨h, rfl⟩)
    · exact .inl ⟨by show (p.empty || c) = true; rw [h]; rfl, rfl⟩
    · exact .inr h
    · exact .inl ⟨by show (p.empty || c) = true; rw [h]; simp, rfl⟩
theorem inRow_says (st : List (Nat → Bool)) (must : Int) (s : List UInt8) : ∀ (l : List Prt) (i : Int) (F : List (List Int)) (lo hi : Nat), hi ≤ F.length → (∀ p ∈ l, p.Ok F.length) → Laid (grF st F) lo l hi →
    InP lo hi (inRowP must i l F).2 ∧ Cl (grF st (inRowP must i l F).1) lo hi ∧ (∀ a, a < lo ∨ hi ≤ a → (inRowP must i l F).1.getD a [] = F.getD a [] ∨ ∀ q, hasI ((inRowP must i l F).1.getD a []) q = hasI (F.getD a []) q) ∧
    ∀ j k, PR (grF st (inRowP must i l F).1) s (inRowP must i l F).2 j k ↔ RowR (PR (grF st F) s) must i l j k
  | [], i, F, lo, hi, _, _, h => by
    obtain rfl := h
    refine ⟨⟨fun a ha => by simp [inRowP, hasI] at ha, fun a ha => by simp [inRowP, hasI] at ha⟩, fun a b h1 h2 => absurd h1 (by omega), fun _ _ => .inl rfl, fun j k => ⟨?_, fun h => .inl ⟨rfl, h⟩⟩⟩
    rintro (⟨_, h⟩ | ⟨a, b, k', h1, _⟩)
    · exact h
    · simp [inRowP, hasI] at h1
  | p :: r, i, F, lo, hi, hF, hok, ⟨mid, h1, h2, h3, h4⟩ => by
    obtain ⟨g1, g2, g3, g4⟩ := inRow_says st must s r (i + 1) F mid hi hF (fun q hq => hok q (by simp [hq])) h4
    have hlen : (inRowP must (i + 1) r F).1.length = F.length := by
      have : ∀ (l : List Prt) (i : Int), (inRowP must i l F).1.length = F.length := by
        intro l
        induction l with
        | nil => intro i; rfl
        | cons p l ih => intro i; unfold inRowP; dsimp only; rw [linkF_len, ih]
      exact this r (i + 1)
    have hag : Ag (grF st F) (grF st (inRowP must (i + 1) r F).1) lo mid := fun a _ hb => ⟨rfl, by
      funext q
      show hasI _ q = hasI _ q
      rcases g3 a (.inl hb) with e | e
      · rw [e]
      · exact e q⟩
    have hmh := h4.le
    unfold inRowP
    generalize inRowP must (i + 1) r F = y at *
    have hl : Lnk (grF st y.1) (grF st (linkF y.1 p.ends y.2.first)) p.ends y.2.first := link_lnk fun x hx => by
      have := ok_ends (hok p (by simp)) x hx
      rw [hlen]; exact this
    have hc := h3.ag hag
    refine ⟨both_in h2 g1 h1 hmh, both_cl hl g1 hc g2 h1 hmh, fun a ha => .inr fun q => ?_, fun j k => ?_⟩
    · have e := hl.fo a q
      have e : hasI ((linkF y.1 p.ends y.2.first).getD a []) q = _ := e
      rw [e]
      have hno : hasI p.ends a = false := by
        rw [Bool.eq_false_iff]; intro hh
        have := h2.2 a hh; omega
      rw [hno, Bool.false_and, Bool.or_false]
      show hasI (y.1.getD a []) q = _
      rcases g3 a (by omega) with e | e
      · rw [e]
      · exact e q
    · rw [PR.more, gkBoth_any hl h2 g1 hc g2 s j k]
      unfold RowR
      refine or_congr (exists_congr fun m => and_congr (PR.ag h3 hag h2) (g4 m k)) ?_
      simp
theorem either_says (G : Gr) (s : List UInt8) : ∀ (l : List Prt) (a : Prt) (lo mid hi : Nat), lo ≤ mid → InP lo mid a → Cl G lo mid → Laid G mid l hi →
    InP lo hi (eitherP a l) ∧ ∀ j k, PR G s (eitherP a l) j k ↔ PR G s a j k ∨ ∃ p ∈ l, PR G s p j k
  | [], a, lo, mid, hi, _, ha, _, h => by
    obtain rfl := h
    exact ⟨ha, fun j k => by simp [eitherP]⟩
  | p :: r, a, lo, mid, hi, hm, ha, hc, ⟨m, h1, h2, h3, h4⟩ => by
    obtain ⟨g1, g2⟩ := either_says G s r (orP a p) lo m hi (by omega) (or_in ha h2 hm h1) (hc.cat h3 hm h1) h4
    unfold eitherP
    refine ⟨g1, fun j k => ?_⟩
    rw [g2, gkOr_any ha h2 hc h3]
    simp only [List.mem_cons, exists_eq_or_imp, or_assoc]
theorem getD_app {α : Type} (d : α) (a b : List α) {i : Nat} (h : i < a.length) : (a ++ b).getD i d = a.getD i d := by
  rw [List.getD_eq_getElem?_getD, List.getD_eq_getElem?_getD, List.getElem?_append_left h]
theorem getD_run {α : Type} (d : α) (a : List α) (i j : Nat) {x : Nat} (h1 : i ≤ x) (h2 : x < j) (hj : j ≤ a.length) : (a ++ (a.drop i).take (j - i)).getD (x + (a.length - i)) d = a.getD x d := by
  rw [List.getD_eq_getElem?_getD, List.getD_eq_getElem?_getD, List.getElem?_append_right (by omega), List.getElem?_take, if_pos (by omega), List.getElem?_drop]
  congr 2; omega
theorem copied_says (S : Mk) (i j : Nat) (hij : i ≤ j) (hj : j ≤ S.sets.length) (hS : S.Ok) :
    Ag (grF S.sets S.follow) (grF (copiedS S i j).sets (copiedS S i j).follow) 0 S.sets.length ∧
    Shf (grF (copiedS S i j).sets (copiedS S i j).follow) i j (S.sets.length - i) := by
  have hag : Ag (grF S.sets S.follow) (grF (copiedS S i j).sets (copiedS S i j).follow) 0 S.sets.length := fun a _ ha => by
    unfold copiedS grF
    refine ⟨by dsimp only; rw [getD_app _ _ _ ha], ?_⟩
    funext q
    dsimp only
    rw [getD_app _ _ _ (by rw [hS.1]; exact ha)]
  refine ⟨hag, fun a h1 h2 => ?_, fun a b h1 h2 => ?_⟩
  · rw [(hag a (Nat.zero_le _) (by omega)).1]
    show (S.sets ++ (S.sets.drop i).take (j - i)).getD (a + (S.sets.length - i)) _ = S.sets.getD a _
    exact getD_run _ S.sets i j h1 h2 hj
  · rw [(hag a (Nat.zero_le _) (by omega)).2]
    show hasI ((S.follow ++ ((S.follow.drop i).take (j - i)).map (shiftL ((S.sets.length : Int) - i))).getD (a + (S.sets.length - i)) []) b = true ↔ ∃ q, b = q + (S.sets.length - i) ∧ hasI (S.follow.getD a []) q = true
    have e : (S.follow ++ ((S.follow.drop i).take (j - i)).map (shiftL ((S.sets.length : Int) - i))).getD (a + (S.sets.length - i)) [] = shiftL ((S.sets.length - i : Nat) : Int) (S.follow.getD a []) := by
      have hf := hS.1
      rw [List.getD_eq_getElem?_getD, List.getElem?_append_right (by omega), List.getElem?_map, List.getElem?_take, if_pos (by omega), List.getElem?_drop, show i + (a + (S.sets.length - i) - S.follow.length) = a by omega, List.getD_eq_getElem?_getD]
      have h0 : a < S.follow.length := by omega
      rw [List.getElem?_eq_getElem h0]
      simp only [Option.map_some, Option.getD_some]
      rw [show ((S.sets.length : Int) - i) = ((S.sets.length - i : Nat) : Int) by omega]
    rw [e]
    constructor
    · intro h
      exact shift_hasN _ _ (fun x hx => by
        have := hS.2.getD a
        have := risesB_mem this x hx; omega) b h
    · rintro ⟨q, rfl, h⟩
      rw [shift_has]; exact h
theorem copyN_says (s : List UInt8) (p : Prt) (i j : Nat) (hij : i ≤ j) (hp : p.Ok j) (hin : InP i j p) : ∀ (n : Nat) (S : Mk) (l : List Prt), S.Ok → j ≤ S.sets.length → (∀ r ∈ (S.follow.drop i).take (j - i), risesB j (-1) r = true) →
    Cl (grF S.sets S.follow) i j → Laid (grF S.sets S.follow) i l S.sets.length → (∀ q ∈ l, ∀ x y, PR (grF S.sets S.follow) s q x y ↔ PR (grF S.sets S.follow) s p x y) →
    Ag (grF S.sets S.follow) (grF (copyN p i j n S l).1.sets (copyN p i j n S l).1.follow) 0 S.sets.length ∧
    Laid (grF (copyN p i j n S l).1.sets (copyN p i j n S l).1.follow) i (copyN p i j n S l).2 (copyN p i j n S l).1.sets.length ∧
    ∀ q ∈ (copyN p i j n S l).2, ∀ x y, PR (grF (copyN p i j n S l).1.sets (copyN p i j n S l).1.follow) s q x y ↔ PR (grF S.sets S.follow) s p x y
  | 0, S, l, _, _, _, _, hl, hq => ⟨Ag.refl _ _ _, hl, hq⟩
  | n + 1, S, l, hS, hj, hrow, hc, hl, hq => by
    obtain ⟨h1, h2⟩ := copiedS_ok hS hij hj hrow
    obtain ⟨g1, g2⟩ := copied_says S i j hij hj hS
    have hfn : ∀ x ∈ p.first, 0 ≤ x := fun x hx => (ok_first hp x hx).1
    have hen : ∀ x ∈ p.ends, 0 ≤ x := fun x hx => (ok_ends hp x hx).1
    have hc' := hc.ag (g1.sub (Nat.zero_le _) hj)
    have hd : ((S.sets.length - i : Nat) : Int) = (S.sets.length : Int) - i := by omega
    have hl' : Laid (grF (copiedS S i j).sets (copiedS S i j).follow) i (l ++ [shiftP ((S.sets.length : Int) - i) p]) (copiedS S i j).sets.length := by
      refine (hl.ag (g1.sub (Nat.zero_le _) (Nat.le_refl _))).snoc (by omega) ?_ ?_
      · have := shift_in (d := S.sets.length - i) hin hfn hen
        rw [hd] at this
        exact this.mono (by omega) (by omega)
      · have := g2.cl hc'
        rw [show i + (S.sets.length - i) = S.sets.length by omega, show j + (S.sets.length - i) = (copiedS S i j).sets.length by omega] at this
        exact this
    have hpp : ∀ x y, PR (grF (copiedS S i j).sets (copiedS S i j).follow) s p x y ↔ PR (grF S.sets S.follow) s p x y := fun x y => PR.ag hc (g1.sub (Nat.zero_le _) hj) hin
    have hq' : ∀ q ∈ l ++ [shiftP ((S.sets.length : Int) - i) p], ∀ x y, PR (grF (copiedS S i j).sets (copiedS S i j).follow) s q x y ↔ PR (grF (copiedS S i j).sets (copiedS S i j).follow) s p x y := by
      intro q hqm x y
      rcases List.mem_append.1 hqm with hqm | hqm
      · rw [hpp]
        obtain ⟨lo, hi, e1, e2, e3, e4⟩ := (show ∃ lo hi, i ≤ lo ∧ hi ≤ S.sets.length ∧ InP lo hi q ∧ Cl (grF S.sets S.follow) lo hi from by
          have : ∀ (l : List Prt) (lo : Nat), Laid (grF S.sets S.follow) lo l S.sets.length → q ∈ l → ∃ a b, lo ≤ a ∧ b ≤ S.sets.length ∧ InP a b q ∧ Cl (grF S.sets S.follow) a b := by
            intro l
            induction l with
            | nil => intro lo _ h; cases h
            | cons p r ih =>
              rintro lo ⟨m, k1, k2, k3, k4⟩ h
              rcases List.mem_cons.1 h with rfl | h
              · exact ⟨lo, m, Nat.le_refl _, k4.le, k2, k3⟩
              · obtain ⟨a, b, z1, z2⟩ := ih m k4 h
                exact ⟨a, b, by omega, z2⟩
          exact this l i hl hqm)
        rw [PR.ag e4 (g1.sub (Nat.zero_le _) e2) e3]
        exact hq q hqm x y
      · obtain rfl := List.mem_singleton.1 hqm
        rw [← hd]
        exact gkShift_any g2 hc' hin hfn hen s x y
    obtain ⟨k1, k2, k3⟩ := copyN_says s p i j hij hp hin n (copiedS S i j) _ h1 (by omega) (by rw [copiedS_keep hS.1 hj]; exact hrow) hc' hl' hq'
    unfold copyN
    exact ⟨g1.trans (k1.sub (Nat.le_refl _) (by omega)), k2, fun q hqm x y => (k3 q hqm x y).trans (hpp x y)⟩
end Go.Proofs.Ytgbljnnmhmlifaa

namespace Go.Proofs.Ytgbljnnmhmlifaa
open Go.RowKit

def It (R : Nat → Nat → Prop) : Nat → Nat → Nat → Prop
  | 0, j, k => j = k
  | n + 1, j, k => ∃ m, It R n j m ∧ R m k
theorem It.cat {R : Nat → Nat → Prop} (a : Nat) : ∀ {b j k : Nat}, It R (a + b) j k ↔ ∃ m, It R a j m ∧ It R b m k
  | 0, j, k => by simp [It]
  | b + 1, j, k => by
    rw [← Nat.add_assoc]
    show (∃ m, It R (a + b) j m ∧ R m k) ↔ ∃ m, It R a j m ∧ ∃ x, It R b m x ∧ R x k
    constructor
    · rintro ⟨m, h1, h2⟩
      obtain ⟨x, h3, h4⟩ := (It.cat a).1 h1
      exact ⟨x, h3, m, h4, h2⟩
    · rintro ⟨x, h3, m, h4, h2⟩
      exact ⟨m, (It.cat a).2 ⟨x, h3, h4⟩, h2⟩
theorem It.one {R : Nat → Nat → Prop} {j k : Nat} : It R 1 j k ↔ R j k := by simp [It]
theorem It.cons {R : Nat → Nat → Prop} {n j k : Nat} : It R (n + 1) j k ↔ ∃ m, R j m ∧ It R n m k := by
  rw [Nat.add_comm, It.cat]
  simp only [It.one]
theorem It.pls {R : Nat → Nat → Prop} : ∀ {n j k : Nat}, It R (n + 1) j k → Pls R j k
  | 0, _, _, h => .one (It.one.1 h)
  | _ + 1, _, _, ⟨_, h1, h2⟩ => .more (It.pls h1) h2
theorem Pls.it {R : Nat → Nat → Prop} (hle : ∀ j k, R j k → j ≤ k) {j k : Nat} (h : Pls R j k) : j ≤ k ∧ ∃ n, n ≤ k - j ∧ It R (n + 1) j k := by
  induction h with
  | @one k h => exact ⟨hle _ _ h, 0, by omega, It.one.2 h⟩
  | @more m k _ h ih =>
    obtain ⟨h0, n, h1, h2⟩ := ih
    have := hle _ _ h
    rcases Nat.lt_or_ge m k with hm | hm
    · exact ⟨by omega, n + 1, by omega, m, h2, h⟩
    · obtain rfl : m = k := by omega
      exact ⟨h0, n, h1, h2⟩
theorem Pls.far {R : Nat → Nat → Prop} {L : Nat} (hle : ∀ j k, R j k → j ≤ k ∧ (j < k → k ≤ L)) {j k : Nat} (h : Pls R j k) : j < k → k ≤ L := by
  induction h with
  | one h => exact (hle _ _ h).2
  | @more m k _ h ih =>
    intro hjk
    rcases Nat.lt_or_ge m k with hm | hm
    · exact (hle _ _ h).2 hm
    · have := (hle _ _ h).1
      obtain rfl : m = k := by omega
      exact ih hjk
theorem row_same {P : Prt → Nat → Nat → Prop} {R : Nat → Nat → Prop} {must : Int} : ∀ {l : List Prt} {i : Int} {j k : Nat}, (∀ p ∈ l, ∀ j k, P p j k ↔ R j k) →
    (RowR P must i l j k ↔ ∃ n, n ≤ l.length ∧ (n = l.length ∨ must ≤ i + n) ∧ It R n j k)
  | [], i, j, k, _ => by
    unfold RowR
    constructor
    · rintro rfl; exact ⟨0, Nat.le_refl _, .inl rfl, rfl⟩
    · rintro ⟨n, hn, _, h⟩
      obtain rfl : n = 0 := by simpa using hn
      exact h
  | p :: r, i, j, k, h => by
    unfold RowR
    constructor
    · rintro (⟨m, h1, h2⟩ | ⟨h1, rfl⟩)
      · obtain ⟨n, g1, g2, g3⟩ := (row_same fun q hq => h q (by simp [hq])).1 h2
        refine ⟨n + 1, by simp; omega, by simp; omega, It.cons.2 ⟨m, (h p (by simp) j m).1 h1, g3⟩⟩
      · exact ⟨0, Nat.zero_le _, .inr (by omega), rfl⟩
    · rintro ⟨n, h1, h2, h3⟩
      cases n with
      | zero =>
        rcases h2 with h2 | h2
        · simp at h2
        · exact .inr ⟨by omega, h3⟩
      | succ n =>
        obtain ⟨m, g1, g2⟩ := It.cons.1 h3
        simp only [List.length_cons] at h1 h2
        exact .inl ⟨m, (h p (by simp) j m).2 g1, (row_same fun q hq => h q (by simp [hq])).2 ⟨n, by omega, by omega, g2⟩⟩
theorem row_last {P : Prt → Nat → Nat → Prop} {R Q : Nat → Nat → Prop} {must : Int} {z : Prt} (hz : ∀ j k, P z j k ↔ Q j k) : ∀ {l : List Prt} {i : Int} {j k : Nat}, i + l.length < must → (∀ p ∈ l, ∀ j k, P p j k ↔ R j k) →
    (RowR P must i (l ++ [z]) j k ↔ ∃ m, It R l.length j m ∧ Q m k)
  | [], i, j, k, hi, _ => by
    simp only [List.nil_append, RowR]
    simp only [List.length_nil] at hi
    constructor
    · rintro (⟨m, h1, rfl⟩ | ⟨h1, _⟩)
      · exact ⟨j, rfl, (hz _ _).1 h1⟩
      · omega
    · rintro ⟨m, h1, h2⟩
      obtain rfl : j = m := h1
      exact .inl ⟨k, (hz _ _).2 h2, rfl⟩
  | p :: r, i, j, k, hi, h => by
    simp only [List.length_cons] at hi
    simp only [List.cons_append, RowR]
    constructor
    · rintro (⟨m, h1, h2⟩ | ⟨h1, _⟩)
      · obtain ⟨x, g1, g2⟩ := (row_last hz (by omega) fun q hq => h q (by simp [hq])).1 h2
        exact ⟨x, It.cons.2 ⟨m, (h p (by simp) _ _).1 h1, g1⟩, g2⟩
      · omega
    · rintro ⟨x, h1, h2⟩
      obtain ⟨m, g1, g2⟩ := It.cons.1 h1
      exact .inl ⟨m, (h p (by simp) _ _).2 g1, (row_last hz (by omega) fun q hq => h q (by simp [hq])).2 ⟨x, g2, h2⟩⟩

def SaysT (G : Gr) (T : Tree) (p : Prt) : Prop := ∀ (s : List UInt8) (f : Nat → Bool) (k : Nat), T.ends s f k = true ↔ ∃ j, f j = true ∧ PR G s p j k
def SaysL (G : Gr) : List Tree → List Prt → Prop
  | [], [] => True
  | t :: r, p :: q => SaysT G t p ∧ SaysL G r q
  | _, _ => False
theorem SaysT.ag {G G' : Gr} {lo hi : Nat} {T : Tree} {p : Prt} (h : SaysT G T p) (hc : Cl G lo hi) (ha : Ag G G' lo hi) (hp : InP lo hi p) : SaysT G' T p := fun s f k => by
  rw [h s f k]
  exact exists_congr fun j => and_congr Iff.rfl (PR.ag hc ha hp).symm
theorem says_cat' {G : Gr} (s : List UInt8) {must : Int} : ∀ {l : List Tree} {ps : List Prt} {i : Int}, SaysL G l ps → i + ps.length ≤ must → ∀ (f : Nat → Bool) (k : Nat), endsCat s l f k = true ↔ ∃ j, f j = true ∧ RowR (PR G s) must i ps j k
  | [], [], _, _, _, f, k => by
    unfold endsCat RowR
    constructor
    · intro h; exact ⟨k, h, rfl⟩
    · rintro ⟨j, h, rfl⟩; exact h
  | t :: r, p :: q, i, h, hi, f, k => by
    simp only [List.length_cons] at hi
    unfold endsCat
    rw [says_cat' s h.2 (show i + 1 + q.length ≤ must by omega)]
    show (∃ m, t.ends s f m = true ∧ RowR (PR G s) must (i + 1) q m k) ↔ ∃ j, f j = true ∧ ((∃ m, PR G s p j m ∧ RowR (PR G s) must (i + 1) q m k) ∨ (must ≤ i ∧ j = k))
    constructor
    · rintro ⟨m, h1, h2⟩
      obtain ⟨j, h3, h4⟩ := (h.1 s f m).1 h1
      exact ⟨j, h3, .inl ⟨m, h4, h2⟩⟩
    · rintro ⟨j, h3, (⟨m, h4, h2⟩ | ⟨h4, _⟩)⟩
      · exact ⟨m, (h.1 s f m).2 ⟨j, h3, h4⟩, h2⟩
      · omega
  | [], _ :: _, _, h, _, _, _ => h.elim
  | _ :: _, [], _, h, _, _, _ => h.elim
theorem says_alt' {G : Gr} (s : List UInt8) : ∀ {l : List Tree} {ps : List Prt}, SaysL G l ps → ∀ (f : Nat → Bool) (k : Nat), endsAlt s l f k = true ↔ ∃ j, f j = true ∧ ∃ p ∈ ps, PR G s p j k
  | [], [], _, f, k => by simp [endsAlt]
  | t :: r, p :: q, h, f, k => by
    unfold endsAlt orB
    rw [Bool.or_eq_true, h.1 s f k, says_alt' s h.2 f k]
    constructor
    · rintro (⟨j, h1, h2⟩ | ⟨j, h1, x, h2, h3⟩)
      · exact ⟨j, h1, p, by simp, h2⟩
      · exact ⟨j, h1, x, by simp [h2], h3⟩
    · rintro ⟨j, h1, x, h2, h3⟩
      rcases List.mem_cons.1 h2 with rfl | h2
      · exact .inl ⟨j, h1, h3⟩
      · exact .inr ⟨j, h1, x, h2, h3⟩
  | [], _ :: _, h, _, _ => h.elim
  | _ :: _, [], h, _, _ => h.elim
theorem iter_it {E : (Nat → Bool) → Nat → Bool} {R : Nat → Nat → Prop} (h : ∀ f k, E f k = true ↔ ∃ j, f j = true ∧ R j k) (f : Nat → Bool) : ∀ (n k : Nat), iterE E n f k = true ↔ ∃ j, f j = true ∧ It R n j k
  | 0, k => by
    unfold iterE It
    constructor
    · intro h; exact ⟨k, h, rfl⟩
    · rintro ⟨j, h, rfl⟩; exact h
  | n + 1, k => by
    unfold iterE It
    rw [h]
    constructor
    · rintro ⟨m, h1, h2⟩
      obtain ⟨j, h3, h4⟩ := (iter_it h f n m).1 h1
      exact ⟨j, h3, m, h4, h2⟩
    · rintro ⟨j, h3, m, h4, h2⟩
      exact ⟨m, (iter_it h f n m).2 ⟨j, h3, h4⟩, h2⟩
theorem rep_it {E : (Nat → Bool) → Nat → Bool} {R : Nat → Nat → Prop} (h : ∀ f k, E f k = true ↔ ∃ j, f j = true ∧ R j k) (f : Nat → Bool) (lo most k : Nat) : repTo E lo most f k = true ↔ ∃ j, f j = true ∧ ∃ n, n < most ∧ lo ≤ n ∧ It R n j k := by
  unfold repTo
  rw [List.any_eq_true]
  constructor
  · rintro ⟨n, h1, h2⟩
    rw [Bool.and_eq_true, decide_eq_true_eq] at h2
    obtain ⟨j, h3, h4⟩ := (iter_it h f n k).1 h2.2
    exact ⟨j, h3, n, List.mem_range.1 h1, h2.1, h4⟩
  · rintro ⟨j, h3, n, h1, h2, h4⟩
    exact ⟨n, List.mem_range.2 h1, by rw [Bool.and_eq_true, decide_eq_true_eq]; exact ⟨h2, (iter_it h f n k).2 ⟨j, h3, h4⟩⟩⟩

structure PartS (T : Tree) (S : Mk) : Prop where
  ag : Ag (grF S.sets S.follow) (grF (partP T S).1.sets (partP T S).1.follow) 0 S.sets.length
  inp : InP S.sets.length (partP T S).1.sets.length (partP T S).2
  cl : Cl (grF (partP T S).1.sets (partP T S).1.follow) S.sets.length (partP T S).1.sets.length
  says : SaysT (grF (partP T S).1.sets (partP T S).1.follow) T (partP T S).2
theorem place_says (m : Nat → Bool) (l : List Tree) (lo hi : Int) (S : Mk) (hS : S.Ok) : PartS (.node 1 m l lo hi) S := by
  have e : partP (.node 1 m l lo hi) S = (placeS S m, ⟨[(S.sets.length : Int)], [(S.sets.length : Int)], false⟩) := by unfold partP; rw [if_pos rfl]
  have hone : ∀ a, hasI [(S.sets.length : Int)] a = true ↔ a = S.sets.length := fun a => by
    unfold hasI; simp; omega
  have hst : ((placeS S m).sets.getD S.sets.length fun _ => false) = m := by
    unfold placeS
    rw [List.getD_eq_getElem?_getD]; simp
  have hfo : ((placeS S m).follow.getD S.sets.length []) = [] := by
    unfold placeS
    rw [List.getD_eq_getElem?_getD, ← hS.1]; simp
  have hln : (placeS S m).sets.length = S.sets.length + 1 := by simp [placeS]
  refine ⟨?_, ?_, ?_, ?_⟩ <;> rw [e] <;> dsimp only
  · intro a _ ha
    unfold placeS grF
    refine ⟨by dsimp only; rw [getD_app _ _ _ ha], ?_⟩
    funext q
    dsimp only
    rw [getD_app _ _ _ (by rw [hS.1]; exact ha)]
  · rw [hln]
    exact ⟨fun a ha => by have := (hone a).1 ha; omega, fun a ha => by have := (hone a).1 ha; omega⟩
  · intro a b h1 h2 h3
    obtain rfl : a = S.sets.length := by omega
    have h3 : hasI ((placeS S m).follow.getD S.sets.length []) b = true := h3
    rw [hfo] at h3
    simp [hasI] at h3
  · intro s f k
    have e2 : (Tree.node 1 m l lo hi).ends s f = stepB m s f := by unfold Tree.ends; rw [if_neg (by decide), if_pos rfl]
    rw [e2]
    constructor
    · intro h
      cases k with
      | zero => simp [stepB] at h
      | succ i =>
        unfold stepB at h
        rw [Bool.and_eq_true] at h
        obtain ⟨h1, h2⟩ := h
        cases hs : s[i]? with
        | none => rw [hs] at h2; cases h2
        | some c =>
          rw [hs] at h2
          have h2 : m c.toNat = true := h2
          exact ⟨i, h1, .inr ⟨S.sets.length, S.sets.length, i, (hone _).2 rfl, (hone _).2 rfl, ⟨c, hs, by show ((placeS S m).sets.getD S.sets.length fun _ => false) c.toNat = true; rw [hst]; exact h2⟩, .refl, rfl⟩⟩
    · rintro ⟨j, h1, (⟨h2, _⟩ | ⟨a, b, k', h2, h3, ⟨c, h4, h5⟩, h6, rfl⟩)⟩
      · cases h2
      · obtain rfl := (hone a).1 h2
        have hk : k' = j := by
          have : ∀ q i, Rch (grF (placeS S m).sets (placeS S m).follow) s S.sets.length j q i → q = S.sets.length ∧ i = j := by
            intro q i h
            induction h with
            | refl => exact ⟨rfl, rfl⟩
            | step _ g1 _ ih =>
              obtain ⟨rfl, rfl⟩ := ih
              have g1 : hasI ((placeS S m).follow.getD S.sets.length []) _ = true := g1
              rw [hfo] at g1
              simp [hasI] at g1
          exact (this b k' h6).2
        subst hk
        have h5 : ((placeS S m).sets.getD S.sets.length fun _ => false) c.toNat = true := h5
        rw [hst] at h5
        simp only [stepB, h1, h4, Bool.true_and]
        exact h5
theorem nothing_says (T : Tree) (S : Mk) (e : partP T S = (S, ⟨[], [], true⟩)) (h : ∀ (s : List UInt8) (f : Nat → Bool) (k : Nat), T.ends s f k = true ↔ f k = true) : PartS T S := by
  refine ⟨?_, ?_, ?_, ?_⟩ <;> rw [e] <;> dsimp only
  · exact Ag.refl _ _ _
  · exact ⟨fun a ha => by simp [hasI] at ha, fun a ha => by simp [hasI] at ha⟩
  · exact fun a b h1 h2 => absurd h1 (by omega)
  · intro s f k
    rw [h]
    constructor
    · intro h1; exact ⟨k, h1, .inl ⟨rfl, rfl⟩⟩
    · rintro ⟨j, h1, (⟨_, rfl⟩ | ⟨a, b, k', h2, _⟩)⟩
      · exact h1
      · simp [hasI] at h2
structure PartsS (l : List Tree) (S : Mk) : Prop where
  ag : Ag (grF S.sets S.follow) (grF (partsP l S).1.sets (partsP l S).1.follow) 0 S.sets.length
  laid : Laid (grF (partsP l S).1.sets (partsP l S).1.follow) S.sets.length (partsP l S).2 (partsP l S).1.sets.length
  says : SaysL (grF (partsP l S).1.sets (partsP l S).1.follow) l (partsP l S).2
theorem parts_says : ∀ (l : List Tree), (∀ t ∈ l, t.ok = true ∧ ∀ S : Mk, S.Ok → PartS t S) → ∀ S : Mk, S.Ok → PartsS l S
  | [], _, S, _ => ⟨Ag.refl _ _ _, rfl, trivial⟩
  | t :: r, h, S, hS => by
    obtain ⟨a1, a2, a3, a4⟩ := (h t (by simp)).2 S hS
    obtain ⟨o1, o2, o3⟩ := partP_ok t S (ok_okT t (h t (by simp)).1) hS
    obtain ⟨b1, b2, b3⟩ := parts_says r (fun x hx => h x (by simp [hx])) (partP t S).1 o1
    have hle : S.sets.length ≤ (partP t S).1.sets.length := by omega
    have hag := b1.sub (lo' := S.sets.length) (Nat.zero_le _) (Nat.le_refl _)
    have e : partsP (t :: r) S = ((partsP r (partP t S).1).1, (partP t S).2 :: (partsP r (partP t S).1).2) := by rw [partsP]
    refine ⟨?_, ?_, ?_⟩ <;> rw [e] <;> dsimp only
    · exact a1.trans (b1.sub (Nat.le_refl _) hle)
    · exact ⟨_, hle, a2, a3.ag hag, b2⟩
    · exact ⟨a4.ag a3 hag a2, b3⟩
theorem okTs_of : ∀ {l : List Tree}, (∀ t ∈ l, t.ok = true) → okTs l
  | [], _ => trivial
  | t :: r, h => ⟨ok_okT t (h t (by simp)), okTs_of fun x hx => h x (by simp [hx])⟩
theorem cat_says (m : Nat → Bool) (l : List Tree) (lo hi : Int) (S : Mk) (hS : S.Ok) (hok : ∀ t ∈ l, t.ok = true) (h : PartsS l S) : PartS (.node 2 m l lo hi) S := by
  obtain ⟨g1, g2, g3⟩ := h
  obtain ⟨o1, o2, o3, o4⟩ := partsP_ok l S (okTs_of hok) hS
  have e : partP (.node 2 m l lo hi) S = (⟨(partsP l S).1.sets, (inRowP l.length 0 (partsP l S).2 (partsP l S).1.follow).1⟩, (inRowP l.length 0 (partsP l S).2 (partsP l S).1.follow).2) := by
    unfold partP; rw [if_neg (by decide), if_pos rfl]
  have key := fun s => inRow_says (partsP l S).1.sets (l.length : Int) s (partsP l S).2 0 (partsP l S).1.follow S.sets.length (partsP l S).1.sets.length (by rw [o1.1]; exact Nat.le_refl _) (fun p hp => by rw [o1.1]; exact o2 p hp) g2
  obtain ⟨k1, k2, k3, _⟩ := key []
  refine ⟨?_, ?_, ?_, ?_⟩ <;> rw [e] <;> dsimp only
  · refine g1.trans fun a _ ha => ⟨rfl, ?_⟩
    funext q
    show hasI _ q = hasI _ q
    rcases k3 a (.inl ha) with e | e
    · rw [e]
    · exact e q
  · exact k1
  · exact k2
  · intro s f k
    have e2 : (Tree.node 2 m l lo hi).ends s f = endsCat s l f := by unfold Tree.ends; rw [if_neg (by decide), if_neg (by decide), if_pos rfl]
    rw [e2, says_cat' s g3 (must := (l.length : Int)) (i := 0) (by omega)]
    exact exists_congr fun j => and_congr Iff.rfl ((key s).2.2.2 j k).symm
theorem alt_says (m : Nat → Bool) (l : List Tree) (lo hi : Int) (S : Mk) (h : PartsS l S) : PartS (.node 3 m l lo hi) S := by
  obtain ⟨g1, g2, g3⟩ := h
  have e : partP (.node 3 m l lo hi) S = ((partsP l S).1, eitherP ⟨[], [], false⟩ (partsP l S).2) := by
    unfold partP; rw [if_neg (by decide), if_neg (by decide), if_pos rfl]
  have key := fun s => either_says (grF (partsP l S).1.sets (partsP l S).1.follow) s (partsP l S).2 ⟨[], [], false⟩ S.sets.length S.sets.length (partsP l S).1.sets.length (Nat.le_refl _)
    ⟨fun a ha => by simp [hasI] at ha, fun a ha => by simp [hasI] at ha⟩ (fun a b h1 h2 => absurd h1 (by omega)) g2
  refine ⟨?_, ?_, ?_, ?_⟩ <;> rw [e] <;> dsimp only
  · exact g1
  · exact (key []).1
  · exact g2.cl
  · intro s f k
    have e2 : (Tree.node 3 m l lo hi).ends s f = endsAlt s l f := by unfold Tree.ends; rw [if_neg (by decide), if_neg (by decide), if_neg (by decide), if_pos rfl]
    rw [e2, says_alt' s g3]
    refine exists_congr fun j => and_congr Iff.rfl ?_
    rw [(key s).2 j k]
    constructor
    · exact .inr
    · intro h
      rcases h with (⟨h, _⟩ | ⟨a, b, k', h, _⟩) | h
      · cases h
      · simp [hasI] at h
      · exact h
end Go.Proofs.Ytgbljnnmhmlifaa

