/-
  THE TAG OF PLACES: what nfa's tag and hackleref08's Tag answer: contracts; they are the same. Condition: the places are places of the automaton.
-/
import Derived.Maps.AppendAt
import Derived.Test.YtojejnjjenmfaaaQG05
namespace Go.Proofs.Ytojejnjjenmfaaa
open Go.RowKit

attribute [local irreducible] FreeW

def Nf.ruleAt (N : Nf) (p : Int) : Int := N.rules.getD p.toNat 0
def Nf.endAt (N : Nf) (p : Int) : Bool := N.ends.getD p.toNat false
def tagStep (N : Nf) (least p : Int) : Int := if N.endAt p && (decide (least < 0) || decide (N.ruleAt p < least)) then N.ruleAt p else least
def tagL (N : Nf) (at' : List Int) : Int := at'.foldl (tagStep N) (-1)
def hitR (N : Nf) (at' : List Int) (r : Int) : Bool := at'.any fun p => (N.ruleAt p == r) && N.endAt p
def firstR (N : Nf) (at' : List Int) : Nat → Int → Int
  | 0, _ => -1
  | k + 1, r => if hitR N at' r then r else firstR N at' k (r + 1)
theorem tag_snoc (N : Nf) (l : List Int) (p : Int) : tagL N (l ++ [p]) = tagStep N (tagL N l) p := by unfold tagL; rw [List.foldl_append]; rfl
/-- the tag is the least rule that is hit -/
theorem tag_least (N : Nf) (hR : ∀ p, 0 ≤ N.ruleAt p ∧ N.ruleAt p < 40) : ∀ l : List Int, (tagL N l = -1 ∧ ∀ r, hitR N l r = false) ∨ (0 ≤ tagL N l ∧ tagL N l < 40 ∧ hitR N l (tagL N l) = true ∧ ∀ r, hitR N l r = true → tagL N l ≤ r) := by
  intro l
  have hsn : ∀ (l : List Int) (p r : Int), hitR N (l ++ [p]) r = (hitR N l r || ((N.ruleAt p == r) && N.endAt p)) := fun l p r => by unfold hitR; rw [List.any_append]; simp
  have hrec : ∀ n, n ≤ l.length → ((tagL N (l.take n) = -1 ∧ ∀ r, hitR N (l.take n) r = false) ∨ (0 ≤ tagL N (l.take n) ∧ tagL N (l.take n) < 40 ∧ hitR N (l.take n) (tagL N (l.take n)) = true ∧ ∀ r, hitR N (l.take n) r = true → tagL N (l.take n) ≤ r)) := by
    intro n
    induction n with
    | zero => intro _; exact .inl ⟨rfl, fun r => rfl⟩
    | succ n ih =>
      intro hn
      have ih := ih (by omega)
      rw [List.take_succ_eq_append_getElem (by omega)]
      generalize l.take n = t at *
      generalize l[n] = p at *
      rw [tag_snoc]
      simp only [hsn]
      have hp := hR p
      unfold tagStep
      cases he : N.endAt p with
      | false => simpa using ih
      | true =>
        rcases ih with ⟨i1, i2⟩ | ⟨i1, i2, i3, i4⟩
        · rw [i1]
          refine .inr ?_
          simp only [i2, Bool.true_and, Bool.false_or, Bool.and_true]
          simp
          exact ⟨hp.1, hp.2⟩
        · refine .inr ?_
          by_cases hl : N.ruleAt p < tagL N t
          · simp only [hl, decide_true, Bool.or_true, Bool.and_true, if_true]
            refine ⟨hp.1, hp.2, by simp, fun r hr => ?_⟩
            rw [Bool.or_eq_true] at hr
            rcases hr with hr | hr
            · have := i4 r hr; omega
            · have : N.ruleAt p = r := by simpa using hr
              omega
          · have h0 : decide (tagL N t < 0) = false := by simp; omega
            simp only [h0, hl, decide_false, Bool.or_false, Bool.and_false, Bool.false_eq_true, if_false]
            refine ⟨i1, i2, by rw [i3]; rfl, fun r hr => ?_⟩
            rw [Bool.or_eq_true] at hr
            rcases hr with hr | hr
            · exact i4 r hr
            · have : N.ruleAt p = r := by simpa using hr
              omega
  have := hrec l.length (Nat.le_refl _)
  rwa [List.take_length] at this
theorem first_is (N : Nf) (l : List Int) : ∀ (k : Nat) (r t : Int), r ≤ t → t < r + k → hitR N l t = true → (∀ s, hitR N l s = true → t ≤ s) → firstR N l k r = t
  | 0, r, t, h1, h2, _, _ => by omega
  | k + 1, r, t, h1, h2, h3, h4 => by
    unfold firstR
    by_cases e : hitR N l r = true
    · rw [if_pos e]
      have := h4 r e; omega
    · rw [if_neg e]
      have hne : r ≠ t := by intro h; subst h; exact e h3
      exact first_is N l k (r + 1) t (by omega) (by omega) h3 h4
theorem first_none (N : Nf) (l : List Int) (h : ∀ r, hitR N l r = false) : ∀ (k : Nat) (r : Int), firstR N l k r = -1
  | 0, _ => rfl
  | k + 1, r => by unfold firstR; rw [h, if_neg (by simp)]; exact first_none N l h k (r + 1)
theorem tag_same (N : Nf) (hR : ∀ p, 0 ≤ N.ruleAt p ∧ N.ruleAt p < 40) (l : List Int) : firstR N l 40 0 = tagL N l := by
  rcases tag_least N hR l with ⟨h1, h2⟩ | ⟨h1, h2, h3, h4⟩
  · rw [h1]; exact first_none N l h2 40 0
  · exact first_is N l 40 0 _ h1 (by omega) h3 h4

set_option maxRecDepth 20000 in
set_option maxHeartbeats 4000000 in
theorem tag_any (N : Nf) (at' : List Int) (v va : Value) (w : World) (h : NfaAt w N v) (ha : IntsV w at' va) (hin : ∀ p ∈ at', 0 ≤ p ∧ p < N.rules.length) (hle : N.ends.length = N.rules.length) :
    Calls Try.prog 49 #[v, va] w fun e w' => e = .returned (.int .i64 (tagL N at')) ∧ Below w.heap.size w w' := by
  obtain ⟨v0, v1, v2, v3, v4, rfl, hs0, hs1, hs2, hs3, hs4⟩ := h
  have hb0 := (Below.refl w.heap.size w).alloc (Nat.le_refl _) (.cells #[v0, v1, v2, v3, v4, .int .i64 N.empty] 30)
  have hr1 := hs1.step hb0
  have hr4 := hs4.step hb0
  have hra := ha.step hb0
  obtain ⟨A0, c0, rfl, hc0, hx0⟩ := hs0
  obtain ⟨A2, c2, rfl, hc2, hx2⟩ := hs2
  obtain ⟨A3, c3, rfl, hc3, hx3⟩ := hs3
  obtain ⟨A1, c1, rfl, hc1, hg1⟩ := hr1
  obtain ⟨A4, c4, rfl, hc4, hg4⟩ := hr4
  obtain ⟨Aa, ca, rfl, hca, hga⟩ := hra
  have hx := BlkIs.new w 30 #[.slice A0 N.sets.length c0, .slice A1 N.rules.length c1, .slice A2 N.first.length c2, .slice A3 N.follow.length c3, .slice A4 N.ends.length c4, .int .i64 N.empty]
  obtain ⟨W1, hW1⟩ : ∃ W1, w.alloc (.cells #[.slice A0 N.sets.length c0, .slice A1 N.rules.length c1, .slice A2 N.first.length c2, .slice A3 N.follow.length c3, .slice A4 N.ends.length c4, .int .i64 N.empty] 30) = W1 := ⟨_, rfl⟩
  rw [hW1] at hb0 hx hg1 hg4 hga
  obtain ⟨d0, d1, d2, d3, d4, d5⟩ := six hx
  have HB := Lib.hid hb0
  have HGA := Lib.hid hga
  have HIN := Lib.hid (fun (j : Nat) (h : j < at'.length) => hin _ (List.getElem_mem h))
  have HCELL := Lib.hid (fun (pn : Nat) (h : pn < N.rules.length) => (show ∃ b o b' o', A1 = some ⟨b, o, none⟩ ∧ A4 = some ⟨b', o', none⟩ ∧ W1.cell? ⟨b, o + pn, none⟩ = some (.int .i64 (N.ruleAt pn)) ∧ W1.cell? ⟨b', o' + pn, none⟩ = some (.bool (N.endAt pn)) by
    obtain ⟨b, o, e1, _, g1⟩ := hg1 (by intro e; rw [e] at h; simp at h)
    have h' : pn < N.ends.length := by rw [hle]; exact h
    obtain ⟨b', o', e2, _, g2⟩ := hg4 (by intro e; rw [e] at h'; simp at h')
    refine ⟨b, o, b', o', e1, e2, ?_, ?_⟩
    · rw [g1 pn h]; unfold Nf.ruleAt; simp [h]
    · rw [g2 pn h']; unfold Nf.endAt; simp [h']))
  obtain ⟨R, hR⟩ : ∃ R, R = tagL N at' := ⟨_, rfl⟩
  rw [← hR]
  have HR := Lib.hid hR
  have HLE := Lib.hid hle
  clear hs1 hs4 hb0 hx hg1 hg4 hga hx0 hx2 hx3 ha hin hR hle
  go_enter Try.func49, Try.ntmps49
  go_wp2
  go_loopw [5, 11] (fun s i wr => ∃ (j : Nat) (a : Int), s = .int .i64 a ∧ i = .int .i64 j ∧ j ≤ at'.length ∧ Hid (wr = W1 ∧ a = tagL N (at'.take j))) (fun _ i _ => at'.length - (intOf i).toNat)
  case atStart => exact ⟨0, -1, rfl, rfl, Nat.zero_le _, Lib.hid ⟨by trivial, rfl⟩⟩
  case round =>
    obtain ⟨j, a, rfl, rfl, hj, HH⟩ := hrel
    obtain ⟨rfl, hRR⟩ := HH.out
    have HH := Lib.hid hRR
    clear hRR
    by_cases hp : j < at'.length
    · have hk1 : IntKind.i64.wrap ((j : Int) + 1) = ((j + 1 : Nat) : Int) := by rw [IntKind.wrap_i64]; omega
      have hdl : decide ((j : Int) < (at'.length : Int)) = true := by simp; omega
      obtain ⟨b, o, rfl, hlt, hg⟩ := HGA.out (by intro e; subst e; simp at hp)
      have hcell := hg j hp
      have hpin := HIN.out j hp
      have htk : tagL N (at'.take (j + 1)) = tagStep N (tagL N (at'.take j)) at'[j] := by rw [List.take_succ_eq_append_getElem hp, tag_snoc]
      rw [← HH.out] at htk
      clear hg hlt
      generalize at'[j] = p at *
      obtain ⟨pn, rfl⟩ := Int.eq_ofNat_of_zero_le hpin.1
      have hpn : pn < N.rules.length := by omega
      obtain ⟨b1, o1, b4, o4, rfl, rfl, y1, y4⟩ := HCELL.out pn hpn
      have hi1 : (pn : Int) < (N.rules.length : Int) := by omega
      have hi4 : (pn : Int) < (N.ends.length : Int) := by rw [HLE.out]; omega
      unfold tagStep at htk
      generalize N.ruleAt (pn : Int) = r at *
      generalize N.endAt (pn : Int) = en at *
      have HT := Lib.hid htk
      clear htk hpin
      cases en with
      | false =>
        have HN := Lib.hid (show a = tagL N (at'.take (j + 1)) by rw [HT.out]; simp)
        go_wp2
        exact ⟨⟨j + 1, a, rfl, rfl, hp, Lib.hid ⟨by trivial, HN.out⟩⟩, by simp [intOf]; omega⟩
      | true =>
        by_cases h1 : a < 0
        · have q1 : decide (a < 0) = true := by simp; omega
          have HN := Lib.hid (show r = tagL N (at'.take (j + 1)) by rw [HT.out]; simp [h1])
          clear h1
          go_wp2
          exact ⟨⟨j + 1, r, rfl, rfl, hp, Lib.hid ⟨by trivial, HN.out⟩⟩, by simp [intOf]; omega⟩
        · have q1 : decide (a < 0) = false := by simp; omega
          by_cases h2 : r < a
          · have q2 : decide (r < a) = true := by simp; omega
            have HN := Lib.hid (show r = tagL N (at'.take (j + 1)) by rw [HT.out]; simp [h2])
            clear h1 h2
            go_wp2
            exact ⟨⟨j + 1, r, rfl, rfl, hp, Lib.hid ⟨by trivial, HN.out⟩⟩, by simp [intOf]; omega⟩
          · have q2 : decide (r < a) = false := by simp; omega
            have HN := Lib.hid (show a = tagL N (at'.take (j + 1)) by rw [HT.out]; simp [h1, h2])
            clear h1 h2
            go_wp2
            exact ⟨⟨j + 1, a, rfl, rfl, hp, Lib.hid ⟨by trivial, HN.out⟩⟩, by simp [intOf]; omega⟩
    · have hdl : decide ((j : Int) < (at'.length : Int)) = false := by simp; omega
      have HN := Lib.hid (show a = R by rw [HH.out, HR.out, List.take_of_length_le (by omega)])
      go_wp2
      go_ret
      exact ⟨by rw [← HN.out]; rfl, HB.out⟩
end Go.Proofs.Ytojejnjjenmfaaa

/-
  ROWS OF NUMBERS THAT GROW; WHAT nfa's begin AND hackleref08's List, Ints ANSWER: contracts. Condition: the first places are places of the automaton.
-/
namespace Go.Proofs.Ytojejnjjenmfaaa
open Go.RowKit

attribute [local irreducible] FreeW

theorem ownI_heap {W W' : World} {B : Nat} {t : TypeId} {z n : Nat} {v : Value} {xs : List Value} (h : W.ownsRow B t z v n xs) (hk : ∀ k, v.ownBlock = some k → W'.heap[k]? = W.heap[k]?) : W'.ownsRow B t z v n xs := by
  refine ⟨h.1, h.2.imp id ?_⟩
  rintro ⟨g, cap, cur, rfl, h1, h2, h3⟩
  exact ⟨g, cap, cur, rfl, h1, (hk g rfl).trans h2, h3⟩
/-- the row l in v, in a block of its own from B on -/
def RowI (B : Nat) (W : World) (v : Value) (l : List Int) : Prop := W.ownsRow B 3 1 v l.length (l.map (Value.int .i64))
theorem RowI.nil (B : Nat) (W : World) : RowI B W (.slice none 0 0) [] := World.ownsRow_nil _ _ _ _
theorem RowI.step {B : Nat} {W W' : World} {v : Value} {l : List Int} (h : RowI B W v l) (hb : Below W.heap.size W W') : RowI B W' v l := ownI_heap h fun k hk => hb.block k (World.ownsRow.lt h k hk).2
theorem RowI.ints {B : Nat} {W : World} {v : Value} {l : List Int} (h : RowI B W v l) : IntsV W l v := by
  rcases h.2 with ⟨rfl, h1⟩ | ⟨g, cap, cur, rfl, h2, h3, h4, h5, h6, h7⟩
  · obtain rfl := List.eq_nil_of_length_eq_zero h1
    exact IntsV.nil W
  · refine ⟨_, cap, rfl, ⟨h4, by unfold maxLen at h5; omega⟩, fun _ => ⟨g, 0, rfl, (Array.getElem?_eq_some_iff.1 h3).1, fun i hi => ?_⟩⟩
    have := World.ownsRow.cells h (g := g) rfl i (.int .i64 l[i]) (by simp [hi])
    rwa [Addr.add_lit] at this
theorem info_int : (Try.prog.info? 3).map (fun i => (i.zero, i.size, i.bytes)) = some (some (.int .i64 0), 1, 8) := by kernel_rfl
theorem RowI.push {B : Nat} {W : World} {v : Value} {l : List Int} (h : RowI B W v l) (hB : B ≤ W.heap.size) (p : Int) (hl : l.length + 1 ≤ 1099511627776) :
    ∃ v' W', (Builtin.append_ #[26, 26] 26 #[v, .slice (some ⟨W.heap.size, 0, none⟩) 1 1]).run Try.prog (W.alloc (.cells #[.int .i64 p] 3)) = .ok v' W' ∧ RowI B W' v' (l ++ [p]) ∧ Below B W W' := by
  obtain ⟨i0, hi0, hz0, hz1, hz2⟩ := info_parts info_int
  have hUB : Below W.heap.size W (W.alloc (.cells #[.int .i64 p] 3)) := (Below.refl _ _).alloc (Nat.le_refl _) _
  have h1 := h.step hUB
  have hnew := BlkIs.new W 3 #[.int .i64 p]
  obtain ⟨v', W', hr, hown, hgr, _, _⟩ := run_append_own_at (P := Try.prog) (w := W.alloc (.cells #[.int .i64 p] 3)) B 26 26 3 i0 (.int .i64 0) 1 8 Try.underlying26 hi0 hz0 hz1 hz2 rfl (by decide) v l.length _ h1
    ⟨W.heap.size, 0, none⟩ 1 1 [.int .i64 p] rfl (fun j u hu => by
      rw [Addr.add_lit, Nat.zero_add]
      have := hnew.range j u (by simpa using hu)
      simpa using this) (by simp [Value.oneCell']) (by unfold maxLen; omega) (by omega) (by have := hUB.size; omega)
  refine ⟨v', W', hr, ?_, (hUB.mono hB).grown hgr (by have := hUB.size; omega) (fun q hq => (World.ownsRow.lt h1 q hq).1)⟩
  unfold RowI
  rw [List.map_append, List.length_append]
  exact hown
theorem oper_app8 {P : Program} {op : Oper} {a : Act} {w : World} {K : Act → World → Prop} {Q : Exit → Act → World → Prop} (s x : Operand) (t t2 : TypeId) (hop : op.op = Op.call { callee := Callee.builtin Builtin.append, args := #[s, x], argTypes := #[t, t2] }) {v xv v' : Value} {w' : World} (hs : a.eval s = v) (hx : a.eval x = xv)
    (hrun : (Builtin.append_ #[t, t2] op.type #[v, xv]).run P w = .ok v' w') (h : K (a.put op.dst v') w') : op.wp P a w K Q := by
  unfold Oper.wp execOp
  simp only [hop, resolve, invoke, builtin, Sem.run_bind, Sem.run_pure, Result.andThen_ok, List.map_toArray, List.map_cons, List.map_nil, hs, hx, hrun]
  exact h

section
variable {P : Program} {op : Oper} {ops : Array Oper} {rest : List Oper} {a : Act} {w : World} {Q : Exit → Act → World → Prop}
theorem wpList_app8 (hg : op.guard = none) (s x : Operand) (t t2 : TypeId) (hop : op.op = Op.call { callee := Callee.builtin Builtin.append, args := #[s, x], argTypes := #[t, t2] }) {v xv v' : Value} {w' : World} (hs : a.eval s = v) (hx : a.eval x = xv)
    (hrun : (Builtin.append_ #[t, t2] op.type #[v, xv]).run P w = .ok v' w') (h : wpList P ops Q rest (a.put op.dst v') w') : wpList P ops Q (op :: rest) a w :=
  wpList_plain hg fun _ hK => oper_app8 s x t t2 hop hs hx hrun (hK _ _ h)
end

def Nf.setAt (N : Nf) (p : Int) : Nat → Bool := N.sets.getD p.toNat fun _ => false
def beginL (N : Nf) (c : Nat) : List Int := N.first.filter fun p => N.setAt p c
theorem filter_snoc {α : Type} (f : α → Bool) (l : List α) (j : Nat) (h : j < l.length) : (l.take (j + 1)).filter f = if f l[j] then (l.take j).filter f ++ [l[j]] else (l.take j).filter f := by
  rw [List.take_succ_eq_append_getElem h, List.filter_append]
  by_cases e : f l[j] = true
  · rw [if_pos e]; simp [e]
  · rw [if_neg e]; simp [e]

set_option maxRecDepth 20000 in
set_option maxHeartbeats 4000000 in
theorem begin_any (N : Nf) (c : Nat) (hc : c < 256) (v : Value) (w : World) (h : NfaAt w N v) (hin : ∀ p ∈ N.first, 0 ≤ p ∧ p < N.sets.length) (hn : N.first.length ≤ 1073741824) :
    Calls Try.prog 47 #[v, .int .u8 c] w fun e w' => ∃ v', e = .returned v' ∧ RowI (w.heap.size + 1) w' v' (beginL N c) ∧ Below w.heap.size w w' := by
  obtain ⟨v0, v1, v2, v3, v4, rfl, hs0, hs1, hs2, hs3, hs4⟩ := h
  obtain ⟨A0, c0, rfl, hc0, hg0⟩ := hs0
  obtain ⟨A2, c2, rfl, hc2, hg2⟩ := hs2
  obtain ⟨A3, c3, rfl, hc3, hx3⟩ := hs3
  obtain ⟨A1, c1, rfl, hc1, hx1⟩ := hs1
  obtain ⟨A4, c4, rfl, hc4, hx4⟩ := hs4
  have hb0 : Below w.heap.size w (w.alloc (.cells #[.slice A0 N.sets.length c0, .slice A1 N.rules.length c1, .slice A2 N.first.length c2, .slice A3 N.follow.length c3, .slice A4 N.ends.length c4, .int .i64 N.empty] 30)) := (Below.refl _ _).alloc (Nat.le_refl _) _
  have H0 := Lib.hid (And.intro hb0 (BlkIs.new w 30 #[.slice A0 N.sets.length c0, .slice A1 N.rules.length c1, .slice A2 N.first.length c2, .slice A3 N.follow.length c3, .slice A4 N.ends.length c4, .int .i64 N.empty]))
  have HG2 := Lib.hid hg2
  have HIN := Lib.hid (fun (j : Nat) (h : j < N.first.length) => hin _ (List.getElem_mem h))
  have HCELL := Lib.hid (fun (pn : Nat) (h : pn < N.sets.length) => (show ∃ b o, A0 = some ⟨b, o, none⟩ ∧ ∀ u : World, Below w.heap.size w u → u.cell? ⟨b, o + pn * 4, none⟩ = some (.int .u64 (wd (N.setAt pn) 0 : Nat)) ∧ u.cell? ⟨b, o + pn * 4 + 1, none⟩ = some (.int .u64 (wd (N.setAt pn) 1 : Nat)) ∧ u.cell? ⟨b, o + pn * 4 + 2, none⟩ = some (.int .u64 (wd (N.setAt pn) 2 : Nat)) ∧ u.cell? ⟨b, o + pn * 4 + 3, none⟩ = some (.int .u64 (wd (N.setAt pn) 3 : Nat)) by
    obtain ⟨b, o, e1, l1, g1⟩ := hg0 (by intro e; rw [e] at h; simp at h)
    have es : N.setAt pn = N.sets[pn] := by unfold Nf.setAt; simp [h]
    rw [es]
    exact ⟨b, o, e1, fun u hu => ⟨(hu.cell (p := ⟨b, o + pn * 4, none⟩) l1).trans (g1 pn h 0 (by decide)), (hu.cell (p := ⟨b, o + pn * 4 + 1, none⟩) l1).trans (g1 pn h 1 (by decide)), (hu.cell (p := ⟨b, o + pn * 4 + 2, none⟩) l1).trans (g1 pn h 2 (by decide)), (hu.cell (p := ⟨b, o + pn * 4 + 3, none⟩) l1).trans (g1 pn h 3 (by decide))⟩⟩))
  obtain ⟨R, hR⟩ : ∃ R, R = beginL N c := ⟨_, rfl⟩
  rw [← hR]
  have HR := Lib.hid hR
  have HHAS := Lib.hid (fun (m : Nat → Bool) (u : World) => has_any m c hc u)
  unfold setV at HHAS
  clear hb0 hg0 hg2 hx1 hx3 hx4 hin hR
  go_enter Try.func47, Try.ntmps47
  go_wp2
  go_loopw [5, 11] (fun s i wr => ∃ (j : Nat) (l : List Int), i = .int .i64 j ∧ j ≤ N.first.length ∧ l.length ≤ j ∧ Hid ((RowI (w.heap.size + 1) wr s l ∧ Below w.heap.size w wr ∧ BlkIs wr w.heap.size 30 #[.slice A0 N.sets.length c0, .slice A1 N.rules.length c1, .slice A2 N.first.length c2, .slice A3 N.follow.length c3, .slice A4 N.ends.length c4, .int .i64 N.empty]) ∧ l = (N.first.take j).filter fun p => N.setAt p c)) (fun _ i _ => N.first.length - (intOf i).toNat)
  case atStart => exact ⟨0, [], rfl, Nat.zero_le _, Nat.le_refl _, Lib.hid ⟨⟨RowI.nil _ _, H0.out⟩, rfl⟩⟩
  case round =>
    obtain ⟨j, l, rfl, hj, hlj, HH⟩ := hrel
    obtain ⟨d0, d1, d2, d3, d4, d5⟩ := six HH.out.1.2.2
    by_cases hp : j < N.first.length
    · have hk1 : IntKind.i64.wrap ((j : Int) + 1) = ((j + 1 : Nat) : Int) := by rw [IntKind.wrap_i64]; omega
      have hdl : decide ((j : Int) < (N.first.length : Int)) = true := by simp; omega
      obtain ⟨b, o, rfl, hlt, hg⟩ := HG2.out (by intro e; rw [e] at hp; simp at hp)
      have hcell := (HH.out.1.2.1.cell (p := ⟨b, o + j, none⟩) hlt).trans (hg j hp)
      have hpin := HIN.out j hp
      have hf := filter_snoc (fun p => N.setAt p c) N.first j hp
      rw [← HH.out.2] at hf
      clear hg hlt
      generalize N.first[j] = p at *
      obtain ⟨pn, rfl⟩ := Int.eq_ofNat_of_zero_le hpin.1
      have hpn : pn < N.sets.length := by omega
      have hi1 : (pn : Int) < (N.sets.length : Int) := by omega
      obtain ⟨b0, o0, rfl, hyy⟩ := HCELL.out pn hpn
      obtain ⟨y0, y1, y2, y3⟩ := hyy wr HH.out.1.2.1
      clear hyy hpin
      have HC := Lib.hid (HHAS.out (N.setAt (pn : Int)) wr)
      generalize N.setAt (pn : Int) = m at *
      generalize m c = hm at *
      have HF := Lib.hid hf
      clear hf
      cases hm with
      | true =>
        go_wp2_with fail
        go_at_call 61
        refine HC.out.mono ?_
        rintro e u ⟨rfl, hbu⟩
        have hsz := HH.out.1.2.2.lt
        obtain ⟨v', W', hrun, hri, hbw⟩ := (HH.out.1.1.step hbu).push (by have := hbu.size; omega) (pn : Int) (by omega)
        have HU := Lib.hid (And.intro hri (And.intro ((HH.out.1.2.1.trans (hbu.mono HH.out.1.2.1.size)).trans (hbw.mono (by omega))) ((hbw.block w.heap.size (by omega)).trans (HH.out.1.2.2.step hbu))))
        clear hbu hri hbw d0 d1 d2 d3 d4 d5 y0 y1 y2 y3 hcell
        go_wp2_with (refine wpList_app8 rfl _ _ 26 26 rfl rfl rfl hrun ?_)
        exact ⟨⟨j + 1, l ++ [(pn : Int)], rfl, hp, by rw [List.length_append, List.length_singleton]; omega, Lib.hid ⟨HU.out, by rw [HF.out]; rfl⟩⟩, by simp [intOf]; omega⟩
      | false =>
        go_wp2_with fail
        go_at_call 61
        refine HC.out.mono ?_
        rintro e u ⟨rfl, hbu⟩
        have HU := Lib.hid (And.intro (HH.out.1.1.step hbu) (And.intro (HH.out.1.2.1.trans (hbu.mono HH.out.1.2.1.size)) (HH.out.1.2.2.step hbu)))
        clear hbu d0 d1 d2 d3 d4 d5 y0 y1 y2 y3 hcell
        go_wp2
        exact ⟨⟨j + 1, l, rfl, hp, by omega, Lib.hid ⟨HU.out, by rw [HF.out]; rfl⟩⟩, by simp [intOf]; omega⟩
    · have hdl : decide ((j : Int) < (N.first.length : Int)) = false := by simp; omega
      have HF := Lib.hid (show l = R by rw [HH.out.2, HR.out, List.take_of_length_le (by omega)]; rfl)
      go_wp2
      go_ret
      exact ⟨_, rfl, by rw [← HF.out]; exact HH.out.1.1, HH.out.1.2.1⟩
end Go.Proofs.Ytojejnjjenmfaaa

/-
  WHAT hackleref08's Ints AND List ANSWER: contracts. No condition but that the rows lie there.
-/
namespace Go.Proofs.Ytojejnjjenmfaaa
open Go.RowKit

attribute [local irreducible] FreeW

set_option maxRecDepth 20000 in
set_option maxHeartbeats 2000000 in
theorem ints_any (l r : List Int) (v v' : Value) (w : World) (hl : IntsV w l v) (hr : IntsV w r v') : Calls Try.prog 26 #[v, v'] w fun e w' => e = .returned (.bool (decide (l = r))) ∧ Below w.heap.size w w' := by
  obtain ⟨A, c, rfl, hc, hs⟩ := hl
  obtain ⟨A', c', rfl, hc', hs'⟩ := hr
  have HS := Lib.hid hs
  have HS' := Lib.hid hs'
  clear hs hs'
  by_cases hlen : l.length = r.length
  case neg =>
    have e0 : ((l.length : Int) != (r.length : Int)) = true := by simp; omega
    have HF := Lib.hid (show decide (l = r) = false by simp; intro e; exact hlen (by rw [e]))
    clear hlen
    go_enter Try.func26, Try.ntmps26
    go_wp2
    go_ret
    exact ⟨by rw [HF.out]; rfl, Below.refl _ _⟩
  have e0 : ((l.length : Int) != (r.length : Int)) = false := by simp; omega
  have HL := Lib.hid hlen
  obtain ⟨R, hR⟩ : ∃ R, R = decide (l = r) := ⟨_, rfl⟩
  rw [← hR]
  have HR := Lib.hid hR
  clear hlen hR
  go_enter Try.func26, Try.ntmps26
  go_wp2
  go_loopw [5] (fun i wr => ∃ j : Nat, i = .int .i64 j ∧ j ≤ l.length ∧ Hid (Below w.heap.size w wr ∧ l.take j = r.take j)) (fun i _ => l.length - (intOf i).toNat)
  case atStart => exact ⟨0, rfl, Nat.zero_le _, Lib.hid ⟨Below.refl _ _, rfl⟩⟩
  case round =>
    obtain ⟨j, rfl, hj, HH⟩ := hrel
    by_cases hp : j < l.length
    · have hk1 : IntKind.i64.wrap ((j : Int) + 1) = ((j + 1 : Nat) : Int) := by rw [IntKind.wrap_i64]; omega
      have hdl : decide ((j : Int) < (l.length : Int)) = true := by simp; omega
      have hp' : j < r.length := by rw [← HL.out]; exact hp
      have hi1 : (j : Int) < (l.length : Int) := by omega
      have hi2 : (j : Int) < (r.length : Int) := by omega
      obtain ⟨b, o, rfl, hlt, hg⟩ := HS.out (by intro e; rw [e] at hp; simp at hp)
      obtain ⟨b', o', rfl, hlt', hg'⟩ := HS'.out (by intro e; rw [e] at hp'; simp at hp')
      have HX := Lib.hid (fun (u : World) (hu : Below w.heap.size w u) => (hu.cell (p := ⟨b, o + j, none⟩) hlt).trans (hg j hp))
      have HY := Lib.hid (fun (u : World) (hu : Below w.heap.size w u) => (hu.cell (p := ⟨b', o' + j, none⟩) hlt').trans (hg' j hp'))
      have ht1 := List.take_succ_eq_append_getElem hp
      have ht2 := List.take_succ_eq_append_getElem hp'
      have hne : l[j] ≠ r[j] → l ≠ r := fun h e => h (by subst e; rfl)
      clear hg hg'
      generalize l[j] = x at *
      generalize r[j] = y at *
      have HT := Lib.hid (And.intro ht1 (And.intro ht2 hne))
      clear ht1 ht2 hne hp'
      by_cases hxy : x = y
      · have e1 : (x != y) = false := by simp [hxy]
        have HN := Lib.hid (show l.take (j + 1) = r.take (j + 1) by rw [HT.out.1, HT.out.2.1, HH.out.2, hxy])
        clear hxy
        go_wp2_with fail
        refine wp_region_reads 26 (fun u => Hid (Below w.heap.size w u)) (by kernel_rfl) (by kernel_rfl) rfl (Lib.hid HH.out.1.drew) (fun u u' h hb => Lib.hid (h.out.trans (hb.mono h.out.size))) ?_
        repeat
          refine freeW_step fun K hK => ?_
          (first
            | skip)
          go_simp
          apply Exists.intro
          refine ⟨fun u h1 => ?_, hK _ ?_⟩
          · have y0 := HX.out u h1.out
            have y1 := HY.out u h1.out
            unfold freeAt
            go_simp
            first
              | exact free_val
              | (apply free_call
                 first
                   | fail
                 )
          clear hK K
        refine freeW_nil ?_
        intro u hC hb2
        have HC := Lib.hid hC.out
        clear hC hb2
        go_wp2
        exact ⟨⟨j + 1, rfl, hp, Lib.hid ⟨HC.out, HN.out⟩⟩, by simp [intOf]; omega⟩
      · have e1 : (x != y) = true := by simp [hxy]
        have HN := Lib.hid (show R = false by rw [HR.out]; simp; exact HT.out.2.2 hxy)
        clear hxy
        go_wp2_with fail
        refine wp_region_reads 26 (fun u => Hid (Below w.heap.size w u)) (by kernel_rfl) (by kernel_rfl) rfl (Lib.hid HH.out.1.drew) (fun u u' h hb => Lib.hid (h.out.trans (hb.mono h.out.size))) ?_
        repeat
          refine freeW_step fun K hK => ?_
          (first
            | skip)
          go_simp
          apply Exists.intro
          refine ⟨fun u h1 => ?_, hK _ ?_⟩
          · have y0 := HX.out u h1.out
            have y1 := HY.out u h1.out
            unfold freeAt
            go_simp
            first
              | exact free_val
              | (apply free_call
                 first
                   | fail
                 )
          clear hK K
        refine freeW_nil ?_
        intro u hC hb2
        have HC := Lib.hid hC.out
        clear hC hb2
        go_wp2
        go_ret
        exact ⟨by rw [HN.out]; rfl, HC.out⟩
    · have hdl : decide ((j : Int) < (l.length : Int)) = false := by simp; omega
      have HN := Lib.hid (show R = true by
        have := HH.out.2
        rw [List.take_of_length_le (by omega), List.take_of_length_le (by rw [← HL.out]; omega)] at this
        rw [HR.out, this]; simp)
      go_wp2
      go_ret
      exact ⟨by rw [HN.out]; rfl, HH.out.1⟩

/-- the numbers of the marks -/
def listB (bs : List Bool) : List Int := ((List.range bs.length).filter fun i => bs.getD i false).map fun (i : Nat) => (i : Int)
def listTo (bs : List Bool) (j : Nat) : List Int := ((List.range j).filter fun i => bs.getD i false).map fun (i : Nat) => (i : Int)
theorem listTo_succ (bs : List Bool) (j : Nat) : listTo bs (j + 1) = if bs.getD j false then listTo bs j ++ [(j : Int)] else listTo bs j := by
  unfold listTo
  rw [List.range_succ, List.filter_append, List.map_append]
  by_cases e : bs.getD j false = true
  · rw [if_pos e]; simp only [List.filter_cons, List.filter_nil, e, if_true, List.map_cons, List.map_nil]
  · rw [if_neg e]; simp only [List.filter_cons, List.filter_nil, e]; simp
theorem listTo_len (bs : List Bool) (j : Nat) : (listTo bs j).length ≤ j := by
  unfold listTo
  rw [List.length_map]
  refine Nat.le_trans (List.length_filter_le _ _) ?_
  rw [List.length_range]; exact Nat.le_refl _

set_option maxRecDepth 20000 in
set_option maxHeartbeats 2000000 in
theorem list_any (bs : List Bool) (v : Value) (w : World) (h : BoolsV w bs v) (hn : bs.length ≤ 1073741824) :
    Calls Try.prog 44 #[v] w fun e w' => ∃ v', e = .returned v' ∧ RowI w.heap.size w' v' (listB bs) ∧ Below w.heap.size w w' := by
  obtain ⟨A, c, rfl, hc, hs⟩ := h
  have HS := Lib.hid hs
  clear hs
  go_enter Try.func44, Try.ntmps44
  go_wp2
  go_loopw [3, 4] (fun s i wr => ∃ (j : Nat), i = .int .i64 j ∧ j ≤ bs.length ∧ Hid (RowI w.heap.size wr s (listTo bs j) ∧ Below w.heap.size w wr)) (fun _ i _ => bs.length - (intOf i).toNat)
  case atStart => exact ⟨0, rfl, Nat.zero_le _, Lib.hid ⟨RowI.nil _ _, Below.refl _ _⟩⟩
  case round =>
    obtain ⟨j, rfl, hj, HH⟩ := hrel
    by_cases hp : j < bs.length
    · have hk1 : IntKind.i64.wrap ((j : Int) + 1) = ((j + 1 : Nat) : Int) := by rw [IntKind.wrap_i64]; omega
      have hdl : decide ((j : Int) < (bs.length : Int)) = true := by simp; omega
      obtain ⟨b, o, rfl, hlt, hg⟩ := HS.out (by intro e; rw [e] at hp; simp at hp)
      have hcell := (HH.out.2.cell (p := ⟨b, o + j, none⟩) hlt).trans (hg j hp)
      have hl := listTo_succ bs j
      have hln := listTo_len bs j
      have eg : bs.getD j false = bs[j] := by simp [hp]
      rw [eg] at hl
      clear hg hlt eg
      generalize bs[j] = x at *
      have HL := Lib.hid hl
      clear hl
      cases x with
      | true =>
        obtain ⟨v', W', hrun, hri, hbw⟩ := HH.out.1.push HH.out.2.size (j : Int) (by omega)
        have HU := Lib.hid (And.intro hri (HH.out.2.trans hbw))
        clear hri hbw hln
        go_wp2_with (refine wpList_app8 rfl _ _ 26 26 rfl rfl rfl hrun ?_)
        exact ⟨⟨j + 1, rfl, hp, Lib.hid ⟨by rw [HL.out]; exact HU.out.1, HU.out.2⟩⟩, by simp [intOf]; omega⟩
      | false =>
        go_wp2
        exact ⟨⟨j + 1, rfl, hp, Lib.hid ⟨by rw [HL.out]; exact HH.out.1, HH.out.2⟩⟩, by simp [intOf]; omega⟩
    · have hdl : decide ((j : Int) < (bs.length : Int)) = false := by simp; omega
      obtain rfl : j = bs.length := by omega
      go_wp2
      go_ret
      exact ⟨_, rfl, HH.out.1, HH.out.2⟩
end Go.Proofs.Ytojejnjjenmfaaa

