/-
  WHAT THE WALKER OF PACKAGE rx TELLS: each node of a tree, ahead of its Subs, from the left: the iterator's contract, for every loop body that keeps the iterator's rows. Condition: the tree is at most 2^40 deep.
-/
import Derived.RangeFuncNested
import Derived.RangeFuncBound
import Derived.RangeFuncCalls
import Derived.RangeFuncLeaves
import Derived.Shelf.Abstract
import Derived.Shelf.RegionOpen
import Derived.WalkKit
import Derived.OwnWalkIn
import Derived.TacticsInMore
import Derived.LoopNIn
import Derived.LoopIn
import Derived.RangeFuncBox
import Derived.Maps.AppendAt
import Derived.Test.YtngagijcdehjpaaRef4
import Derived.Test.YtngagijcdehjpaaRange
namespace Go.Proofs.Ytngagijcdehjpaa
open Go.RowKit

/-- the least number of which something is so -/
theorem least_is {p : Nat → Prop} (h : ∃ n, p n) : ∃ n, p n ∧ ∀ k, p k → n ≤ k := by
  obtain ⟨n, hn⟩ := h
  induction n using Nat.strongRecOn with
  | _ n ih =>
    by_cases hk : ∃ k, p k ∧ k < n
    · obtain ⟨k, h1, h2⟩ := hk
      exact ih k h2 h1
    · refine ⟨n, hn, fun k h1 => ?_⟩
      rcases Nat.lt_or_ge k n with h2 | h2
      · exact absurd ⟨k, h1, h2⟩ hk
      · exact h2
open Classical in
noncomputable def least (p : Nat → Prop) : Nat := if h : ∃ n, p n then (least_is h).choose else 0
theorem least_spec {p : Nat → Prop} (h : ∃ n, p n) : p (least p) := by
  unfold least
  rw [dif_pos h]
  exact (least_is h).choose_spec.1
theorem least_le {p : Nat → Prop} {n : Nat} (h : p n) : least p ≤ n := by
  unfold least
  rw [dif_pos ⟨n, h⟩]
  exact (least_is ⟨n, h⟩).choose_spec.2 n h

/-- trees that are still ahead, and where they lie -/
abbrev Row := List Tree × Nat × Nat
def RowV (r : Row) (v : Value) : Prop := ∃ A c, v = .slice A r.1.length c ∧ r.1.length ≤ c ∧ c ≤ 9223372036854775807 ∧ (r.1 ≠ [] → A = some ⟨r.2.1, r.2.2, none⟩)
def RowsV : List Row → List Value → Prop
  | [], [] => True
  | r :: st, v :: vs => RowV r v ∧ RowsV st vs
  | _, _ => False
theorem RowsV.len : ∀ {st : List Row} {vs : List Value}, RowsV st vs → vs.length = st.length
  | [], [], _ => rfl
  | _ :: _, _ :: _, h => by simp [RowsV.len h.2]
  | [], _ :: _, h => h.elim
  | _ :: _, [], h => h.elim

mutual
def Tree.deepN : Tree → Nat
  | .node _ _ l _ _ => deepL l + 1
def deepL : List Tree → Nat
  | [] => 0
  | t :: r => max t.deepN (deepL r)
end
/-- no row's trees reach deeper than D -/
def fitS (D : Nat) : List Row → Prop
  | [] => True
  | r :: st => st.length ≤ D ∧ st.length + deepL r.1 ≤ D ∧ fitS D st
def leftS : List Row → Nat
  | [] => 0
  | r :: st => nodesL r.1 + nodesL r.1 + 1 + leftS st
theorem left_push (t : Tree) (l : List Tree) (b o b' o' o2 : Nat) (st : List Row) : leftS ((t.sub, b', o') :: (l, b, o2) :: st) < leftS ((t :: l, b, o) :: st) := by
  cases t with
  | node k m s lo hi =>
    simp only [leftS, nodesL, Tree.nodes, Tree.sub]
    omega
theorem fit_push {D : Nat} {t : Tree} {l : List Tree} {b o b' o' o2 : Nat} {st : List Row} (h : fitS D ((t :: l, b, o) :: st)) : fitS D ((t.sub, b', o') :: (l, b, o2) :: st) := by
  cases t with
  | node k m s lo hi =>
    simp only [fitS, deepL, Tree.deepN, Tree.sub, List.length_cons] at h ⊢
    obtain ⟨h1, h2, h3⟩ := h
    exact ⟨by omega, by omega, by omega, by omega, h3⟩

/-- THE ITERATOR's OWN STEP: new blocks, and blocks of its rows, from B on -/
structure Mine (B : Nat) (W W' : World) : Prop where
  os : W'.os = W.os
  tape : W'.tape = W.tape
  output : W'.output = W.output
  size : W.heap.size ≤ W'.heap.size
  same : ∀ (k : Nat) (o : Obj), W.heap[k]? = some o → (k < B ∨ ∀ cs f, o ≠ .cells cs 29 f) → W'.heap[k]? = some o
theorem Mine.others {B : Nat} {W W' : World} (h : Mine B W W') : KeepsOthers W W' := ⟨h.size, fun k o hk ho => h.same k o hk (.inr fun cs f e => by subst e; cases ho)⟩
theorem Mine.of_grown {B : Nat} {W W' : World} {row : Option Nat} (hg : W.grownBy W' row) (hr : ∀ r, row = some r → B ≤ r ∧ ∃ cs f, W.heap[r]? = some (.cells cs 29 f)) : Mine B W W' :=
  ⟨hg.os, hg.tape, hg.output, hg.size, fun k o hk ho => (hg.block k (Array.getElem?_eq_some_iff.1 hk).1 (fun e => by
    obtain ⟨h1, cs, f, h2⟩ := hr k e.symm
    rw [hk] at h2
    cases h2
    rcases ho with h | h
    · omega
    · exact h cs f rfl)).trans hk⟩
theorem Mine.trans {B : Nat} {W W' W'' : World} (h : Mine B W W') (k : Mine B W' W'') : Mine B W W'' :=
  ⟨k.os.trans h.os, k.tape.trans h.tape, k.output.trans h.output, Nat.le_trans h.size k.size, fun i o hi ho => k.same i o (h.same i o hi ho) ho⟩
theorem Mine.alloc (B : Nat) (W : World) (o : Obj) : Mine B W (W.alloc o) := .of_grown (World.grownBy_alloc W o none) (by simp)
theorem own_row {W : World} {B : Nat} {v : Value} {n : Nat} {xs : List Value} (h : W.ownsRow B 29 1 v n xs) : ∀ r, v.ownBlock = some r → B ≤ r ∧ ∃ cs f, W.heap[r]? = some (.cells cs 29 f) := fun r e => by
  rcases h.2 with ⟨rfl, _⟩ | ⟨g, cap, cur, rfl, hb, hg, _⟩
  · simp [Value.ownBlock] at e
  · obtain rfl : g = r := by simpa [Value.ownBlock] using e
    exact ⟨hb, _, _, hg⟩

/-- what a body keeps: the rows of the iterator -/
def KeepsRows (W W' : World) : Prop := W.heap.size ≤ W'.heap.size ∧ ∀ (k : Nat) (cs : Array Value), W.heap[k]? = some (.cells cs 29 (0, 0)) → W'.heap[k]? = some (.cells cs 29 (0, 0))
theorem KeepsRows.trans {A B C : World} (h : KeepsRows A B) (k : KeepsRows B C) : KeepsRows A C := ⟨Nat.le_trans h.1 k.1, fun i cs hi => k.2 i cs (h.2 i cs hi)⟩
theorem KeepsRows.put (W : World) (l : Nat) (o o' : Obj) (hl : W.heap[l]? = some o) (ho : o.isCells = false) : KeepsRows W (W.putObj l o') :=
  ⟨by simp, fun k cs hk => (World.putObj_heap_other (fun e => by subst e; rw [hk] at hl; cases hl; cases ho)).trans hk⟩
theorem KeepsRows.own {W W' : World} (h : KeepsRows W W') {B : Nat} {v : Value} {n : Nat} {xs : List Value} (hr : W.ownsRow B 29 1 v n xs) : W'.ownsRow B 29 1 v n xs := by
  rcases hr with ⟨h1, h2 | ⟨g, cap, cur, rfl, hb, hg, h3⟩⟩
  · exact ⟨h1, .inl h2⟩
  · exact ⟨h1, .inr ⟨g, cap, cur, rfl, hb, h.2 g cur hg, h3⟩⟩

theorem own_pop {W : World} {B g n c : Nat} {xs : List Value} {x : Value} (h : W.ownsRow B 29 1 (.slice (some ⟨g, 0, none⟩) (n + 1) c) (n + 1) (xs ++ [x])) : W.ownsRow B 29 1 (.slice (some ⟨g, 0, none⟩) n c) n xs := by
  obtain ⟨h1, h2⟩ := h
  have hx : xs.length = n := by simp at h1; omega
  refine ⟨by omega, ?_⟩
  rcases h2 with ⟨h, _⟩ | ⟨g', c', cur, hv, hb, hg, hn, hm, hc, ht⟩
  · simp at h
  · injection hv with e1 e2 e3
    injection e1 with e1
    injection e1 with e1
    subst e1 e3
    refine .inr ⟨g, c, cur, rfl, hb, hg, by omega, hm, hc, ?_⟩
    have := congrArg (List.take n) ht
    rw [List.take_take, Nat.mul_one, Nat.min_eq_left (by omega), ← hx, List.take_left] at this
    rw [Nat.mul_one, ← hx]
    exact this

/-- behind a round: the node's Subs lie where its field says -/
def Told (J : List Row → World → Prop) (t : Tree) (l : List Tree) (b o : Nat) (st : List Row) (W : World) : Prop :=
  ∃ A c b' o', W.cell? ⟨b, o + 5, none⟩ = some (.slice A t.sub.length c) ∧ t.sub.length ≤ c ∧ c ≤ 9223372036854775807 ∧ (t.sub ≠ [] → A = some ⟨b', o', none⟩) ∧ J ((t.sub, b', o') :: (l, b, o + 8) :: st) W

attribute [local go_sem] Oper.semAt_some

theorem info_rows : (Try.prog.info? 29).map (fun i => (i.zero, i.size, i.bytes)) = some (some (.slice none 0 0), 1, 24) := by kernel_rfl

/-- the rows that are ahead, in memory -/
def NInv (B D : Nat) (J : List Row → World → Prop) (G : World → Prop) (v : Value) (wr : World) (m : Nat) : Prop :=
  ∃ g cp st vs, v = .slice (some ⟨g, 0, none⟩) st.length cp ∧ leftS st = m ∧ RowsV st vs ∧ fitS D st ∧ wr.ownsRow B 29 1 v st.length vs.reverse ∧ J st wr ∧ G wr ∧ st.length ≤ cp ∧ cp ≤ maxLen ∧ B ≤ wr.heap.size

set_option maxRecDepth 100000 in
set_option maxHeartbeats 2000000 in
theorem nodes_in (n : Nat) (hn : 1 ≤ n) (l D : Nat) (hD : D ≤ 1099511627776) (J : List Row → World → Prop) (G X : World → Prop) (W : World)
    (hJ : ∀ st A B, J st A → Mine W.heap.size A B → J st B) (hG : ∀ A B, G A → KeepsOthers A B → G B) (hpop : ∀ b o st A, J (([], b, o) :: st) A → J st A)
    (hY : ∀ t s b o st A, J ((t :: s, b, o) :: st) A → G A → st.length ≤ 1099511627776 → YieldAt Fence.wide (n - 1) Try.prog l #[.pointer (some ⟨b, o, none⟩), .int .i64 ((st.length : Int) + 1)] A fun e B =>
      (e = .returned (.bool true) ∧ Told J t s b o st B ∧ KeepsRows A B ∧ G B) ∨ (e = .returned (.bool false) ∧ X B))
    (ts : List Tree) (b o : Nat) (v : Value) (hv : RowV (ts, b, o) v) (hd : deepL ts ≤ D) (h0 : J [(ts, b, o)] W) (g0 : G W) :
    CallsIn Fence.wide n Try.prog 37 #[v, .func (.yield l) #[] #[]] W fun e W' => (∃ v, e = .returned v) ∧ ((J [] W' ∧ G W') ∨ X W') := by
  obtain ⟨i0, hi, hz0, hz1, hz2⟩ := info_parts info_rows
  have HY := Lib.hid hY
  have HJ := Lib.hid hJ
  have HG := Lib.hid hG
  have HP := Lib.hid hpop
  have H0 := Lib.hid (And.intro h0 g0)
  have HI0 := Lib.hid hi
  obtain ⟨A, c, rfl, hc1, hc2, hA⟩ := hv
  have HV := Lib.hid (show RowV (ts, b, o) (.slice A ts.length c) from ⟨A, c, rfl, hc1, hc2, hA⟩)
  clear hY hJ hG hpop h0 g0 hA
  refine callsIn_of_wp Try.func37 rfl trivial ?_ rfl
  simp only [Try.ntmps37, List.size_toArray, List.length_cons, List.length_nil, Nat.reduceAdd, Nat.reduceSub, Array.replicate_succ, Array.replicate_zero, List.push_toArray, List.append_toArray, List.nil_append, List.cons_append]
  gi_wp2
  gi_loopw [4] (fun v wr => ∃ m, NInv W.heap.size D J G v wr m) (fun v wr => least (NInv W.heap.size D J G v wr))
  case atStart =>
    refine ⟨_, W.heap.size, 1, [(ts, b, o)], [.slice A ts.length c], rfl, rfl, ⟨HV.out, trivial⟩, ⟨Nat.zero_le _, by simpa using hd, trivial⟩, ?_, HJ.out _ _ _ H0.out.1 (Mine.alloc _ _ _), HG.out _ _ H0.out.2 (KeepsOthers.alloc _ _), Nat.le_refl _, by unfold maxLen; omega, by simp⟩
    exact World.ownsRow_lit W #[.slice A ts.length c] 1 (Nat.le_refl _) (by unfold maxLen; omega) rfl
  case round =>
    obtain ⟨g, cp, st, vs, rfl, hm, hrows, hfit, hown, hj, hg, hcp1, hcp2, hsz⟩ := least_spec hrel
    have HM := Lib.hid hm
    clear hm hrel
    cases st with
    | nil =>
      clear hrows hown
      gi_wp2
      go_end0
      exact ⟨⟨_, rfl⟩, .inl ⟨hj, hg⟩⟩
    | cons r st =>
      cases vs with
      | nil => exact hrows.elim
      | cons x vs =>
        obtain ⟨s, b, o⟩ := r
        obtain ⟨⟨A, c, rfl, hsc, hcm, hA⟩, hrs⟩ := hrows
        have hvl := hrs.len
        have hk40 : st.length ≤ 1099511627776 := Nat.le_trans hfit.1 hD
        simp only [List.length_cons, List.reverse_cons] at *
        have hcell := hown.cellAt st.length (by omega)
        rw [List.getElem?_append_right (by simp; omega), List.length_reverse, hvl, Nat.sub_self] at hcell
        simp only [List.getElem?_cons_zero] at hcell
        have hfr := hown.frozenAt st.length
        have d1 : decide (((st.length + 1 : Nat) : Int) > 0) = true := decide_eq_true (by omega)
        have w1 : IntKind.i64.wrap (((st.length + 1 : Nat) : Int) - 1) = ((st.length : Nat) : Int) := by rw [IntKind.wrap_i64]; omega
        have w2 : (((st.length : Nat) : Int)).toNat = st.length := by omega
        have hlt : st.length < st.length + 1 := by omega
        have hlt2 : st.length ≤ cp := by omega
        have HR := Lib.hid (And.intro hrs (And.intro hfit hown))
        have HK := Lib.hid (And.intro hj hg)
        have HA := Lib.hid hA
        clear hrs hfit hown hj hg hA
        generalize hk : st.length = k at *
        cases s with
        | nil =>
          simp only [List.length_nil] at *
          gi_wp2
          have hlt : leftS st < least (NInv W.heap.size D J G (.slice (some ⟨g, 0, none⟩) (k + 1) cp) wr) := by
            rw [← HM.out]; simp only [leftS]; omega
          have hinv : NInv W.heap.size D J G (.slice (some ⟨g, 0, none⟩) k cp) wr (leftS st) :=
            ⟨g, cp, st, vs, by rw [hk], rfl, HR.out.1, HR.out.2.1.2.2, by rw [hk]; exact own_pop HR.out.2.2, HP.out _ _ _ _ HK.out.1, HK.out.2, by omega, hcp2, hsz⟩
          exact ⟨⟨_, hinv⟩, Nat.lt_of_le_of_lt (least_le hinv) hlt⟩
        | cons t s =>
          obtain rfl := HA.out (by simp)
          have d2 : (((s.length + 1 : Nat) : Int) == 0) = false := by simp; omega
          have hmine : ∀ x, Mine W.heap.size wr (wr.setCell ⟨g, k, none⟩ x) := fun x => Mine.of_grown (HR.out.2.2.stored k x).2 (own_row HR.out.2.2)
          have hset : ∀ x, ((vs.reverse ++ [Value.slice (some ⟨b, o, none⟩) (s.length + 1) c]).set k x) = vs.reverse ++ [x] := fun x => by
            rw [List.set_append_right _ _ (by simp; omega)]
            simp [hvl]
          have step : ∀ x, RowV (s, b, o + 8) x → ∃ fn tmps assign body, (Instr.yield l #[.pointer (some ⟨b, o, none⟩), .int .i64 ((k : Int) + 1)]).run Try.prog (wr.setCell ⟨g, k, none⟩ x) = .ok (.round l fn tmps assign body) (wr.setCell ⟨g, k, none⟩ x) ∧
              RoundIn Fence.wide (n - 1) Try.prog l fn tmps assign body (wr.setCell ⟨g, k, none⟩ x) fun e B => (e = .returned (.bool true) ∧ Told J t s b o st B ∧ (∀ m, m = wr.setCell ⟨g, k, none⟩ x → KeepsRows m B) ∧ G B) ∨ (e = .returned (.bool false) ∧ X B) := fun x hx => by
            have := HY.out t s b o st _ (HJ.out _ _ _ HK.out.1 (hmine x)) (HG.out _ _ HK.out.2 (hmine x).others) (by omega)
            rw [hk] at this
            obtain ⟨fn, tmps, assign, body, h1, h2⟩ := this
            exact ⟨fn, tmps, assign, body, h1, h2.mono fun e B h => h.imp (fun h => ⟨h.1, h.2.1, fun m e => e ▸ h.2.2.1, h.2.2.2⟩) id⟩
          have hstep := Lib.hid step
          simp only [List.length_cons] at *
          clear step
          obtain ⟨x', hx', hrow⟩ : ∃ x', RowV (s, b, o + 8) x' ∧ ((c = 1 ∧ x' = .slice (some ⟨b, o, none⟩) s.length 0) ∨ (c ≠ 1 ∧ x' = .slice (some ⟨b, o + 8, none⟩) s.length (c - 1))) := by
            by_cases hcc : c = 1
            · exact ⟨_, ⟨_, _, rfl, (by show s.length ≤ 0; omega), by omega, fun h => absurd (List.eq_nil_of_length_eq_zero (l := s) (by omega)) h⟩, .inl ⟨hcc, rfl⟩⟩
            · exact ⟨_, ⟨_, _, rfl, (by show s.length ≤ c - 1; omega), by omega, fun _ => rfl⟩, .inr ⟨hcc, rfl⟩⟩
          obtain ⟨fn, tmps, assign, body, hy2, hR⟩ := hstep.out x' hx'
          have hown2 := (HR.out.2.2.stored k x').1
          rw [hset x'] at hown2
          have HX := Lib.hid (And.intro hx' hown2)
          have HRR := Lib.hid hR
          clear hx' hown2 hR hmine hset hstep
          rcases hrow with ⟨hcc, rfl⟩ | ⟨hcc, rfl⟩
          all_goals
            gi_wp2
            refine HRR.out.mono ?_
            rintro e W3 (⟨rfl, ⟨A', c', b', o', hsub, hs1, hs2, hs3, hj3⟩, hkeep, hg3⟩ | ⟨rfl, hx3⟩)
            · have hkp := hkeep _ rfl
              have hown3 := hkp.own HX.out.2
              have hsz3 : W.heap.size ≤ W3.heap.size := Nat.le_trans (by simpa using hsz) hkp.1
              have hmt := own_row (hown3.alloc (.cells #[.slice A' t.sub.length c'] 29))
              have H3 := Lib.hid (And.intro hj3 (And.intro hg3 (And.intro hs3 hown3)))
              have HMT := Lib.hid hmt
              clear hkeep hkp hj3 hg3 hs3 hmt hown3 hy2 hcell
              gi_wp2_with (gi_at_builtin; refine wpListIn_append_own _ rfl _ _ 65 rfl W.heap.size 29 i0 (.slice none 0 0) 1 24 Try.underlying65 hi hz0 hz1 hz2 rfl (by decide) _ _ _ rfl (H3.out.2.2.2.alloc _) ⟨W3.heap.size, 0, none⟩ 1 1 [.slice A' t.sub.length c'] rfl rfl (cell_one_new _ _ _) (by simp [Value.oneCell']) (by unfold maxLen; omega) (by omega) (by simp; omega) ?_; intro v' w4 hown' hgrow _; obtain ⟨g', cap', rfl⟩ := ownsRow_succ hown')
              have hm4 : Mine W.heap.size W3 w4 := (Mine.alloc _ _ _).trans (Mine.of_grown hgrow HMT.out)
              have hcp : k + 1 + 1 ≤ cap' ∧ cap' ≤ maxLen := by
                rcases hown'.2 with ⟨h, _⟩ | ⟨_, _, _, h, _, _, h4, h5, _⟩
                · cases h
                · injection h with _ _ e
                  subst e
                  exact ⟨h4, h5⟩
              have hlt4 : leftS ((t.sub, b', o') :: (s, b, o + 8) :: st) < least (NInv W.heap.size D J G (.slice (some ⟨g, 0, none⟩) (k + 1) cp) wr) := by
                rw [← HM.out]
                exact left_push t s b o b' o' (o + 8) st
              have hinv : NInv W.heap.size D J G (.slice (some ⟨g', 0, none⟩) (k + 1 + 1) cap') w4 (leftS ((t.sub, b', o') :: (s, b, o + 8) :: st)) := by
                refine ⟨g', cap', (t.sub, b', o') :: (s, b, o + 8) :: st, _ :: _ :: vs, by simp [hk], rfl, ⟨⟨A', c', rfl, hs1, hs2, H3.out.2.2.1⟩, HX.out.1, HR.out.1⟩, fit_push HR.out.2.1, ?_, HJ.out _ _ _ H3.out.1 hm4, HG.out _ _ H3.out.2.1 hm4.others, by simp [hk]; omega, hcp.2, Nat.le_trans hsz3 hm4.size⟩
                simp only [List.reverse_cons, List.length_cons, hk]
                exact hown'
              exact ⟨⟨_, hinv⟩, Nat.lt_of_le_of_lt (least_le hinv) hlt4⟩
            · gi_wp2
              refine bodyPost_ret (results_none rfl _ _ _) rfl ?_
              exact ⟨⟨_, rfl⟩, .inr hx3⟩

end Go.Proofs.Ytngagijcdehjpaa

