/-
  WHAT Sets OF PACKAGE rx ANSWERS: a contract. Condition: the tree has at most 2^40 nodes.
-/
import Derived.Test.YtdnbfpgcmamdbaaSets5
import Derived.Test.YtdnbfpgcmamdbaaMayt
import Derived.RangeFuncBox
namespace Go.Proofs.Ytdnbfpgcmamdbaa
open Go.RowKit

def setsS : List Row → List (Nat → Bool)
  | [] => []
  | r :: st => setsL r.1 ++ setsS st
theorem setsS_push (t : Tree) (s : List Tree) (b o b' o' o2 : Nat) (st : List Row) (h : okS ((t :: s, b, o) :: st) = true) :
    setsS ((t :: s, b, o) :: st) = (if t.kind = 1 then [t.set] else []) ++ setsS ((t.sub, b', o') :: (s, b, o2) :: st) := by
  rw [okS_push t s b o b' o' o2 st, Bool.and_eq_true] at h
  have hk := okNode_kind h.1
  cases t with
  | node k m l lo hi =>
    simp only [Tree.kind, Tree.set, Tree.sub] at *
    simp only [setsS, setsL]
    by_cases hk1 : k = 1
    · subst hk1
      have hl : l.length = 0 := by omega
      obtain rfl := List.eq_nil_of_length_eq_zero hl
      have hT : Tree.sets (.node 1 m [] lo hi) = [m] := by unfold Tree.sets; rw [if_pos rfl]
      rw [hT]
      simp [setsL]
    · have hT : Tree.sets (.node k m l lo hi) = setsL l := by unfold Tree.sets; rw [if_neg hk1]
      rw [hT]
      simp [hk1]
theorem okS_next (t : Tree) (s : List Tree) (b o b' o' o2 : Nat) (st : List Row) (h : okS ((t :: s, b, o) :: st) = true) : okS ((t.sub, b', o') :: (s, b, o2) :: st) = true := by
  rw [okS_push t s b o b' o' o2 st, Bool.and_eq_true] at h
  exact h.2

/-- the gathered sets and those ahead are all -/
def SetsJ (w : World) (B : Nat) (ms : List (Nat → Bool)) (st : List Row) (W : World) : Prop :=
  RowsIn w st W ∧ okS st = true ∧ ∃ xs v, Boxed W B 32 v ∧ OwnSets (B + 1) v xs W ∧ xs ++ setsS st = ms

theorem own_loose {base B : Nat} {v : Value} {xs : List (Nat → Bool)} {W W' : World} (h : OwnSets base v xs W) (hl : Loose B W W') : OwnSets base v xs W' := by
  refine ⟨?_, h.2⟩
  obtain ⟨h1, h2⟩ := h.1
  refine ⟨h1, ?_⟩
  rcases h2 with h2 | ⟨g, cap, cur, rfl, hb, hg, h3⟩
  · exact .inl h2
  · exact .inr ⟨g, cap, cur, rfl, hb, hl.same g cur _ _ hg (by decide), h3⟩
theorem own_far {base B : Nat} {v : Value} {xs : List (Nat → Bool)} {W : World} (h : OwnSets base v xs W) (hB : B < base) (i : Nat) (x : Value) : OwnSets base v xs (W.setCell ⟨B, i, none⟩ x) := by
  refine ⟨?_, h.2⟩
  obtain ⟨h1, h2⟩ := h.1
  refine ⟨h1, ?_⟩
  rcases h2 with h2 | ⟨g, cap, cur, rfl, hb, hg, h3⟩
  · exact .inl h2
  · exact .inr ⟨g, cap, cur, rfl, hb, (Below.heap_setCell W ⟨B, i, none⟩ x g (fun e => by dsimp only at e; omega)).trans hg, h3⟩
/-- an append to the call's own sets keeps the trees, the iterator's rows, and whatever is no cells -/
theorem own_keeps {w : World} {base : Nat} {v : Value} {xs : List (Nat → Bool)} {W W' : World} (h : OwnSets base v xs W) (hg : W.grownBy W' v.ownBlock) (hb : w.heap.size ≤ base) (hw : w.heap.size ≤ W.heap.size) : KeepsTrees w W W' ∧ KeepsRows W W' ∧ KeepsOthers W W' := by
  have hrow : ∀ g, v.ownBlock = some g → base ≤ g ∧ ∃ cs, W.heap[g]? = some (.cells cs 24 (0, 0)) := fun g e => by
    rcases h.1.2 with ⟨rfl, _⟩ | ⟨q, cap, cur, rfl, hb, hh, _⟩
    · simp [Value.ownBlock] at e
    · obtain rfl : q = g := by simpa [Value.ownBlock] using e
      exact ⟨hb, _, hh⟩
  have hkeep : ∀ k o, W.heap[k]? = some o → (∀ cs f, o ≠ Obj.cells cs 24 f) → W'.heap[k]? = some o := fun k o hk ho =>
    (hg.block k (Array.getElem?_eq_some_iff.1 hk).1 (fun e => by
      obtain ⟨_, cs, h2⟩ := hrow k e.symm
      rw [hk] at h2
      cases h2
      exact ho _ _ rfl)).trans hk
  refine ⟨⟨(Below.refl _ _).grown hg hw (fun k hk => Nat.le_trans hb (hrow k hk).1), fun k cs hk => hkeep k _ hk (fun _ _ e => by cases e)⟩, ⟨hg.size, fun k cs hk => hkeep k _ hk (fun _ _ e => by cases e)⟩, ⟨hg.size, fun k o hk ho => hkeep k o hk (fun _ _ e => by subst e; cases ho)⟩⟩

set_option maxRecDepth 20000 in
set_option maxHeartbeats 4000000 in
theorem sets_none (T : Tree) (v : Value) (w : World) (hat : T.At w v) (hn : T.nodes ≤ 1099511627776) (hm : T.mayN = false) : Calls Try.prog 19 #[v] w fun e w' => e = .returned (.slice none 0 0) ∧ Below w.heap.size w w' := by
  obtain ⟨A, n, c, rfl⟩ := hat.form
  have HM := Lib.hid (fun u (hu : Below w.heap.size w u) => may_any T _ u (hat.step hu) (Nat.le_trans (deep_nodes T) hn))
  rw [hm] at HM
  clear hat
  unfold reV reL at *
  go_enter Try.func19, Try.ntmps19
  go_wp2_with (first
    | (go_at_call 10
       go_must (refine (HM.out _ ((Below.refl _ _).alloc (Nat.le_refl _) _)).mono ?_)
       rintro e w3 ⟨rfl, hb3⟩
       have H3 := Lib.hid (((Below.refl w.heap.size w).alloc (Nat.le_refl _) (.cells (reL T.kind T.set A n c T.lo T.hi).toArray 27)).trans (hb3.mono (by simp)))
       clear hb3))
  go_ret
  exact ⟨rfl, H3.out⟩

section
variable {F : Fence} {nF : Nat} {P : Program} {op : Oper} {a : Act} {w : World} {K : Act → World → Prop} {Q : Exit → Act → World → Prop}
theorem operIn_append_run (s x : Operand) (t t2 : TypeId) (hop : op.op = Op.call { callee := Callee.builtin Builtin.append, args := #[s, x], argTypes := #[t, t2] }) {v xv v' : Value} {w' : World} (hs : a.eval s = v) (hx : a.eval x = xv)
    (hrun : (Builtin.append_ #[t, t2] op.type #[v, xv]).run P w = .ok v' w') (h : K (a.put op.dst v') w') : op.wpIn F nF P a w K Q := by
  unfold Oper.wpIn
  refine ⟨by simp [Oper.about, hop, resolve, Target.leads, Sem.run_pure], ?_⟩
  rw [Oper.semAt_plain F _ _ (by rw [hop]; intro c hc'; cases hc')]
  simp [execOp, hop, resolve, invoke, builtin, hs, hx, hrun, Result.andThen]
  exact h
end

attribute [local go_sem] Oper.semAt_some

set_option maxRecDepth 100000 in
set_option maxHeartbeats 8000000 in
theorem sets_some (T : Tree) (v : Value) (w : World) (hat : T.At w v) (hn : T.nodes ≤ 1099511627776) (hm : T.mayN = true) : Calls Try.prog 19 #[v] w fun e w' => ∃ x, e = .returned x ∧ SetsRow w' x T.sets ∧ Below w.heap.size w w' := by
  obtain ⟨A, n, c, rfl⟩ := hat.form
  have HM := Lib.hid (fun u (hu : Below w.heap.size w u) => may_any T _ u (hat.step hu) (Nat.le_trans (deep_nodes T) hn))
  rw [hm] at HM
  have hok : T.ok = true := by
    unfold Tree.mayN at hm
    rw [Bool.and_eq_true, Bool.and_eq_true] at hm
    exact hm.2.2
  have HAT := Lib.hid hat
  have hdeep := Nat.le_trans (deep_nodes T) hn
  have hsl := Nat.le_trans (sets_nodes T) hn
  have hbx := BlkIs.new w 27 (reL T.kind T.set A n c T.lo T.hi).toArray
  have HBX := Lib.hid hbx
  clear hat hbx
  unfold reV reL at *
  refine (callsIn_wide (n := 5)).1 ?_
  refine callsIn_of_wp_marks Try.func19 rfl trivial ?_ rfl
  simp only [Try.ntmps19, List.size_toArray, List.length_cons, List.length_nil, Nat.reduceAdd, Nat.reduceSub, Array.replicate_succ, Array.replicate_zero, List.push_toArray, List.append_toArray, List.nil_append, List.cons_append]
  refine wpIn_wide.2 ?_
  go_wp2_with (first
    | (go_at_call 10
       go_must (refine (HM.out _ ((Below.refl _ _).alloc (Nat.le_refl _) _)).mono ?_)
       rintro e w1 ⟨rfl, hb1⟩
       have h1 := HBX.out.step hb1
       obtain ⟨c0, c1, c2, c3, c4, c5, c6, c7⟩ := h1.eight
       have hlt := h1.lt
       have H1 := Lib.hid (((Below.refl w.heap.size w).alloc (Nat.le_refl _) (.cells (reL T.kind T.set A n c T.lo T.hi).toArray 27)).trans (hb1.mono (by simp)))
       clear hb1 h1))
  clear c0 c1 c2 c3 c4 c5 c6 c7
  obtain ⟨W2, hW2⟩ : ∃ W2, W2 = (w1.alloc (.cells #[.slice none 0 0] 32)).alloc (.cells (reL T.kind T.set A n c T.lo T.hi).toArray 27) := ⟨_, rfl⟩
  have hbox : Boxed W2 w1.heap.size 32 (.slice none 0 0) := by rw [hW2]; exact (Boxed.new w1 _ _).alloc _
  have hBW : Below w.heap.size w W2 := by rw [hW2]; exact (H1.out.alloc H1.out.size _).alloc (Nat.le_trans H1.out.size (by simp)) _
  have hrows : RowsIn w [([T], w1.heap.size + 1, 0)] W2 := by
    refine RowsIn.start (cs := reL T.kind T.set A n c T.lo T.hi) HAT.out rfl hBW ?_
    have := World.alloc_heap_new (w1.alloc (.cells #[.slice none 0 0] 32)) (.cells (reL T.kind T.set A n c T.lo T.hi).toArray 27)
    rw [World.size_alloc] at this
    rw [hW2]; exact this
  have hsz : W2.heap.size = w1.heap.size + 2 := by rw [hW2]; simp
  have hJ0 : SetsJ w w1.heap.size T.sets [([T], w1.heap.size + 1, 0)] W2 := ⟨hrows, by simp [okS, allOk, hok], [], _, hbox, OwnSets.nil _ _, by simp [setsS, setsL]⟩
  have HJ0 := Lib.hid hJ0
  unfold reL at hW2
  rw [← hW2]
  clear hJ0 hrows hbox hBW hW2
  refine (wpIn_wide (n := 5)).1 ?_
  refine range_nodes 5 (by omega) 1099511627776 (Nat.le_refl _) (.slice (some ⟨w1.heap.size + 1, 0, none⟩) 1 1) rfl (SetsJ w w1.heap.size T.sets) (fun _ _ => False) ?hJ (fun _ _ _ h _ => h.elim) ?pop
    [T] (w1.heap.size + 1) 0 ⟨_, _, rfl, Nat.le_refl _, by omega, fun _ => rfl⟩ (by simpa [deepL] using hdeep) HJ0.out
    (fun b o d => { tmps := #[.agg #[.int .i64 T.kind, .int .u64 (wd T.set 0 : Nat), .int .u64 (wd T.set 1 : Nat), .int .u64 (wd T.set 2 : Nat), .int .u64 (wd T.set 3 : Nat), .slice A n c, .int .i64 T.lo, .int .i64 T.hi], .pointer (some ⟨w.heap.size, 0, none⟩), .slice none 0 0, .pointer (some ⟨w1.heap.size, 0, none⟩), .slice (some ⟨w1.heap.size + 1, 0, none⟩) 1 1, .pointer (some ⟨b, o, none⟩), .agg #[.int .i64 T.kind, .int .u64 (wd T.set 0 : Nat), .int .u64 (wd T.set 1 : Nat), .int .u64 (wd T.set 2 : Nat), .int .u64 (wd T.set 3 : Nat), .slice A n c, .int .i64 T.lo, .int .i64 T.hi], .bool true, .bool false, .agg #[.int .i64 T.kind, .int .u64 (wd T.set 0 : Nat), .int .u64 (wd T.set 1 : Nat), .int .u64 (wd T.set 2 : Nat), .int .u64 (wd T.set 3 : Nat), .slice A n c, .int .i64 T.lo, .int .i64 T.hi],
      .slice (some ⟨w1.heap.size + 1, 0, none⟩) 1 1, .slice (some ⟨w1.heap.size + 1, 0, none⟩) 1 1, .func (.func 37) #[.slice (some ⟨w1.heap.size + 1, 0, none⟩) 1 1] #[], .pointer (some ⟨b, o, none⟩), .int .i64 ((d : Int) + 1), undef, undef, undef, undef, undef, undef, undef, undef, undef, undef, undef, undef, undef], defers := [] })
    ?assign ?body ?done ?stop
  case hJ =>
    rintro st X Y ⟨h1, h2, xs, v, h3, h4, h5⟩ hl
    exact ⟨h1.loose hl (by omega), h2, xs, v, hl.same _ _ _ _ h3 (by decide), own_loose h4 hl, h5⟩
  case pop =>
    rintro b o st X ⟨h1, h2, xs, v, h3, h4, h5⟩
    exact ⟨h1.pop, by simpa [okS, allOk] using h2, xs, v, h3, h4, by simpa [setsS, setsL] using h5⟩
  case assign =>
    intro l b o d W K hK
    gi_wp2
    exact hK
  case body =>
    rintro l' t s b o st W hsz' hlen ⟨h1, h2, xs, v, h3, h4, h5⟩
    obtain ⟨A1, cc, g1, g2, g3, g4, g5⟩ := h1.head
    obtain ⟨r0, r1, r2, r3, r4, r5, r6, r7⟩ := row_eight g4 (Below.refl _ _)
    have HH := Lib.hid (And.intro h1 (And.intro h2 (And.intro h3 (And.intro h4 h5))))
    have HP := Lib.hid (fun b' o' => setsS_push t s b o b' o' (o + 8) st h2)
    have HN := Lib.hid (fun b' o' => okS_next t s b o b' o' (o + 8) st h2)
    clear h1 h2 h3 h4 h5 g1 g2 g3 g4 g5
    by_cases hk : t.kind = 1
    · have e1 : (t.kind == 1) = true := by simp [hk]
      have hlen2 : xs.length + 1 ≤ 1099511627776 := by
        have h5 := congrArg List.length HH.out.2.2.2.2
        rw [HP.out 0 0, if_pos hk] at h5
        simp only [List.length_append, List.length_cons, List.length_nil] at h5
        omega
      have hsw : w1.heap.size + 1 ≤ W.heap.size := by omega
      have hUB : Below W.heap.size W (W.drew.alloc (.cells (setL t.set).toArray 24)) := ((Below.refl _ W).drew).alloc (Nat.le_refl _) _
      obtain ⟨v', W', hrun, hown, hgr⟩ := more_sets (HH.out.2.2.2.1.step hUB) (one_row W.drew t.set) (by simpa using hlen2) (Nat.le_trans hsw hUB.size)
      have hown' := hown.1
      rw [List.length_append, List.length_cons, List.length_nil] at hown'
      obtain ⟨g', cap', rfl⟩ := ownsRow_succ hown'
      have hbx : Boxed W w1.heap.size 32 v := HH.out.2.2.1
      have hbU : Boxed (W.drew.alloc (.cells (setL t.set).toArray 24)) w1.heap.size 32 v := Boxed.alloc (W := W.drew) hbx _
      have hbW : Boxed W' w1.heap.size 32 v := hbU.kept hgr (own_ne (HH.out.2.2.2.1.step hUB).1 (by omega))
      have b0 := hbx.cell
      have b1 := hbW.cell
      have b2 := hbW.frozen
      have b3 := (hbx.alloc (.cells (setL t.set).toArray 24)).cell
      have b4 := (hbx.alloc (.cells (setL t.set).toArray 24)).frozen
      have b5 := hbx.frozen
      have HRUN := Lib.hid hrun
      have hsz1 : w.heap.size ≤ w1.heap.size := by omega
      have KO := own_keeps (w := w) (HH.out.2.2.2.1.step hUB) hgr (by omega) (Nat.le_trans (by omega) hUB.size)
      have hbl : BlkIs W' w1.heap.size 32 #[v] := hbW
      have KS := keeps_set (w0 := w) hbl (by omega) (by decide) 0 (.slice (some ⟨g', 0, none⟩) (xs.length + 1) cap')
      have KR := keepsRows_set hbl (by decide) 0 (.slice (some ⟨g', 0, none⟩) (xs.length + 1) cap')
      have KT : KeepsTrees w W (W'.setCell ⟨w1.heap.size, 0, none⟩ (.slice (some ⟨g', 0, none⟩) (xs.length + 1) cap')) :=
        ⟨((hUB.mono (by omega)).trans KO.1.1).trans KS.1, fun k cs hk => KS.2 k cs (KO.1.2 k cs ((hUB.block k (Array.getElem?_eq_some_iff.1 hk).1).trans hk))⟩
      have END : nodeEnds (SetsJ w w1.heap.size T.sets) (fun _ _ => False) t s b o st W .normal ⟨#[], []⟩ (W'.setCell ⟨w1.heap.size, 0, none⟩ (.slice (some ⟨g', 0, none⟩) (xs.length + 1) cap')) := by
        refine ⟨((others_below hUB).trans KO.2.2).trans (KeepsOthers.setCell _ _ _), ((rows_below hUB).trans KO.2.1).trans KR, HH.out.1.told KT fun b' o' hr => ⟨hr, HN.out b' o', xs ++ [t.set], _, hbW.set _, own_far hown (by omega) 0 _, ?_⟩⟩
        have h5 := HH.out.2.2.2.2
        rw [HP.out b' o', if_pos hk] at h5
        simpa using h5
      have H9 := Lib.hid END
      clear END KT KR KS KO hbl hsz1 hrun hUB hown hgr hbx hbU hbW hown' hlen2
      unfold setL at HRUN b3 b4
      have hmix : Try.prog.follows .mixedOrders = true := by kernel_rfl
      gi_wp2
      refine wpIn_region_any hmix ?_
      change wpAnyIn _ _ _ _ _ _ _ _ _ (World.drew _)
      iterate 8
        all_goals (
          first
            | (refine wpAnyIn_ready (rs := [0, 1]) (by decide +kernel) (by simp) ?_; refine AllReadyIn.cons rfl (fun K hK => ?_) (AllReadyIn.cons rfl (fun K hK => ?_) AllReadyIn.nil))
            | (refine wpAnyIn_ready (rs := [0, 2]) (by decide +kernel) (by simp) ?_; refine AllReadyIn.cons rfl (fun K hK => ?_) (AllReadyIn.cons rfl (fun K hK => ?_) AllReadyIn.nil))
            | (refine wpAnyIn_ready (rs := [0, 3]) (by decide +kernel) (by simp) ?_; refine AllReadyIn.cons rfl (fun K hK => ?_) (AllReadyIn.cons rfl (fun K hK => ?_) AllReadyIn.nil))
            | (refine wpAnyIn_ready (rs := [0, 4]) (by decide +kernel) (by simp) ?_; refine AllReadyIn.cons rfl (fun K hK => ?_) (AllReadyIn.cons rfl (fun K hK => ?_) AllReadyIn.nil))
            | (refine wpAnyIn_ready (rs := [0, 5]) (by decide +kernel) (by simp) ?_; refine AllReadyIn.cons rfl (fun K hK => ?_) (AllReadyIn.cons rfl (fun K hK => ?_) AllReadyIn.nil))
            | (refine wpAnyIn_ready (rs := [1]) (by decide +kernel) (by simp) ?_; refine AllReadyIn.cons rfl (fun K hK => ?_) AllReadyIn.nil)
            | (refine wpAnyIn_ready (rs := [2]) (by decide +kernel) (by simp) ?_; refine AllReadyIn.cons rfl (fun K hK => ?_) AllReadyIn.nil)
            | (refine wpAnyIn_ready (rs := [3]) (by decide +kernel) (by simp) ?_; refine AllReadyIn.cons rfl (fun K hK => ?_) AllReadyIn.nil)
            | (refine wpAnyIn_ready (rs := [4]) (by decide +kernel) (by simp) ?_; refine AllReadyIn.cons rfl (fun K hK => ?_) AllReadyIn.nil)
            | (refine wpAnyIn_ready (rs := [5]) (by decide +kernel) (by simp) ?_; refine AllReadyIn.cons rfl (fun K hK => ?_) AllReadyIn.nil)
            | (refine wpAnyIn_ready (rs := [0]) (by decide +kernel) (by simp) ?_; refine AllReadyIn.cons rfl (fun K hK => ?_) AllReadyIn.nil)
            | (refine wpAnyIn_ready (rs := [6]) (by decide +kernel) (by simp) ?_; refine AllReadyIn.cons rfl (fun K hK => ?_) AllReadyIn.nil)
            | (refine wpAnyIn_ready (rs := [7]) (by decide +kernel) (by simp) ?_; refine AllReadyIn.cons rfl (fun K hK => ?_) AllReadyIn.nil)
          all_goals (
            first
              | (rw [if_pos (show Region.wanted _ _ = true from rfl)]; refine operIn_append_run _ _ 32 32 rfl rfl rfl HRUN.out ?_)
              | go_simp
            refine hK _ _ ?_
            clear hK K))
      all_goals (refine wpAnyIn_done ?_ ?_ _; decide +kernel; exact H9.out)
    · have e1 : (t.kind == 1) = false := by simp [hk]
      gi_wp2
      refine ⟨KeepsOthers.refl _, ⟨Nat.le_refl _, fun _ _ h => h⟩, HH.out.1.told ⟨Below.refl _ _, fun _ _ h => h⟩ fun b' o' hr => ⟨hr, HN.out b' o', xs, v, HH.out.2.2.1, HH.out.2.2.2.1, ?_⟩⟩
      have h5 := HH.out.2.2.2.2
      rw [HP.out b' o', if_neg hk] at h5
      simpa using h5
  case done =>
    rintro d W hd' ⟨h1, h2, xs, v, h3, h4, h5⟩ hk
    simp only [setsS, List.append_nil] at h5
    subst h5
    have c0 := h3.cell
    have c1 := h3.frozen
    have HR := Lib.hid (OwnSets.row (own_loose h4 (loose_put (B := w1.heap.size) (.deferred none) (by omega) hk rfl)))
    have HB := Lib.hid (h1.1.trans (belowK_b (w := w) (Nat.le_refl _) W d _ (.deferred none) (by omega) hk rfl rfl))
    clear h1 h2 h3 h4
    go_wp2
    refine ⟨by simp, .inl ⟨_, _, rfl, run_takeDeferred hk, ?_⟩⟩
    exact ⟨_, results_tmp rfl _ _ _, v, rfl, HR.out, HB.out⟩
  case stop => exact fun _ _ _ h _ => h.elim

end Go.Proofs.Ytdnbfpgcmamdbaa
