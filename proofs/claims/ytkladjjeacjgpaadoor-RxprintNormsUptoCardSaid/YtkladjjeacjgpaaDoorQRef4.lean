/-
  WHAT hackleref04's Nodes, Deep, node, May, Same, Void, Sets ANSWER, at every tree: contracts. No condition.
-/
import Derived.LoopTactic
import Derived.Test.YtkladjjeacjgpaaDoorQG02
import Derived.Test.YtkladjjeacjgpaaDoorQRef1
namespace Go.Proofs.YtkladjjeacjgpaaDoor
open Go.RowKit

mutual
def Tree.nodes : Tree → Nat
  | .node _ _ l _ _ => nodesL l + 1
def nodesL : List Tree → Nat
  | [] => 0
  | t :: r => t.nodes + nodesL r
end
theorem nodesL_snoc : ∀ (l : List Tree) (t : Tree), nodesL (l ++ [t]) = nodesL l + t.nodes
  | [], t => by simp [nodesL]
  | a :: l, t => by simp only [List.cons_append, nodesL, nodesL_snoc l t]; omega
theorem nodesL_take {l : List Tree} {i : Nat} (h : i < l.length) : nodesL (l.take (i + 1)) = nodesL (l.take i) + (l[i]).nodes := by
  rw [← List.take_append_getElem h, nodesL_snoc]

theorem wrap_sum (a b : Nat) : wrap64 (wrap64 ((a : Int) + 1) + wrap64 (b : Int)) = IntKind.i64.wrap (((a + 1 + b : Nat)) : Int) := by
  rw [IntKind.wrap_i64]; unfold wrap64; omega

set_option maxHeartbeats 2000000 in
theorem refNodes_any : ∀ (T : Tree) (v : Value) (w : World), T.At w v → Calls Tryd.prog 13 #[v] w fun e w' => e = .returned (.int .i64 (IntKind.i64.wrap (T.nodes : Int))) ∧ Below w.heap.size w w' := by
  intro T
  induction T using Tree.ind with
  | h k m l lo hi ih =>
    intro v w hat
    obtain ⟨A, c, rfl, hc, hs⟩ := hat.open
    have HS := Lib.hid hs
    have IH := Lib.hid ih
    clear hat hs ih
    unfold reV reL
    go_enter Tryd.func13, Tryd.ntmps13
    go_wp2
    have hbox := BlkIs.new w 27 (reL k m A l.length c lo hi).toArray
    unfold reL at hbox
    go_loopw [3, 4] (fun n i wr => ∃ j : Nat, n = .int .i64 (IntKind.i64.wrap ((nodesL (l.take j) + 1 : Nat) : Int)) ∧ i = .int .i64 j ∧ j ≤ l.length ∧ Hid (Below w.heap.size w wr ∧ BlkIs wr w.heap.size 27 (reL k m A l.length c lo hi).toArray)) (fun _ i _ => l.length - (intOf i).toNat)
    case atStart => exact ⟨0, by simp [nodesL, IntKind.wrap_i64], rfl, Nat.zero_le _, Lib.hid ⟨(Below.refl _ _).alloc (Nat.le_refl _) _, hbox⟩⟩
    case round =>
      obtain ⟨j, rfl, rfl, hj, HH⟩ := hrel
      obtain ⟨hb, hbl⟩ := HH.out
      have HB := Lib.hid HH.out
      clear hbox
      unfold reL at hbl
      obtain ⟨_, _, _, _, _, c5, _, _⟩ := hbl.eight
      by_cases hp : j < l.length
      · have hdl : decide ((j : Int) < (l.length : Int)) = true := by simp; omega
        obtain ⟨b, o, rfl, hbw, hg⟩ := HS.out (by intro e; subst e; simp at hp)
        obtain ⟨cs, hcat, hlen, hrow⟩ := hg j hp
        obtain ⟨A', n', c', rfl⟩ := hcat.eight
        obtain ⟨r0, r1, r2, r3, r4, r5, r6, r7⟩ := row_eight hrow hb
        have hcat2 := hcat.step hb
        have hcall := IH.out _ (List.getElem_mem hp) _ wr hcat2
        have hk1 : IntKind.i64.wrap ((j : Int) + 1) = ((j + 1 : Nat) : Int) := by rw [IntKind.wrap_i64]; omega
        have HC := Lib.hid hcall
        clear hrow hcat hcat2 hcall hg hb hbl
        go_wp2_with fail
        refine HC.out.mono ?_
        rintro e w1 ⟨rfl, hb1⟩
        have HB1 := Lib.hid hb1
        clear hb1
        go_wp2
        refine ⟨⟨j + 1, ?_, by go_num, hp, Lib.hid ?_⟩, by simp [intOf]; omega⟩
        · rw [nodesL_take hp, wrap_sum]
          have := HB.out.1
          rw [Nat.add_right_comm]
        · exact ⟨HB.out.1.trans (HB1.out.mono HB.out.1.size), HB.out.2.step HB1.out⟩
      · have hdl : decide ((j : Int) < (l.length : Int)) = false := by simp; omega
        obtain rfl : j = l.length := by omega
        go_wp2
        go_ret
        rw [List.take_length]
        exact ⟨rfl, hb⟩

mutual
def Tree.deepW : Tree → Int
  | .node _ _ l _ _ => wrap64 ((deepsW l).foldl (fun d x => if d < x then x else d) 0 + 1)
def deepsW : List Tree → List Int
  | [] => []
  | t :: r => t.deepW :: deepsW r
end
def deepM (l : List Tree) : Int := (deepsW l).foldl (fun d x => if d < x then x else d) 0
theorem deepsW_append : ∀ (l r : List Tree), deepsW (l ++ r) = deepsW l ++ deepsW r
  | [], r => rfl
  | a :: l, r => by simp only [List.cons_append, deepsW, deepsW_append l r]
theorem deepM_take {l : List Tree} {i : Nat} (h : i < l.length) : deepM (l.take (i + 1)) = if deepM (l.take i) < (l[i]).deepW then (l[i]).deepW else deepM (l.take i) := by
  unfold deepM
  rw [← List.take_append_getElem h, deepsW_append, List.foldl_append]; rfl

set_option maxHeartbeats 2000000 in
theorem refDeep_any : ∀ (T : Tree) (v : Value) (w : World), T.At w v → Calls Tryd.prog 22 #[v] w fun e w' => e = .returned (.int .i64 T.deepW) ∧ Below w.heap.size w w' := by
  intro T
  induction T using Tree.ind with
  | h k m l lo hi ih =>
    intro v w hat
    obtain ⟨A, c, rfl, hc, hs⟩ := hat.open
    have HS := Lib.hid hs
    have IH := Lib.hid ih
    clear hat hs ih
    unfold reV reL
    go_enter Tryd.func22, Tryd.ntmps22
    go_wp2
    have hbox := BlkIs.new w 27 (reL k m A l.length c lo hi).toArray
    unfold reL at hbox
    go_loopw [3, 4] (fun n i wr => ∃ j : Nat, n = .int .i64 (deepM (l.take j)) ∧ i = .int .i64 j ∧ j ≤ l.length ∧ Hid (Below w.heap.size w wr ∧ BlkIs wr w.heap.size 27 (reL k m A l.length c lo hi).toArray)) (fun _ i _ => l.length - (intOf i).toNat)
    case atStart => exact ⟨0, by simp [deepM, deepsW], rfl, Nat.zero_le _, Lib.hid ⟨(Below.refl _ _).alloc (Nat.le_refl _) _, hbox⟩⟩
    case round =>
      obtain ⟨j, rfl, rfl, hj, HH⟩ := hrel
      obtain ⟨hb, hbl⟩ := HH.out
      have HB := Lib.hid HH.out
      clear hbox
      unfold reL at hbl
      obtain ⟨_, _, _, _, _, c5, _, _⟩ := hbl.eight
      by_cases hp : j < l.length
      · have hdl : decide ((j : Int) < (l.length : Int)) = true := by simp; omega
        obtain ⟨b, o, rfl, hbw, hg⟩ := HS.out (by intro e; subst e; simp at hp)
        obtain ⟨cs, hcat, hlen, hrow⟩ := hg j hp
        obtain ⟨A', n', c', rfl⟩ := hcat.eight
        obtain ⟨r0, r1, r2, r3, r4, r5, r6, r7⟩ := row_eight hrow hb
        have hcat2 := hcat.step hb
        have hcall := IH.out _ (List.getElem_mem hp) _ wr hcat2
        have hk1 : IntKind.i64.wrap ((j : Int) + 1) = ((j + 1 : Nat) : Int) := by rw [IntKind.wrap_i64]; omega
        have HC := Lib.hid hcall
        clear hrow hcat hcat2 hcall hg hb hbl
        have hst := deepM_take hp
        generalize (l[j]).deepW = x at *
        generalize deepM (l.take j) = d at *
        have HST := Lib.hid hst
        clear hst
        by_cases hx : d < x
        · have hgt : decide (x > d) = true := by simp; omega
          go_wp2_with fail
          refine HC.out.mono ?_
          rintro e w1 ⟨rfl, hb1⟩
          have HB1 := Lib.hid hb1
          clear hb1
          go_wp2
          refine ⟨⟨j + 1, ?_, by go_num, hp, Lib.hid ?_⟩, by simp [intOf]; omega⟩
          · rw [HST.out, if_pos hx]
          · exact ⟨HB.out.1.trans (HB1.out.mono HB.out.1.size), HB.out.2.step HB1.out⟩
        · have hgt : decide (x > d) = false := by simp; omega
          go_wp2_with fail
          refine HC.out.mono ?_
          rintro e w1 ⟨rfl, hb1⟩
          have HB1 := Lib.hid hb1
          clear hb1
          go_wp2
          refine ⟨⟨j + 1, ?_, by go_num, hp, Lib.hid ?_⟩, by simp [intOf]; omega⟩
          · rw [HST.out, if_neg (by omega)]
          · exact ⟨HB.out.1.trans (HB1.out.mono HB.out.1.size), HB.out.2.step HB1.out⟩
      · have hdl : decide ((j : Int) < (l.length : Int)) = false := by simp; omega
        obtain rfl : j = l.length := by omega
        rw [List.take_length]
        have hD : Tree.deepW (.node k m l lo hi) = wrap64 (deepM l + 1) := by unfold Tree.deepW deepM; rfl
        have HD := Lib.hid hD
        clear hD
        generalize deepM l = d at *
        go_wp2
        go_ret
        rw [HD.out]
        refine ⟨?_, hb⟩
        rfl

/-! ### may a tree be? -/
def okNode (k : Int) (m : Nat → Bool) (n : Nat) (lo hi : Int) : Bool :=
  if ((k != 1 && !setEq m (fun _ => false)) || (k != 4 && (lo != 0 || hi != 0))) = true then false
  else if k = 0 ∨ k = 1 then decide (n = 0)
  else if k = 2 ∨ k = 3 then decide (2 ≤ n)
  else if k = 4 then decide (n = 1 ∧ 0 ≤ lo ∧ lo ≤ 64 ∧ (hi = -1 ∨ lo ≤ hi ∧ hi ≤ 64))
  else false
mutual
def Tree.ok : Tree → Bool
  | .node k m l lo hi => allOk l && okNode k m l.length lo hi
def allOk : List Tree → Bool
  | [] => true
  | t :: r => t.ok && allOk r
end
theorem allOk_iff : ∀ {l : List Tree}, allOk l = true ↔ ∀ t ∈ l, t.ok = true
  | [] => by simp [allOk]
  | a :: l => by simp only [allOk, Bool.and_eq_true, List.mem_cons, forall_eq_or_imp, allOk_iff (l := l)]
theorem allOk_take {l : List Tree} {i : Nat} (h : i < l.length) (ha : allOk (l.take i) = true) (hx : (l[i]).ok = true) : allOk (l.take (i + 1)) = true := by
  rw [allOk_iff] at ha ⊢
  intro t ht
  rw [← List.take_append_getElem h, List.mem_append] at ht
  rcases ht with ht | ht
  · exact ha t ht
  · simp at ht; subst ht; exact hx
theorem allOk_bad {l : List Tree} {i : Nat} (h : i < l.length) (hx : (l[i]).ok = false) : allOk l = false := by
  rw [Bool.eq_false_iff]; intro ha
  rw [allOk_iff] at ha
  rw [ha _ (List.getElem_mem h)] at hx; cases hx

theorem set0_build : setV (fun _ => false) = .agg #[.int .u64 0, .int .u64 0, .int .u64 0, .int .u64 0] := by
  have : ∀ i, i < 4 → wd (fun _ => false) i = 0 := by decide +kernel
  unfold setV
  rw [this 0 (by omega), this 1 (by omega), this 2 (by omega), this 3 (by omega)]; rfl

set_option maxHeartbeats 4000000 in
theorem refNode_any : ∀ (T : Tree) (v : Value) (w : World), T.At w v → Calls Tryd.prog 23 #[v] w fun e w' => e = .returned (.bool T.ok) ∧ Below w.heap.size w w' := by
  intro T
  induction T using Tree.ind with
  | h k m l lo hi ih =>
    intro v w hat
    obtain ⟨A, c, rfl, hc, hs⟩ := hat.open
    have HS := Lib.hid hs
    have IH := Lib.hid ih
    clear hat hs ih
    unfold reV reL
    obtain ⟨R, hR⟩ : ∃ R, Tree.ok (.node k m l lo hi) = R := ⟨_, rfl⟩
    rw [hR]
    have HRR := Lib.hid hR
    clear hR
    go_enter Tryd.func23, Tryd.ntmps23
    go_wp2
    have hbox := BlkIs.new w 27 (reL k m A l.length c lo hi).toArray
    unfold reL at hbox
    go_loopw [3] (fun i wr => ∃ j : Nat, i = .int .i64 j ∧ j ≤ l.length ∧ Hid (Below w.heap.size w wr ∧ BlkIs wr w.heap.size 27 (reL k m A l.length c lo hi).toArray ∧ allOk (l.take j) = true)) (fun i _ => l.length - (intOf i).toNat)
    case atStart => exact ⟨0, rfl, Nat.zero_le _, Lib.hid ⟨(Below.refl _ _).alloc (Nat.le_refl _) _, hbox, rfl⟩⟩
    case round =>
      obtain ⟨j, rfl, hj, HH⟩ := hrel
      obtain ⟨hb, hbl, hall⟩ := HH.out
      have HB := Lib.hid HH.out
      clear hbox
      unfold reL at hbl
      obtain ⟨c0, c1, c2, c3, c4, c5, c6, c7⟩ := hbl.eight
      by_cases hp : j < l.length
      · have hdl : decide ((j : Int) < (l.length : Int)) = true := by simp; omega
        obtain ⟨b, o, rfl, hbw, hg⟩ := HS.out (by intro e; subst e; simp at hp)
        obtain ⟨cs, hcat, hlen, hrow⟩ := hg j hp
        obtain ⟨A', n', c', rfl⟩ := hcat.eight
        obtain ⟨r0, r1, r2, r3, r4, r5, r6, r7⟩ := row_eight hrow hb
        have hcat2 := hcat.step hb
        have hcall := IH.out _ (List.getElem_mem hp) _ wr hcat2
        have hk1 : IntKind.i64.wrap ((j : Int) + 1) = ((j + 1 : Nat) : Int) := by rw [IntKind.wrap_i64]; omega
        by_cases hx : (l[j]).ok = true
        · have ha := allOk_take hp hall hx
          rw [hx] at hcall
          have HC := Lib.hid hcall
          have HA := Lib.hid ha
          clear hrow hcat hcat2 hcall hg hb hbl hall ha hx c0 c1 c2 c3 c4 c6 c7
          go_wp2_with fail
          refine HC.out.mono ?_
          rintro e w1 ⟨rfl, hb1⟩
          have HB1 := Lib.hid hb1
          clear hb1
          go_wp2
          exact ⟨⟨j + 1, by go_num, hp, Lib.hid ⟨HB.out.1.trans (HB1.out.mono HB.out.1.size), HB.out.2.1.step HB1.out, HA.out⟩⟩, by simp [intOf]; omega⟩
        · have hx2 : (l[j]).ok = false := by simpa using hx
          have ha := allOk_bad hp hx2
          rw [hx2] at hcall
          have HC := Lib.hid hcall
          have HA := Lib.hid (show R = false by rw [← HRR.out]; unfold Tree.ok; rw [ha]; rfl)
          clear hrow hcat hcat2 hcall hg hb hbl hall ha hx hx2 c0 c1 c2 c3 c4 c6 c7
          go_wp2_with fail
          refine HC.out.mono ?_
          rintro e w1 ⟨rfl, hb1⟩
          have HB1 := Lib.hid hb1
          clear hb1
          go_wp2
          go_ret
          rw [HA.out]
          exact ⟨rfl, HB.out.1.trans (HB1.out.mono HB.out.1.size)⟩
      · have hdl : decide ((j : Int) < (l.length : Int)) = false := by simp; omega
        obtain rfl : j = l.length := by omega
        rw [List.take_length] at hall
        have HO := Lib.hid (show R = okNode k m l.length lo hi by rw [← HRR.out]; unfold Tree.ok; rw [hall]; rfl)
        have hne := ne_set m (fun _ => false)
        rw [set0_build] at hne
        unfold setV at hne
        clear hall hbl HH HB hj hp HS IH HRR
        go_wp2
        all_goals (
          go_ret
          refine ⟨?_, hb⟩
          rw [HO.out]
          clear HO hne hc hdl hb c0 c1 c2 c3 c4 c5 c6 c7
          refine congrArg (fun b => Ending.returned (Value.bool b)) ?_
          unfold okNode
          first | (simp_all; done) | (simp_all; omega) | grind)

end Go.Proofs.YtkladjjeacjgpaaDoor

