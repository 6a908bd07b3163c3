/-
  WHAT A TREE MUST BE; THE CLOSURE BY WHICH Parse RECOVERS: contracts of package rxparse. No condition.
-/
import Derived.Test.YtngagijcdehjpaaPd8
import Derived.Recover
namespace Go.Proofs.Ytngagijcdehjpaa
open Go.RowKit

def mustE (T : Tree) : Ending :=
  if 300 < T.nodes then .panicked [{ v := fltV (0, 4), recovered := false }] else if 30 < T.deepN then .panicked [{ v := fltV (0, 3), recovered := false }] else
  if T.mayN = true then .returned (.tuple #[]) else .panicked [{ v := fltV (0, 2), recovered := false }]
set_option maxHeartbeats 1000000 in
theorem mustBe_any (T : Tree) (v : Value) (w : World) (hat : T.At w v) : Calls Try.prog 21 #[v] w fun e w' => e = mustE T ∧ Below w.heap.size w w' := by
  obtain ⟨A, n, c, rfl⟩ := hat.form
  have hL : ∀ W, T.At W (reV T.kind T.set A n c T.lo T.hi) → Calls Try.prog 29 #[.int .i64 300, reV T.kind T.set A n c T.lo T.hi] W fun e w' => e = .returned (.int .i64 (leftN 300 T)) ∧ Below W.heap.size W w' := fun W h => left_any T _ 300 W h (Nat.le_refl _)
  have hbox := BlkIs.new w 31 (reL T.kind T.set A n c T.lo T.hi).toArray
  have hb0 : Below w.heap.size w (w.alloc (.cells (reL T.kind T.set A n c T.lo T.hi).toArray 31)) := (Below.refl _ _).alloc (Nat.le_refl _) _
  have HA := Lib.hid (hat.step hb0)
  have HB := Lib.hid hbox
  have HB0 := Lib.hid hb0
  clear hbox hb0 hat
  unfold mustE
  by_cases h1 : 300 < T.nodes
  · rw [if_pos h1]
    have hz : leftN 300 T = -1 := by unfold leftN; rw [if_neg (by omega)]
    rw [hz] at hL
    unfold reV reL at *
    go_enter Try.func21, Try.ntmps21
    go_wp2_with (first
      | (go_at_call 29; (with_reducible refine (hL _ HA.out).mono ?_); rintro e w1 ⟨rfl, hb1⟩))
    exact ⟨rfl, rfl, HB0.out.trans (hb1.mono HB0.out.size)⟩
  rw [if_neg h1]
  have hdn : T.deepN ≤ 1099511627776 := by have := deep_nodes T; omega
  have hD := fun W (h : T.At W (reV T.kind T.set A n c T.lo T.hi)) => deep_any T _ W h hdn
  obtain ⟨z, hz, hz0⟩ : ∃ z : Int, leftN 300 T = z ∧ 0 ≤ z := ⟨_, rfl, by unfold leftN; rw [if_pos (by omega)]; omega⟩
  rw [hz] at hL
  have ez : decide (z < 0) = false := by simp; omega
  by_cases h2 : 30 < T.deepN
  · rw [if_pos h2]
    have ed : decide (30 < (T.deepN : Int)) = true := by simp; omega
    unfold reV reL at *
    clear hz hdn
    go_enter Try.func21, Try.ntmps21
    go_wp2_with (first
      | (go_at_call 29; (with_reducible refine (hL _ HA.out).mono ?_); rintro e w1 ⟨rfl, hb1⟩; obtain ⟨c0, c1, c2, c3, c4, c5, c6, c7⟩ := (HB.out.step hb1).eight)
      | (go_at_call 30; (with_reducible refine (hD _ (HA.out.step hb1)).mono ?_); rintro e w2 ⟨rfl, hb2⟩))
    exact ⟨rfl, rfl, (HB0.out.trans (hb1.mono HB0.out.size)).trans (hb2.mono (Nat.le_trans HB0.out.size hb1.size))⟩
  rw [if_neg h2]
  have ed : decide (30 < (T.deepN : Int)) = false := by simp; omega
  have hM := fun W (h : T.At W (reV T.kind T.set A n c T.lo T.hi)) => may_any T _ W h hdn
  generalize hm : T.mayN = mm at *
  cases mm
  all_goals
    unfold reV reL at *
    clear hz hdn hm
    go_enter Try.func21, Try.ntmps21
    go_wp2_with (first
      | (go_at_call 29; (with_reducible refine (hL _ HA.out).mono ?_); rintro e w1 ⟨rfl, hb1⟩; obtain ⟨c0, c1, c2, c3, c4, c5, c6, c7⟩ := (HB.out.step hb1).eight)
      | (go_at_call 30; (with_reducible refine (hD _ (HA.out.step hb1)).mono ?_); rintro e w2 ⟨rfl, hb2⟩; obtain ⟨d0, d1, d2, d3, d4, d5, d6, d7⟩ := ((HB.out.step hb1).step hb2).eight)
      | (go_at_call 31; (with_reducible refine (hM _ ((HA.out.step hb1).step hb2)).mono ?_); rintro e w3 ⟨rfl, hb3⟩))
  · exact ⟨rfl, rfl, ((HB0.out.trans (hb1.mono HB0.out.size)).trans (hb2.mono (Nat.le_trans HB0.out.size hb1.size))).trans (hb3.mono (Nat.le_trans (Nat.le_trans HB0.out.size hb1.size) hb2.size))⟩
  · go_end0
    exact ⟨rfl, ((HB0.out.trans (hb1.mono HB0.out.size)).trans (hb2.mono (Nat.le_trans HB0.out.size hb1.size))).trans (hb3.mono (Nat.le_trans (Nat.le_trans HB0.out.size hb1.size) hb2.size))⟩

theorem eight_ofP {α : Type} (l : List α) (h : l.length = 8) : ∃ a b c d e f g i, l = [a, b, c, d, e, f, g, i] := by
  match l, h with
  | [a, b, c, d, e, f, g, i], _ => exact ⟨a, b, c, d, e, f, g, i, rfl⟩
theorem eight_arr {α : Type} (l : Array α) (h : l.size = 8) : ∃ a b c d e f g i, l = #[a, b, c, d, e, f, g, i] := by
  obtain ⟨a, b, c, d, e, f, g, i, h2⟩ := eight_ofP l.toList (by simpa using h)
  exact ⟨a, b, c, d, e, f, g, i, by cases l; simp_all⟩
theorem one_arr {α : Type} (l : Array α) (h : l.size = 1) : ∃ a, l = #[a] := by
  match l, h with
  | ⟨[a]⟩, _ => exact ⟨a, rfl⟩
theorem BlkIs.put8 {w : World} {g : Nat} {t : TypeId} {x0 x1 x2 x3 x4 x5 x6 x7 : Value} (h : BlkIs w g t #[x0, x1, x2, x3, x4, x5, x6, x7]) (v0 v1 v2 v3 v4 v5 v6 v7 : Value) :
    BlkIs ((((((((w.setCell ⟨g, 0, none⟩ v0).setCell ⟨g, 1, none⟩ v1).setCell ⟨g, 2, none⟩ v2).setCell ⟨g, 3, none⟩ v3).setCell ⟨g, 4, none⟩ v4).setCell ⟨g, 5, none⟩ v5).setCell ⟨g, 6, none⟩ v6).setCell ⟨g, 7, none⟩ v7) g t #[v0, v1, v2, v3, v4, v5, v6, v7] := by
  have := (((((((h.put 0 v0).put 1 v1).put 2 v2).put 3 v3).put 4 v4).put 5 v5).put 6 v6).put 7 v7
  simpa using this
theorem frame17 (a b c x : Value) : #[a, b, c] ++ (Array.replicate 14 undef).setIfInBounds 3 x = #[a, b, c, undef, undef, undef, x, undef, undef, undef, undef, undef, undef, undef, undef, undef, undef] := rfl
theorem assert_flt (v : Value) (xT : TypeId) (w : World) : (Instr.typeAssert (.iface 45 v) xT 45 true).run Try.prog w = .ok (.tuple #[v, .bool true]) w := by
  simp [Instr.typeAssert, run_underlying Try.underlying45, go_sem, Result.andThen]
theorem catch_none (a b c : Value) (w : World) : CallsD Try.prog 19 #[a, b, c] .returning w fun e u' w' => e = .returned (.tuple #[]) ∧ u' = .returning ∧ w' = w := by
  refine callsD_of_wpS Try.func19 rfl fun c₀ cs hu => ?_
  apply wpS_seq
  apply wpS_region
  simp [wpOpsS, go_sem, recoverD, hu, Try.ntmps19, Exit.thenS]
  refine wpS_of_wp ?_
  rw [frame17 a b c Value.nilIface]
  go_wp2
  cases c₀
  simp_all [bodyPostS, results, Try.results19]
set_option maxHeartbeats 1000000 in
theorem catch_flt (a b c : Nat) (q : Nat × Nat) (w : World) {csa csb csc : Array Value} {ta tb tc : TypeId} (ha : BlkIs w a ta csa) (hsa : csa.size = 8) (hb : BlkIs w b tb csb) (hsb : csb.size = 1) (hc : BlkIs w c tc csc) (hsc : csc.size = 1) (hab : a ≠ b) (hac : a ≠ c) (hbc : b ≠ c) :
    CallsD Try.prog 19 #[.pointer (some ⟨a, 0, none⟩), .pointer (some ⟨b, 0, none⟩), .pointer (some ⟨c, 0, none⟩)] (.panicking [{ v := fltV q, recovered := false }]) w fun e u' w' =>
      e = .returned (.tuple #[]) ∧ u' = .panicking [{ v := fltV q, recovered := true }] ∧ BlkIs w' a ta zeroL.toArray ∧ BlkIs w' b tb #[.int .i64 (q.1 : Nat)] ∧ BlkIs w' c tc #[.int .i64 (q.2 : Nat)] ∧ ∀ B, B ≤ a → B ≤ b → B ≤ c → Below B w w' := by
  refine callsD_of_wpS Try.func19 rfl fun c₀ cs hu => ?_
  apply wpS_seq
  apply wpS_region
  unfold fltV at hu
  simp [wpOpsS, go_sem, recoverD, hu, Try.ntmps19, Exit.thenS]
  refine wpS_of_wp ?_
  rw [frame17]
  obtain ⟨x0, x1, x2, x3, x4, x5, x6, x7, rfl⟩ := eight_arr csa hsa
  obtain ⟨y0, rfl⟩ := one_arr csb hsb
  obtain ⟨z0, rfl⟩ := one_arr csc hsc
  have k0 : w.cell? ⟨a, 0, none⟩ = some x0 := ha.cell 0
  have k1 : w.cell? ⟨a, 1, none⟩ = some x1 := ha.cell 1
  have k2 : w.cell? ⟨a, 2, none⟩ = some x2 := ha.cell 2
  have k3 : w.cell? ⟨a, 3, none⟩ = some x3 := ha.cell 3
  have k4 : w.cell? ⟨a, 4, none⟩ = some x4 := ha.cell 4
  have k5 : w.cell? ⟨a, 5, none⟩ = some x5 := ha.cell 5
  have k6 : w.cell? ⟨a, 6, none⟩ = some x6 := ha.cell 6
  have k7 : w.cell? ⟨a, 7, none⟩ = some x7 := ha.cell 7
  have fz := fun i => ha.frozen i
  have kb : w.cell? ⟨b, 0, none⟩ = some y0 := hb.cell 0
  have kc : w.cell? ⟨c, 0, none⟩ = some z0 := hc.cell 0
  have fb := fun i => hb.frozen i
  have fc := fun i => hc.frozen i
  have HA := Lib.hid ha
  have HB := Lib.hid hb
  have HC := Lib.hid hc
  have la := ha.lt
  have lb := hb.lt
  have lc := hc.lt
  have na := Nat.ne_of_lt la
  have nb := Nat.ne_of_lt lb
  have nc := Nat.ne_of_lt lc
  clear ha hb hc hsa hsb hsc
  have hta := fun xT => assert_flt (.agg #[.int .i64 (q.1 : Nat), .int .i64 (q.2 : Nat)]) xT
  go_wp2
  go_region
  have hA := ((((HA.out.put8 (.int .i64 0) (.int .u64 0) (.int .u64 0) (.int .u64 0) (.int .u64 0) (.slice none 0 0) (.int .i64 0) (.int .i64 0)).far (p := ⟨b, 0, none⟩) hab (.int .i64 (q.1 : Nat))).far (p := ⟨c, 0, none⟩) hac (.int .i64 (q.2 : Nat))).alloc (.cells #[.int .i64 (q.1 : Nat), .int .i64 (q.2 : Nat)] 45)).drew
  have hB := (((((((((((HB.out.far (p := ⟨a, 0, none⟩) hab.symm (.int .i64 0)).far (p := ⟨a, 1, none⟩) hab.symm (.int .u64 0)).far (p := ⟨a, 2, none⟩) hab.symm (.int .u64 0)).far (p := ⟨a, 3, none⟩) hab.symm (.int .u64 0)).far (p := ⟨a, 4, none⟩) hab.symm (.int .u64 0)).far (p := ⟨a, 5, none⟩) hab.symm (.slice none 0 0)).far (p := ⟨a, 6, none⟩) hab.symm (.int .i64 0)).far (p := ⟨a, 7, none⟩) hab.symm (.int .i64 0)).put 0 (.int .i64 (q.1 : Nat))).far (p := ⟨c, 0, none⟩) hbc (.int .i64 (q.2 : Nat))).alloc (.cells #[.int .i64 (q.1 : Nat), .int .i64 (q.2 : Nat)] 45)).drew
  have hC := (((((((((((HC.out.far (p := ⟨a, 0, none⟩) hac.symm (.int .i64 0)).far (p := ⟨a, 1, none⟩) hac.symm (.int .u64 0)).far (p := ⟨a, 2, none⟩) hac.symm (.int .u64 0)).far (p := ⟨a, 3, none⟩) hac.symm (.int .u64 0)).far (p := ⟨a, 4, none⟩) hac.symm (.int .u64 0)).far (p := ⟨a, 5, none⟩) hac.symm (.slice none 0 0)).far (p := ⟨a, 6, none⟩) hac.symm (.int .i64 0)).far (p := ⟨a, 7, none⟩) hac.symm (.int .i64 0)).far (p := ⟨b, 0, none⟩) hbc.symm (.int .i64 (q.1 : Nat))).put 0 (.int .i64 (q.2 : Nat))).alloc (.cells #[.int .i64 (q.1 : Nat), .int .i64 (q.2 : Nat)] 45)).drew
  have hbel : ∀ B, B ≤ a → B ≤ b → B ≤ c → Below B w _ := fun B h1 h2 h3 => ((((((((((((Below.refl B w).setCell (p := ⟨a, 0, none⟩) h1 (.int .i64 0)).setCell (p := ⟨a, 1, none⟩) h1 (.int .u64 0)).setCell (p := ⟨a, 2, none⟩) h1 (.int .u64 0)).setCell (p := ⟨a, 3, none⟩) h1 (.int .u64 0)).setCell (p := ⟨a, 4, none⟩) h1 (.int .u64 0)).setCell (p := ⟨a, 5, none⟩) h1 (.slice none 0 0)).setCell (p := ⟨a, 6, none⟩) h1 (.int .i64 0)).setCell (p := ⟨a, 7, none⟩) h1 (.int .i64 0)).setCell (p := ⟨b, 0, none⟩) h2 (.int .i64 (q.1 : Nat))).setCell (p := ⟨c, 0, none⟩) h3 (.int .i64 (q.2 : Nat))).alloc (by simp; omega) (.cells #[.int .i64 (q.1 : Nat), .int .i64 (q.2 : Nat)] 45)).drew
  revert hA hB hC hbel
  generalize World.drew _ = wf
  intro hA hB hC hbel
  have FA := Lib.hid (And.intro (show BlkIs wf a ta zeroL.toArray from hA) (And.intro (show BlkIs wf b tb #[.int .i64 (q.1 : Nat)] from hB) (And.intro (show BlkIs wf c tc #[.int .i64 (q.2 : Nat)] from hC) hbel)))
  clear hA hB hC hbel k0 k1 k2 k3 k4 k5 k6 k7 fz kb kc fb fc hta
  go_wp2
  simp [bodyPostS, results, Try.results19, fltV]
  exact FA.out
end Go.Proofs.Ytngagijcdehjpaa

