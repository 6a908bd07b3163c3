/-
  WHAT hacklelaw05's weight, heavy AND Heavy ANSWER, at every tree: contracts. No condition.
-/
import Derived.Test.YtkpmmnackjimmaaDoorQRef4d
namespace Go.Proofs.YtkpmmnackjimmaaDoor
open Go.RowKit

mutual
def Tree.weight5 : Tree → Nat
  | .node k _ l _ hi => weight5End k hi (weight5L l 1)
def weight5L : List Tree → Nat → Nat
  | [], n => n
  | t :: r, n => weight5L r (min (n + t.weight5) 1000000)
def weight5End (k hi : Int) (n : Nat) : Nat :=
  if k = 4 then (if 1 < hi ∧ hi ≤ 64 then min (n * hi.toNat) 1000000 else if hi < 0 then min (n * 40) 1000000 else n) else n
end
theorem weight5L_append : ∀ (l r : List Tree) (n : Nat), weight5L (l ++ r) n = weight5L r (weight5L l n)
  | [], r, n => rfl
  | a :: l, r, n => by simp only [List.cons_append, weight5L, weight5L_append l r]
theorem weight5L_take {l : List Tree} {i n : Nat} (h : i < l.length) : weight5L (l.take (i + 1)) n = min (weight5L (l.take i) n + (l[i]).weight5) 1000000 := by
  rw [← List.take_append_getElem h, weight5L_append]; rfl
theorem weight5L_le : ∀ (l : List Tree) (n : Nat), n ≤ 1000000 → weight5L l n ≤ 1000000
  | [], n, h => h
  | t :: r, n, h => by unfold weight5L; exact weight5L_le r _ (Nat.min_le_right _ _)
theorem weight5_le (T : Tree) : T.weight5 ≤ 1000000 := by
  cases T with
  | node k m l lo hi =>
    unfold Tree.weight5 weight5End
    have := weight5L_le l 1 (by omega)
    split
    · split
      · exact Nat.min_le_right _ _
      · split
        · exact Nat.min_le_right _ _
        · exact this
    · exact this
set_option maxHeartbeats 4000000 in
theorem weight5_any : ∀ (T : Tree) (v : Value) (w : World), T.At w v → Calls Tryd.prog 43 #[v] w fun e w' => e = .returned (.int .i64 (T.weight5 : Nat)) ∧ Below w.heap.size w w' := by
  intro T
  induction T using Tree.ind with
  | h k m l lo hi ih =>
    intro v w hat
    obtain ⟨A, c, rfl, hc, hs⟩ := hat.open
    have HS := Lib.hid hs
    have IH := Lib.hid ih
    clear hat hs ih
    unfold reV reL
    obtain ⟨R, hR⟩ : ∃ R, Tree.weight5 (.node k m l lo hi) = R := ⟨_, rfl⟩
    rw [hR]
    have HR := Lib.hid (show weight5End k hi (weight5L l 1) = R from hR)
    clear hR
    have hbox := BlkIs.new w 27 (reL k m A l.length c lo hi).toArray
    unfold reL at hbox
    go_enter Tryd.func43, Tryd.ntmps43
    go_wp2
    go_loopw [3, 4] (fun n i wr => ∃ j : Nat, n = .int .i64 (weight5L (l.take j) 1 : Nat) ∧ i = .int .i64 j ∧ j ≤ l.length ∧ Hid (Below w.heap.size w wr ∧ BlkIs wr w.heap.size 27 (reL k m A l.length c lo hi).toArray)) (fun _ i _ => l.length - (intOf i).toNat)
    case atStart => exact ⟨0, rfl, rfl, Nat.zero_le _, Lib.hid ⟨(Below.refl _ _).alloc (Nat.le_refl _) _, hbox⟩⟩
    case round =>
      obtain ⟨j, rfl, rfl, hj, HH⟩ := hrel
      obtain ⟨hb, hbl⟩ := HH.out
      have HB := Lib.hid HH.out
      clear hbox
      unfold reL at hbl
      obtain ⟨c0, c1, c2, c3, c4, c5, c6, c7⟩ := hbl.eight
      have hle := weight5L_le (l.take j) 1 (by omega)
      by_cases hp : j < l.length
      · have hdl : decide ((j : Int) < (l.length : Int)) = true := by simp; omega
        obtain ⟨b, o, rfl, hbw, hg⟩ := HS.out (by intro e; subst e; simp at hp)
        obtain ⟨cs, hcat, hlen, hrow⟩ := hg j hp
        obtain ⟨A', n', c', rfl⟩ := hcat.eight
        obtain ⟨r0, r1, r2, r3, r4, r5, r6, r7⟩ := row_eight hrow hb
        have hcall := IH.out _ (List.getElem_mem hp) _ wr (hcat.step hb)
        have hk1 : IntKind.i64.wrap ((j : Int) + 1) = ((j + 1 : Nat) : Int) := by rw [IntKind.wrap_i64]; omega
        have hwl := weight5_le l[j]
        have hst := weight5L_take (n := 1) hp
        generalize (l[j]).weight5 = x at *
        generalize weight5L (l.take j) 1 = y at *
        have hw : IntKind.i64.wrap ((y : Int) + (x : Int)) = ((y + x : Nat) : Int) := by rw [IntKind.wrap_i64]; omega
        have HC := Lib.hid hcall
        have HST := Lib.hid hst
        clear hrow hcat hcall hg hb hbl c0 c1 c2 c3 c4 c6 c7 hst
        go_wp2_with fail
        refine HC.out.mono ?_
        rintro e w1 ⟨rfl, hb1⟩
        have HB1 := Lib.hid hb1
        clear hb1
        go_wp2
        refine ⟨⟨j + 1, ?_, by go_num, hp, Lib.hid ?_⟩, by simp [intOf]; omega⟩
        · rw [HST.out]
          refine congrArg (Value.int .i64) ?_
          split <;> omega
        · exact ⟨HB.out.1.trans (HB1.out.mono HB.out.1.size), HB.out.2.step HB1.out⟩
      · have hdl : decide ((j : Int) < (l.length : Int)) = false := by simp; omega
        obtain rfl : j = l.length := by omega
        rw [List.take_length] at hle
        rw [List.take_length]
        have hR := HR.out
        clear HR HH HB hbl
        generalize weight5L l 1 = y at *
        unfold weight5End at hR
        by_cases hk : k = 4
        · subst hk
          rw [if_pos rfl] at hR
          by_cases h1 : 1 < hi ∧ hi ≤ 64
          · rw [if_pos h1] at hR
            have e1 : decide (hi > 1) = true := by simp; omega
            have e2 : decide (hi ≤ 64) = true := by simp; omega
            have e3 : decide (hi < 0) = false := by simp; omega
            obtain ⟨z, rfl⟩ : ∃ z : Nat, hi = (z : Int) := ⟨hi.toNat, by omega⟩
            have hm : y * z ≤ 1000000 * 64 := Nat.mul_le_mul hle (by omega)
            have hw : IntKind.i64.wrap ((y : Int) * (z : Int)) = ((y * z : Nat) : Int) := by rw [← Int.natCast_mul, IntKind.wrap_i64]; omega
            rw [Int.toNat_natCast] at hR
            have HR := Lib.hid hR
            clear hR
            go_wp2
            all_goals
              go_ret
              rw [← HR.out]
              refine ⟨congrArg (fun z => Ending.returned (Value.int .i64 z)) ?_, hb⟩
              have em := Int.natCast_mul y z
              omega
          · rw [if_neg h1] at hR
            by_cases h2 : hi < 0
            · rw [if_pos h2] at hR
              have e1 : decide (hi > 1) = false := by simp; omega
              have e3 : decide (hi < 0) = true := by simp; omega
              have hw : IntKind.i64.wrap ((y : Int) * 40) = ((y * 40 : Nat) : Int) := by rw [IntKind.wrap_i64]; omega
              have HR := Lib.hid hR
              clear hR
              go_wp2
              all_goals
                go_ret
                rw [← HR.out]
                refine ⟨congrArg (fun z => Ending.returned (Value.int .i64 z)) ?_, hb⟩
                omega
            · rw [if_neg h2] at hR
              subst hR
              have e3 : decide (hi < 0) = false := by simp; omega
              by_cases h3 : 1 < hi
              · have e1 : decide (hi > 1) = true := by simp; omega
                have e2 : decide (hi ≤ 64) = false := by simp; omega
                go_wp2
                go_ret
                exact ⟨rfl, hb⟩
              · have e1 : decide (hi > 1) = false := by simp; omega
                go_wp2
                go_ret
                exact ⟨rfl, hb⟩
        · rw [if_neg hk] at hR
          subst hR
          have e4 : (k == 4) = false := by simp [hk]
          go_wp2
          go_ret
          exact ⟨rfl, hb⟩

def Tree.heavy (T : Tree) : Bool := T.great || decide (20000 < T.weight5)

set_option maxHeartbeats 1000000 in
theorem heavy5_any (T : Tree) (v : Value) (w : World) (hat : T.At w v) : Calls Tryd.prog 27 #[v] w fun e w' => e = .returned (.bool T.heavy) ∧ Below w.heap.size w w' := by
  have H1 := Lib.hid (fun W (h : T.At W v) => great_any T v W h)
  have H2 := Lib.hid (fun W (h : T.At W v) => weight5_any T v W h)
  unfold Tree.heavy
  cases T with
  | node k m l lo hi =>
  have HAT := Lib.hid hat
  obtain ⟨A, c, rfl, _, _⟩ := hat.open
  generalize (Tree.node k m l lo hi).great = q at *
  generalize (Tree.node k m l lo hi).weight5 = n at *
  clear hat
  unfold reV reL at *
  have hB0 : Below w.heap.size w (w.alloc (.cells (reL k m A l.length c lo hi).toArray 27)) := (Below.refl _ _).alloc (Nat.le_refl _) _
  have hX0 := BlkIs.new w 27 (reL k m A l.length c lo hi).toArray
  have hc := H1.out _ (HAT.out.step hB0)
  have hc2 := fun u (hu : Below w.heap.size w u) => H2.out u (HAT.out.step hu)
  unfold reL at hc hc2 hB0 hX0
  have HC := Lib.hid hc
  have HC2 := Lib.hid hc2
  clear hc hc2 HAT
  have hgt : decide ((n : Int) > 20000) = decide (20000 < n) := by apply decide_eq_decide.2; omega
  cases q with
  | true =>
    go_enter Tryd.func27, Tryd.ntmps27
    go_wp2_with fail
    refine HC.out.mono ?_
    rintro e w1 ⟨rfl, hb1⟩
    have HB1 := Lib.hid (hB0.trans (hb1.mono hB0.size))
    clear hb1 hB0
    go_wp2
    go_ret
    exact ⟨rfl, HB1.out⟩
  | false =>
    rw [Bool.false_or]
    generalize decide (20000 < n) = b at *
    go_enter Tryd.func27, Tryd.ntmps27
    go_wp2_with fail
    refine HC.out.mono ?_
    rintro e w1 ⟨rfl, hb1⟩
    have HB1 := Lib.hid (hB0.trans (hb1.mono hB0.size))
    obtain ⟨c0, c1, c2, c3, c4, c5, c6, c7⟩ := (hX0.step hb1).eight
    clear hb1 hB0 hX0
    go_wp2_with fail
    refine (HC2.out _ HB1.out).mono ?_
    rintro e w2 ⟨rfl, hb2⟩
    have HB2 := Lib.hid (HB1.out.trans (hb2.mono HB1.out.size))
    clear hb2
    go_wp2
    go_ret
    exact ⟨rfl, HB2.out⟩


set_option maxHeartbeats 1000000 in
theorem heavy_any (T : Tree) (v : Value) (w : World) (hat : T.At w v) : Calls Tryd.prog 12 #[v] w fun e w' => e = .returned (.bool T.heavy) ∧ Below w.heap.size w w' := by
  have H1 := Lib.hid (fun W (h : T.At W v) => heavy5_any T v W h)
  cases T with
  | node k m l lo hi =>
  have HAT := Lib.hid hat
  obtain ⟨A, c, rfl, _, _⟩ := hat.open
  generalize (Tree.node k m l lo hi).heavy = q at *
  clear hat
  unfold reV reL at *
  have hB0 : Below w.heap.size w (w.alloc (.cells (reL k m A l.length c lo hi).toArray 27)) := (Below.refl _ _).alloc (Nat.le_refl _) _
  have hX0 := BlkIs.new w 27 (reL k m A l.length c lo hi).toArray
  have hc := H1.out _ (HAT.out.step hB0)
  unfold reL at hc hB0 hX0
  have HC := Lib.hid hc
  clear hc HAT
  go_enter Tryd.func12, Tryd.ntmps12
  go_wp2_with fail
  refine HC.out.mono ?_
  rintro e w1 ⟨rfl, hb1⟩
  have HB1 := Lib.hid (hB0.trans (hb1.mono hB0.size))
  clear hb1 hB0
  go_wp2
  go_ret
  exact ⟨rfl, HB1.out⟩
end Go.Proofs.YtkpmmnackjimmaaDoor

