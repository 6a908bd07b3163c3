/-
  WHAT hacklelaw04's weight, Great AND slow ANSWER, at every tree: contracts. No condition.
-/
import Derived.Test.YtkladjjeacjgpaaDoorQG04
namespace Go.Proofs.YtkladjjeacjgpaaDoor
open Go.RowKit

mutual
def Tree.weight : Tree → Nat
  | .node k _ l _ hi => weightEnd k hi (weightL l 1)
def weightL : List Tree → Nat → Nat
  | [], n => n
  | t :: r, n => weightL r (min (n + t.weight) 1000000)
def weightEnd (k hi : Int) (n : Nat) : Nat :=
  if k = 4 then (if 1 < hi ∧ hi ≤ 64 then min (n * hi.toNat) 1000000 else if hi < 0 then min (n * 70) 1000000 else n) else n
end
theorem weightL_append : ∀ (l r : List Tree) (n : Nat), weightL (l ++ r) n = weightL r (weightL l n)
  | [], r, n => rfl
  | a :: l, r, n => by simp only [List.cons_append, weightL, weightL_append l r]
theorem weightL_take {l : List Tree} {i n : Nat} (h : i < l.length) : weightL (l.take (i + 1)) n = min (weightL (l.take i) n + (l[i]).weight) 1000000 := by
  rw [← List.take_append_getElem h, weightL_append]; rfl
theorem weightL_le : ∀ (l : List Tree) (n : Nat), n ≤ 1000000 → weightL l n ≤ 1000000
  | [], n, h => h
  | t :: r, n, h => by unfold weightL; exact weightL_le r _ (Nat.min_le_right _ _)
theorem weight_le (T : Tree) : T.weight ≤ 1000000 := by
  cases T with
  | node k m l lo hi =>
    unfold Tree.weight weightEnd
    have := weightL_le l 1 (by omega)
    split
    · split
      · exact Nat.min_le_right _ _
      · split
        · exact Nat.min_le_right _ _
        · exact this
    · exact this
theorem min_case (a b : Int) : (if a ≤ b then a else b) = min a b := by omega

def Tree.great (T : Tree) : Bool := decide (400 < wrap64 (T.nodes : Int))
def Tree.slow (T : Tree) : Bool := T.great || decide (20000 < T.weight)

set_option maxHeartbeats 1000000 in
theorem great_any (T : Tree) (v : Value) (w : World) (hat : T.At w v) : Calls Tryd.prog 7 #[v] w fun e w' => e = .returned (.bool T.great) ∧ Below w.heap.size w w' := by
  have H1 := Lib.hid (fun W (h : T.At W v) => refNodes_any T v W h)
  simp only [wrap_is] at H1
  unfold Tree.great
  cases T with
  | node k m l lo hi =>
  have HAT := Lib.hid hat
  obtain ⟨A, c, rfl, _, _⟩ := hat.open
  generalize wrap64 ((Tree.node k m l lo hi).nodes : Int) = n at *
  clear hat
  unfold reV reL at *
  have hB0 : Below w.heap.size w (w.alloc (.cells (reL k m A l.length c lo hi).toArray 27)) := (Below.refl _ _).alloc (Nat.le_refl _) _
  have hc := H1.out _ (HAT.out.step hB0)
  unfold reL at hc hB0
  have HC := Lib.hid hc
  clear hc HAT
  have hgt : decide (n > 400) = decide (400 < n) := rfl
  go_enter Tryd.func7, Tryd.ntmps7
  go_wp2_with fail
  refine HC.out.mono ?_
  rintro e w1 ⟨rfl, hb1⟩
  have HB1 := Lib.hid (hB0.trans (hb1.mono hB0.size))
  clear hb1 hB0
  go_wp2
  go_ret
  exact ⟨rfl, HB1.out⟩

end Go.Proofs.YtkladjjeacjgpaaDoor

