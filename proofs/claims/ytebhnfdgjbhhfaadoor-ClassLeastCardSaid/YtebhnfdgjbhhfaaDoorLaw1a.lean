/-
  WHAT hacklelaw01's alive AND OctsTwo ANSWER: true. Condition: the table of math/bits lies as it is laid.
-/
import Derived.Test.YtebhnfdgjbhhfaaDoorRef1c
import Derived.Test.YtebhnfdgjbhhfaaDoorRef1d
namespace Go.Proofs.YtebhnfdgjbhhfaaDoor
open Go.RowKit

def TrueIs (w : World) : Ending → World → Prop := fun e w' => e = .returned (.bool true) ∧ Below w.heap.size w w'

theorem alive_1 : cntN (sRange 97 122) 256 = 26 := by decide +kernel
theorem alive_2 : nextS (sOf [5, 9]) 6 = 9 := by decide +kernel
theorem alive_3 : nextS (sOf [5]) 6 = -1 := by decide +kernel

theorem eql_true {m n : Nat → Bool} (h : ∀ b, b < 256 → m b = n b) (w : World) : (binOp .eql 35 (setV m) (setV n)).run Tryd.prog w = .ok (.bool true) w := by
  rw [eql_set, setEq_of h]

/-- what is held of the world, in a region: it has grown; two sets lie in blocks g and k -/
theorem held_two {w2 W W' : World} {g k : Nat} {t : TypeId} {a b c d p q r s : Value} (hx : BlkIs w2 g t #[a, b, c, d]) (hy : BlkIs w2 k t #[p, q, r, s])
    (h : Below w2.heap.size w2 W ∧ W.cell? ⟨g, 0, none⟩ = some a ∧ W.cell? ⟨g, 1, none⟩ = some b ∧ W.cell? ⟨g, 2, none⟩ = some c ∧ W.cell? ⟨g, 3, none⟩ = some d ∧
      W.cell? ⟨k, 0, none⟩ = some p ∧ W.cell? ⟨k, 1, none⟩ = some q ∧ W.cell? ⟨k, 2, none⟩ = some r ∧ W.cell? ⟨k, 3, none⟩ = some s) (hb : Below W.heap.size W W') :
    Below w2.heap.size w2 W' ∧ W'.cell? ⟨g, 0, none⟩ = some a ∧ W'.cell? ⟨g, 1, none⟩ = some b ∧ W'.cell? ⟨g, 2, none⟩ = some c ∧ W'.cell? ⟨g, 3, none⟩ = some d ∧
      W'.cell? ⟨k, 0, none⟩ = some p ∧ W'.cell? ⟨k, 1, none⟩ = some q ∧ W'.cell? ⟨k, 2, none⟩ = some r ∧ W'.cell? ⟨k, 3, none⟩ = some s :=
  have hb2 := h.1.trans (hb.mono h.1.size)
  have hx2 := (hx.step hb2).four
  have hy2 := (hy.step hb2).four
  ⟨hb2, hx2.1, hx2.2.1, hx2.2.2.1, hx2.2.2.2.1, hy2.1, hy2.2.1, hy2.2.2.1, hy2.2.2.2.1⟩

theorem refRange_all (w : World) : Calls Tryd.prog 19 #[.int .i64 0, .int .i64 255] w fun e w' => e = .returned (setV (sRange 0 255)) ∧ Below w.heap.size w w' := refRange_any 0 255 (by decide) w

end Go.Proofs.YtebhnfdgjbhhfaaDoor

