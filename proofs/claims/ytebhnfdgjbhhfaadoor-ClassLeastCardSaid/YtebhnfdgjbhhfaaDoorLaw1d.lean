/-
  WHAT hacklelaw01's OctsMakes ANSWERS: true. Condition: the table of math/bits lies as it is laid; the bytes lie in memory.
-/
import Derived.Test.YtebhnfdgjbhhfaaDoorLaw1a
namespace Go.Proofs.YtebhnfdgjbhhfaaDoor
open Go.RowKit

theorem ByteRow.keep {w w' : World} {B : Nat} {A : Option Addr} {l : List Nat} (h : ByteRow w B A l) (hB : B ≤ w.heap.size) (hb : Below w.heap.size w w') : ByteRow w' B A l := fun hl => by
  obtain ⟨b, off, rfl, hlt, hc⟩ := h hl
  refine ⟨b, off, rfl, hlt, fun k x hk => ?_⟩
  rw [hb.cell (by show b < w.heap.size; omega)]
  exact hc k x hk
theorem ByteRow.far {w : World} {B : Nat} {A : Option Addr} {l : List Nat} (h : ByteRow w B A l) {p : Addr} (hp : B ≤ p.block) (v : Value) : ByteRow (w.setCell p v) B A l := fun hl => by
  obtain ⟨b, off, rfl, hlt, hc⟩ := h hl
  refine ⟨b, off, rfl, hlt, fun k x hk => ?_⟩
  rw [(Below.refl B w).setCell hp v |>.cell (by exact hlt)]
  exact hc k x hk
theorem ByteRow.wide {w : World} {B B' : Nat} {A : Option Addr} {l : List Nat} (h : ByteRow w B A l) (hB : B ≤ B') : ByteRow w B' A l := fun hl => by
  obtain ⟨b, off, rfl, hlt, hc⟩ := h hl
  exact ⟨b, off, rfl, by omega, hc⟩

theorem free_load {P : Program} {o : Oper} {a : Act} {w : World} {v : Value} (t : TypeId) (x : Operand) (p : Value) (ho : o.op = .load t x) (hx : a.eval x = p) (h : (Instr.loadAt t p).run P w = .ok v w) : freeAt P o a w v := by
  unfold freeAt execOp
  simp only [ho, hx, Sem.run_bind, Sem.run_pure, h, Result.andThen_ok]
  exact free_val

end Go.Proofs.YtebhnfdgjbhhfaaDoor

