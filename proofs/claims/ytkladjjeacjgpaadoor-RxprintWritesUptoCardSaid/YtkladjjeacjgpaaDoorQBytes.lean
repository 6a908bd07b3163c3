/-
  WHAT Bytes OF PACKAGE octs ANSWERS: a contract. Condition: the table of math/bits lies as it is laid.
-/
import Derived.Maps.AppendAt
import Derived.OwnWalkIn
import Derived.Test.YtkladjjeacjgpaaDoorQG03
namespace Go.Proofs.YtkladjjeacjgpaaDoor
open Go.RowKit

/-- a slice of bytes in new memory -/
def BytesIs (l : List Nat) (w : World) : Ending → World → Prop := fun e w' =>
  ∃ A c, e = .returned (.slice A l.length c) ∧ ByteRow w' w'.heap.size A l ∧ Below w.heap.size w w'

theorem info5 : (Tryd.prog.info? 5).map (fun i => (i.zero, i.size, i.bytes)) = some (some (.int .u8 0), 1, 1) := by kernel_rfl

theorem eql_empty (m : Nat → Bool) (w : World) : (binOp .eql 24 (setV m) (.agg #[.int .u64 0, .int .u64 0, .int .u64 0, .int .u64 0])).run Tryd.prog w = .ok (.bool (setEq m (sOf []))) w := by
  have h := eql_set m (sOf []) w
  simp only [setV, wd_none] at h
  exact h

theorem cnt_mems (m : Nat → Bool) : ∀ t, cntN m t = (mems m t).length
  | 0 => rfl
  | t + 1 => by
    have ih := cnt_mems m t
    show cntN m t + (if m t then 1 else 0) = _
    unfold mems at *
    rw [List.range_succ, List.filter_append, List.length_append, ih, List.filter_cons]
    cases m t <;> simp

theorem byteRow_own {w : World} {base : Nat} {e : TypeId} {v : Value} {l : List Nat} (h : w.ownsRow base e 1 v l.length (l.map fun (x : Nat) => Value.int .u8 (x : Int))) :
    ∃ A c, v = .slice A l.length c ∧ ByteRow w w.heap.size A l := by
  rcases h.2 with ⟨rfl, hn⟩ | ⟨g, cap, cur, rfl, _, hh, _⟩
  · exact ⟨none, 0, by rw [hn], fun hne => absurd (List.eq_nil_of_length_eq_zero hn) hne⟩
  · refine ⟨_, _, rfl, fun _ => ⟨g, 0, rfl, (Array.getElem?_eq_some_iff.1 hh).1, fun k x hk => ?_⟩⟩
    have hlt : k < l.length := (List.getElem?_eq_some_iff.1 hk).1
    have := h.cellAt k (by omega)
    rw [Nat.zero_add, this, List.getElem?_map, hk]; rfl

attribute [local go_sem] Oper.semAt_some

theorem mems_empty {m : Nat → Bool} (h : setEq m (sOf []) = true) : mems m 256 = [] := by
  have h2 := setEq_iff.1 h
  unfold mems
  rw [List.filter_eq_nil_iff]
  intro b hb
  rw [h2 b (List.mem_range.1 hb)]
  simp [sOf]

end Go.Proofs.YtkladjjeacjgpaaDoor

