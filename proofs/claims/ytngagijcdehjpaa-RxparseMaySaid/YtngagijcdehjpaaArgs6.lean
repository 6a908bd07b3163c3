/-
  FRAGMENTS THAT CAME IN. No condition.
-/
import Derived.Test.YtngagijcdehjpaaTrod
import Derived.Test.YtngagijcdehjpaaPd1
import Derived.Laws.IdiomArrays
namespace Go.Proofs.Ytngagijcdehjpaa
open Go.ChangeShapes Go.WideShapes Go.ChangeAt Go.RowKit Go.Deep
section
variable {H : Type} {enc : TypeId × Value → H} {W : World} {base : Nat} {spare : Nat → Bool} {held : Bool}
theorem cells_frag : Try.prog.cellsOf 42 = 9 := by kernel_rfl
theorem cells_strF : Try.prog.cellsOf 9 = 1 := by kernel_rfl
theorem nine_ofT {α : Type} (l : List α) (h : l.length = 9) : ∃ a r, l = a :: r ∧ r.length = 8 := by
  match l, h with
  | a :: r, h => exact ⟨a, r, rfl, by simpa using h⟩
theorem trod_frag {fuel : Nat} {cs : List Value} {x : DataW H × List MemPlace} (h : DataW.trod enc Try.prog W base spare held fuel 42 cs = some x) :
    ∃ (n : List UInt8) (T : Tree) (cs' : List Value), cs = .string ⟨n.toArray⟩ :: cs' ∧ T.At W (.agg cs'.toArray) ∧ cs'.length = 8 := by
  obtain ⟨y0, y1, n, rfl, hlen, f0, f1⟩ := trod_struct2 Try.underlying42 h
  rw [cells_frag] at hlen
  obtain ⟨a, r, rfl, hr⟩ := nine_ofT cs hlen
  simp only [cells_strF, cells_re, List.drop_zero, List.drop_succ_cons, List.take_succ_cons, List.take_zero] at f0 f1
  obtain ⟨s, hs, _, _⟩ := DataW.trod_string Try.underlying9 f0
  simp at hs
  subst hs
  rw [List.take_of_length_le (by omega)] at f1
  obtain ⟨T, h1, _, _⟩ := trod_re _ _ _ f1
  exact ⟨s.data.toList, T, r, by simp, h1, hr⟩
theorem trod_frags {fuel : Nat} {v : Value} {x : DataW H × List MemPlace} (hf : DataW.trod enc Try.prog W base spare held fuel 24 [v] = some x) : ∃ fr, FrsAt W fr v := by
  rcases DataW.trod_slice Try.underlying24 hf with ⟨e5, hx⟩ | ⟨a, len, cap, elems, rest, n', hn', e5, hx, _, hl, hm, hel, hcell, _, _⟩
  · simp at e5
    subst e5
    exact ⟨[], none, 0, rfl, ⟨Nat.le_refl _, by omega⟩, fun h => absurd rfl h⟩
  · simp at e5
    subst e5
    have hone : ∀ i, i < len → ∃ q : (List UInt8 × Tree) × List Value, q.1.2.At W (.agg q.2.toArray) ∧ q.2.length = 8 ∧ W.cells? base (a.add (i * 9)) 9 = some (.string ⟨q.1.1.toArray⟩ :: q.2) := fun i hi => by
      have h1 := hcell i hi
      rw [cells_frag, List.getElem?_eq_getElem (by omega), Option.bind_eq_some_iff] at h1
      obtain ⟨cs', h2, h3⟩ := h1
      obtain ⟨n, T, cs2, rfl, g1, g2⟩ := trod_frag h3
      exact ⟨((n, T), cs2), g1, g2, h2⟩
    obtain ⟨F, hF⟩ := choose_lt hone
    have hcellx : ∀ i, i < len → ∀ j v, (Value.string ⟨(F i).1.1.toArray⟩ :: (F i).2)[j]? = some v → W.cell? ((a.add (i * 9)).add j) = some v := fun i hi j v hv => by
      have h8 := (hF i hi).2.1
      have hj : j < 9 := by have := (List.getElem?_eq_some_iff.1 hv).1; simp at this; omega
      rw [← hv]
      exact (World.cells?_some (hF i hi).2.2).2.2 j hj
    refine ⟨(List.range len).map fun i => (F i).1, some a, cap, by simp, ⟨by simpa using hl, by unfold maxLen at hm; omega⟩, fun hne => ?_⟩
    have hpos : 0 < len := by
      rcases Nat.eq_zero_or_pos len with h | h
      · subst h; simp at hne
      · exact h
    obtain ⟨ab, ao, spot⟩ := a
    have hspot : spot = none := by
      have h0 := hcellx 0 hpos 0 _ rfl
      simpa [Addr.add] using World.cell?_spot h0
    subst hspot
    refine ⟨ab, ao, rfl, fun i hi => ?_⟩
    have hi' : i < len := by simpa using hi
    refine ⟨(F i).2, ?_, (hF i hi').2.1, fun j v hv => ?_⟩
    · simpa using (hF i hi').1
    · have hv2 : (Value.string ⟨(F i).1.1.toArray⟩ :: (F i).2)[j]? = some v := by simpa using hv
      have := hcellx i hi' j v hv2
      rw [Addr.add_lit, Addr.add_lit] at this
      exact this
set_option maxRecDepth 100000 in
/-- fragments -/
theorem arg_frs {r : Reach} {b0 : Nat} {v : Value} {d : DataW H} {ps : List MemPlace} (hval : Value.okWide Try.prog W r b0 24 v) (hd : DataW.Trod enc Try.prog W base spare held 24 v d ps) : ∃ fr, FrsAt W fr v := by
  obtain ⟨a1, len, cap, rfl⟩ := okWide_slice Try.underlying24 hval
  obtain ⟨fuel, hf⟩ := hd
  exact trod_frags (by simpa [Value.cells] using hf)
end
end Go.Proofs.Ytngagijcdehjpaa
