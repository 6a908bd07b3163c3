/-
  A ROW OF TREES THAT CAME IN, and an array of two numbers. No condition.
-/
import Derived.Test.YtfodpkciahkehaaTrod
import Derived.Laws.IdiomArrays
namespace Go.Proofs.Ytfodpkciahkehaa
open Go.ChangeShapes Go.WideShapes Go.ChangeAt Go.RowKit Go.Deep

section
variable {H : Type} {enc : TypeId × Value → H} {W : World} {base : Nat} {spare : Nat → Bool} {held : Bool}

theorem trod_row {fuel : Nat} {v : Value} {x : DataW H × List MemPlace} (hf : DataW.trod enc Try.prog W base spare held fuel 25 [v] = some x) :
    ∃ (A : Option Addr) (l : List Tree) (c : Nat), v = .slice A l.length c ∧ (l.length ≤ c ∧ c ≤ 9223372036854775807) ∧ (l ≠ [] → ∃ g o, A = some ⟨g, o, none⟩ ∧ AllAt W l g o) ∧ nodesL l ≤ Rows.uptoBulk x.1 := by
  rcases DataW.trod_slice Try.underlying25 hf with ⟨e5, hx⟩ | ⟨a, len, cap, elems, rest, n', hn', e5, hx, _, hl, hm, hel, hcell, _, _⟩
  · simp at e5
    subst e5
    exact ⟨none, [], 0, rfl, ⟨Nat.le_refl _, by omega⟩, fun h => absurd rfl h, by simp [nodesL]⟩
  · simp at e5
    subst e5
    have hone : ∀ i, i < len → ∃ (T : Tree) (cs' : List Value), T.At W (.agg cs'.toArray) ∧ cs'.length = 8 ∧ W.cells? base (a.add (i * 8)) 8 = some cs' ∧ ∃ e, elems[i]? = some e ∧ T.nodes ≤ Rows.uptoBulk e.1 := fun i hi => by
      have h1 := hcell i hi
      rw [cells_re, List.getElem?_eq_getElem (by omega), Option.bind_eq_some_iff] at h1
      obtain ⟨cs', h2, h3⟩ := h1
      obtain ⟨T, g1, g2, g3⟩ := trod_re n' cs' _ h3
      exact ⟨T, cs', g1, g2, h2, _, List.getElem?_eq_getElem (by omega), g3⟩
    have hone2 : ∀ i, i < len → ∃ q : Tree × List Value, q.1.At W (.agg q.2.toArray) ∧ q.2.length = 8 ∧ W.cells? base (a.add (i * 8)) 8 = some q.2 ∧ ∃ e, elems[i]? = some e ∧ q.1.nodes ≤ Rows.uptoBulk e.1 := fun i hi => by
      obtain ⟨T, cs', h⟩ := hone i hi
      exact ⟨(T, cs'), h⟩
    obtain ⟨F, hF⟩ := choose_lt hone2
    have hll : ((List.range len).map fun i => (F i).1).length = len := by simp
    have hcellx : ∀ i, i < len → ∀ j v, (F i).2[j]? = some v → W.cell? ((a.add (i * 8)).add j) = some v := fun i hi j v hv => by
      have h8 := (hF i hi).2.1
      have hj : j < 8 := by have := (List.getElem?_eq_some_iff.1 hv).1; omega
      rw [← hv]
      exact (World.cells?_some (hF i hi).2.2.1).2.2 j hj
    refine ⟨some a, (List.range len).map fun i => (F i).1, cap, by rw [hll], ⟨by rw [hll]; exact hl, by unfold maxLen at hm; omega⟩, fun hne => ?_, ?_⟩
    · have hpos : 0 < len := by
        rcases Nat.eq_zero_or_pos len with h | h
        · subst h; simp at hne
        · exact h
      obtain ⟨ab, ao, spot⟩ := a
      have hspot : spot = none := by
        obtain ⟨v, r, hv⟩ : ∃ v r, (F 0).2 = v :: r := List.exists_cons_of_ne_nil (by intro e; have := (hF 0 hpos).2.1; rw [e] at this; simp at this)
        have h0 := hcellx 0 hpos 0 v (by rw [hv]; rfl)
        simpa [Addr.add] using World.cell?_spot h0
      subst hspot
      refine ⟨ab, ao, rfl, AllAt.mk _ ab ao fun i hi => ?_⟩
      have hi' : i < len := by simpa using hi
      refine ⟨(F i).2, ?_, (hF i hi').2.1, fun j v hv => ?_⟩
      · simpa using (hF i hi').1
      · have := hcellx i hi' j v hv
        rw [Addr.add_lit, Addr.add_lit] at this
        exact this
    · have hnl := nodesL_le ((List.range len).map fun i => (F i).1) (elems.map (·.1)) (by simp; omega) (fun i h h' => by
        have hi' : i < len := by simpa using h
        obtain ⟨e, he, hle⟩ := (hF i hi').2.2.2
        have he2 : elems[i]'(by simpa using h') = e := by
          have := List.getElem?_eq_getElem (l := elems) (i := i) (by simpa using h')
          rw [he] at this
          exact (Option.some.inj this).symm
        simp [he2]; exact hle)
      subst hx
      simp only [Rows.uptoBulk]
      omega

/-- a row of trees lies below the heap's end -/
theorem AllAt.low {l : List Tree} {g o : Nat} (h : AllAt W l g o) (hne : l ≠ []) : g < W.heap.size := by
  match l, hne with
  | t :: r, _ =>
    unfold AllAt at h
    obtain ⟨⟨cs, _, h2, h3⟩, _⟩ := h
    obtain ⟨v, r', rfl⟩ : ∃ v r', cs = v :: r' := List.exists_cons_of_ne_nil (by intro e; rw [e] at h2; simp at h2)
    exact World.block_lt_of_cell? W ⟨g, o + 0, none⟩ (h3 0 v rfl)

/-- a row of trees -/
theorem arg_res {r : Reach} {b0 : Nat} {v : Value} {d : DataW H} {ps : List MemPlace} (hval : Value.okWide Try.prog W r b0 25 v) (hd : DataW.Trod enc Try.prog W base spare held 25 v d ps) :
    ∃ (A : Option Addr) (l : List Tree) (c : Nat), v = .slice A l.length c ∧ (l.length ≤ c ∧ c ≤ 9223372036854775807) ∧ (l ≠ [] → ∃ g o, A = some ⟨g, o, none⟩ ∧ g < W.heap.size ∧ AllAt W l g o) ∧ nodesL l ≤ Rows.uptoBulk d := by
  obtain ⟨a1, len, cap, rfl⟩ := okWide_slice Try.underlying25 hval
  obtain ⟨fuel, hf⟩ := hd
  obtain ⟨A, l, c, h1, h2, h3, h4⟩ := trod_row (by simpa [Value.cells] using hf)
  exact ⟨A, l, c, h1, h2, fun hne => (h3 hne).imp fun g h => h.imp fun o h => ⟨h.1, h.2.low hne, h.2⟩, h4⟩

theorem trod_array2 {P : Program} {t e : TypeId} {fuel : Nat} {c0 c1 : Value} {x : DataW H × List MemPlace} (ht : P.underlying t = some (.array 2 e)) (hce : P.cellsOf e = 1)
    (h : DataW.trod enc P W base spare held fuel t [c0, c1] = some x) :
    ∃ y0 y1 n, DataW.trod enc P W base spare held n e [c0] = some y0 ∧ DataW.trod enc P W base spare held n e [c1] = some y1 := by
  cases fuel with
  | zero => simp [DataW.trod] at h
  | succ n =>
    unfold DataW.trod at h
    rw [ht] at h
    have r2 : List.range 2 = [0, 1] := rfl
    simp [r2, hce] at h
    obtain ⟨_, h⟩ := h
    cases h0 : DataW.trod enc P W base spare held n e [c0] with
    | none => simp [h0] at h
    | some y0 =>
      cases h1 : DataW.trod enc P W base spare held n e [c1] with
      | none => simp [h0, h1] at h
      | some y1 => exact ⟨y0, y1, n, h0, h1⟩
theorem cells_two : Try.prog.cellsOf 38 = 2 := by kernel_rfl
theorem two_ofT {α : Type} (l : List α) (h : l.length = 2) : ∃ a b, l = [a, b] := by
  match l, h with
  | [a, b], _ => exact ⟨a, b, rfl⟩
/-- two numbers -/
theorem arg_two {r : Reach} {b0 : Nat} {v : Value} {d : DataW H} {ps : List MemPlace} (hval : Value.okWide Try.prog W r b0 38 v) (hd : DataW.Trod enc Try.prog W base spare held 38 v d ps) : ∃ x y : Int, v = .agg #[.int .i64 x, .int .i64 y] := by
  obtain ⟨cs, rfl, hsz, _⟩ : ∃ cs, v = .agg cs ∧ cs.size = Try.prog.cellsOf 38 ∧ Row.okWide Try.prog W r b0 38 cs := by
    simpa [Value.okWide, Try.underlying38] using hval
  obtain ⟨fuel, hf⟩ := hd
  rw [cells_two] at hsz
  obtain ⟨c0, c1, hc⟩ := two_ofT cs.toList (by simpa using hsz)
  obtain rfl : cs = #[c0, c1] := by cases cs; simp_all
  simp [Value.cells] at hf
  obtain ⟨y0, y1, n, f0, f1⟩ := trod_array2 Try.underlying38 cells_int hf
  obtain ⟨x, e0, _, _⟩ := DataW.trod_int Try.underlying3 f0
  obtain ⟨y, e1, _, _⟩ := DataW.trod_int Try.underlying3 f1
  simp at e0 e1
  exact ⟨x, y, by rw [e0, e1]⟩
end

end Go.Proofs.Ytfodpkciahkehaa
