/-
  AN AUTOMATON WITH CHOICES THAT CAME IN, and a row of numbers. No condition.
-/
import Derived.Laws.IdiomArrays
import Derived.Test.YtojejnjjenmfaaaQG04
import Derived.Test.YtojejnjjenmfaaaQG05
namespace Go.Proofs.Ytojejnjjenmfaaa
open Go.ChangeShapes Go.WideShapes Go.ChangeAt Go.RowKit Go.Deep

section
variable {H : Type} {enc : TypeId × Value → H} {W : World} {base : Nat} {spare : Nat → Bool} {held : Bool}

/-- a row of whatever things, of k cells each -/
theorem trod_rowG {α : Type} [Inhabited α] {te ts : TypeId} {k : Nat} (hu : Try.prog.underlying ts = some (.slice te)) (hce : Try.prog.cellsOf te = k) (hk : 0 < k) (Q : α → List Value → Prop)
    (hone : ∀ (fuel : Nat) (cs : List Value) (x : DataW H × List MemPlace), cs.length = k → DataW.trod enc Try.prog W base spare held fuel te cs = some x → ∃ a, Q a cs)
    {fuel : Nat} {v : Value} {x : DataW H × List MemPlace} (hf : DataW.trod enc Try.prog W base spare held fuel ts [v] = some x) :
    ∃ (A : Option Addr) (l : List α) (c : Nat), v = .slice A l.length c ∧ (l.length ≤ c ∧ c ≤ 9223372036854775807) ∧ (l ≠ [] → ∃ b o, A = some ⟨b, o, none⟩ ∧ b < W.heap.size ∧ ∀ (i : Nat) (h : i < l.length), ∃ cs, Q l[i] cs ∧ ∀ j v, cs[j]? = some v → W.cell? ⟨b, o + i * k + j, none⟩ = some v) := by
  rcases DataW.trod_slice hu hf with ⟨e5, hx⟩ | ⟨a, len, cap, elems, rest, n', hn', e5, hx, _, hl, hm, hel, hcell, _, _⟩
  · simp at e5
    subst e5
    exact ⟨none, [], 0, rfl, ⟨Nat.le_refl _, by omega⟩, fun h => absurd rfl h⟩
  · simp at e5
    subst e5
    have hone2 : ∀ i, i < len → ∃ q : α × List Value, Q q.1 q.2 ∧ W.cells? base (a.add (i * k)) k = some q.2 := fun i hi => by
      have h1 := hcell i hi
      rw [hce, List.getElem?_eq_getElem (by omega), Option.bind_eq_some_iff] at h1
      obtain ⟨cs', h2, h3⟩ := h1
      obtain ⟨q, hq⟩ := hone _ _ _ (World.cells?_some h2).2.1 h3
      exact ⟨(q, cs'), hq, h2⟩
    obtain ⟨F, hF⟩ := choose_lt hone2
    have hll : ((List.range len).map fun i => (F i).1).length = len := by simp
    have hcellx : ∀ i, i < len → ∀ j v, (F i).2[j]? = some v → W.cell? ((a.add (i * k)).add j) = some v := fun i hi j v hv => by
      have h8 := World.cells?_some (hF i hi).2
      have hj : j < k := by have := (List.getElem?_eq_some_iff.1 hv).1; have := h8.2.1; omega
      rw [← hv]
      exact h8.2.2 j hj
    refine ⟨some a, (List.range len).map fun i => (F i).1, cap, by rw [hll], ⟨by rw [hll]; exact hl, by unfold maxLen at hm; omega⟩, fun hne => ?_⟩
    have hpos : 0 < len := by
      rcases Nat.eq_zero_or_pos len with h | h
      · subst h; simp at hne
      · exact h
    obtain ⟨ab, ao, spot⟩ := a
    obtain ⟨v, r, hv⟩ : ∃ v r, (F 0).2 = v :: r := List.exists_cons_of_ne_nil (by intro e; have := (World.cells?_some (hF 0 hpos).2).2.1; rw [e] at this; simp at this; omega)
    have h0 := hcellx 0 hpos 0 v (by rw [hv]; rfl)
    have hspot : spot = none := by simpa [Addr.add] using World.cell?_spot h0
    subst hspot
    have h0b : W.cell? ⟨ab, ao, none⟩ = some v := by simpa [Addr.add_lit] using h0
    refine ⟨ab, ao, rfl, World.block_lt_of_cell? W ⟨ab, ao, none⟩ h0b, fun i hi => ?_⟩
    have hi' : i < len := by simpa using hi
    refine ⟨(F i).2, ?_, fun j v hv => ?_⟩
    · simpa using (hF i hi').1
    · have := hcellx i hi' j v hv
      rw [Addr.add_lit, Addr.add_lit] at this
      exact this

theorem cells_boolA : Try.prog.cellsOf 4 = 1 := by kernel_rfl
theorem cells_rowA : Try.prog.cellsOf 26 = 1 := by kernel_rfl
theorem four_ofA {α : Type} (l : List α) (h : l.length = 4) : ∃ a b c d, l = [a, b, c, d] := by
  match l, h with
  | [a, b, c, d], _ => exact ⟨a, b, c, d, rfl⟩
theorem six_ofA {α : Type} (l : List α) (h : l.length = 6) : ∃ a b c d e f, l = [a, b, c, d, e, f] := by
  match l, h with
  | [a, b, c, d, e, f], _ => exact ⟨a, b, c, d, e, f, rfl⟩
theorem trod_ints {fuel : Nat} {v : Value} {x : DataW H × List MemPlace} (hf : DataW.trod enc Try.prog W base spare held fuel 26 [v] = some x) : ∃ l, IntsV W l v := by
  obtain ⟨A, l, c, h1, h2, h3⟩ := trod_rowG (α := Int) Try.underlying26 cells_int (by decide) (fun a cs => cs = [.int .i64 a]) (fun fuel cs x hlen h => by
    obtain ⟨n, e, _, _⟩ := DataW.trod_int Try.underlying3 h
    exact ⟨n, e⟩) hf
  refine ⟨l, A, c, h1, h2, fun hne => ?_⟩
  obtain ⟨b, o, e, hlt, hg⟩ := h3 hne
  refine ⟨b, o, e, hlt, fun i hi => ?_⟩
  obtain ⟨cs, e2, h4⟩ := hg i hi
  have := h4 0 _ (by rw [e2]; rfl)
  simpa using this
theorem trod_boolsA {fuel : Nat} {v : Value} {x : DataW H × List MemPlace} (hf : DataW.trod enc Try.prog W base spare held fuel 28 [v] = some x) : ∃ l, BoolsV W l v := by
  obtain ⟨A, l, c, h1, h2, h3⟩ := trod_rowG (α := Bool) Try.underlying28 cells_boolA (by decide) (fun a cs => cs = [.bool a]) (fun fuel cs x hlen h => by
    obtain ⟨n, e, _⟩ := DataW.trod_bool Try.underlying4 h
    exact ⟨n, e⟩) hf
  refine ⟨l, A, c, h1, h2, fun hne => ?_⟩
  obtain ⟨b, o, e, hlt, hg⟩ := h3 hne
  refine ⟨b, o, e, hlt, fun i hi => ?_⟩
  obtain ⟨cs, e2, h4⟩ := hg i hi
  have := h4 0 _ (by rw [e2]; rfl)
  simpa using this
theorem trod_rowsA {fuel : Nat} {v : Value} {x : DataW H × List MemPlace} (hf : DataW.trod enc Try.prog W base spare held fuel 27 [v] = some x) : ∃ l, RowsI W l v := by
  obtain ⟨A, l, c, h1, h2, h3⟩ := trod_rowG (α := List Int) Try.underlying27 cells_rowA (by decide) (fun a cs => ∃ u, cs = [u] ∧ IntsV W a u) (fun fuel cs x hlen h => by
    rcases DataW.trod_slice Try.underlying26 h with ⟨e5, _⟩ | ⟨a, len, cap, elems, rest, n', hn', e5, _⟩
    all_goals
      subst e5
      obtain ⟨l, hl⟩ := trod_ints h
      exact ⟨l, _, rfl, hl⟩) hf
  refine ⟨l, A, c, h1, h2, fun hne => ?_⟩
  obtain ⟨b, o, e, hlt, hg⟩ := h3 hne
  refine ⟨b, o, e, hlt, fun i hi => ?_⟩
  obtain ⟨cs, ⟨u, e2, h5⟩, h4⟩ := hg i hi
  have := h4 0 _ (by rw [e2]; rfl)
  exact ⟨u, by simpa using this, h5⟩
theorem trod_setsA {fuel : Nat} {v : Value} {x : DataW H × List MemPlace} (hf : DataW.trod enc Try.prog W base spare held fuel 25 [v] = some x) : ∃ l, SetsV W l v := by
  obtain ⟨A, l, c, h1, h2, h3⟩ := trod_rowG (α := Nat → Bool) Try.underlying25 cells_setT (by decide) (fun m cs => cs = [.int .u64 (wd m 0 : Nat), .int .u64 (wd m 1 : Nat), .int .u64 (wd m 2 : Nat), .int .u64 (wd m 3 : Nat)]) (fun fuel cs x hlen h => by
    obtain ⟨c0, c1, c2, c3, rfl⟩ := four_ofA cs hlen
    obtain ⟨m, rfl, rfl, rfl, rfl⟩ := set_cellsT h
    exact ⟨m, rfl⟩) hf
  refine ⟨l, A, c, h1, h2, fun hne => ?_⟩
  obtain ⟨b, o, e, hlt, hg⟩ := h3 hne
  refine ⟨b, o, e, hlt, fun i hi k hk => ?_⟩
  obtain ⟨cs, e2, h4⟩ := hg i hi
  refine h4 k _ ?_
  rw [e2]
  match k, hk with
  | 0, _ => rfl
  | 1, _ => rfl
  | 2, _ => rfl
  | 3, _ => rfl
  | k + 4, h => omega
theorem trod_struct6 {P : Program} {t : TypeId} {f0 f1 f2 f3 f4 f5 : Field} {fuel : Nat} {cs : List Value} {x : DataW H × List MemPlace} (ht : P.underlying t = some (.struct #[f0, f1, f2, f3, f4, f5])) (h : DataW.trod enc P W base spare held fuel t cs = some x) :
    ∃ y0 y1 y2 y3 y4 y5 n, cs.length = P.cellsOf t ∧ DataW.trod enc P W base spare held n f0.type ((cs.drop f0.offset).take (P.cellsOf f0.type)) = some y0 ∧
      DataW.trod enc P W base spare held n f1.type ((cs.drop f1.offset).take (P.cellsOf f1.type)) = some y1 ∧ DataW.trod enc P W base spare held n f2.type ((cs.drop f2.offset).take (P.cellsOf f2.type)) = some y2 ∧
      DataW.trod enc P W base spare held n f3.type ((cs.drop f3.offset).take (P.cellsOf f3.type)) = some y3 ∧ DataW.trod enc P W base spare held n f4.type ((cs.drop f4.offset).take (P.cellsOf f4.type)) = some y4 ∧
      DataW.trod enc P W base spare held n f5.type ((cs.drop f5.offset).take (P.cellsOf f5.type)) = some y5 := by
  obtain ⟨xs, n, hn, rfl, hl, hlen, hf⟩ := DataW.trod_struct ht h
  match xs, hlen with
  | [y0, y1, y2, y3, y4, y5], _ => exact ⟨y0, y1, y2, y3, y4, y5, n, hl, by simpa using hf 0 f0 rfl, by simpa using hf 1 f1 rfl, by simpa using hf 2 f2 rfl, by simpa using hf 3 f3 rfl, by simpa using hf 4 f4 rfl, by simpa using hf 5 f5 rfl⟩
theorem cells_nfaA : Try.prog.cellsOf 42 = 6 := by kernel_rfl
theorem cells_setsA : Try.prog.cellsOf 25 = 1 := by kernel_rfl
theorem cells_rowsA : Try.prog.cellsOf 27 = 1 := by kernel_rfl
theorem cells_boolsA : Try.prog.cellsOf 28 = 1 := by kernel_rfl
theorem trod_nfa {fuel : Nat} {cs : List Value} {x : DataW H × List MemPlace} (h : DataW.trod enc Try.prog W base spare held fuel 42 cs = some x) : ∃ N, NfaAt W N (.agg cs.toArray) := by
  obtain ⟨y0, y1, y2, y3, y4, y5, n, hlen, f0, f1, f2, f3, f4, f5⟩ := trod_struct6 Try.underlying42 h
  rw [cells_nfaA] at hlen
  obtain ⟨c0, c1, c2, c3, c4, c5, rfl⟩ := six_ofA cs hlen
  simp only [cells_int, cells_setsA, cells_rowA, cells_rowsA, cells_boolsA, List.drop_zero, List.drop_succ_cons, List.take_succ_cons, List.take_zero] at f0 f1 f2 f3 f4 f5
  obtain ⟨l0, g0⟩ := trod_setsA f0
  obtain ⟨l1, g1⟩ := trod_ints f1
  obtain ⟨l2, g2⟩ := trod_ints f2
  obtain ⟨l3, g3⟩ := trod_rowsA f3
  obtain ⟨l4, g4⟩ := trod_boolsA f4
  obtain ⟨em, e5, _, _⟩ := DataW.trod_int Try.underlying3 f5
  simp at e5
  subst e5
  exact ⟨⟨l0, l1, l2, l3, l4, em⟩, c0, c1, c2, c3, c4, rfl, g0, g1, g2, g3, g4⟩
set_option maxRecDepth 100000 in
/-- an automaton -/
theorem arg_nfa {r : Reach} {b0 : Nat} {v : Value} {d : DataW H} {ps : List MemPlace} (hval : Value.okWide Try.prog W r b0 42 v) (hd : DataW.Trod enc Try.prog W base spare held 42 v d ps) : ∃ N, NfaAt W N v := by
  obtain ⟨cs, rfl, _, _⟩ : ∃ cs, v = .agg cs ∧ cs.size = Try.prog.cellsOf 42 ∧ Row.okWide Try.prog W r b0 42 cs := by
    simpa [Value.okWide, Try.underlying42] using hval
  obtain ⟨fuel, hf⟩ := hd
  obtain ⟨N, hN⟩ := trod_nfa hf
  exact ⟨N, by simpa [Value.cells] using hN⟩
set_option maxRecDepth 100000 in
/-- a row of numbers -/
theorem arg_ints {r : Reach} {b0 : Nat} {v : Value} {d : DataW H} {ps : List MemPlace} (hval : Value.okWide Try.prog W r b0 26 v) (hd : DataW.Trod enc Try.prog W base spare held 26 v d ps) : ∃ l, IntsV W l v := by
  obtain ⟨a1, len, cap, rfl⟩ := okWide_slice Try.underlying26 hval
  obtain ⟨fuel, hf⟩ := hd
  exact trod_ints (by simpa [Value.cells] using hf)
end
end Go.Proofs.Ytojejnjjenmfaaa

