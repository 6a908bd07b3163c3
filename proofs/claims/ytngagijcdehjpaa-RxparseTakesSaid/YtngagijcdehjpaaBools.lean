/-
  WHAT IS SAID OF NO PROGRAM: blocks that are known whole; an array of 256 bools. No condition.
-/
import Derived.Test.YtngagijcdehjpaaKit
import Derived.Deep.MidRow
namespace Go.Proofs.Ytngagijcdehjpaa
open Go.RowKit

/-- block g is just the cells cs, none frozen -/
def BlkIs (w : World) (g : Nat) (t : TypeId) (cs : Array Value) : Prop := w.heap[g]? = some (.cells cs t (0, 0))

section
variable {w W' : World} {g : Nat} {t : TypeId} {cs : Array Value}
theorem BlkIs.lt (h : BlkIs w g t cs) : g < w.heap.size := by
  rcases Nat.lt_or_ge g w.heap.size with hlt | hge
  · exact hlt
  · unfold BlkIs at h; rw [Array.getElem?_eq_none hge] at h; cases h
theorem BlkIs.cell (h : BlkIs w g t cs) (i : Nat) : w.cell? ⟨g, i, none⟩ = cs[i]? := cell_of_row w g i cs t (0, 0) h
theorem BlkIs.frozen (h : BlkIs w g t cs) (i : Nat) : w.frozen? ⟨g, i, none⟩ = false := by
  unfold BlkIs at h; simp [World.frozen?, h]
theorem BlkIs.new (w : World) (t : TypeId) (cs : Array Value) : BlkIs (w.alloc (.cells cs t)) w.heap.size t cs := by
  show (w.heap.push _)[w.heap.size]? = _
  simp
theorem BlkIs.alloc (h : BlkIs w g t cs) (o : Obj) : BlkIs (w.alloc o) g t cs := (Below.heap_alloc w o g h.lt).trans h
theorem BlkIs.drew (h : BlkIs w g t cs) : BlkIs w.drew g t cs := h
theorem BlkIs.below {B : Nat} (h : BlkIs w g t cs) (hb : Below B w W') (hg : g < B) : BlkIs W' g t cs := (hb.block g hg).trans h
theorem BlkIs.step (h : BlkIs w g t cs) (hb : Below w.heap.size w W') : BlkIs W' g t cs := h.below hb h.lt
theorem BlkIs.far (h : BlkIs w g t cs) {p : Addr} (hp : g ≠ p.block) (u : Value) : BlkIs (w.setCell p u) g t cs := (Below.heap_setCell w p u g hp).trans h
theorem BlkIs.put (h : BlkIs w g t cs) (i : Nat) (u : Value) : BlkIs (w.setCell ⟨g, i, none⟩ u) g t (cs.setIfInBounds i u) := by
  unfold BlkIs at h ⊢
  simp [World.setCell, Array.getElem?_modify, h]
theorem BlkIs.four {a b c d : Value} (h : BlkIs w g t #[a, b, c, d]) : w.cell? ⟨g, 0, none⟩ = some a ∧ w.cell? ⟨g, 1, none⟩ = some b ∧ w.cell? ⟨g, 2, none⟩ = some c ∧ w.cell? ⟨g, 3, none⟩ = some d ∧
    w.frozen? ⟨g, 0, none⟩ = false ∧ w.frozen? ⟨g, 1, none⟩ = false ∧ w.frozen? ⟨g, 2, none⟩ = false ∧ w.frozen? ⟨g, 3, none⟩ = false :=
  ⟨h.cell 0, h.cell 1, h.cell 2, h.cell 3, h.frozen 0, h.frozen 1, h.frozen 2, h.frozen 3⟩
theorem BlkIs.range (h : BlkIs w g t cs) : w.rangeAt g 0 cs.toList := fun j v hv => by
  rw [Nat.zero_add, h.cell j]; simpa using hv
theorem BlkIs.there (h : BlkIs w g t cs) : w.there g 0 cs.size := fun j hj => by
  rw [Nat.zero_add, h.cell j]
  exact ⟨by simp [hj], h.frozen j⟩
end

theorem below_setCells {B : Nat} {a : World} (b : Nat) (hb : B ≤ b) : ∀ (vs : List Value) (o : Nat) (w : World), Below B a w → Below B a (w.setCells b o vs)
  | [], _, _, h => h
  | v :: r, o, w, h => by
    rw [World.setCells]
    exact below_setCells b hb r (o + 1) _ (h.setCell (p := ⟨b, o, none⟩) hb v)

theorem BlkIs.farCells {g b : Nat} {t : TypeId} {cs : Array Value} (hg : g ≠ b) : ∀ (vs : List Value) (o : Nat) (w : World), BlkIs w g t cs → BlkIs (w.setCells b o vs) g t cs
  | [], _, _, h => h
  | v :: r, o, w, h => by
    rw [World.setCells]
    exact BlkIs.farCells hg r (o + 1) _ (h.far (p := ⟨b, o, none⟩) hg v)
theorem BlkIs.sized {g : Nat} {t : TypeId} : ∀ (vs : List Value) (o : Nat) (w : World) (cs : Array Value), BlkIs w g t cs → ∃ cs', BlkIs (w.setCells g o vs) g t cs' ∧ cs'.size = cs.size
  | [], _, _, cs, h => ⟨cs, h, rfl⟩
  | v :: r, o, w, cs, h => by
    rw [World.setCells]
    obtain ⟨cs', h1, h2⟩ := BlkIs.sized r (o + 1) _ _ (h.put o v)
    exact ⟨cs', h1, by rw [h2]; simp⟩
/-- the whole block written anew -/
theorem BlkIs.fill {w : World} {g : Nat} {t : TypeId} {cs new : Array Value} (h : BlkIs w g t cs) (hs : new.size = cs.size) : BlkIs (w.setCells g 0 new.toList) g t new := by
  obtain ⟨cs', h1, h2⟩ := BlkIs.sized new.toList 0 w cs h
  have hr := World.rangeAt_setCells_same w g 0 new.toList (by rw [Array.length_toList, hs]; exact h.there)
  have e : cs' = new := by
    apply Array.ext (by rw [h2, hs])
    intro i hi hi'
    have a := hr i new[i] (by simp [hi'])
    rw [Nat.zero_add, h1.cell i] at a
    simpa [hi] using a
  rw [← e]; rw [← e] at h1; exact h1

theorem results_cell1 {fn : Func} {p : Tmp} {ty : TypeId} {tmps : Array Value} {P : Program} {w w' : World} {a : Addr} {v : Value} (h : fn.results = #[.cell p ty])
    (hp : tmps.getD p undef = .pointer (some a)) (hl : (loadVar ty a).run P w = .ok v w') : (results fn tmps).run P w = .ok v w' := by
  have hp' : tmps[p]?.getD undef = .pointer (some a) := by rw [← hp]; simp
  unfold results
  rw [h]
  simp [hp', asAddr, hl]

/-! ### 256 bools -/
def bools (f : Nat → Bool) : Array Value := ((List.range 256).map fun i => Value.bool (f i)).toArray
theorem bools_size (f : Nat → Bool) : (bools f).size = 256 := by simp [bools]
theorem bools_get (f : Nat → Bool) {i : Nat} (h : i < 256) : (bools f)[i]? = some (.bool (f i)) := by
  unfold bools
  rw [List.getElem?_toArray, List.getElem?_map, List.getElem?_range h]; rfl
theorem bools_congr {f g : Nat → Bool} (h : ∀ i, i < 256 → f i = g i) : bools f = bools g := by
  unfold bools
  rw [List.map_congr_left (fun i hi => by rw [h i (List.mem_range.1 hi)])]
def updS (f : Nat → Bool) (i : Nat) (v : Bool) : Nat → Bool := fun j => if j = i then v else f j
theorem bools_set (f : Nat → Bool) (i : Nat) (v : Bool) : (bools f).setIfInBounds i (.bool v) = bools (updS f i v) := by
  apply Array.ext_getElem?
  intro j
  by_cases hj : j < 256
  · rw [Array.getElem?_setIfInBounds, bools_get _ hj, bools_get _ hj, bools_size]
    unfold updS
    by_cases e : i = j
    · subst e; simp [hj]
    · have e' : ¬ j = i := fun h => e h.symm
      simp [e, e']
  · rw [Array.getElem?_eq_none (by rw [Array.size_setIfInBounds, bools_size]; omega), Array.getElem?_eq_none (by rw [bools_size]; omega)]
theorem bools_one (f : Nat → Bool) : (bools f).all (·.oneCell') = true := by
  rw [Array.all_eq_true_iff_forall_mem]
  intro v hv
  unfold bools at hv
  simp only [List.mem_toArray, List.mem_map] at hv
  obtain ⟨i, _, rfl⟩ := hv
  rfl
theorem bools_agg (f : Nat → Bool) : Value.agg (bools f).toList.toArray = .agg (bools f) := by simp

end Go.Proofs.Ytngagijcdehjpaa

