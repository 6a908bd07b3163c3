/-
  A LOOP OVER AN ITERATOR THAT WRITES CELLS OF ITS OWN: the law of 'range over a function' with what the caller says before a round (I), behind a round (Iy), at a way out (Ix) and behind the iterator (Fin), each by the iterator's state. No condition.
-/
import Derived.RangeFuncWrites
namespace Go.Proofs.Ytngagijcdehjpaa
open Go.RowKit

variable {F : Fence} {n : Nat} {P : Program}

/-- how a round may be left -/
def roundEnds {σ : Type} (B : Nat) (Kp : World → World → Prop) (Iy : σ → World → Prop) (Ix : Code → World → Prop) (s : σ) (W : World) : Exit → Act → World → Prop
  | .normal, _, W' => KeepsFrom B W W' ∧ Kp W W' ∧ Iy s W'
  | .ret, _, W' => KeepsFrom B W W' ∧ Ix .ret W'
  | .exit id, _, W' => KeepsFrom B W W' ∧ Ix (.exit id) W'
  | .goto t, _, W' => KeepsFrom B W W' ∧ Ix (.goto t) W'
  | .panic _, _, _ => False
  | .outgrown, _, _ => False

/-- nothing but blocks that are no cells, at or beyond B, has turned -/
def Bides (B : Nat) (I : World → Prop) : Prop := ∀ (W : World) (l : Nat) (o o' : Obj), I W → B ≤ l → W.heap[l]? = some o → o.isCells = false → I (W.putObj l o')
def BidesNew (I : World → Prop) : Prop := ∀ (W : World) (o : Obj), I W → I (W.alloc o)

theorem range_own {σ : Type} {g : Operand} {ps : Array Tmp} {assign body : Code} {Q : Exit → Act → World → Prop} {a : Act} {w : World}
    (hro : F.round = none) (h1 : 1 ≤ n) {gf : Nat} {bd lb : Array Value} (hg : a.eval g = .func (.func gf) bd lb) (hFg : F.fn gf) (eg : ∀ args w, (callFunc gf args).run P w = .ok (.enter gf args) w)
    (encs : σ → Array Value) (hps : ∀ s, (encs s).size = ps.size) (Kp : World → World → Prop)
    (hKt : ∀ {A B C : World}, Kp A B → Kp B C → Kp A C) (hKb : ∀ (W : World) (l : Nat) (o o' : Obj), w.heap.size ≤ l → W.heap[l]? = some o → o.isCells = false → Kp W (W.putObj l o'))
    (I Iy : σ → World → Prop) (Ix : Code → World → Prop) (Fin : World → Prop)
    (hI : ∀ s, Bides w.heap.size (I s)) (hIy : ∀ s, Bides w.heap.size (Iy s)) (hIx : ∀ c, Bides w.heap.size (Ix c)) (hFin : Bides w.heap.size Fin)
    (hcall : ∀ (l : Nat) (G X : World → Prop), (∀ W W', G W → KeepsOthers W W' → G W') →
      (∀ s W, I s W → G W → YieldAt F (n - 1 - 1) P l (encs s) W fun e W' => (e = .returned (.bool true) ∧ Iy s W' ∧ Kp W W' ∧ G W') ∨ (e = .returned (.bool false) ∧ X W')) →
      ∀ W, Below w.heap.size w W → KeepsOthers w W → G W → CallsIn F (n - 1) P gf (bd ++ #[.func (.yield l) #[] #[]] ++ lb) W fun e W' => (∃ v, e = .returned v) ∧ ((Fin W' ∧ G W') ∨ X W'))
    (a₁ : σ → Act)
    (hassign : ∀ (l : Nat) (s : σ) (W : World) (K : Act → World → Prop), K (a₁ s) W →
      assign.wpIn (F.inRound l) (n - 1 - 1) P (Exit.then K (fun _ _ _ => False)) { tmps := (ps.zip (encs s)).foldl (fun t (p, v) => t.setIfInBounds p v) a.tmps, defers := [] } W)
    (hbody : ∀ (l : Nat) (s : σ) (W : World), w.heap.size ≤ W.heap.size → I s W → body.wpIn (F.inRound l) (n - 1 - 1) P (roundEnds w.heap.size Kp Iy Ix s W) (a₁ s) W)
    (hdone : ∀ (D : Nat) (W : World), w.heap.size ≤ D → Fin W → W.heap[D]? = some (.deferred (some [])) → Q .normal { a with defers := { target := .collected D, args := #[] } :: a.defers } W)
    (hstop : ∀ (D : Nat) (c : Code) (W : World), w.heap.size ≤ D → Ix c W → W.heap[D]? = some (.deferred (some [])) → c.wpIn F n P Q { a with defers := { target := .collected D, args := #[] } :: a.defers } W) :
    (Code.rangeFunc g ps assign body).wpIn F n P Q a w := by
  refine wpIn_rangeFunc fun fn hfn => ?_
  rw [hro]
  -- the record of the loop in its two free states
  let rd : LoopState → Option Code → Obj := fun st pe => .loop { state := st, pending := pe, fn, tmps := a.tmps, params := ps, assign, body, defers := w.heap.size }
  let G : World → Prop := fun W => W.heap[w.heap.size + 1]? = some (rd .ready none) ∧ W.heap[w.heap.size]? = some (.deferred (some []))
  let X : World → Prop := fun W => ∃ c, Ix c W ∧ W.heap[w.heap.size + 1]? = some (rd .done (some c)) ∧ W.heap[w.heap.size]? = some (.deferred (some []))
  let W1 := (w.alloc (.deferred (some []))).alloc (rd .ready none)
  have hG1 : G W1 := by
    refine ⟨?_, (Below.heap_alloc _ _ _ (by simp)).trans (World.alloc_heap_new w _)⟩
    have := World.alloc_heap_new (w.alloc (.deferred (some []))) (rd .ready none)
    rwa [World.size_alloc] at this
  have hB1 : Below w.heap.size w W1 := ((Below.refl _ w).alloc (Nat.le_refl _) _).alloc (by simp) _
  have hK1 : KeepsOthers w W1 := (KeepsOthers.alloc w _).trans (KeepsOthers.alloc _ _)
  refine ⟨w.heap.size + 1, [{ target := .collected w.heap.size, args := #[] }], W1, { target := .fn (.func gf) lb, args := bd ++ #[.func (.yield (w.heap.size + 1)) #[] #[]] }, W1, gf,
    bd ++ #[.func (.yield (w.heap.size + 1)) #[] #[]] ++ lb, W1, run_enterLoop_outer _ _ _ _ _, ?_, ?_, ?_, fun _ => h1, ?_⟩
  · simp only [resolve, hg]
    simp [go_sem]
  · intro f' hf'
    simp [Target.leads] at hf'
    subst hf'
    exact hFg
  · simp [invoke, go_sem, eg]
  refine (hcall (w.heap.size + 1) G X (fun W W' h hk => ⟨hk.same _ _ h.1 rfl, hk.same _ _ h.2 rfl⟩) ?_ W1 hB1 hK1 hG1).mono ?_
  · rintro s W hi ⟨hl, hd⟩
    have hlt : w.heap.size + 1 < W.heap.size := (Array.getElem?_eq_some_iff.1 hl).1
    refine ⟨fn, _, assign, body, run_yield (P := P) (args := encs s) hl (hps s), roundIn_of_wpIn hfn (hassign _ s W _ ⟨_, run_beginRound hl rfl, ?_⟩)⟩
    let Wb := W.putObj (w.heap.size + 1) (rd .busy none)
    have hlb : Wb.heap[w.heap.size + 1]? = some (rd .busy none) := World.putObj_heap_same hlt
    have hdb : Wb.heap[w.heap.size]? = some (.deferred (some [])) := (World.putObj_heap_other (by omega)).trans hd
    have hib : I s Wb := hI s _ _ _ _ hi (by omega) hl rfl
    have hkb : Kp W Wb := hKb _ _ _ _ (by omega) hl rfl
    have ends : ∀ (j : Option Code) (W3 : World), KeepsFrom w.heap.size Wb W3 →
        W3.heap[w.heap.size + 1]? = some (rd .busy none) ∧ (Instr.endRound (w.heap.size + 1) j).run P W3 = .ok (.bool j.isNone) (W3.putObj (w.heap.size + 1) (rd (if j.isNone then .ready else .done) j)) ∧
        (W3.putObj (w.heap.size + 1) (rd (if j.isNone then .ready else .done) j)).heap[w.heap.size + 1]? = some (rd (if j.isNone then .ready else .done) j) ∧
        (W3.putObj (w.heap.size + 1) (rd (if j.isNone then .ready else .done) j)).heap[w.heap.size]? = some (.deferred (some [])) := fun j W3 hk => by
      have hl3 := hk.same _ _ (by omega) hlb rfl
      exact ⟨hl3, run_endRound (P := P) j hl3, World.putObj_heap_same (Array.getElem?_eq_some_iff.1 hl3).1, (World.putObj_heap_other (by omega)).trans (hk.same _ _ (Nat.le_refl _) hdb rfl)⟩
    refine wpIn_mono (hbody _ s Wb (by show _ ≤ (W.putObj _ _).heap.size; rw [World.putObj_size]; omega) hib) ?_
    rintro e a3 W3 hp
    cases e with
    | normal =>
      obtain ⟨hk, hkp, hy⟩ := hp
      obtain ⟨hl3, hr, hl4, hd4⟩ := ends none W3 hk
      exact ⟨_, _, hr, .inl ⟨rfl, hIy s _ _ _ _ hy (by omega) hl3 rfl, hKt (hKt hkb hkp) (hKb _ _ _ _ (by omega) hl3 rfl), hl4, hd4⟩⟩
    | ret =>
      obtain ⟨hl3, hr, hl4, hd4⟩ := ends (some .ret) W3 hp.1
      exact ⟨_, _, hr, .inr ⟨rfl, _, hIx _ _ _ _ _ hp.2 (by omega) hl3 rfl, hl4, hd4⟩⟩
    | exit id =>
      obtain ⟨hl3, hr, hl4, hd4⟩ := ends (some (.exit id)) W3 hp.1
      exact ⟨_, _, hr, .inr ⟨rfl, _, hIx _ _ _ _ _ hp.2 (by omega) hl3 rfl, hl4, hd4⟩⟩
    | goto t =>
      obtain ⟨hl3, hr, hl4, hd4⟩ := ends (some (.goto t)) W3 hp.1
      exact ⟨_, _, hr, .inr ⟨rfl, _, hIx _ _ _ _ _ hp.2 (by omega) hl3 rfl, hl4, hd4⟩⟩
    | panic ch => exact hp.elim
    | outgrown => exact hp.elim
  · rintro e W2 ⟨⟨v, rfl⟩, (⟨hf, hl, hd⟩ | ⟨c, hx, hl, hd⟩)⟩
    · exact ⟨none, _, run_endLoop (P := P) hl (by simp), hdone _ _ (Nat.le_refl _) (hFin _ _ _ _ hf (by omega) hl rfl) ((World.putObj_heap_other (by omega)).trans hd)⟩
    · exact ⟨some c, _, run_endLoop (P := P) hl (by simp), hstop _ c _ (Nat.le_refl _) (hIx c _ _ _ _ hx (by omega) hl rfl) ((World.putObj_heap_other (by omega)).trans hd)⟩

end Go.Proofs.Ytngagijcdehjpaa

