/-
  AN AUTOMATON TRIMMED, by plain functions: what is found from some states, the live ones, new numbers; it tags as it did, trimmed again it is as it is. No condition.
-/
import Derived.Test.YtgngaaemkmdfaaaDoorQG22
namespace Go.Proofs.YtgngaaemkmdfaaaDoor
open Go.RowKit

def addQ (q : List Int) (x : Int) : List Int := if x = -1 ∨ x ∈ q then q else q ++ [x]
def addRowQ (q : List Int) (r : List Int) : List Int := r.foldl addQ q
def qTo (next : List (List Int)) (fr : List Int) : Nat → List Int
  | 0 => fr
  | k + 1 => match (qTo next fr k)[k]? with
    | none => qTo next fr k
    | some x => addRowQ (qTo next fr k) (next.getD x.toNat [])
def foundL (next : List (List Int)) (fr : List Int) : List Int := qTo next fr next.length
def InR (n : Nat) (q : List Int) : Prop := q.Nodup ∧ ∀ x ∈ q, 0 ≤ x ∧ x < (n : Int)
def WfN (next : List (List Int)) : Prop := ∀ r ∈ next, ∀ x ∈ r, -1 ≤ x ∧ x < (next.length : Int)
theorem addQ_pre (q : List Int) (x : Int) : q <+: addQ q x := by
  unfold addQ; split
  · exact List.prefix_refl _
  · exact List.prefix_append _ _
theorem addRowQ_pre : ∀ (r q : List Int), q <+: addRowQ q r
  | [], _ => List.prefix_refl _
  | x :: r, q => (addQ_pre q x).trans (addRowQ_pre r (addQ q x))
theorem qTo_pre1 (next : List (List Int)) (fr : List Int) (k : Nat) : qTo next fr k <+: qTo next fr (k + 1) := by
  show _ <+: (match (qTo next fr k)[k]? with | none => qTo next fr k | some x => addRowQ (qTo next fr k) (next.getD x.toNat []))
  split
  · exact List.prefix_refl _
  · exact addRowQ_pre _ _
theorem qTo_pre (next : List (List Int)) (fr : List Int) {k m : Nat} (h : k ≤ m) : qTo next fr k <+: qTo next fr m := by
  induction h with
  | refl => exact List.prefix_refl _
  | step _ ih => exact ih.trans (qTo_pre1 next fr _)
theorem qTo_stop {next : List (List Int)} {fr : List Int} {k : Nat} (h : (qTo next fr k).length ≤ k) : ∀ m, k ≤ m → qTo next fr m = qTo next fr k := by
  intro m hm
  induction hm with
  | refl => rfl
  | step hm ih =>
    rename_i m
    show (match (qTo next fr m)[m]? with | none => qTo next fr m | some x => addRowQ (qTo next fr m) (next.getD x.toNat [])) = _
    rw [ih, List.getElem?_eq_none (by have hm' : k ≤ m := hm; omega)]
theorem addQ_in {n : Nat} {q : List Int} {x : Int} (h : InR n q) (hx : -1 ≤ x ∧ x < (n : Int)) : InR n (addQ q x) := by
  unfold addQ; split
  · exact h
  · rename_i hn
    refine ⟨List.nodup_append.2 ⟨h.1, by simp, fun a ha b hb e => ?_⟩, fun y hy => ?_⟩
    · rw [List.mem_singleton] at hb; subst hb; subst e; exact hn (.inr ha)
    · rcases List.mem_append.1 hy with hy | hy
      · exact h.2 y hy
      · rw [List.mem_singleton] at hy; rw [hy]
        have : x ≠ -1 := fun e => hn (.inl e)
        omega
theorem addRowQ_in {n : Nat} : ∀ (r q : List Int), InR n q → (∀ x ∈ r, -1 ≤ x ∧ x < (n : Int)) → InR n (addRowQ q r)
  | [], _, h, _ => h
  | x :: r, q, h, hr => addRowQ_in r (addQ q x) (addQ_in h (hr x (by simp))) fun y hy => hr y (by simp [hy])
theorem getD_mem {next : List (List Int)} {i : Nat} (h : i < next.length) : next.getD i [] ∈ next := by
  rw [List.getD_eq_getElem?_getD, List.getElem?_eq_getElem h]; exact List.getElem_mem h
theorem WfN.row {next : List (List Int)} (h : WfN next) (i : Nat) : ∀ x ∈ next.getD i [], -1 ≤ x ∧ x < (next.length : Int) := by
  intro x hx
  by_cases hi : i < next.length
  · exact h _ (getD_mem hi) x hx
  · rw [List.getD_eq_getElem?_getD, List.getElem?_eq_none (by omega)] at hx; simp at hx
theorem qTo_in {next : List (List Int)} {fr : List Int} (hw : WfN next) (hf : InR next.length fr) : ∀ k, InR next.length (qTo next fr k)
  | 0 => hf
  | k + 1 => by
    show InR _ (match (qTo next fr k)[k]? with | none => qTo next fr k | some x => addRowQ (qTo next fr k) (next.getD x.toNat []))
    split
    · exact qTo_in hw hf k
    · exact addRowQ_in _ _ (qTo_in hw hf k) (hw.row _)
theorem nodup_len : ∀ (n : Nat) (q : List Int), InR n q → q.length ≤ n
  | 0, q, h => by
    cases q with
    | nil => simp
    | cons x r => have := h.2 x (by simp); omega
  | n + 1, q, h => by
    have h1 : InR n (q.filter (· ≠ (n : Int))) := ⟨h.1.filter _, fun x hx => by
      have h2 := h.2 x ((List.mem_filter.1 hx).1)
      have h3 := (List.mem_filter.1 hx).2
      simp at h3; omega⟩
    have h2 := nodup_len n _ h1
    have h3 : q.length ≤ (q.filter (· ≠ (n : Int))).length + 1 := by
      have h4 := List.length_eq_countP_add_countP (fun x => decide (x ≠ (n : Int))) (l := q)
      rw [List.countP_eq_length_filter] at h4
      have h5 : List.countP (fun a => decide ¬(decide (a ≠ (n : Int)) = true)) q ≤ 1 := by
        have e : (fun a => decide ¬(decide (a ≠ (n : Int)) = true)) = (· == (n : Int)) := by
          funext a; by_cases h : a = (n : Int) <;> simp [h]
        rw [e]
        exact List.nodup_iff_count.1 h.1 (n : Int)
      omega
    omega
theorem qTo_len {next : List (List Int)} {fr : List Int} (hw : WfN next) (hf : InR next.length fr) (k : Nat) : (qTo next fr k).length ≤ next.length := nodup_len _ _ (qTo_in hw hf k)
theorem qTo_end {next : List (List Int)} {fr : List Int} (hw : WfN next) (hf : InR next.length fr) {k : Nat} (h : (qTo next fr k).length ≤ k) : qTo next fr k = foundL next fr := by
  unfold foundL
  rcases Nat.le_total k next.length with h1 | h1
  · exact (qTo_stop h _ h1).symm
  · exact qTo_stop (qTo_len hw hf _) _ h1
theorem found_in {next : List (List Int)} {fr : List Int} (hw : WfN next) (hf : InR next.length fr) : InR next.length (foundL next fr) := qTo_in hw hf _
theorem addQ_mem {q : List Int} {x y : Int} : y ∈ addQ q x ↔ y ∈ q ∨ (y = x ∧ x ≠ -1) := by
  unfold addQ; split
  · rename_i h
    constructor
    · exact .inl
    · rintro (h1 | ⟨rfl, h2⟩)
      · exact h1
      · exact h.resolve_left h2
  · rename_i h
    rw [List.mem_append, List.mem_singleton]
    constructor
    · rintro (h1 | rfl)
      · exact .inl h1
      · exact .inr ⟨rfl, fun e => h (.inl e)⟩
    · rintro (h1 | ⟨h1, _⟩)
      · exact .inl h1
      · exact .inr h1
theorem addRowQ_mem : ∀ (r q : List Int) (y : Int), y ∈ addRowQ q r ↔ y ∈ q ∨ (y ∈ r ∧ y ≠ -1)
  | [], q, y => by simp [addRowQ]
  | x :: r, q, y => by
    show y ∈ addRowQ (addQ q x) r ↔ _
    rw [addRowQ_mem r, addQ_mem, List.mem_cons]
    constructor
    · rintro ((h | ⟨rfl, h⟩) | ⟨h, h'⟩)
      · exact .inl h
      · exact .inr ⟨.inl rfl, h⟩
      · exact .inr ⟨.inr h, h'⟩
    · rintro (h | ⟨rfl | h, h'⟩)
      · exact .inl (.inl h)
      · exact .inl (.inr ⟨rfl, h'⟩)
      · exact .inr ⟨h, h'⟩
theorem found_closed {next : List (List Int)} {fr : List Int} (hw : WfN next) (hf : InR next.length fr) {x y : Int} (hx : x ∈ foundL next fr) (hy : y ∈ next.getD x.toNat []) (hne : y ≠ -1) : y ∈ foundL next fr := by
  obtain ⟨k, hk, rfl⟩ := List.getElem_of_mem hx
  have hl : (foundL next fr).length ≤ next.length := qTo_len hw hf _
  have hkn : k < next.length := by omega
  have hkl : k < (qTo next fr k).length := by
    rcases Nat.lt_or_ge k (qTo next fr k).length with h | h
    · exact h
    · have := qTo_end hw hf h; rw [this] at h; omega
  have hp : qTo next fr k <+: foundL next fr := qTo_pre next fr (by omega)
  have he : (qTo next fr k)[k]? = some (foundL next fr)[k] := by
    rw [List.getElem?_eq_getElem hkl]; rw [hp.getElem hkl]
  have h1 : y ∈ qTo next fr (k + 1) := by
    show y ∈ (match (qTo next fr k)[k]? with | none => qTo next fr k | some x => addRowQ (qTo next fr k) (next.getD x.toNat []))
    rw [he]
    exact (addRowQ_mem _ _ _).2 (.inr ⟨hy, hne⟩)
  exact (qTo_pre next fr (show k + 1 ≤ next.length by omega)).subset h1
theorem found_from {next : List (List Int)} {fr : List Int} {x : Int} (h : x ∈ fr) : x ∈ foundL next fr := (qTo_pre next fr (Nat.zero_le next.length)).subset h
theorem qTo_ind {next : List (List Int)} {fr : List Int} (P : Int → Prop) (h0 : ∀ x ∈ fr, P x) (hs : ∀ x, P x → ∀ y ∈ next.getD x.toNat [], y ≠ -1 → P y) : ∀ k, ∀ x ∈ qTo next fr k, P x
  | 0 => h0
  | k + 1 => by
    intro x hx
    have hx' : x ∈ (match (qTo next fr k)[k]? with | none => qTo next fr k | some x => addRowQ (qTo next fr k) (next.getD x.toNat [])) := hx
    split at hx'
    · exact qTo_ind P h0 hs k x hx'
    · rename_i z hz
      rcases (addRowQ_mem _ _ _).1 hx' with h | ⟨h, h'⟩
      · exact qTo_ind P h0 hs k x h
      · exact hs z (qTo_ind P h0 hs k z (List.mem_of_getElem? hz)) x h h'
theorem found_ind {next : List (List Int)} {fr : List Int} (P : Int → Prop) (h0 : ∀ x ∈ fr, P x) (hs : ∀ x, P x → ∀ y ∈ next.getD x.toNat [], y ≠ -1 → P y) {x : Int} (hx : x ∈ foundL next fr) : P x := qTo_ind P h0 hs _ x hx
inductive Lv (D : Df) : Int → Prop
  | tag {i : Int} : 0 ≤ i → i < (D.next.length : Int) → D.tag.getD i.toNat (-1) ≠ -1 → Lv D i
  | step {i x : Int} : 0 ≤ i → i < (D.next.length : Int) → x ∈ D.next.getD i.toNat [] → Lv D x → Lv D i
theorem Lv.in {D : Df} {i : Int} (h : Lv D i) : 0 ≤ i ∧ i < (D.next.length : Int) := by cases h <;> exact ⟨by assumption, by assumption⟩
noncomputable def lvB (D : Df) (x : Int) : Bool := @decide (Lv D x) (Classical.propDecidable _)
theorem lvB_iff {D : Df} {x : Int} : lvB D x = true ↔ Lv D x := by unfold lvB; simp
theorem lvB_neg (D : Df) : lvB D (-1) = false := by
  rw [Bool.eq_false_iff]; intro h; have := (lvB_iff.1 h).in; omega
def firstL (D : Df) : List Int := if D.next.length = 0 then [] else [0]
theorem first_in (D : Df) : InR D.next.length (firstL D) := by
  unfold firstL; split
  · exact ⟨by simp, by simp⟩
  · exact ⟨by simp, fun x hx => by simp at hx; omega⟩
noncomputable def keptL (D : Df) : List Int := (foundL D.next (firstL D)).filter (lvB D)
def numL (L : List Int) (x : Int) : Int := if x ∈ L then (L.idxOf x : Nat) else -1
noncomputable def trimP (D : Df) : Df := ⟨D.of, D.n, (keptL D).map fun i => (D.next.getD i.toNat []).map (numL (keptL D)), (keptL D).map fun i => D.tag.getD i.toNat (-1)⟩
theorem kept_nodup {D : Df} (hw : WfN D.next) : InR D.next.length (keptL D) :=
  have h := found_in hw (first_in D)
  ⟨h.1.filter _, fun x hx => h.2 x ((List.mem_filter.1 hx).1)⟩
theorem kept_mem {D : Df} {x : Int} : x ∈ keptL D ↔ x ∈ foundL D.next (firstL D) ∧ Lv D x := by
  unfold keptL; rw [List.mem_filter, lvB_iff]
theorem kept_step {D : Df} (hw : WfN D.next) {x y : Int} (hx : x ∈ keptL D) (hy : y ∈ D.next.getD x.toNat []) (hl : Lv D y) : y ∈ keptL D :=
  kept_mem.2 ⟨found_closed hw (first_in D) (kept_mem.1 hx).1 hy (by have := hl.in; omega), hl⟩
theorem numL_in (L : List Int) (x : Int) : -1 ≤ numL L x ∧ numL L x < (L.length : Int) := by
  unfold numL; split
  · rename_i h; have := List.idxOf_lt_length_of_mem h; omega
  · omega
theorem numL_at {L : List Int} {x : Int} (h : x ∈ L) : 0 ≤ numL L x ∧ L[(numL L x).toNat]? = some x := by
  unfold numL; rw [if_pos h]
  refine ⟨by omega, ?_⟩
  rw [Int.toNat_natCast]
  rw [List.getElem?_eq_getElem (List.idxOf_lt_length_of_mem h), List.getElem_idxOf]
theorem getD_map {α : Type} (L : List Int) (f : Int → α) (d : α) {i : Nat} {x : Int} (h : L[i]? = some x) : (L.map f).getD i d = f x := by
  rw [List.getD_eq_getElem?_getD, List.getElem?_map, h]; rfl
theorem trim_row {D : Df} {x : Int} (hx : x ∈ keptL D) : (trimP D).next.getD (numL (keptL D) x).toNat [] = (D.next.getD x.toNat []).map (numL (keptL D)) :=
  getD_map _ _ _ (numL_at hx).2
theorem trim_tag {D : Df} {x : Int} (hx : x ∈ keptL D) : (trimP D).tag.getD (numL (keptL D) x).toNat (-1) = D.tag.getD x.toNat (-1) :=
  getD_map _ _ _ (numL_at hx).2
theorem trim_len (D : Df) : (trimP D).next.length = (keptL D).length := by simp [trimP]
theorem trim_lv {D : Df} (hw : WfN D.next) {x : Int} (h : Lv D x) : x ∈ keptL D → Lv (trimP D) (numL (keptL D) x) := by
  induction h with
  | tag h1 h2 h3 =>
    intro hx
    have := numL_in (keptL D) ‹_›
    refine .tag (numL_at hx).1 (by rw [trim_len]; exact this.2) (by rw [trim_tag hx]; exact h3)
  | step h1 h2 h3 h4 ih =>
    intro hx
    rename_i i y
    refine .step (x := numL (keptL D) y) (numL_at hx).1 (by rw [trim_len]; exact (numL_in _ _).2) ?_ (ih (kept_step hw hx h3 h4))
    rw [trim_row hx]
    exact List.mem_map.2 ⟨y, h3, rfl⟩
theorem trim_all {D : Df} (hw : WfN D.next) {j : Int} (h1 : 0 ≤ j) (h2 : j < ((trimP D).next.length : Int)) : Lv (trimP D) j := by
  rw [trim_len] at h2
  have hj : j.toNat < (keptL D).length := by omega
  have hm : (keptL D)[j.toNat] ∈ keptL D := List.getElem_mem hj
  have := trim_lv hw (kept_mem.1 hm).2 hm
  have e : numL (keptL D) (keptL D)[j.toNat] = j := by
    unfold numL
    rw [if_pos hm, (kept_nodup hw).1.idxOf_getElem j.toNat hj]; omega
  rwa [e] at this
noncomputable def liveN (D : Df) : List (List Int) := D.next.map fun r => r.map fun x => if lvB D x then x else -1
theorem liveN_row (D : Df) (i : Nat) : (liveN D).getD i [] = (D.next.getD i []).map fun x => if lvB D x then x else -1 := by
  unfold liveN
  rw [List.getD_eq_getElem?_getD, List.getD_eq_getElem?_getD, List.getElem?_map]
  cases D.next[i]? <;> rfl
theorem liveN_wf {D : Df} (hw : WfN D.next) : WfN (liveN D) := by
  intro r hr x hx
  unfold liveN at hr ⊢
  rw [List.length_map]
  obtain ⟨r', h1, rfl⟩ := List.mem_map.1 hr
  obtain ⟨y, h2, rfl⟩ := List.mem_map.1 hx
  have := hw r' h1 y h2
  split <;> omega
theorem addQ_filter (D : Df) (q : List Int) (x : Int) : (addQ q x).filter (lvB D) = addQ (q.filter (lvB D)) (if lvB D x then x else -1) := by
  by_cases hl : lvB D x = true
  · have hx : x ≠ -1 := fun e => by rw [e, lvB_neg] at hl; cases hl
    rw [if_pos hl]
    unfold addQ
    by_cases hq : x ∈ q
    · rw [if_pos (.inr hq), if_pos (.inr (List.mem_filter.2 ⟨hq, hl⟩))]
    · rw [if_neg (by simp [hx, hq]), if_neg (by simp [hx, hq]), List.filter_append]
      simp [hl]
  · rw [if_neg hl]
    have e : addQ (q.filter (lvB D)) (-1) = q.filter (lvB D) := by unfold addQ; rw [if_pos (.inl rfl)]
    rw [e]
    unfold addQ
    split
    · rfl
    · rw [List.filter_append]; simp [hl]
theorem addRowQ_filter (D : Df) : ∀ (r q : List Int), (addRowQ q r).filter (lvB D) = addRowQ (q.filter (lvB D)) (r.map fun x => if lvB D x then x else -1)
  | [], _ => rfl
  | x :: r, q => by
    show (addRowQ (addQ q x) r).filter (lvB D) = addRowQ (addQ (q.filter (lvB D)) (if lvB D x then x else -1)) (r.map _)
    rw [addRowQ_filter D r, addQ_filter]
theorem addRowQ_none : ∀ (r q : List Int), (∀ x ∈ r, x = -1) → addRowQ q r = q
  | [], _, _ => rfl
  | x :: r, q, h => by
    show addRowQ (addQ q x) r = q
    have : addQ q x = q := by unfold addQ; rw [if_pos (.inl (h x (by simp)))]
    rw [this]
    exact addRowQ_none r q fun y hy => h y (by simp [hy])
theorem filter_take_succ {q : List Int} {k : Nat} {x : Int} (h : q[k]? = some x) (p : Int → Bool) : (q.take (k + 1)).filter p = (q.take k).filter p ++ (if p x then [x] else []) := by
  have hk := (List.getElem?_eq_some_iff.1 h)
  obtain ⟨hlt, rfl⟩ := hk
  rw [List.take_succ_eq_append_getElem hlt, List.filter_append]
  congr 1
  by_cases e : p q[k] = true
  · simp [e]
  · simp [e]
theorem take_pre {a b : List Int} (h : a <+: b) {k : Nat} (hk : k ≤ a.length) : b.take k = a.take k := by
  obtain ⟨c, rfl⟩ := h
  rw [List.take_append_of_le_length hk]
theorem live_qTo {D : Df} (hw : WfN D.next) : ∀ k, k ≤ (qTo D.next (firstL D) k).length → Lv D 0 → ((qTo D.next (firstL D) k).filter (lvB D)) = qTo (liveN D) (firstL D) (((qTo D.next (firstL D) k).take k).filter (lvB D)).length
  | 0, _, h0 => by
    show (firstL D).filter (lvB D) = qTo (liveN D) (firstL D) 0
    show (firstL D).filter (lvB D) = firstL D
    unfold firstL; split
    · rfl
    · simp [lvB_iff.2 h0]
  | k + 1, hk, h0 => by
    have hkl : k < (qTo D.next (firstL D) k).length := by
      rcases Nat.lt_or_ge k (qTo D.next (firstL D) k).length with h | h
      · exact h
      · have := qTo_stop h (k + 1) (by omega); rw [this] at hk; omega
    have ih := live_qTo hw k (by omega) h0
    obtain ⟨x, hx⟩ : ∃ x, (qTo D.next (firstL D) k)[k]? = some x := ⟨_, List.getElem?_eq_getElem hkl⟩
    have hp := qTo_pre1 D.next (firstL D) k
    rw [take_pre hp (by omega), filter_take_succ hx]
    have hq : qTo D.next (firstL D) (k + 1) = addRowQ (qTo D.next (firstL D) k) (D.next.getD x.toNat []) := by
      show (match (qTo D.next (firstL D) k)[k]? with | none => qTo D.next (firstL D) k | some x => addRowQ (qTo D.next (firstL D) k) (D.next.getD x.toNat [])) = _
      rw [hx]
    rw [hq, addRowQ_filter]
    obtain ⟨q, hqe⟩ : ∃ q, qTo D.next (firstL D) k = q := ⟨_, rfl⟩
    rw [hqe] at ih hx hkl ⊢
    by_cases hl : lvB D x = true
    · rw [if_pos hl, List.length_append, List.length_singleton]
      show _ = (match (qTo (liveN D) (firstL D) ((q.take k).filter (lvB D)).length)[((q.take k).filter (lvB D)).length]? with | none => _ | some y => addRowQ _ ((liveN D).getD y.toNat []))
      rw [← ih]
      have he : (q.filter (lvB D))[((q.take k).filter (lvB D)).length]? = some x := by
        have e1 : q.filter (lvB D) = (q.take k).filter (lvB D) ++ (x :: (q.drop (k + 1)).filter (lvB D)) := by
          conv => lhs; rw [← List.take_append_drop k q]
          rw [List.filter_append]
          congr 1
          obtain ⟨hlt, hxe⟩ := List.getElem?_eq_some_iff.1 hx
          rw [List.drop_eq_getElem_cons hlt, List.filter_cons, hxe, if_pos hl]
        rw [e1, List.getElem?_append_right (Nat.le_refl _)]; simp
      rw [he]
      dsimp only
      rw [liveN_row]
    · rw [if_neg hl, List.append_nil, ← ih]
      apply addRowQ_none
      intro y hy
      obtain ⟨z, hz, rfl⟩ := List.mem_map.1 hy
      rw [if_neg]
      intro hz2
      apply hl
      rw [lvB_iff] at hz2 ⊢
      have hxin : 0 ≤ x ∧ x < (D.next.length : Int) := (hqe ▸ qTo_in hw (first_in D) k : InR D.next.length q).2 x (List.mem_of_getElem? hx)
      exact .step hxin.1 hxin.2 hz hz2
theorem firstN (D : Df) : firstL D = firstL ⟨D.of, D.n, liveN D, D.tag⟩ := by unfold firstL liveN; simp
theorem live_found {D : Df} (hw : WfN D.next) (h0 : Lv D 0) : keptL D = foundL (liveN D) (firstL D) := by
  have hN : 0 < D.next.length := by have := h0.in; omega
  have hin := first_in ⟨D.of, D.n, liveN D, D.tag⟩
  rw [← firstN] at hin
  -- the last place that was gone along
  obtain ⟨k, hk, hf⟩ : ∃ k, (qTo D.next (firstL D) k).length = k ∧ qTo D.next (firstL D) k = foundL D.next (firstL D) := by
    refine ⟨(foundL D.next (firstL D)).length, ?_⟩
    have hl : (foundL D.next (firstL D)).length ≤ D.next.length := qTo_len hw (first_in D) _
    rcases Nat.lt_or_ge (foundL D.next (firstL D)).length (qTo D.next (firstL D) (foundL D.next (firstL D)).length).length with h | h
    · have := (qTo_pre D.next (firstL D) hl).length_le
      change _ ≤ (foundL D.next (firstL D)).length at this
      omega
    · have e := qTo_end hw (first_in D) h
      exact ⟨by rw [e], e⟩
  have h1 := live_qTo hw k (by omega) h0
  rw [hf] at h1 hk
  have h2 : ((foundL D.next (firstL D)).take k).filter (lvB D) = (foundL D.next (firstL D)).filter (lvB D) := by
    rw [List.take_of_length_le (by omega)]
  rw [h2] at h1
  change keptL D = qTo (liveN D) (firstL D) (keptL D).length at h1
  have h3 : (qTo (liveN D) (firstL D) (keptL D).length).length ≤ (keptL D).length := by rw [← h1]; exact Nat.le_refl _
  exact h1.trans (qTo_end (liveN_wf hw) hin h3)
def ups (m : Nat) : List Int := (List.range m).map fun (i : Nat) => (i : Int)
theorem ups_len (m : Nat) : (ups m).length = m := by simp [ups]
theorem ups_mem {m : Nat} {x : Int} : x ∈ ups m ↔ 0 ≤ x ∧ x < (m : Int) := by
  unfold ups
  rw [List.mem_map]
  constructor
  · rintro ⟨i, hi, rfl⟩; have := List.mem_range.1 hi; omega
  · rintro ⟨h1, h2⟩; exact ⟨x.toNat, List.mem_range.2 (by omega), by omega⟩
theorem ups_succ (m : Nat) : ups (m + 1) = ups m ++ [(m : Int)] := by unfold ups; rw [List.range_succ, List.map_append]; rfl
theorem ups_get {m k : Nat} (h : k < m) : (ups m)[k]? = some (k : Int) := by
  unfold ups; rw [List.getElem?_map, List.getElem?_range h]; rfl
theorem numL_pre {L q : List Int} {x : Int} (hp : q <+: L) (hx : x ∈ q) : numL L x < (q.length : Int) ∧ 0 ≤ numL L x := by
  have hL := hp.subset hx
  unfold numL
  rw [if_pos hL]
  have h1 : L.idxOf x = q.idxOf x := by obtain ⟨c, rfl⟩ := hp; rw [List.idxOf_append, if_pos hx]
  have := List.idxOf_lt_length_of_mem hx
  omega
theorem numL_last {L q : List Int} {x : Int} (hL : L.Nodup) (hp : q ++ [x] <+: L) : numL L x = (q.length : Int) := by
  have hx : x ∈ L := hp.subset (by simp)
  unfold numL
  rw [if_pos hx]
  obtain ⟨c, rfl⟩ := hp
  rw [List.append_assoc] at hL ⊢
  rw [List.idxOf_append, if_neg (fun h => (List.nodup_append.1 hL).2.2 x h x (by simp) rfl)]
  simp
theorem addQ_num {L q : List Int} (hL : L.Nodup) (hm : ∀ x ∈ L, x ≠ -1) (x : Int) (hp : addQ q x <+: L) : addQ (ups q.length) (numL L x) = ups (addQ q x).length := by
  by_cases hx : x = -1
  · have : numL L x = -1 := by unfold numL; rw [if_neg fun h => hm x h hx]
    unfold addQ
    rw [if_pos (.inl this), if_pos (.inl hx)]
  · by_cases hq : x ∈ q
    · have e : addQ q x = q := by unfold addQ; rw [if_pos (.inr hq)]
      rw [e] at hp ⊢
      have := numL_pre hp hq
      unfold addQ
      rw [if_pos (.inr (ups_mem.2 ⟨this.2, this.1⟩))]
    · have e : addQ q x = q ++ [x] := by unfold addQ; rw [if_neg (by simp [hx, hq])]
      rw [e] at hp ⊢
      have := numL_last hL hp
      unfold addQ
      rw [this, if_neg, List.length_append, List.length_singleton, ups_succ]
      rintro (h | h)
      · omega
      · have := ups_mem.1 h; omega
theorem addRowQ_num {L : List Int} (hL : L.Nodup) (hm : ∀ x ∈ L, x ≠ -1) : ∀ (r q : List Int), addRowQ q r <+: L → addRowQ (ups q.length) (r.map (numL L)) = ups (addRowQ q r).length
  | [], _, _ => rfl
  | x :: r, q, hp => by
    show addRowQ (addQ (ups q.length) (numL L x)) (r.map (numL L)) = ups (addRowQ (addQ q x) r).length
    rw [addQ_num hL hm x ((addRowQ_pre r (addQ q x)).trans hp)]
    exact addRowQ_num hL hm r (addQ q x) hp
def renN (next : List (List Int)) (L : List Int) : List (List Int) := L.map fun i => (next.getD i.toNat []).map (numL L)
theorem ren_qTo {next : List (List Int)} (hw : WfN next) (h0 : 0 < next.length) (k : Nat) : qTo (renN next (foundL next [0])) [0] k = ups (qTo next [0] k).length := by
  have hin : InR next.length [0] := ⟨by simp, fun x hx => by simp at hx; omega⟩
  have hF := found_in hw hin
  induction k with
  | zero => rfl
  | succ k ih =>
    show (match (qTo (renN next (foundL next [0])) [0] k)[k]? with | none => _ | some x => addRowQ _ ((renN next (foundL next [0])).getD x.toNat [])) = ups (match (qTo next [0] k)[k]? with | none => _ | some x => addRowQ (qTo next [0] k) (next.getD x.toNat [])).length
    rw [ih]
    by_cases hk : k < (qTo next [0] k).length
    · rw [ups_get hk, List.getElem?_eq_getElem hk]
      dsimp only
      have hkn : k < next.length := by have := qTo_len hw hin k; omega
      have hpk : qTo next [0] k <+: foundL next [0] := qTo_pre next [0] (by omega)
      have hpk1 : qTo next [0] (k + 1) <+: foundL next [0] := qTo_pre next [0] (by omega)
      have hq : qTo next [0] (k + 1) = addRowQ (qTo next [0] k) (next.getD ((qTo next [0] k)[k]).toNat []) := by
        show (match (qTo next [0] k)[k]? with | none => _ | some x => addRowQ (qTo next [0] k) (next.getD x.toNat [])) = _
        rw [List.getElem?_eq_getElem hk]
      rw [hq] at hpk1
      have hg : (foundL next [0])[k]? = some (qTo next [0] k)[k] := by
        obtain ⟨c, hc⟩ := hpk
        rw [← hc, List.getElem?_append_left hk, List.getElem?_eq_getElem hk]
      rw [Int.toNat_natCast]
      unfold renN
      rw [getD_map _ _ _ hg]
      exact addRowQ_num hF.1 (fun x hx => by have := hF.2 x hx; omega) _ _ hpk1
    · rw [List.getElem?_eq_none (by rw [ups_len]; omega), List.getElem?_eq_none (by omega)]
theorem ren_found {next : List (List Int)} (hw : WfN next) (h0 : 0 < next.length) : foundL (renN next (foundL next [0])) [0] = ups (foundL next [0]).length := by
  have hin : InR next.length [0] := ⟨by simp, fun x hx => by simp at hx; omega⟩
  have hl : (renN next (foundL next [0])).length = (foundL next [0]).length := by simp [renN]
  show qTo (renN next (foundL next [0])) [0] (renN next (foundL next [0])).length = _
  rw [hl, ren_qTo hw h0]
  have hle : (foundL next [0]).length ≤ next.length := qTo_len hw hin _
  have e : qTo next [0] (foundL next [0]).length = foundL next [0] := by
    rcases Nat.lt_or_ge (foundL next [0]).length (qTo next [0] (foundL next [0]).length).length with h | h
    · have := (qTo_pre next [0] hle).length_le
      change _ ≤ (foundL next [0]).length at this
      omega
    · exact qTo_end hw hin h
  rw [e]
theorem kept_none {D : Df} (h0 : ¬ Lv D 0) : keptL D = [] := by
  unfold keptL
  rw [List.filter_eq_nil_iff]
  intro x hx hl
  apply h0
  have hx0 := (lvB_iff.1 hl)
  -- who is found leads back to the first one
  have : ∀ y ∈ foundL D.next (firstL D), Lv D y → Lv D 0 := fun y hy => by
    refine found_ind (next := D.next) (fr := firstL D) (fun z => (Lv D z → Lv D 0)) ?_ ?_ hy
    · intro z hz hlz
      unfold firstL at hz
      split at hz
      · simp at hz
      · rw [List.mem_singleton] at hz; rwa [hz] at hlz
    · intro z hz y hy _ hly
      by_cases hzz : z.toNat < D.next.length
      · by_cases h : 0 ≤ z
        · exact hz (.step h (by omega) hy hly)
        · have e : z.toNat = (0 : Int).toNat := by simp; omega
          rw [e] at hy
          exact .step (by omega) (by omega) hy hly
      · rw [List.getD_eq_getElem?_getD, List.getElem?_eq_none (by omega)] at hy; simp at hy
  exact this x hx hx0
theorem trim_next {D : Df} (hw : WfN D.next) : (trimP D).next = renN (liveN D) (keptL D) := by
  show (keptL D).map _ = (keptL D).map _
  apply List.map_congr_left
  intro i _
  rw [liveN_row, List.map_map]
  apply List.map_congr_left
  intro x _
  show numL (keptL D) x = numL (keptL D) (if lvB D x then x else -1)
  split
  · rfl
  · rename_i h
    have h1 : x ∉ keptL D := fun hm => h (lvB_iff.2 (kept_mem.1 hm).2)
    have h2 : (-1 : Int) ∉ keptL D := fun hm => by have := (kept_nodup hw).2 _ hm; omega
    unfold numL
    rw [if_neg h1, if_neg h2]
theorem numL_ups {m : Nat} {x : Int} (h : -1 ≤ x ∧ x < (m : Int)) : numL (ups m) x = x := by
  by_cases hx : x = -1
  · unfold numL
    rw [if_neg fun h => by have := ups_mem.1 h; omega, hx]
  · have hm : x ∈ ups m := ups_mem.2 (by omega)
    have h1 := numL_at hm
    have h2 := numL_in (ups m) x
    rw [ups_len] at h2
    rw [ups_get (by omega)] at h1
    have := Option.some.inj h1.2
    omega
theorem trim_again {D : Df} (hw : WfN D.next) : trimP (trimP D) = trimP D := by
  have hrows : WfN (trimP D).next := by
    intro r hr x hx
    rw [trim_len]
    obtain ⟨i, _, rfl⟩ := List.mem_map.1 hr
    obtain ⟨y, _, rfl⟩ := List.mem_map.1 hx
    exact numL_in _ _
  by_cases h0 : Lv D 0
  · have hN : 0 < D.next.length := by have := h0.in; omega
    have hf0 : firstL D = [0] := by unfold firstL; rw [if_neg (by omega)]
    have hk0 : (0 : Int) ∈ keptL D := kept_mem.2 ⟨found_from (by rw [hf0]; simp), h0⟩
    have hkl : 0 < (keptL D).length := List.length_pos_iff.2 (List.ne_nil_of_mem hk0)
    have hk : keptL D = foundL (liveN D) [0] := by rw [live_found hw h0, hf0]
    have hkt : keptL (trimP D) = ups (keptL D).length := by
      have e1 : firstL (trimP D) = [0] := by unfold firstL; rw [trim_len, if_neg (by omega)]
      have e2 : foundL (trimP D).next (firstL (trimP D)) = ups (keptL D).length := by
        rw [e1, trim_next hw]
        have := ren_found (liveN_wf hw) (by unfold liveN; rw [List.length_map]; exact hN)
        rw [← hk] at this
        exact this
      show (foundL (trimP D).next (firstL (trimP D))).filter (lvB (trimP D)) = _
      rw [e2, List.filter_eq_self]
      intro x hx
      have := ups_mem.1 hx
      exact lvB_iff.2 (trim_all hw this.1 (by rw [trim_len]; exact this.2))
    have hn : ∀ (l : List (List Int)) , l.length = (keptL D).length → (∀ r ∈ l, ∀ x ∈ r, -1 ≤ x ∧ x < ((keptL D).length : Int)) → (ups (keptL D).length).map (fun i => (l.getD i.toNat []).map (numL (ups (keptL D).length))) = l := by
      intro l hl hx
      apply List.ext_getElem
      · rw [List.length_map, ups_len, hl]
      · intro i h1 h2
        rw [List.getElem_map]
        have h3 : i < (keptL D).length := by omega
        have h4 : (ups (keptL D).length)[i]'(by rw [ups_len]; exact h3) = (i : Int) := by
          have := ups_get h3
          rw [List.getElem?_eq_getElem (by rw [ups_len]; exact h3)] at this
          exact Option.some.inj this
        rw [h4, Int.toNat_natCast, List.getD_eq_getElem?_getD, List.getElem?_eq_getElem h2, Option.getD_some]
        conv => rhs; rw [← List.map_id (l[i])]
        apply List.map_congr_left
        intro x hxx
        exact numL_ups (hx _ (List.getElem_mem h2) x hxx)
    have e3 : (trimP (trimP D)).next = (trimP D).next := by
      show (keptL (trimP D)).map (fun i => ((trimP D).next.getD i.toNat []).map (numL (keptL (trimP D)))) = _
      rw [hkt]
      exact hn _ (trim_len D) (fun r hr x hx => by have := hrows r hr x hx; rwa [trim_len] at this)
    have e4 : (trimP (trimP D)).tag = (trimP D).tag := by
      show (keptL (trimP D)).map (fun i => (trimP D).tag.getD i.toNat (-1)) = _
      rw [hkt]
      have hl : (trimP D).tag.length = (keptL D).length := by simp [trimP]
      apply List.ext_getElem
      · rw [List.length_map, ups_len, hl]
      · intro i h1 h2
        rw [List.getElem_map]
        have h3 : i < (keptL D).length := by omega
        have h4 : (ups (keptL D).length)[i]'(by rw [ups_len]; exact h3) = (i : Int) := by
          have := ups_get h3
          rw [List.getElem?_eq_getElem (by rw [ups_len]; exact h3)] at this
          exact Option.some.inj this
        rw [h4, Int.toNat_natCast, List.getD_eq_getElem?_getD, List.getElem?_eq_getElem h2, Option.getD_some]
    have : ∀ A B : Df, A.of = B.of → A.n = B.n → A.next = B.next → A.tag = B.tag → A = B := by
      rintro ⟨⟩ ⟨⟩ rfl rfl rfl rfl; rfl
    exact this _ _ rfl rfl e3 e4
  · have h1 : trimP D = ⟨D.of, D.n, [], []⟩ := by unfold trimP; rw [kept_none h0]; rfl
    rw [h1]
    have : keptL (⟨D.of, D.n, [], []⟩ : Df) = [] := by unfold keptL foundL firstL; simp [qTo]
    unfold trimP
    rw [this]; rfl
theorem d_may {D : Df} (h : MayD D) : D.may = true := by
  unfold Df.may Df.sized
  simp only [Bool.and_eq_true, decide_eq_true_eq, beq_iff_eq, List.all_eq_true]
  refine ⟨⟨h.few, h.tags⟩, h.cls, fun r hr => ?_, inB_iff.2 h.tag⟩
  unfold rowOk
  simp only [Bool.and_eq_true, beq_iff_eq]
  exact ⟨(h.rows r hr).1, inB_iff.2 (h.rows r hr).2⟩
theorem MayD.wf {D : Df} (h : MayD D) : WfN D.next := fun r hr x hx => (h.rows r hr).2 x hx
theorem trim_mayD {D : Df} (h : MayD D) : MayD (trimP D) := by
  have hk := kept_nodup h.wf
  have hl : (keptL D).length ≤ D.next.length := nodup_len _ _ hk
  refine ⟨by rw [trim_len]; have := h.few; omega, by simp [trimP], h.cls, fun r hr => ?_, fun t ht => ?_⟩
  · obtain ⟨i, hi, rfl⟩ := List.mem_map.1 hr
    have hi2 := hk.2 i hi
    refine ⟨by rw [List.length_map]; exact (h.rows _ (getD_mem (by omega))).1, fun x hx => ?_⟩
    obtain ⟨y, _, rfl⟩ := List.mem_map.1 hx
    rw [trim_len]
    exact numL_in _ _
  · obtain ⟨i, hi, rfl⟩ := List.mem_map.1 ht
    have hi2 := hk.2 i hi
    rw [List.getD_eq_getElem?_getD]
    have : i.toNat < D.tag.length := by rw [h.tags]; omega
    rw [List.getElem?_eq_getElem this]
    exact h.tag _ (List.getElem_mem this)
def Df.tagOf (D : Df) (s : ByteArray) : Int := if D.run s = -1 then -1 else D.tag.getD (D.run s).toNat (-1)
theorem found_go {D : Df} (h : MayD D) (h0 : 0 < D.next.length) (s : ByteArray) : ∀ j, D.goTo s j ≠ -1 → D.goTo s j ∈ foundL D.next (firstL D)
  | 0, _ => found_from (by unfold firstL; rw [if_neg (by omega)]; simp [Df.goTo])
  | j + 1, hj => by
    have hj1 : D.goTo s j ≠ -1 := fun e => hj (by show (if _ then _ else _) = _; rw [if_pos e])
    have e : D.goTo s (j + 1) = D.nxt (D.goTo s j) (b8 s j) := by show (if _ then _ else _) = _; rw [if_neg hj1]
    rw [e] at hj ⊢
    refine found_closed h.wf (first_in D) (found_go h h0 s j hj1) ?_ hj
    unfold Df.nxt at hj ⊢
    rw [List.getD_eq_getElem?_getD (l := D.next.getD (D.goTo s j).toNat [])] at hj ⊢
    by_cases hq : D.of (b8 s j) < (D.next.getD (D.goTo s j).toNat []).length
    · rw [List.getElem?_eq_getElem hq]; exact List.getElem_mem hq
    · rw [List.getElem?_eq_none (by omega)] at hj; exact absurd rfl hj
theorem nxt_lv {D : Df} {y : Int} {b : Nat} (hy : 0 ≤ y) (h : Lv D (D.nxt y b)) : Lv D y := by
  have h1 := h.in
  unfold Df.nxt at h h1
  have h2 : y.toNat < D.next.length := by
    rcases Nat.lt_or_ge y.toNat D.next.length with h | h
    · exact h
    · rw [List.getD_eq_getElem?_getD (l := D.next), List.getElem?_eq_none (by omega), Option.getD_none, List.getD_eq_getElem?_getD, List.getElem?_nil, Option.getD_none] at h1; omega
  refine .step hy (by omega) ?_ h
  rw [List.getD_eq_getElem?_getD (l := D.next.getD y.toNat [])] at h1 ⊢
  by_cases hq : D.of b < (D.next.getD y.toNat []).length
  · rw [List.getElem?_eq_getElem hq]; exact List.getElem_mem hq
  · rw [List.getElem?_eq_none (by omega)] at h1
    simp at h1
theorem goTo_ge {D : Df} (h : MayD D) (h0 : 0 < D.next.length) (s : ByteArray) (j : Nat) (hj : D.goTo s j ≠ -1) : 0 ≤ D.goTo s j ∧ D.goTo s j < (D.next.length : Int) :=
  (found_in h.wf (first_in D)).2 _ (found_go h h0 s j hj)
theorem go_lv0 {D : Df} (h : MayD D) (h0 : 0 < D.next.length) (s : ByteArray) : ∀ j, Lv D (D.goTo s j) → Lv D 0
  | 0, hl => hl
  | j + 1, hl => by
    have hj1 : D.goTo s j ≠ -1 := fun e => by
      have : D.goTo s (j + 1) = -1 := by show (if _ then _ else _) = _; rw [if_pos e]
      rw [this] at hl; have := hl.in; omega
    have e : D.goTo s (j + 1) = D.nxt (D.goTo s j) (b8 s j) := by show (if _ then _ else _) = _; rw [if_neg hj1]
    rw [e] at hl
    exact go_lv0 h h0 s j (nxt_lv (goTo_ge h h0 s j hj1).1 hl)
theorem numL_out {L : List Int} {x : Int} (h : x ∉ L) : numL L x = -1 := by unfold numL; rw [if_neg h]
theorem trim_goTo {D : Df} (h : MayD D) (hl : Lv D 0) (s : ByteArray) : ∀ j, (trimP D).goTo s j = numL (keptL D) (D.goTo s j)
  | 0 => by
    have h0 : 0 < D.next.length := by have := hl.in; omega
    show (0 : Int) = numL (keptL D) 0
    have hF : foundL D.next (firstL D) = 0 :: (foundL D.next (firstL D)).tail := by
      have hp : firstL D <+: foundL D.next (firstL D) := qTo_pre D.next (firstL D) (Nat.zero_le _)
      have e : firstL D = [0] := by unfold firstL; rw [if_neg (by omega)]
      obtain ⟨c, hc⟩ := hp
      rw [← hc, e]; rfl
    have hk : keptL D = 0 :: ((foundL D.next (firstL D)).tail).filter (lvB D) := by
      unfold keptL
      rw [hF, List.filter_cons, if_pos (lvB_iff.2 hl)]; rfl
    unfold numL
    rw [hk, if_pos (by simp), List.idxOf_cons_self]; rfl
  | j + 1 => by
    have h0 : 0 < D.next.length := by have := hl.in; omega
    have ih := trim_goTo h hl s j
    show (if (trimP D).goTo s j = -1 then -1 else (trimP D).nxt ((trimP D).goTo s j) (b8 s j)) = _
    rw [ih]
    by_cases hm : D.goTo s j ∈ keptL D
    · have hn := numL_at hm
      have hne : D.goTo s j ≠ -1 := fun e => by have := (kept_nodup h.wf).2 _ hm; omega
      rw [if_neg (by omega)]
      have e : D.goTo s (j + 1) = D.nxt (D.goTo s j) (b8 s j) := by show (if _ then _ else _) = _; rw [if_neg hne]
      rw [e]
      unfold Df.nxt
      rw [trim_row hm]
      have hr := goTo_ge h h0 s j hne
      have hlen := (h.rows _ (getD_mem (i := (D.goTo s j).toNat) (by omega))).1
      have hcl := h.cl (b8 s j) (b8_lt s j)
      have hlt : D.of (b8 s j) < (D.next.getD (D.goTo s j).toNat []).length := by omega
      show (List.map (numL (keptL D)) (D.next.getD (D.goTo s j).toNat [])).getD (D.of (b8 s j)) (-1) = _
      rw [List.getD_eq_getElem?_getD, List.getD_eq_getElem?_getD (l := D.next.getD (D.goTo s j).toNat []), List.getElem?_map, List.getElem?_eq_getElem hlt]
      rfl
    · rw [numL_out hm, if_pos rfl]
      symm
      apply numL_out
      intro hm2
      have hl2 := (kept_mem.1 hm2).2
      by_cases hne : D.goTo s j = -1
      · have : D.goTo s (j + 1) = -1 := by show (if _ then _ else _) = _; rw [if_pos hne]
        rw [this] at hl2; have := hl2.in; omega
      · have e : D.goTo s (j + 1) = D.nxt (D.goTo s j) (b8 s j) := by show (if _ then _ else _) = _; rw [if_neg hne]
        rw [e] at hl2
        exact hm (kept_mem.2 ⟨found_go h h0 s j hne, nxt_lv (goTo_ge h h0 s j hne).1 hl2⟩)
theorem tag_lv {D : Df} {y : Int} (h1 : 0 ≤ y) (h2 : y < (D.next.length : Int)) (hn : ¬ Lv D y) : D.tag.getD y.toNat (-1) = -1 := by
  apply Classical.byContradiction
  intro e
  exact hn (.tag h1 h2 e)
theorem trim_tagOf {D : Df} (hm : D.may = true) (s : ByteArray) : (trimP D).tagOf s = D.tagOf s := by
  have h := may_d hm
  have ht := d_may (trim_mayD h)
  unfold Df.tagOf Df.run
  rw [hm, ht, Bool.true_and, Bool.true_and]
  by_cases hl : Lv D 0
  · have h0 : 0 < D.next.length := by have := hl.in; omega
    have hne : D.next.isEmpty = false := by cases e : D.next with | nil => rw [e] at h0; simp at h0 | cons a r => rfl
    have hk0 : (0 : Int) ∈ keptL D := kept_mem.2 ⟨found_from (by unfold firstL; rw [if_neg (by omega)]; simp), hl⟩
    have hnt : (trimP D).next.isEmpty = false := by
      have h1 : 0 < (trimP D).next.length := by rw [trim_len]; exact List.length_pos_iff.2 (List.ne_nil_of_mem hk0)
      cases e : (trimP D).next with | nil => rw [e] at h1; simp at h1 | cons a r => rfl
    rw [hne, hnt]
    simp only [Bool.not_false, if_true]
    rw [trim_goTo h hl s]
    by_cases hk : D.goTo s s.size ∈ keptL D
    · have hn := numL_at hk
      have hne : D.goTo s s.size ≠ -1 := fun e => by have := (kept_nodup h.wf).2 _ hk; omega
      rw [if_neg (by omega), if_neg hne, trim_tag hk]
    · rw [numL_out hk, if_pos rfl]
      by_cases hne : D.goTo s s.size = -1
      · rw [if_pos hne]
      · rw [if_neg hne]
        have hr := goTo_ge h h0 s _ hne
        exact (tag_lv hr.1 hr.2 fun hlv => hk (kept_mem.2 ⟨found_go h h0 s _ hne, hlv⟩)).symm
  · have hk := kept_none hl
    have hnt : (trimP D).next.isEmpty = true := by unfold trimP; rw [hk]; rfl
    rw [hnt]
    simp only [Bool.not_true, Bool.false_eq_true, if_false, if_true]
    by_cases hne : D.next = []
    · rw [hne]; simp
    · have h0 := List.length_pos_iff.2 hne
      have hie : D.next.isEmpty = false := by cases e : D.next with | nil => exact absurd e hne | cons a r => rfl
      rw [hie]
      simp only [Bool.not_false, if_true]
      by_cases hne : D.goTo s s.size = -1
      · rw [if_pos hne]
      · rw [if_neg hne]
        have hr := goTo_ge h h0 s _ hne
        exact (tag_lv hr.1 hr.2 fun hlv => hl (go_lv0 h h0 s _ hlv)).symm
end Go.Proofs.YtgngaaemkmdfaaaDoor

