/-
 AN AUTOMATON TRIMMED, by plain functions: what is found from some states, the live ones, new numbers; it tags as it did, trimmed again it is as it is. No condition.
-/
import Derived.Test.YtgngaaemkmdfaaaGreatDoorQG20
namespace Go.Proofs.YtgngaaemkmdfaaaGreatDoor
open Go.RowKit

def addQ (q : List Int) (x : Int) : List Int := if x = -1 ∨ x ∈ q then q else q ++ [x]
def addRowQ (q : List Int) (r : List Int) : List Int := r.foldl addQ q
def qTo (next : List (List Int)) (fr : List Int) : Nat → List Int
 | 0 => fr
 | k + 1 => match (qTo next fr k)[k]? with
   | none => qTo next fr k
   | some x => addRowQ (qTo next fr k) (next.getD x.toNat [])
def foundL (next : List (List Int)) (fr : List Int) : List Int := qTo next fr next.length
def InR (n : Nat) (q : List Int) : Prop := q.Nodup ∧ ∀ x ∈ q, 0 ≤ x ∧ x < (n : Int)
def WfN (next : List (List Int)) : Prop := ∀ r ∈ next, ∀ x ∈ r, -1 ≤ x ∧ x < (next.length : Int)
theorem yzak (q : List Int) (x : Int) : q <+: addQ q x := by
 unfold addQ; split
 · exact List.prefix_refl _
 · exact List.prefix_append _ _
theorem xzcs : ∀ (r q : List Int), q <+: addRowQ q r
 | [], _ => List.prefix_refl _
 | x :: r, q => (yzak q x).trans (xzcs r (addQ q x))
theorem xzix (next : List (List Int)) (fr : List Int) (k : Nat) : qTo next fr k <+: qTo next fr (k + 1) := by
 show _ <+: (match (qTo next fr k)[k]? with | none => qTo next fr k | some x => addRowQ (qTo next fr k) (next.getD x.toNat []))
 split
 · exact List.prefix_refl _
 · exact xzcs _ _
theorem xzkm (next : List (List Int)) (fr : List Int) {k m : Nat} (h : k ≤ m) : qTo next fr k <+: qTo next fr m := by
 induction h with
 | refl => exact List.prefix_refl _
 | step _ ih => exact ih.trans (xzix next fr _)
theorem xzmc {next : List (List Int)} {fr : List Int} {k : Nat} (h : (qTo next fr k).length ≤ k) : ∀ m, k ≤ m → qTo next fr m = qTo next fr k := by
 intro m hm
 induction hm with
 | refl => rfl
 | step hm ih =>
   rename_i m
   show (match (qTo next fr m)[m]? with | none => qTo next fr m | some x => addRowQ (qTo next fr m) (next.getD x.toNat [])) = _
   rw [ih, List.getElem?_eq_none (by have hm' : k ≤ m := hm; omega)]
theorem addQ_in {n : Nat} {q : List Int} {x : Int} (h : InR n q) (hx : -1 ≤ x ∧ x < (n : Int)) : InR n (addQ q x) := by
 unfold addQ; split
 · exact h
 · rename_i hn
   refine ⟨List.nodup_append.2 ⟨h.1, by simp, fun a ha b hb e => ?_⟩, fun y hy => ?_⟩
   · rw [List.mem_singleton] at hb; subst hb; subst e; exact hn (.inr ha)
   · rcases List.mem_append.1 hy with hy | hy
     · exact h.2 y hy
     · rw [List.mem_singleton] at hy; rw [hy]
       have : x ≠ -1 := fun e => hn (.inl e)
       omega
theorem xzgr {n : Nat} : ∀ (r q : List Int), InR n q → (∀ x ∈ r, -1 ≤ x ∧ x < (n : Int)) → InR n (addRowQ q r)
 | [], _, h, _ => h
 | x :: r, q, h, hr => xzgr r (addQ q x) (addQ_in h (hr x (by simp))) fun y hy => hr y (by simp [hy])
theorem yzal {next : List (List Int)} {i : Nat} (h : i < next.length) : next.getD i [] ∈ next := by
 rw [List.getD_eq_getElem?_getD, List.getElem?_eq_getElem h]; exact List.getElem_mem h
theorem WfN.row {next : List (List Int)} (h : WfN next) (i : Nat) : ∀ x ∈ next.getD i [], -1 ≤ x ∧ x < (next.length : Int) := by
 intro x hx
 by_cases hi : i < next.length
 · exact h _ (yzal hi) x hx
 · rw [List.getD_eq_getElem?_getD, List.getElem?_eq_none (by omega)] at hx; simp at hx
theorem xzmd {next : List (List Int)} {fr : List Int} (hw : WfN next) (hf : InR next.length fr) : ∀ k, InR next.length (qTo next fr k)
 | 0 => hf
 | k + 1 => by
   show InR _ (match (qTo next fr k)[k]? with | none => qTo next fr k | some x => addRowQ (qTo next fr k) (next.getD x.toNat []))
   split
   · exact xzmd hw hf k
   · exact xzgr _ _ (xzmd hw hf k) (hw.row _)
theorem xzbz : ∀ (n : Nat) (q : List Int), InR n q → q.length ≤ n
 | 0, q, h => by
   cases q with
   | nil => simp
   | cons x r => have := h.2 x (by simp); omega
 | n + 1, q, h => by
   have h1 : InR n (q.filter (· ≠ (n : Int))) := ⟨h.1.filter _, fun x hx => by
     have h2 := h.2 x ((List.mem_filter.1 hx).1); have h3 := (List.mem_filter.1 hx).2
     simp at h3; omega⟩
   have h2 := xzbz n _ h1
   have h3 : q.length ≤ (q.filter (· ≠ (n : Int))).length + 1 := by
     have h4 := List.length_eq_countP_add_countP (fun x => decide (x ≠ (n : Int))) (l := q); rw [List.countP_eq_length_filter] at h4
     have h5 : List.countP (fun a => decide ¬(decide (a ≠ (n : Int)) = true)) q ≤ 1 := by
       have e : (fun a => decide ¬(decide (a ≠ (n : Int)) = true)) = (· == (n : Int)) := by
         funext a; by_cases h : a = (n : Int) <;> simp [h]
       rw [e]; exact List.nodup_iff_count.1 h.1 (n : Int)
     omega
   omega
theorem xzkn {next : List (List Int)} {fr : List Int} (hw : WfN next) (hf : InR next.length fr) (k : Nat) : (qTo next fr k).length ≤ next.length := xzbz _ _ (xzmd hw hf k)
theorem xzko {next : List (List Int)} {fr : List Int} (hw : WfN next) (hf : InR next.length fr) {k : Nat} (h : (qTo next fr k).length ≤ k) : qTo next fr k = foundL next fr := by
 unfold foundL
 rcases Nat.le_total k next.length with h1 | h1
 · exact (xzmc h _ h1).symm
 · exact xzmc (xzkn hw hf _) _ h1
theorem xzme {next : List (List Int)} {fr : List Int} (hw : WfN next) (hf : InR next.length fr) : InR next.length (foundL next fr) := xzmd hw hf _
theorem yzam {q : List Int} {x y : Int} : y ∈ addQ q x ↔ y ∈ q ∨ (y = x ∧ x ≠ -1) := by
 unfold addQ; split
 · rename_i h
   constructor
   · exact .inl
   · rintro (h1 | ⟨rfl, h2⟩)
     · exact h1
     · exact h.resolve_left h2
 · rename_i h
   rw [List.mem_append, List.mem_singleton]
   constructor
   · rintro (h1 | rfl)
     · exact .inl h1
     · exact .inr ⟨rfl, fun e => h (.inl e)⟩
   · rintro (h1 | ⟨h1, _⟩)
     · exact .inl h1
     · exact .inr h1
theorem xzev : ∀ (r q : List Int) (y : Int), y ∈ addRowQ q r ↔ y ∈ q ∨ (y ∈ r ∧ y ≠ -1)
 | [], q, y => by simp [addRowQ]
 | x :: r, q, y => by
   show y ∈ addRowQ (addQ q x) r ↔ _
   rw [xzev r, yzam, List.mem_cons]
   constructor
   · rintro ((h | ⟨rfl, h⟩) | ⟨h, h'⟩)
     · exact .inl h
     · exact .inr ⟨.inl rfl, h⟩
     · exact .inr ⟨.inr h, h'⟩
   · rintro (h | ⟨rfl | h, h'⟩)
     · exact .inl (.inl h)
     · exact .inl (.inr ⟨rfl, h'⟩)
     · exact .inr ⟨h, h'⟩
theorem xzmf {next : List (List Int)} {fr : List Int} (hw : WfN next) (hf : InR next.length fr) {x y : Int} (hx : x ∈ foundL next fr) (hy : y ∈ next.getD x.toNat []) (hne : y ≠ -1) : y ∈ foundL next fr := by
 obtain ⟨k, hk, rfl⟩ := List.getElem_of_mem hx; have hl : (foundL next fr).length ≤ next.length := xzkn hw hf _
 have hkn : k < next.length := by omega
 have hkl : k < (qTo next fr k).length := by
   rcases Nat.lt_or_ge k (qTo next fr k).length with h | h
   · exact h
   · have := xzko hw hf h; rw [this] at h; omega
 have hp : qTo next fr k <+: foundL next fr := xzkm next fr (by omega)
 have he : (qTo next fr k)[k]? = some (foundL next fr)[k] := by
   rw [List.getElem?_eq_getElem hkl]; rw [hp.getElem hkl]
 have h1 : y ∈ qTo next fr (k + 1) := by
   show y ∈ (match (qTo next fr k)[k]? with | none => qTo next fr k | some x => addRowQ (qTo next fr k) (next.getD x.toNat []))
   rw [he]; exact (xzev _ _ _).2 (.inr ⟨hy, hne⟩)
 exact (xzkm next fr (show k + 1 ≤ next.length by omega)).subset h1
theorem xzsh {next : List (List Int)} {fr : List Int} {x : Int} (h : x ∈ fr) : x ∈ foundL next fr := (xzkm next fr (Nat.zero_le next.length)).subset h
theorem xzod {next : List (List Int)} {fr : List Int} (P : Int → Prop) (h0 : ∀ x ∈ fr, P x) (hs : ∀ x, P x → ∀ y ∈ next.getD x.toNat [], y ≠ -1 → P y) : ∀ k, ∀ x ∈ qTo next fr k, P x
 | 0 => h0
 | k + 1 => by
   intro x hx; have hx' : x ∈ (match (qTo next fr k)[k]? with | none => qTo next fr k | some x => addRowQ (qTo next fr k) (next.getD x.toNat [])) := hx
   split at hx'
   · exact xzod P h0 hs k x hx'
   · rename_i z hz
     rcases (xzev _ _ _).1 hx' with h | ⟨h, h'⟩
     · exact xzod P h0 hs k x h
     · exact hs z (xzod P h0 hs k z (List.mem_of_getElem? hz)) x h h'
theorem xzoe {next : List (List Int)} {fr : List Int} (P : Int → Prop) (h0 : ∀ x ∈ fr, P x) (hs : ∀ x, P x → ∀ y ∈ next.getD x.toNat [], y ≠ -1 → P y) {x : Int} (hx : x ∈ foundL next fr) : P x := xzod P h0 hs _ x hx
inductive Lv (D : Df) : Int → Prop
 | tag {i : Int} : 0 ≤ i → i < (D.next.length : Int) → D.tag.getD i.toNat (-1) ≠ -1 → Lv D i
 | step {i x : Int} : 0 ≤ i → i < (D.next.length : Int) → x ∈ D.next.getD i.toNat [] → Lv D x → Lv D i
theorem Lv.in {D : Df} {i : Int} (h : Lv D i) : 0 ≤ i ∧ i < (D.next.length : Int) := by cases h <;> exact ⟨by assumption, by assumption⟩
noncomputable def lvB (D : Df) (x : Int) : Bool := @decide (Lv D x) (Classical.propDecidable _)
theorem lvB_iff {D : Df} {x : Int} : lvB D x = true ↔ Lv D x := by unfold lvB; simp
theorem lvB_neg (D : Df) : lvB D (-1) = false := by
 rw [Bool.eq_false_iff]; intro h; have := (lvB_iff.1 h).in; omega
def firstL (D : Df) : List Int := if D.next.length = 0 then [] else [0]
theorem xzec (D : Df) : InR D.next.length (firstL D) := by
 unfold firstL; split
 · exact ⟨by simp, by simp⟩
 · exact ⟨by simp, fun x hx => by simp at hx; omega⟩
noncomputable def keptL (D : Df) : List Int := (foundL D.next (firstL D)).filter (lvB D)
def numL (L : List Int) (x : Int) : Int := if x ∈ L then (L.idxOf x : Nat) else -1
noncomputable def trimP (D : Df) : Df := ⟨D.of, D.n, (keptL D).map fun i => (D.next.getD i.toNat []).map (numL (keptL D)), (keptL D).map fun i => D.tag.getD i.toNat (-1)⟩
theorem xzkp {D : Df} (hw : WfN D.next) : InR D.next.length (keptL D) :=
 have h := xzme hw (xzec D)
 ⟨h.1.filter _, fun x hx => h.2 x ((List.mem_filter.1 hx).1)⟩
theorem kept_mem {D : Df} {x : Int} : x ∈ keptL D ↔ x ∈ foundL D.next (firstL D) ∧ Lv D x := by
 unfold keptL; rw [List.mem_filter, lvB_iff]
theorem numL_at {L : List Int} {x : Int} (h : x ∈ L) : 0 ≤ numL L x ∧ L[(numL L x).toNat]? = some x := by
 unfold numL; rw [if_pos h]; refine ⟨by omega, ?_⟩; rw [Int.toNat_natCast]; rw [List.getElem?_eq_getElem (List.idxOf_lt_length_of_mem h), List.getElem_idxOf]
noncomputable def liveN (D : Df) : List (List Int) := D.next.map fun r => r.map fun x => if lvB D x then x else -1
theorem xzfo (D : Df) (i : Nat) : (liveN D).getD i [] = (D.next.getD i []).map fun x => if lvB D x then x else -1 := by
 unfold liveN; rw [List.getD_eq_getElem?_getD, List.getD_eq_getElem?_getD, List.getElem?_map]
 cases D.next[i]? <;> rfl
theorem xzsi {D : Df} (hw : WfN D.next) : WfN (liveN D) := by
 intro r hr x hx; unfold liveN at hr ⊢; rw [List.length_map]; obtain ⟨r', h1, rfl⟩ := List.mem_map.1 hr; obtain ⟨y, h2, rfl⟩ := List.mem_map.1 hx; have := hw r' h1 y h2
 split <;> omega
theorem xzpo (D : Df) (q : List Int) (x : Int) : (addQ q x).filter (lvB D) = addQ (q.filter (lvB D)) (if lvB D x then x else -1) := by
 by_cases hl : lvB D x = true
 · have hx : x ≠ -1 := fun e => by rw [e, lvB_neg] at hl; cases hl
   rw [if_pos hl]; unfold addQ
   by_cases hq : x ∈ q
   · rw [if_pos (.inr hq), if_pos (.inr (List.mem_filter.2 ⟨hq, hl⟩))]
   · rw [if_neg (by simp [hx, hq]), if_neg (by simp [hx, hq]), List.filter_append]
     simp [hl]
 · rw [if_neg hl]
   have e : addQ (q.filter (lvB D)) (-1) = q.filter (lvB D) := by unfold addQ; rw [if_pos (.inl rfl)]
   rw [e]; unfold addQ
   split
   · rfl
   · rw [List.filter_append]; simp [hl]
theorem xzej (D : Df) : ∀ (r q : List Int), (addRowQ q r).filter (lvB D) = addRowQ (q.filter (lvB D)) (r.map fun x => if lvB D x then x else -1)
 | [], _ => rfl
 | x :: r, q => by
   show (addRowQ (addQ q x) r).filter (lvB D) = addRowQ (addQ (q.filter (lvB D)) (if lvB D x then x else -1)) (r.map _)
   rw [xzej D r, xzpo]
theorem xzgs : ∀ (r q : List Int), (∀ x ∈ r, x = -1) → addRowQ q r = q
 | [], _, _ => rfl
 | x :: r, q, h => by
   show addRowQ (addQ q x) r = q
   have : addQ q x = q := by unfold addQ; rw [if_pos (.inl (h x (by simp)))]
   rw [this]
   exact xzgs r q fun y hy => h y (by simp [hy])
theorem xzdp {q : List Int} {k : Nat} {x : Int} (h : q[k]? = some x) (p : Int → Bool) : (q.take (k + 1)).filter p = (q.take k).filter p ++ (if p x then [x] else []) := by
 have hk := (List.getElem?_eq_some_iff.1 h); obtain ⟨hlt, rfl⟩ := hk; rw [List.take_succ_eq_append_getElem hlt, List.filter_append]
 congr 1
 by_cases e : p q[k] = true
 · simp [e]
 · simp [e]
theorem yzan {a b : List Int} (h : a <+: b) {k : Nat} (hk : k ≤ a.length) : b.take k = a.take k := by
 obtain ⟨c, rfl⟩ := h; rw [List.take_append_of_le_length hk]
theorem xzsj {D : Df} (hw : WfN D.next) : ∀ k, k ≤ (qTo D.next (firstL D) k).length → Lv D 0 → ((qTo D.next (firstL D) k).filter (lvB D)) = qTo (liveN D) (firstL D) (((qTo D.next (firstL D) k).take k).filter (lvB D)).length
 | 0, _, h0 => by
   show (firstL D).filter (lvB D) = qTo (liveN D) (firstL D) 0
   show (firstL D).filter (lvB D) = firstL D
   unfold firstL; split
   · rfl
   · simp [lvB_iff.2 h0]
 | k + 1, hk, h0 => by
   have hkl : k < (qTo D.next (firstL D) k).length := by
     rcases Nat.lt_or_ge k (qTo D.next (firstL D) k).length with h | h
     · exact h
     · have := xzmc h (k + 1) (by omega); rw [this] at hk; omega
   have ih := xzsj hw k (by omega) h0; obtain ⟨x, hx⟩ : ∃ x, (qTo D.next (firstL D) k)[k]? = some x := ⟨_, List.getElem?_eq_getElem hkl⟩; have hp := xzix D.next (firstL D) k; rw [yzan hp (by omega), xzdp hx]
   have hq : qTo D.next (firstL D) (k + 1) = addRowQ (qTo D.next (firstL D) k) (D.next.getD x.toNat []) := by
     show (match (qTo D.next (firstL D) k)[k]? with | none => qTo D.next (firstL D) k | some x => addRowQ (qTo D.next (firstL D) k) (D.next.getD x.toNat [])) = _
     rw [hx]
   rw [hq, xzej]; obtain ⟨q, hqe⟩ : ∃ q, qTo D.next (firstL D) k = q := ⟨_, rfl⟩; rw [hqe] at ih hx hkl ⊢
   by_cases hl : lvB D x = true
   · rw [if_pos hl, List.length_append, List.length_singleton]
     show _ = (match (qTo (liveN D) (firstL D) ((q.take k).filter (lvB D)).length)[((q.take k).filter (lvB D)).length]? with | none => _ | some y => addRowQ _ ((liveN D).getD y.toNat []))
     rw [← ih]
     have he : (q.filter (lvB D))[((q.take k).filter (lvB D)).length]? = some x := by
       have e1 : q.filter (lvB D) = (q.take k).filter (lvB D) ++ (x :: (q.drop (k + 1)).filter (lvB D)) := by
         conv => lhs; rw [← List.take_append_drop k q]
         rw [List.filter_append]
         congr 1
         obtain ⟨hlt, hxe⟩ := List.getElem?_eq_some_iff.1 hx; rw [List.drop_eq_getElem_cons hlt, List.filter_cons, hxe, if_pos hl]
       rw [e1, List.getElem?_append_right (Nat.le_refl _)]; simp
     rw [he]
     dsimp only
     rw [xzfo]
   · rw [if_neg hl, List.append_nil, ← ih]
     apply xzgs
     intro y hy; obtain ⟨z, hz, rfl⟩ := List.mem_map.1 hy; rw [if_neg]; intro hz2
     apply hl
     rw [lvB_iff] at hz2 ⊢; have hxin : 0 ≤ x ∧ x < (D.next.length : Int) := (hqe ▸ xzmd hw (xzec D) k : InR D.next.length q).2 x (List.mem_of_getElem? hx); exact .step hxin.1 hxin.2 hz hz2
theorem firstN (D : Df) : firstL D = firstL ⟨D.of, D.n, liveN D, D.tag⟩ := by unfold firstL liveN; simp
theorem xzsk {D : Df} (hw : WfN D.next) (h0 : Lv D 0) : keptL D = foundL (liveN D) (firstL D) := by
 have hN : 0 < D.next.length := by have := h0.in; omega
 have hin := xzec ⟨D.of, D.n, liveN D, D.tag⟩; rw [← firstN] at hin
 -- the last place that was gone along
 obtain ⟨k, hk, hf⟩ : ∃ k, (qTo D.next (firstL D) k).length = k ∧ qTo D.next (firstL D) k = foundL D.next (firstL D) := by
   refine ⟨(foundL D.next (firstL D)).length, ?_⟩; have hl : (foundL D.next (firstL D)).length ≤ D.next.length := xzkn hw (xzec D) _
   rcases Nat.lt_or_ge (foundL D.next (firstL D)).length (qTo D.next (firstL D) (foundL D.next (firstL D)).length).length with h | h
   · have := (xzkm D.next (firstL D) hl).length_le
     change _ ≤ (foundL D.next (firstL D)).length at this
     omega
   · have e := xzko hw (xzec D) h
     exact ⟨by rw [e], e⟩
 have h1 := xzsj hw k (by omega) h0; rw [hf] at h1 hk
 have h2 : ((foundL D.next (firstL D)).take k).filter (lvB D) = (foundL D.next (firstL D)).filter (lvB D) := by
   rw [List.take_of_length_le (by omega)]
 rw [h2] at h1
 change keptL D = qTo (liveN D) (firstL D) (keptL D).length at h1
 have h3 : (qTo (liveN D) (firstL D) (keptL D).length).length ≤ (keptL D).length := by rw [← h1]; exact Nat.le_refl _
 exact h1.trans (xzko (xzsi hw) hin h3)
theorem xzwj {L q : List Int} {x : Int} (hL : L.Nodup) (hp : q ++ [x] <+: L) : numL L x = (q.length : Int) := by
 have hx : x ∈ L := hp.subset (by simp); unfold numL; rw [if_pos hx]; obtain ⟨c, rfl⟩ := hp; rw [List.append_assoc] at hL ⊢; rw [List.idxOf_append, if_neg (fun h => (List.nodup_append.1 hL).2.2 x h x (by simp) rfl)]
 simp
theorem xzof {D : Df} (h0 : ¬ Lv D 0) : keptL D = [] := by
 unfold keptL; rw [List.filter_eq_nil_iff]; intro x hx hl
 apply h0
 have hx0 := (lvB_iff.1 hl)
 -- who is found leads back to the first one
 have : ∀ y ∈ foundL D.next (firstL D), Lv D y → Lv D 0 := fun y hy => by
   refine xzoe (next := D.next) (fr := firstL D) (fun z => (Lv D z → Lv D 0)) ?_ ?_ hy
   · intro z hz hlz
     unfold firstL at hz
     split at hz
     · simp at hz
     · rw [List.mem_singleton] at hz; rwa [hz] at hlz
   · intro z hz y hy _ hly
     by_cases hzz : z.toNat < D.next.length
     · by_cases h : 0 ≤ z
       · exact hz (.step h (by omega) hy hly)
       · have e : z.toNat = (0 : Int).toNat := by simp; omega
         rw [e] at hy; exact .step (by omega) (by omega) hy hly
     · rw [List.getD_eq_getElem?_getD, List.getElem?_eq_none (by omega)] at hy; simp at hy
 exact this x hx hx0
theorem MayD.wf {D : Df} (h : MayD D) : WfN D.next := fun r hr x hx => (h.rows r hr).2 x hx
def Df.tagOf (D : Df) (s : ByteArray) : Int := if D.run s = -1 then -1 else D.tag.getD (D.run s).toNat (-1)
theorem xziy {L : List Int} {x : Int} (h : x ∉ L) : numL L x = -1 := by unfold numL; rw [if_neg h]
end Go.Proofs.YtgngaaemkmdfaaaGreatDoor

