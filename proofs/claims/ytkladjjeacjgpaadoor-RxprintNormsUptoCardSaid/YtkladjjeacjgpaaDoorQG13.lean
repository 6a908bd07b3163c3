/-
  hackleref07's Norm, ITS SECOND LOOP: the row of what stays: what is held, and one more. No condition.
-/
import Derived.Test.YtkladjjeacjgpaaDoorQG12
import Derived.Test.YtkladjjeacjgpaaDoorQTplain
import Derived.Test.YtkladjjeacjgpaaDoorQTnorm
import Derived.Test.YtkladjjeacjgpaaDoorQRef1c
namespace Go.Proofs.YtkladjjeacjgpaaDoor
open Go.RowKit

/-- the row of what stays, behind the world w2 in which the flat row lies -/
def NormT (w : World) (H : Nat → Bool) (w2 : World) (o : Value) (ps : List Tree) (xs : List Value) (u : World) : Prop := RowQ w2.heap.size (NH w H) u o ps xs ∧ Below w2.heap.size w2 u
theorem NormT.nil (w : World) (H : Nat → Bool) (w2 : World) : NormT w H w2 (.slice none 0 0) [] [] w2 := ⟨RowQ.nil _ _ _, Below.refl _ _⟩
theorem NormT.step {w w2 u u' : World} {H : Nat → Bool} {o : Value} {ps : List Tree} {xs : List Value} (h : NormT w H w2 o ps xs u) (hb : Below u.heap.size u u') : NormT w H w2 o ps xs u' := ⟨h.1.step hb, h.2.trans (hb.mono h.2.size)⟩
/-- what lies in the flat row's world is seen beside the row of what stays -/
theorem NormT.seen {w w2 u : World} {H H0 : Nat → Bool} {o : Value} {ps : List Tree} {xs : List Value} (h : NormT w H w2 o ps xs u) (hH : ∀ k, H0 k = false → NH w H k = false) : Sub (hide w2 H0) (hide u (QHide (NH w H) o)) :=
  hide_sub fun k h1 h2 => ⟨QHide_no.2 ⟨hH k h1, fun e => by have := (h.1.1.lt k e).1; omega⟩, h.2.block k h2⟩
theorem NormT.push {w w2 u : World} {H : Nat → Bool} {o : Value} {ps : List Tree} {xs : List Value} (h : NormT w H w2 o ps xs u) {U : Tree} {k : Int} {m : Nat → Bool} {A : Option Addr} {n c : Nat} {lo hi : Int}
    (hU : U.At (hide u (QHide (NH w H) o)) (reV k m A n c lo hi)) (hl : ps.length + 1 ≤ 1099511627776) :
    ∃ v' W', (Builtin.append_ #[25, 25] 25 #[o, .slice (some ⟨u.heap.size, 0, none⟩) 1 1]).run Tryd.prog (u.alloc (.cells (reL k m A n c lo hi).toArray 27)) = .ok v' W' ∧ NormT w H w2 v' (ps ++ [U]) (xs ++ reL k m A n c lo hi) W' := by
  have hUB : Below u.heap.size u (u.alloc (.cells (reL k m A n c lo hi).toArray 27)) := (Below.refl _ _).alloc (Nat.le_refl _) _
  have h1 := h.step hUB
  have hnew := BlkIs.new u 27 (reL k m A n c lo hi).toArray
  obtain ⟨v', W', hr, hrq, hgr⟩ := h1.1.pushes (a := ⟨u.heap.size, 0, none⟩) (c := 1) (l2 := [U]) (ys := reL k m A n c lo hi) h1.2.size (by simp [reL]) (fun q x hx => by
      rw [Addr.add_lit, Nat.zero_add]
      have := hnew.range q x (by simpa using hx)
      simpa using this) one_reL (fun i hii => by
      obtain rfl : i = 0 := by simpa using hii
      have e : chunk (reL k m A n c lo hi) 0 = reL k m A n c lo hi := by unfold chunk; simp [reL]
      rw [e]
      exact hU.sub (hide_sub fun q g1 g2 => ⟨g1, hUB.block q g2⟩)) (by simpa using hl)
  exact ⟨v', W', hr, hrq, h1.1.tail hgr h1.2 h1.2.size⟩
theorem NormT.fin {w w2 u u' : World} {H : Nat → Bool} {o : Value} {ps : List Tree} {xs : List Value} (h : NormT w H w2 o ps xs u) (hb : Below u.heap.size u u') (hw : Below w.heap.size w w2) (vs : List Value) :
    Sub (hide u (QHide (NH w H) o)) (hide (u'.setCells (w.heap.size + 1) 0 vs) H) ∧ Sub (hide u (NH w H)) (hide (u'.setCells (w.heap.size + 1) 0 vs) H) ∧ Below w.heap.size w (u'.setCells (w.heap.size + 1) 0 vs) ∧ Sub (hide w2 (NH w H)) (hide (u'.setCells (w.heap.size + 1) 0 vs) H) := by
  refine ⟨hide_sub fun k h1 h2 => ?_, hide_sub fun k h1 h2 => ?_, below_cells _ vs 0 u' (by omega) (hw.trans ((h.2.trans (hb.mono h.2.size)).mono hw.size)), hide_sub fun k h1 h2 => ?_⟩
  · have g := NH_no.1 (QHide_no.1 h1).1
    exact ⟨g.1, (heap_cells _ k g.2.2 vs 0 u').trans (hb.block k h2)⟩
  · have g := NH_no.1 h1
    exact ⟨g.1, (heap_cells _ k g.2.2 vs 0 u').trans (hb.block k h2)⟩
  · have g := NH_no.1 h1
    exact ⟨g.1, (heap_cells _ k g.2.2 vs 0 u').trans ((h.2.trans (hb.mono h.2.size)).block k h2)⟩
/-- the row that flat is given -/
theorem RowQ.src {B : Nat} {H : Nat → Bool} {W : World} {v : Value} {l : List Tree} {xs : List Value} (h : RowQ B H W v l xs) : ∃ A c, v = .slice A l.length c ∧ (l.length ≤ c ∧ c ≤ 9223372036854775807) ∧ SrcAt W (QHide H v) l A := by
  by_cases hne : l = []
  · obtain ⟨A, c, rfl, h2, h3⟩ := h.len
    exact ⟨A, c, rfl, ⟨h2, h3⟩, fun h => absurd hne h⟩
  · obtain ⟨g, c, rfl, hc, hg, hlt, hall⟩ := h.place hne
    exact ⟨_, c, rfl, hc, fun _ => ⟨g, 0, rfl, fun i hi => ⟨chunk xs i, (hall i hi).1, (hall i hi).2.1, fun j u hu => by rw [Nat.zero_add]; exact (hall i hi).2.2 j u hu⟩⟩⟩
/-- one of a row, by its eight cells -/
theorem SrcAt.get {W : World} {H : Nat → Bool} {l : List Tree} {A : Option Addr} (h : SrcAt W H l A) {j : Nat} (hj : j < l.length) :
    ∃ b o A' n' c', A = some ⟨b, o, none⟩ ∧ (l[j]).At (hide W H) (reV (l[j]).kind (l[j]).set A' n' c' (l[j]).lo (l[j]).hi) ∧ W.rangeAt b (o + j * 8) (reL (l[j]).kind (l[j]).set A' n' c' (l[j]).lo (l[j]).hi) := by
  obtain ⟨b, o, e, hg⟩ := h (by intro e; subst e; simp at hj)
  obtain ⟨cs, h1, h2, h3⟩ := hg j hj
  obtain ⟨A', n', c', rfl⟩ := h1.eight
  exact ⟨b, o, A', n', c', e, h1, h3⟩
theorem litk {k : Int} {A : Option Addr} {n c : Nat} : [Value.int .i64 k, .int .u64 0, .int .u64 0, .int .u64 0, .int .u64 0, .slice A n c, .int .i64 0, .int .i64 0] = reL k (fun _ => false) A n c 0 0 := by
  unfold reL
  simp only [wd_zero]; rfl
theorem nodesL_mem_len : ∀ l : List Tree, l.length ≤ nodesL l
  | [] => by simp [nodesL]
  | t :: r => by have := nodes_pos t; have := nodesL_mem_len r; simp only [nodesL, List.length_cons]; omega
theorem plainL_few : ∀ l : List Tree, (∀ t ∈ l, t.ok = true) → nodesL (plainL l) ≤ nodesL l
  | [], _ => by simp [plainL, nodesL]
  | t :: r, h => by
    have h1 := plain_nodes t (ok_reps t (h t (by simp)))
    have h2 := plainL_few r fun x hx => h x (by simp [hx])
    simp only [plainL, nodesL]; omega
theorem catKeep_snoc (l : List Tree) (t : Tree) : catKeep (l ++ [t]) = if t.kind = 0 then catKeep l else catKeep l ++ [t] := by
  unfold catKeep
  rw [List.filter_append]
  by_cases h : t.kind = 0
  · simp [h]
  · simp [h]
end Go.Proofs.YtkladjjeacjgpaaDoor

/-
  hackleref07's Norm, ITS SECOND LOOP AT A ReAlt: where the first ReByte stands; bytes put into it; the row at the end. No condition.
-/
namespace Go.Proofs.YtkladjjeacjgpaaDoor
open Go.RowKit

/-- the number of the first ReByte of a row (there is at most one), or -1 -/
def FirstIs (fz : Int) (out : List Tree) : Prop := (fz = -1 ∧ ∀ t ∈ out, t.kind ≠ 1) ∨ ∃ q : Nat, fz = (q : Int) ∧ ∃ h : q < out.length, (out[q]).kind = 1 ∧ ∀ (i : Nat) (h : i < out.length), i ≠ q → (out[i]).kind ≠ 1
theorem FirstIs.nil : FirstIs (-1) [] := .inl ⟨rfl, by simp⟩
theorem FirstIs.more {fz : Int} {out : List Tree} (h : FirstIs fz out) {x : Tree} (hx : x.kind ≠ 1) : FirstIs fz (out ++ [x]) := by
  rcases h with ⟨h1, h2⟩ | ⟨q, h1, h2, h3, h4⟩
  · refine .inl ⟨h1, fun t ht => ?_⟩
    rcases List.mem_append.1 ht with h | h
    · exact h2 t h
    · obtain rfl : t = x := by simpa using h
      exact hx
  · refine .inr ⟨q, h1, by rw [List.length_append]; omega, by rw [List.getElem_append_left h2]; exact h3, fun i hi hne => ?_⟩
    by_cases hil : i < out.length
    · rw [List.getElem_append_left hil]; exact h4 i hil hne
    · rw [List.getElem_append_right (by omega)]
      simpa using hx
theorem FirstIs.one {out : List Tree} (h : ∀ t ∈ out, t.kind ≠ 1) {x : Tree} (hx : x.kind = 1) : FirstIs (out.length : Int) (out ++ [x]) := by
  refine .inr ⟨out.length, rfl, by simp, by simpa using hx, fun i hi hne => ?_⟩
  have hil : i < out.length := by rw [List.length_append, List.length_singleton] at hi; omega
  rw [List.getElem_append_left hil]
  exact h _ (List.getElem_mem hil)
theorem FirstIs.set {q : Nat} {out : List Tree} (h : q < out.length) (ho : ∀ (i : Nat) (h : i < out.length), i ≠ q → (out[i]).kind ≠ 1) {x : Tree} (hx : x.kind = 1) : FirstIs (q : Int) (out.set q x) := by
  refine .inr ⟨q, rfl, by simpa using h, by rw [List.getElem_set_self]; exact hx, fun i hi hne => ?_⟩
  rw [List.getElem_set_ne (by omega)]
  exact ho i (by simpa using hi) hne
theorem set_map {q : Nat} {out : List Tree} (h : q < out.length) (hq : (out[q]).kind = 1) (ho : ∀ (i : Nat) (h : i < out.length), i ≠ q → (out[i]).kind ≠ 1) (m : Nat → Bool) :
    out.map (addS m) = out.set q (.node 1 (sTwo (out[q]).set m 0) [] 0 0) := by
  apply List.ext_getElem
  · simp
  · intro i h1 h2
    rw [List.getElem_map]
    by_cases e : i = q
    · subst e
      rw [List.getElem_set_self]
      unfold addS
      rw [if_pos (by simpa using hq)]
      have : sOr (out[i]).set m = sTwo (out[i]).set m 0 := by funext b; unfold sOr sTwo; simp
      rw [this]
    · rw [List.getElem_set_ne (by omega)]
      unfold addS
      rw [if_neg (by simpa using ho i (by simpa using h1) e)]
theorem stepN_void {out : List Tree} {x : Tree} (h : x.isV = true) : stepN out x = out := by unfold stepN; rw [if_pos h]
theorem stepN_new {out : List Tree} {x : Tree} (h : x.isV = false) (hk : x.kind = 1) (ho : ∀ t ∈ out, t.kind ≠ 1) : stepN out x = out ++ [x] := by
  unfold stepN
  rw [if_neg (by simp [h]), if_pos (by simpa using hk), if_neg ?_]
  intro e
  obtain ⟨t, ht, h1⟩ := List.any_eq_true.1 e
  exact ho t ht (by simpa using h1)
theorem stepN_add {q : Nat} {out : List Tree} {x : Tree} (h : x.isV = false) (hk : x.kind = 1) (hq : q < out.length) (hq1 : (out[q]).kind = 1) : stepN out x = out.map (addS x.set) := by
  unfold stepN
  rw [if_neg (by simp [h]), if_pos (by simpa using hk), if_pos (List.any_eq_true.2 ⟨_, List.getElem_mem hq, by simpa using hq1⟩)]
theorem stepN_else {out : List Tree} {x : Tree} (h : x.isV = false) (hk : x.kind ≠ 1) : stepN out x = if out.any (fun t => t.same x) then out else out ++ [x] := by
  unfold stepN
  rw [if_neg (by simp [h]), if_neg (by simpa using hk)]
theorem stepN_len (out : List Tree) (x : Tree) : (stepN out x).length ≤ out.length + 1 := by
  unfold stepN
  split
  · omega
  · split
    · split <;> simp
    · split <;> simp
theorem fold_snoc (l : List Tree) (x : Tree) : (l ++ [x]).foldl stepN [] = stepN (l.foldl stepN []) x := by rw [List.foldl_append]; rfl

/-- the row with the bytes of all -/
theorem NormT.turn {w w2 u : World} {H : Nat → Bool} {o : Value} {L : List Tree} {xs : List Value} (h : NormT w H w2 o (altTold (uniV L) L) xs u) : (altStay L).length = (altTold (uniV L) L).length ∧ NormT w H w2 o (altStay L) xs u := by
  have e : altStay L = (altTold (uniV L) L).map (turnT (unionT L)) := by unfold altStay; exact told_chg _ _ _
  have hl : (altStay L).length = (altTold (uniV L) L).length := by rw [e, List.length_map]
  refine ⟨hl, ⟨by rw [hl]; exact h.1.1, fun i hi => ?_⟩, h.2⟩
  have hi' : i < (altTold (uniV L) L).length := by rw [← hl]; exact hi
  have e2 : (altStay L)[i] = turnT (unionT L) (altTold (uniV L) L)[i] := by simp only [e, List.getElem_map]
  rw [e2]
  exact at_turn (h.1.2 i hi') (fun hk => told_one (List.getElem_mem hi') hk) fun b hb => uniV_union hb
theorem chunk_put {xs vs : List Value} {n q i : Nat} (hx : xs.length = n * 8) (hv : vs.length = 4) (hq : q < n) (hi : i < n) :
    chunk (xs.take (q * 8 + 1) ++ vs ++ xs.drop (q * 8 + 5)) i = if i = q then (chunk xs q).take 1 ++ vs ++ (chunk xs q).drop 5 else chunk xs i := by
  apply List.ext_getElem?
  intro j
  have hlen : (xs.take (q * 8 + 1) ++ vs ++ xs.drop (q * 8 + 5)).length = n * 8 := by simp [hv]; omega
  unfold chunk
  by_cases hj : j < 8
  · have get : (xs.take (q * 8 + 1) ++ vs ++ xs.drop (q * 8 + 5))[i * 8 + j]? = if i * 8 + j < q * 8 + 1 then xs[i * 8 + j]? else if i * 8 + j < q * 8 + 5 then vs[i * 8 + j - (q * 8 + 1)]? else xs[i * 8 + j]? := by
      have h1 : (xs.take (q * 8 + 1)).length = q * 8 + 1 := by rw [List.length_take]; omega
      split
      · rename_i h
        rw [List.append_assoc, List.getElem?_append_left (by omega), List.getElem?_take_of_lt h]
      · split
        · rename_i h h2
          rw [List.getElem?_append_left (by rw [List.length_append]; omega), List.getElem?_append_right (by omega), h1]
        · rename_i h h2
          rw [List.getElem?_append_right (by rw [List.length_append]; omega), List.getElem?_drop, List.length_append, h1, hv]
          congr 1; omega
    rw [List.getElem?_take_of_lt hj, List.getElem?_drop, get]
    by_cases e : i = q
    · subst e
      rw [if_pos rfl]
      have h8 : ((xs.drop (i * 8)).take 8).length = 8 := by simp; omega
      have ht1 : (((xs.drop (i * 8)).take 8).take 1).length = 1 := by rw [List.length_take]; omega
      by_cases hj1 : j < 1
      · rw [if_pos (by omega), List.append_assoc, List.getElem?_append_left (by omega), List.getElem?_take_of_lt hj1, List.getElem?_take_of_lt hj, List.getElem?_drop]
      · by_cases hj5 : j < 5
        · rw [if_neg (by omega), if_pos (by omega), List.getElem?_append_left (by rw [List.length_append]; omega), List.getElem?_append_right (by omega), ht1]
          congr 1; omega
        · rw [if_neg (by omega), if_neg (by omega), List.getElem?_append_right (by rw [List.length_append]; omega), List.getElem?_drop, List.length_append, ht1, hv, List.getElem?_take_of_lt (by omega), List.getElem?_drop]
          congr 1; omega
    · rw [if_neg e, List.getElem?_take_of_lt hj, List.getElem?_drop]
      by_cases hlt : i < q
      · rw [if_pos (by omega)]
      · rw [if_neg (by omega), if_neg (by omega)]
  · rw [List.getElem?_eq_none (by rw [List.length_take]; omega)]
    by_cases e : i = q
    · rw [if_pos e, List.getElem?_eq_none (by simp [hv]; omega)]
    · rw [if_neg e, List.getElem?_eq_none (by rw [List.length_take]; omega)]
/-- bytes put into the row's ReByte -/
theorem NormT.put {w w2 u : World} {H : Nat → Bool} {g co : Nat} {out : List Tree} {xs : List Value} (h : NormT w H w2 (.slice (some ⟨g, 0, none⟩) out.length co) out xs u) {q : Nat} (hq : q < out.length) {mq : Nat → Bool} (hn : out[q] = .node 1 mq [] 0 0) (m2 : Nat → Bool) :
    ∃ xs', NormT w H w2 (.slice (some ⟨g, 0, none⟩) out.length co) (out.set q (.node 1 m2 [] 0 0)) xs' (u.setCells g (q * 8 + 1) (set4 m2)) := by
  have hx : xs.length = out.length * 8 := h.1.1.1
  have hg := h.1.1.lt g rfl
  have hsp : ∀ (n : Nat) (l : List Value), l = l.take n ++ ((l.drop n).take 4 ++ l.drop (n + 4)) := fun n l =>
    (List.take_append_drop n l).symm.trans (congrArg (l.take n ++ ·) ((List.take_append_drop 4 (l.drop n)).symm.trans (by rw [List.drop_drop])))
  have hsplit : xs = xs.take (q * 8 + 1) ++ (xs.drop (q * 8 + 1)).take 4 ++ xs.drop (q * 8 + 5) := by
    rw [List.append_assoc]; exact hsp (q * 8 + 1) xs
  have hy : ((xs.drop (q * 8 + 1)).take 4).length = 4 := by simp; omega
  have h1 := h.1.1
  rw [hsplit] at h1
  have h2 := own_stores (set4 m2) (xs.take (q * 8 + 1)) _ (xs.drop (q * 8 + 5)) u (by rw [hy]; rfl) h1
  have hp : (xs.take (q * 8 + 1)).length = q * 8 + 1 := by rw [List.length_take]; omega
  rw [hp] at h2
  refine ⟨xs.take (q * 8 + 1) ++ set4 m2 ++ xs.drop (q * 8 + 5), ⟨by simpa using h2, fun i hi => ?_⟩, below_cells g (set4 m2) (q * 8 + 1) u hg.1 h.2⟩
  have hi' : i < out.length := by simpa using hi
  have hsub : Sub (hide u (QHide (NH w H) (.slice (some ⟨g, 0, none⟩) out.length co))) (hide (u.setCells g (q * 8 + 1) (set4 m2)) (QHide (NH w H) (.slice (some ⟨g, 0, none⟩) out.length co))) :=
    hide_sub fun k g1 g2 => ⟨g1, heap_cells g k (fun e => (QHide_no.1 g1).2 (by rw [e]; rfl)) (set4 m2) (q * 8 + 1) u⟩
  rw [chunk_put hx rfl hq hi']
  by_cases e : i = q
  · subst e
    rw [if_pos rfl]
    have h3 := h.1.2 i hi'
    rw [hn] at h3
    obtain ⟨A', c', e8, h8, _⟩ := at_sub h3
    rw [e8, List.getElem_set_self]
    unfold Tree.At
    exact ⟨A', c', rfl, h8, fun hne => absurd rfl hne⟩
  · rw [if_neg e, List.getElem_set_ne (by omega)]
    exact (h.1.2 i hi').sub hsub
theorem ok_one {t : Tree} (h : t.ok = true) (hk : t.kind = 1) : t = .node 1 t.set [] 0 0 := by
  cases t with
  | node k m l lo hi =>
    simp only [Tree.kind] at hk
    subst hk
    obtain ⟨h1, h2, h3⟩ := okNode0 (ok_open h).2 (.inr rfl)
    subst h2; subst h3
    obtain rfl := List.eq_nil_of_length_eq_zero h1
    rfl
theorem NormT.cells {w w2 u : World} {H : Nat → Bool} {g co : Nat} {out : List Tree} {xs : List Value} (h : NormT w H w2 (.slice (some ⟨g, 0, none⟩) out.length co) out xs u) {q : Nat} (hq : q < out.length) {mq : Nat → Bool} (hn : out[q] = .node 1 mq [] 0 0) :
    u.cell? ⟨g, q * 8 + 1, none⟩ = some (.int .u64 (wd mq 0 : Nat)) ∧ u.cell? ⟨g, q * 8 + 2, none⟩ = some (.int .u64 (wd mq 1 : Nat)) ∧ u.cell? ⟨g, q * 8 + 3, none⟩ = some (.int .u64 (wd mq 2 : Nat)) ∧ u.cell? ⟨g, q * 8 + 4, none⟩ = some (.int .u64 (wd mq 3 : Nat)) := by
  obtain ⟨g', c', e, _, _, _, hall⟩ := h.1.place (by intro e; subst e; simp at hq)
  simp only [Value.slice.injEq, Option.some.injEq, Addr.mk.injEq] at e
  obtain ⟨⟨rfl, _⟩, _⟩ := e
  obtain ⟨h1, _, h3⟩ := hall q hq
  rw [hn] at h1
  obtain ⟨A', c', e8, _⟩ := at_sub h1
  rw [e8] at h3
  exact ⟨h3 1 _ rfl, h3 2 _ rfl, h3 3 _ rfl, h3 4 _ rfl⟩
theorem NormT.thereQ {w w2 u : World} {H : Nat → Bool} {g co : Nat} {out : List Tree} {xs : List Value} (h : NormT w H w2 (.slice (some ⟨g, 0, none⟩) out.length co) out xs u) {q : Nat} (hq : q < out.length) (m2 : Nat → Bool) : u.there g (q * 8 + 1) (set4 m2).toArray.size := by
  rcases h.1.1.2 with ⟨e, h1⟩ | ⟨g', cap, cur, e, h2, h3, h4, h5, h6, h7⟩
  · cases e
  · simp only [Value.slice.injEq, Option.some.injEq, Addr.mk.injEq] at e
    obtain ⟨⟨rfl, _⟩, _, rfl⟩ := e
    have hb : BlkIs u g 27 cur := h3
    intro j hj
    have := hb.there (q * 8 + 1 + j) (by have : (set4 m2).toArray.size = 4 := rfl; omega)
    rwa [Nat.zero_add] at this
theorem NormT.get {w w2 u0 : World} {H : Nat → Bool} {Ao : Option Addr} {co : Nat} {out : List Tree} {xs : List Value} (h0 : NormT w H w2 (.slice Ao out.length co) out xs u0) {q : Nat} (hq : q < out.length) :
    ∃ g A' n' c', Ao = some ⟨g, 0, none⟩ ∧ ∀ u, NormT w H w2 (.slice Ao out.length co) out xs u → (out[q]).At u (reV (out[q]).kind (out[q]).set A' n' c' (out[q]).lo (out[q]).hi) ∧ u.rangeAt g (q * 8) (reL (out[q]).kind (out[q]).set A' n' c' (out[q]).lo (out[q]).hi) := by
  have hne : out ≠ [] := by intro e; subst e; simp at hq
  obtain ⟨g, c, e, _, _, _, hall⟩ := h0.1.place hne
  simp only [Value.slice.injEq] at e
  obtain ⟨rfl, _, _⟩ := e
  obtain ⟨h1, _, _⟩ := hall q hq
  obtain ⟨A', c', e8, _⟩ := at_sub h1
  refine ⟨g, A', (out[q]).sub.length, c', rfl, fun u h => ?_⟩
  obtain ⟨g', c2, e2, _, _, _, hall2⟩ := h.1.place hne
  simp only [Value.slice.injEq, Option.some.injEq, Addr.mk.injEq] at e2
  obtain ⟨⟨rfl, _⟩, _⟩ := e2
  obtain ⟨k1, _, k3⟩ := hall2 q hq
  rw [e8] at k1 k3
  exact ⟨k1.sub hide_less, k3⟩
theorem any_step {p : Tree → Bool} {l : List Tree} {t : Nat} (h : t < l.length) : (l.take (t + 1)).any p = ((l.take t).any p || p l[t]) := by
  rw [List.take_succ_eq_append_getElem h, List.any_append]; simp
theorem info_set8 : (Tryd.prog.info? 24).map (·.size) = some 4 := by kernel_rfl
end Go.Proofs.YtkladjjeacjgpaaDoor

