/-
  WHAT clone OF PACKAGE rx ANSWERS: the trees in new memory: a contract. Condition: they have at most 2^40 nodes.
-/
import Derived.Test.YtngagijcdehjpaaClone
import Derived.Test.YtngagijcdehjpaaMayt
import Derived.Maps.OwnIn
namespace Go.Proofs.Ytngagijcdehjpaa
open Go.RowKit

theorem info_re : (Try.prog.info? 31).map (fun i => (i.size, i.bytes, i.zero.map (·.cells.size))) = some (8, 80, some 8) := by kernel_rfl
theorem info_re' : ∃ i z, Try.prog.info? 31 = some i ∧ i.zero = some z ∧ i.size = 8 ∧ i.bytes = 80 ∧ z.cells.size = 8 := by
  have h := info_re
  cases hi : Try.prog.info? 31 with
  | none => rw [hi] at h; cases h
  | some i =>
    rw [hi] at h
    simp only [Option.map_some, Option.some.injEq, Prod.mk.injEq] at h
    cases hz : i.zero with
    | none => rw [hz] at h; simp at h
    | some z => rw [hz] at h; exact ⟨i, z, rfl, hz, h.1, h.2.1, by simpa using h.2.2⟩

/-- the type of what is appended does not matter -/
theorem append_two (A : Option Addr) (n c : Nat) (x : Value) (w : World) (ty : TypeId) : (Builtin.append_ #[60, 29] ty #[.slice A n c, x]).run Try.prog w = (Builtin.append_ #[60, 60] ty #[.slice A n c, x]).run Try.prog w := by
  unfold Builtin.append_
  simp [Sem.run_bind, run_underlying Try.underlying60, run_underlying Try.underlying29, Result.andThen]

theorem one_reL {k lo hi : Int} {m : Nat → Bool} {A : Option Addr} {n c : Nat} : ∀ u ∈ reL k m A n c lo hi, u.oneCell' = true := by
  intro u hu
  simp only [reL, List.mem_cons, List.not_mem_nil, or_false] at hu
  rcases hu with rfl | rfl | rfl | rfl | rfl | rfl | rfl | rfl <;> rfl

/-- the cells of trees side by side -/
theorem news_of {w : World} : ∀ (l : List Tree) (b o : Nat), AllAt w l b o → ∃ news : List Value, news.length = l.length * 8 ∧ (∀ j u, news[j]? = some u → w.cell? ⟨b, o + j, none⟩ = some u) ∧ (∀ u ∈ news, u.oneCell' = true) ∧
    ∀ (i : Nat) (h : i < l.length), ∃ cs : List Value, Tree.At w l[i] (.agg cs.toArray) ∧ cs.length = 8 ∧ ∀ (j : Nat) (v : Value), cs[j]? = some v → news[i * 8 + j]? = some v
  | [], _, _, _ => ⟨[], rfl, by simp, by simp, fun i h => by simp at h⟩
  | t :: r, b, o, h => by
    unfold AllAt at h
    obtain ⟨⟨cs, h1, h2, h3⟩, h4⟩ := h
    obtain ⟨news, g1, g2, g3, g4⟩ := news_of r b (o + 8) h4
    refine ⟨cs ++ news, by simp [g1, h2]; omega, fun j u hu => ?_, fun u hu => ?_, fun i hi => ?_⟩
    · rcases Nat.lt_or_ge j 8 with hj | hj
      · rw [List.getElem?_append_left (by omega)] at hu
        exact h3 j u hu
      · rw [List.getElem?_append_right (by omega), h2] at hu
        have := g2 _ _ hu
        rwa [show o + 8 + (j - 8) = o + j by omega] at this
    · rcases List.mem_append.1 hu with hu | hu
      · obtain ⟨A, n, c, rfl⟩ := h1.eight
        exact one_reL u hu
      · exact g3 u hu
    · cases i with
      | zero => exact ⟨cs, h1, h2, fun j v hv => by rw [Nat.zero_mul, Nat.zero_add, List.getElem?_append_left (by have := (List.getElem?_eq_some_iff.1 hv).1; omega)]; exact hv⟩
      | succ i =>
        obtain ⟨cs', k1, k2, k3⟩ := g4 i (by simpa using hi)
        refine ⟨cs', by simpa using k1, k2, fun j v hv => ?_⟩
        have := k3 j v hv
        rw [List.getElem?_append_right (by omega), h2, show (i + 1) * 8 + j - 8 = i * 8 + j by omega]
        exact this

/-- a list copied: what append(nil, l...) makes -/
theorem copy_run (w0 : World) (l : List Tree) (b o c : Nat) (w : World) (t ty : TypeId) (ht : Try.prog.underlying t = some (.slice 31)) (hne : l ≠ []) (hl : l.length ≤ 1099511627776) (hat : AllAt w0 l b o) (hb : Below w0.heap.size w0 w) :
    ∃ (g c' : Nat) (w' : World), (Builtin.append_ #[t, t] ty #[.slice none 0 0, .slice (some ⟨b, o, none⟩) l.length c]).run Try.prog w = .ok (.slice (some ⟨g, 0, none⟩) l.length c') w' ∧ l.length ≤ c' ∧ c' ≤ 9223372036854775807 ∧
      w.heap.size ≤ g ∧ (∃ cs, BlkIs w' g 31 cs) ∧ (∀ (j : Nat) (h : j < l.length), NodePend w0 w' l[j] g (j * 8)) ∧ Below w.heap.size w w' := by
  obtain ⟨i, z, hi, hz, hs, hby, hzs⟩ := info_re'
  obtain ⟨news, h1, h2, h3, h4⟩ := news_of l b o hat
  have hlt : b < w0.heap.size := by
    obtain ⟨t, r, rfl⟩ := List.exists_cons_of_ne_nil hne
    unfold AllAt at hat
    obtain ⟨⟨cs, _, g2, g3⟩, _⟩ := hat
    obtain ⟨x, xs, rfl⟩ : ∃ x xs, cs = x :: xs := List.exists_cons_of_ne_nil (by intro e; subst e; simp at g2)
    exact World.block_lt_of_cell? w0 ⟨b, o + 0, none⟩ (g3 0 x rfl)
  obtain ⟨v', w', hr, hown, hg, hnil⟩ := run_append_own (P := Try.prog) w w.heap.size t ty 31 i z 8 80 ht hi hz hs hby hzs (by decide) (.slice none 0 0) 0 [] (World.ownsRow_nil _ _ _ _) ⟨b, o, none⟩ l.length c news h1
    (fun j u hu => by rw [show (⟨b, o, none⟩ : Addr).add j = ⟨b, o + j, none⟩ from by rw [Addr.add_lit], hb.cell (p := ⟨b, o + j, none⟩) hlt]; exact h2 j u hu) h3 (by unfold maxLen; omega) (by omega) (Nat.le_refl _)
  have hB : Below w.heap.size w w' := (Below.refl _ _).grown hg (Nat.le_refl _) (by simp [Value.ownBlock])
  rw [Nat.zero_add, List.nil_append] at hown
  obtain ⟨n, hn⟩ : ∃ n, l.length = n + 1 := ⟨l.length - 1, by have := List.length_pos_iff.2 hne; omega⟩
  rcases hown with ⟨_, ⟨_, h0⟩ | ⟨g, cap, cur, rfl, hbase, hblk, hc1, hc2, hcs, htake⟩⟩
  · omega
  refine ⟨g, cap, w', hr, hc1, by unfold maxLen at hc2; omega, hbase, ⟨cur, hblk⟩, fun j hj => ?_, hB⟩
  obtain ⟨cs, k1, k2, k3⟩ := h4 j hj
  refine ⟨cs, k1, k2, fun q v hv => ?_⟩
  have hq : q < 8 := by have := (List.getElem?_eq_some_iff.1 hv).1; omega
  have hx := k3 q v hv
  rw [← htake, List.getElem?_take, if_pos (by omega)] at hx
  rw [BlkIs.cell (show BlkIs w' g 31 cur from hblk)]
  simpa using hx

/-- a list of none copied -/
theorem copy_none (A : Option Addr) (c : Nat) (w : World) (t ty : TypeId) (ht : Try.prog.underlying t = some (.slice 31)) :
    (Builtin.append_ #[t, t] ty #[.slice none 0 0, .slice A 0 c]).run Try.prog w = .ok (.slice none 0 0) w := by
  obtain ⟨i, z, hi, hz, hs, hby, hzs⟩ := info_re'
  cases A <;> simp [Builtin.append_, run_underlying ht, sizeOf, typeInfo, hi, Builtin.lenOf, Builtin.firstCells, loadCells, loadCellsFrom, Result.andThen]

section
variable {F : Fence} {nF : Nat} {P : Program} {ops : Array Oper} {rest : List Oper} {op : Oper} {a : Act} {w : World} {Q : Exit → Act → World → Prop}
theorem wpListIn_append_run (hg : op.guard = none) (s x : Operand) (t t2 : TypeId) (hop : op.op = Op.call { callee := Callee.builtin Builtin.append, args := #[s, x], argTypes := #[t, t2] }) {v xv v' : Value} {w' : World} (hs : a.eval s = v) (hx : a.eval x = xv)
    (hrun : (Builtin.append_ #[t, t2] op.type #[v, xv]).run P w = .ok v' w') (h : wpListIn F nF P ops Q rest (a.put op.dst v') w') : wpListIn F nF P ops Q (op :: rest) a w := by
  refine wpListIn_plain hg fun K' hK' => ?_
  unfold Oper.wpIn
  refine ⟨by simp [Oper.about, hop, resolve, Target.leads, Sem.run_pure], ?_⟩
  rw [Oper.semAt_plain F _ _ (by rw [hop]; intro c hc'; cases hc')]
  simp [execOp, hop, resolve, invoke, builtin, hs, hx, hrun, Result.andThen]
  exact hK' _ _ h
end

theorem nodes_pos (t : Tree) : 0 < t.nodes := by cases t with | node k m l lo hi => simp [Tree.nodes]
theorem length_nodes : ∀ l : List Tree, l.length ≤ nodesL l
  | [] => Nat.le_refl _
  | t :: r => by have := nodes_pos t; have := length_nodes r; simp [nodesL]; omega
theorem mem_nodes : ∀ {l : List Tree} {t : Tree}, t ∈ l → t.nodes ≤ nodesL l
  | t :: r, x, h => by
    rcases List.mem_cons.1 h with rfl | h
    · simp [nodesL]
    · have := mem_nodes h; simp [nodesL]; omega
mutual
theorem deep_nodes : ∀ t : Tree, t.deepN ≤ t.nodes
  | .node k m l lo hi => by have := deepL_nodes l; simp [Tree.deepN, Tree.nodes]; omega
theorem deepL_nodes : ∀ l : List Tree, deepL l ≤ nodesL l
  | [] => Nat.le_refl _
  | t :: r => by have := deep_nodes t; have := deepL_nodes r; simp [deepL, nodesL]; omega
end

attribute [local go_sem] Oper.semAt_some

/-- a copy under way, and what is ahead is small -/
def CloneJN (w : World) (g : Nat) (l0 : List Tree) (st : List Row) (W : World) : Prop := CloneJ w g l0 st W ∧ nodesS st ≤ 1099511627776
theorem CloneJ.keep {w W W' : World} {g : Nat} {l0 : List Tree} {st : List Row} {B : Nat} (h : CloneJ w g l0 st W) (hl : Loose B W W') (hB : w.heap.size ≤ B) : CloneJ w g l0 st W' := by
  obtain ⟨F, h1, h2⟩ := h
  exact ⟨F, h1, h2.keep ⟨hl.os, hl.tape, hl.output, hl.size, fun k hk => hl.low k (by omega) (by have := h2.low.size; omega)⟩ fun k cs hx => hl.blk hx (by decide)⟩

set_option maxRecDepth 100000 in
set_option maxHeartbeats 2000000 in
theorem clone_any (l : List Tree) (A : Option Addr) (c : Nat) (w : World) (hat : l ≠ [] → ∃ b o, A = some ⟨b, o, none⟩ ∧ AllAt w l b o) (hn : nodesL l ≤ 1099511627776) :
    Calls Try.prog 33 #[.slice A l.length c] w fun e w' => ∃ A' c', e = .returned (.slice A' l.length c') ∧ l.length ≤ c' ∧ c' ≤ 9223372036854775807 ∧ (l ≠ [] → ∃ g, A' = some ⟨g, 0, none⟩ ∧ w.heap.size ≤ g ∧ ∀ V : World, (∀ k, w.heap.size ≤ k → V.heap[k]? = w'.heap[k]?) → AllAt V l g 0) ∧ Below w.heap.size w w' := by
  have hll := length_nodes l
  have hstart : ∃ A' c' b' w2, (Builtin.append_ #[60, 29] 60 #[.slice none 0 0, .slice A l.length c]).run Try.prog w = .ok (.slice A' l.length c') w2 ∧ l.length ≤ c' ∧ c' ≤ 9223372036854775807 ∧ (l ≠ [] → A' = some ⟨b', 0, none⟩ ∧ w.heap.size ≤ b') ∧
      Below w.heap.size w w2 ∧ CloneJ w b' l [(l, b', 0)] w2 := by
    by_cases hne : l = []
    · subst hne
      refine ⟨none, 0, 0, w, by rw [append_two]; exact copy_none A c w _ _ Try.underlying60, Nat.le_refl _, by omega, fun h => absurd rfl h, Below.refl _ _, [], fun h => absurd rfl h, Below.refl _ _, ?_, ?_, by simp⟩
      · intro r hr hne
        simp only [List.mem_singleton] at hr
        subst hr
        exact absurd rfl hne
      · simp
    · obtain ⟨b, o, rfl, ha⟩ := hat hne
      obtain ⟨g, c', w2, h1, h2, h3, h4, h5, h6, h7⟩ := copy_run w l b o c w 60 60 Try.underlying60 hne (by omega) ha (Below.refl _ _)
      refine ⟨some ⟨g, 0, none⟩, c', g, w2, by rw [append_two]; exact h1, h2, h3, fun _ => ⟨rfl, h4⟩, h7, [(g, l)], fun _ => by simp, h7, ?_, ?_, ?_⟩
      · intro r hr _
        simp only [List.mem_singleton] at hr
        subst hr
        exact ⟨⟨h4, h5⟩, ⟨0, rfl⟩, fun j hj => by rw [Nat.zero_add]; exact h6 j hj⟩
      · simp
      · intro p hp
        simp only [List.mem_singleton] at hp
        subst hp
        exact ⟨⟨h4, h5⟩, fun i hi => .inl ⟨(l, g, 0), by simp, rfl, i, hi, rfl, by simp⟩⟩
  obtain ⟨A', c', b', w2, hrun, hc1, hc2, hA', hB, hJ0⟩ := hstart
  have HRUN := Lib.hid hrun
  have H0 := Lib.hid (And.intro hA' (And.intro hB hJ0))
  clear hat hrun hA' hB hJ0 hll
  refine (callsIn_wide (n := 3)).1 ?_
  refine callsIn_of_wp_marks Try.func33 rfl trivial ?_ rfl
  simp only [Try.ntmps33, List.size_toArray, List.length_cons, List.length_nil, Nat.reduceAdd, Nat.reduceSub, Array.replicate_succ, Array.replicate_zero, List.push_toArray, List.append_toArray, List.nil_append, List.cons_append]
  gi_wp2_with (first | refine wpListIn_append_run rfl _ _ 60 29 rfl rfl rfl HRUN.out ?_)
  have hsz : w.heap.size ≤ w2.heap.size := H0.out.2.1.size
  refine range_nodes 3 (by omega) 1099511627776 (Nat.le_refl _) (.slice A' l.length c') rfl (CloneJN w b' l) (fun _ _ => False) ?hJ (fun _ _ _ h _ => h.elim) ?pop
    l b' 0 ⟨_, _, rfl, hc1, hc2, fun h => (H0.out.1 h).1⟩ (Nat.le_trans (deepL_nodes l) hn) ⟨H0.out.2.2, by simpa [nodesS] using hn⟩
    (fun b o d => { tmps := #[.slice A l.length c, undef, .slice none 0 0, .slice A' l.length c', .pointer (some ⟨b, o, none⟩), .slice A l.length c, .slice A' l.length c', .slice A' l.length c',
      .func (.func 37) #[.slice A' l.length c'] #[], .pointer (some ⟨b, o, none⟩), .int .i64 ((d : Int) + 1), undef, undef, undef, undef, undef, undef, undef, undef, undef], defers := [] })
    ?assign ?body ?done ?stop
  case hJ =>
    rintro st X Y ⟨h1, h2⟩ hl
    exact ⟨h1.keep hl hsz, h2⟩
  case pop =>
    rintro b o st X ⟨⟨F, h0, h1⟩, h2⟩
    exact ⟨⟨F, h0, h1.pop⟩, by simpa [nodesS, nodesL] using h2⟩
  case assign =>
    intro l b o d W K hK
    gi_wp2
    exact hK
  case body =>
    rintro l' t s b o st W hsz' hlen ⟨hj, hns⟩
    obtain ⟨F, h0, h1⟩ := hj
    have hlow := h1.low
    obtain ⟨⟨hbw, bcs, hbb⟩, hq, hpend⟩ := h1.rows (t :: s, b, o) (by simp) (by simp)
    obtain ⟨ncs, hn1, hn2, hn3⟩ := hpend 0 (by simp)
    simp only [List.getElem_cons_zero, Nat.zero_mul, Nat.add_zero] at hn1 hn3
    have hsub : t.sub.length ≤ 1099511627776 := by
      have h2 := length_nodes t.sub
      have h3 := nodesS_push t s b o 0 0 0 st
      simp only [nodesS] at h3 hns
      omega
    obtain ⟨A1, c1, hcs, hA1⟩ : ∃ A1 c1, ncs = reL t.kind t.set A1 t.sub.length c1 t.lo t.hi ∧ (t.sub ≠ [] → ∃ b o, A1 = some ⟨b, o, none⟩ ∧ AllAt w t.sub b o) := by
      cases t with
      | node k m sub lo hi =>
        unfold Tree.At at hn1
        obtain ⟨A1, c1, he, _, hs⟩ := hn1
        unfold reV at he
        injection he with he
        exact ⟨A1, c1, congrArg Array.toList he, hs⟩
    subst hcs
    have hcell := hn3 5 _ rfl
    -- the copy
    have hcopy : ∃ A2 c2 b2 W2, (Builtin.append_ #[29, 29] 29 #[.slice none 0 0, .slice A1 t.sub.length c1]).run Try.prog W = .ok (.slice A2 t.sub.length c2) W2 ∧ Below W.heap.size W W2 ∧ t.sub.length ≤ c2 ∧ c2 ≤ 9223372036854775807 ∧
        (t.sub ≠ [] → A2 = some ⟨b2, 0, none⟩ ∧ W.heap.size ≤ b2 ∧ (∃ cs, BlkIs W2 b2 31 cs) ∧ ∀ (j : Nat) (h : j < t.sub.length), NodePend w W2 t.sub[j] b2 (j * 8)) := by
      by_cases hne : t.sub = []
      · rw [hne]
        exact ⟨none, 0, 0, W, copy_none A1 c1 W _ _ Try.underlying29, Below.refl _ _, Nat.le_refl _, by omega, fun h => absurd rfl h⟩
      · obtain ⟨b3, o3, rfl, ha⟩ := hA1 hne
        obtain ⟨g, c2, W2, k1, k2, k3, k4, k5, k6, k7⟩ := copy_run w t.sub b3 o3 c1 W 29 29 Try.underlying29 hne hsub ha hlow
        exact ⟨_, c2, g, W2, k1, k7, k2, k3, fun _ => ⟨rfl, k4, k5, k6⟩⟩
    obtain ⟨A2, c2, b2, W2, hrun2, hB2, hc21, hc22, hA2⟩ := hcopy
    have hblk2 := hbb.step hB2
    have hf2 := hblk2.frozen (o + 5)
    have hc5 : W2.cell? ⟨b, o + 5, none⟩ = some (.slice A1 t.sub.length c1) := (hB2.cell (p := ⟨b, o + 5, none⟩) hbb.lt).trans hcell
    have HRUN2 := Lib.hid hrun2
    have HT := Lib.hid (clone_step (g := b') ⟨F, h0, h1⟩ hB2 hc21 hc22 b2 hA2)
    have HK := Lib.hid (And.intro ((others_below hB2).trans (KeepsOthers.setCell W2 ⟨b, o + 5, none⟩ (.slice A2 t.sub.length c2))) ((rows_below hB2).trans (keepsRows_set hblk2 (by decide) (o + 5) (.slice A2 t.sub.length c2))))
    have HN := Lib.hid (fun b' o' => nodesS_push t s b o b' o' (o + 8) st)
    clear hrun2 hA2 hpend hn1 hn2 hn3 hA1 hB2 h0 h1 hq hbb
    gi_wp2_with (first | refine wpListIn_append_run rfl _ _ 29 29 rfl rfl rfl HRUN2.out ?_)
    obtain ⟨A3, c3, b3, o3, t1, t2, t3, t4, t5⟩ := HT.out
    exact ⟨HK.out.1, HK.out.2, A3, c3, b3, o3, t1, t2, t3, t4, t5, by have := HN.out b3 o3; omega⟩
  case done =>
    rintro d W hd' ⟨hj, _⟩ hk
    have hlow : Below w.heap.size w W := by obtain ⟨F, _, h1⟩ := hj; exact h1.low
    have HJ := Lib.hid hj
    gi_wp2
    refine ⟨by simp, .inl ⟨_, _, rfl, run_takeDeferred hk, ?_⟩⟩
    refine ⟨_, results_tmp rfl _ _ _, A', c', rfl, hc1, hc2, fun hne => ⟨b', (H0.out.1 hne).1, (H0.out.1 hne).2, fun V hV => ?_⟩, hlow.trans (belowK_b (w := w) (Nat.le_refl _) W d _ (.deferred none) (by omega) hk rfl rfl)⟩
    refine CloneJ.done (w := w) (CloneJ.keep HJ.out (loose_put (B := w.heap.size) (.deferred none) (by omega) hk rfl) (Nat.le_refl _)) hne hV
  case stop => exact fun _ _ _ h _ => h.elim

end Go.Proofs.Ytngagijcdehjpaa

