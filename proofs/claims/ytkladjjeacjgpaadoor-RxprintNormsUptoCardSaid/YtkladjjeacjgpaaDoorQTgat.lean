/-
  WHAT gathered GIVES: a row of those that stay: contracts. Condition: the Subs' plain trees have at most 2^40 nodes.
-/
import Derived.Test.YtkladjjeacjgpaaDoorQTalt
import Derived.Test.YtkladjjeacjgpaaDoorQG07
namespace Go.Proofs.YtkladjjeacjgpaaDoor
open Go.RowKit

def RowHide (B : Nat) (v : Value) (k : Nat) : Bool := decide (k < B) || decide (v.ownBlock = some k)
theorem RowHide_no {B k : Nat} {v : Value} : RowHide B v k = false ↔ B ≤ k ∧ v.ownBlock ≠ some k := by unfold RowHide; simp
/-- a row in a block of its own; its trees lie from B on, and not in it -/
def RowP (B : Nat) (W : World) (v : Value) (l : List Tree) (xs : List Value) : Prop := W.ownsRow B 27 8 v l.length xs ∧ ∀ (i : Nat) (h : i < l.length), (l[i]).At (hide W (RowHide B v)) (.agg ((xs.drop (i * 8)).take 8).toArray)
theorem RowP.nil (W : World) (B : Nat) : RowP B W (.slice none 0 0) [] [] := ⟨World.ownsRow_nil _ _ _ _, fun i h => by simp at h⟩
theorem RowP.lies {B : Nat} {V W : World} {v : Value} {l : List Tree} {xs : List Value} (h : RowP B W v l xs) (hs : ∀ k, B ≤ k → k < W.heap.size → V.heap[k]? = W.heap[k]?) :
    ∃ A c, v = .slice A l.length c ∧ (l.length ≤ c ∧ c ≤ 9223372036854775807) ∧ (l ≠ [] → ∃ b o, A = some ⟨b, o, none⟩ ∧ AllAt V l b o) := by
  rcases h.1.2 with ⟨rfl, h1⟩ | ⟨g, cap, cur, rfl, h2, h3, h4, h5, h6, h7⟩
  · exact ⟨none, 0, by rw [h1], ⟨by omega, by omega⟩, fun hne => absurd (List.eq_nil_of_length_eq_zero h1) hne⟩
  · refine ⟨_, cap, rfl, ⟨h4, by unfold maxLen at h5; omega⟩, fun _ => ⟨g, 0, rfl, AllAt.mk _ _ _ fun i hi => ⟨_, (h.2 i hi).sub (fun p u hu => ?_), ?_, fun j u hu => ?_⟩⟩⟩
    · obtain ⟨g1, g2⟩ := hide_cell hu
      rw [RowHide_no] at g1
      exact (World.cell?_of_block (w := W) (hs _ g1.1 (World.block_lt_of_cell? W p g2))).trans g2
    · have := h.1.1
      simp; omega
    · have hj : j < 8 := by have := (List.getElem?_eq_some_iff.1 hu).1; simp at this; omega
      rw [List.getElem?_take_of_lt hj, List.getElem?_drop] at hu
      have := h.1.cells (g := g) rfl _ u hu
      rw [Addr.add_lit, Nat.zero_add] at this
      rw [Nat.zero_add]
      exact (World.cell?_of_block (w := W) (hs g h2 (Array.getElem?_eq_some_iff.1 h3).1)).trans this
/-- one more, which lies in new memory alone -/
theorem RowP.push {B : Nat} {W w3 : World} {v : Value} {l : List Tree} {xs : List Value} {T : Tree} {k : Int} {m : Nat → Bool} {A : Option Addr} {n c : Nat} {lo hi : Int} (h : RowP B W v l xs) (hB : B ≤ W.heap.size) (hb : Below W.heap.size W w3)
    (hT : T.At (hide w3 (low W.heap.size)) (reV k m A n c lo hi)) (hl : l.length + 1 ≤ 1099511627776) :
    ∃ v' W', (Builtin.append_ #[25, 25] 25 #[v, .slice (some ⟨w3.heap.size, 0, none⟩) 1 1]).run Tryd.prog (w3.alloc (.cells (reL k m A n c lo hi).toArray 27)) = .ok v' W' ∧
      RowP B W' v' (l ++ [T]) (xs ++ reL k m A n c lo hi) ∧ Below B W W' := by
  obtain ⟨i0, hi0, hz0, hz1, hz2⟩ := info_parts info_re3
  have hUB : Below w3.heap.size w3 (w3.alloc (.cells (reL k m A n c lo hi).toArray 27)) := (Below.refl _ _).alloc (Nat.le_refl _) _
  have hWU := hb.trans (hUB.mono hb.size)
  have hown := own_heap h.1 (W' := w3.alloc (.cells (reL k m A n c lo hi).toArray 27)) fun q hq => hWU.block q (h.1.lt q hq).2
  have hnew := BlkIs.new w3 27 (reL k m A n c lo hi).toArray
  have hsz : (w3.alloc (.cells (reL k m A n c lo hi).toArray 27)).heap.size = w3.heap.size + 1 := by simp
  have hs3 := hb.size
  obtain ⟨v', W', hr, hown', hgr, _, hblk⟩ := run_append_own_at (P := Tryd.prog) (w := w3.alloc (.cells (reL k m A n c lo hi).toArray 27)) B 25 25 27 i0 (.agg zeroL.toArray) 8 80 Tryd.underlying25 hi0 hz0 hz1 hz2 rfl (by decide) v l.length xs hown
    ⟨w3.heap.size, 0, none⟩ 1 1 (reL k m A n c lo hi) rfl (fun j u hu => by
      rw [Addr.add_lit, Nat.zero_add]
      have := hnew.range j u (by simpa using hu)
      simpa using this) one_reL (by unfold maxLen; omega) (by omega) (by omega)
  have hlt : ∀ q, v.ownBlock = some q → B ≤ q ∧ q < W.heap.size := fun q hq => h.1.lt q hq
  refine ⟨v', W', hr, ⟨by simpa using hown', fun i hi => ?_⟩, ?_⟩
  · have hx : xs.length = l.length * 8 := h.1.1
    have hv' : ∀ q, v'.ownBlock = some q → v.ownBlock = some q ∨ q = w3.heap.size + 1 := fun q hq => by
      rcases hblk with e | e
      · exact .inl (e ▸ hq)
      · rw [e, hsz] at hq
        exact .inr (Option.some.inj hq).symm
    by_cases hil : i < l.length
    · rw [List.getElem_append_left hil, List.drop_append_of_le_length (by omega), List.take_append_of_le_length (by simp; omega)]
      refine (h.2 i hil).sub (hide_sub fun q h1 h2 => ?_)
      rw [RowHide_no] at h1 ⊢
      exact ⟨⟨h1.1, fun e => (hv' q e).elim h1.2 (by omega)⟩, (hgr.block q (by omega) (fun e => h1.2 e.symm)).trans (hWU.block q h2)⟩
    · obtain rfl : i = l.length := by simp at hi; omega
      rw [← hx]
      simp only [List.getElem_concat_length, List.drop_left]
      rw [List.take_of_length_le (by simp [reL])]
      refine hT.sub (hide_sub fun q h1 h2 => ?_)
      rw [low_no] at h1
      rw [RowHide_no]
      exact ⟨⟨by omega, fun e => (hv' q e).elim (fun e => by have := (hlt q e).2; omega) (by omega)⟩, (hgr.block q (by omega) (fun e => by have := (hlt q e.symm).2; omega)).trans (hUB.block q h2)⟩
  · exact (hWU.mono hB).grown hgr (by omega) (fun q hq => (hlt q hq).1)

theorem sub_put {W : World} {l : Nat} {o : Obj} (o' : Obj) (hl : W.heap[l]? = some o) (ho : o.isCells = false) : Sub W (W.putObj l o') := fun p v hv => by
  refine (World.cell?_of_block (w := W) (World.putObj_heap_other (fun e => ?_))).trans hv
  obtain ⟨o2, h1, h2⟩ := cells_of_cell hv
  rw [e, hl] at h1
  cases h1
  rw [ho] at h2
  cases h2

def NoJ : Held := fun O _ => ∀ k, ¬ O k
theorem NoJ.holder : Holder NoJ := ⟨fun _ _ h k hk => (h k hk).elim, fun _ _ _ h _ => h⟩

section
variable {P : Program} {op : Oper} {ops : Array Oper} {rest : List Oper} {a : Act} {w : World} {Q : Exit → Act → World → Prop}
theorem wpList_append_at (hg : op.guard = none) (s x : Operand) (t t2 : TypeId) (hop : op.op = Op.call { callee := Callee.builtin Builtin.append, args := #[s, x], argTypes := #[t, t2] }) {v xv v' : Value} {w' : World} (hs : a.eval s = v) (hx : a.eval x = xv)
    (hrun : (Builtin.append_ #[t, t2] op.type #[v, xv]).run P w = .ok v' w') (h : wpList P ops Q rest (a.put op.dst v') w') : wpList P ops Q (op :: rest) a w :=
  wpList_plain hg fun _ hK => oper_append_run s x t t2 hop hs hx hrun (hK _ _ h)
end

theorem flat_any (A : Option Addr) (n c : Nat) (k : Int) (w : World) : Calls Tryd.prog 53 #[.slice A n c, .int .i64 k] w fun e w' => e = .returned (.func (.func 73) #[] #[.pointer (some ⟨w.heap.size, 0, none⟩), .pointer (some ⟨w.heap.size + 1, 0, none⟩)]) ∧ w' = (w.alloc (.cells #[.slice A n c] 25)).alloc (.cells #[.int .i64 k] 3) := by
  go_enter Tryd.func53, Tryd.ntmps53
  go_wp2
  go_ret
  exact ⟨rfl, rfl⟩
theorem ofCat_any (gf : Nat) (lb : Array Value) (w : World) : Calls Tryd.prog 38 #[.func (.func gf) #[] lb] w fun e w' => e = .returned (.func (.func 54) #[] #[.pointer (some ⟨w.heap.size, 0, none⟩)]) ∧ w' = w.alloc (.cells #[.func (.func gf) #[] lb] 74) := by
  go_enter Tryd.func38, Tryd.ntmps38
  go_wp2
  go_ret
  exact ⟨rfl, rfl⟩
theorem ofAlt_any (gf : Nat) (lb : Array Value) (w : World) : Calls Tryd.prog 40 #[.func (.func gf) #[] lb] w fun e w' => e = .returned (.func (.func 57) #[] #[.pointer (some ⟨w.heap.size, 0, none⟩)]) ∧ w' = w.alloc (.cells #[.func (.func gf) #[] lb] 74) := by
  go_enter Tryd.func40, Tryd.ntmps40
  go_wp2
  go_ret
  exact ⟨rfl, rfl⟩

attribute [local go_sem] Oper.semAt_some

theorem flatT_nodes {kind : Int} : ∀ l : List Tree, nodesL (flatT kind l) ≤ nodesL l
  | [] => by simp [flatT, nodesL]
  | t :: l => by
    have h1 := flatT_nodes (kind := kind) l
    have h2 : flatT kind (t :: l) = seg kind t ++ flatT kind l := by unfold flatT; rw [List.flatMap_cons]
    rw [h2, nodesL_app]
    have h3 : nodesL (seg kind t) ≤ t.nodes := by
      unfold seg
      split
      · have := nodes_sub t; omega
      · simp [nodesL]
    simp only [nodesL]
    omega
theorem catKeep_nodes : ∀ l : List Tree, nodesL (catKeep l) ≤ nodesL l
  | [] => by simp [catKeep, nodesL]
  | t :: l => by
    have h := catKeep_nodes l
    unfold catKeep at h ⊢
    rw [List.filter_cons]
    split
    · simp only [nodesL]; omega
    · simp only [nodesL]; omega
theorem catStay_nodes (l : List Tree) : nodesL (catStay l) ≤ nodesL l := by
  unfold catStay
  cases h : l.find? Tree.isV with
  | none => exact catKeep_nodes l
  | some t =>
    have := mem_nodes (List.mem_of_find?_eq_some h)
    simpa [nodesL] using this
theorem altStay_nodes (l : List Tree) : nodesL (altStay l) ≤ nodesL l := by
  have := altTold_nodes (all := unionT l) l []
  simpa [nodesL, altStay, altTold] using this

set_option maxRecDepth 100000 in
set_option maxHeartbeats 16000000 in
theorem gathered_cat (m : Nat → Bool) (l : List Tree) (lo hi : Int) (v : Value) (w : World) (hat : Tree.At w (.node 2 m l lo hi) v) (ps : List Tree) (hps : ps.length = l.length) (hn : nodesL ps ≤ 1099511627776)
    (HPL : ∀ (i : Nat) (h : i < l.length) (h' : i < ps.length) (v : Value) (u : World), (l[i]).At u v → Calls Tryd.prog 21 #[v] u fun e u' => ∃ v', e = .returned v' ∧ (ps[i]).At (hide u' (low u.heap.size)) v' ∧ Below u.heap.size u u') :
    Calls Tryd.prog 37 #[v, .func (.func 38) #[] #[]] w fun e w' => ∃ A c, e = .returned (.slice A (catStay (flatT 2 ps)).length c) ∧ ((catStay (flatT 2 ps)).length ≤ c ∧ c ≤ 9223372036854775807) ∧
      (catStay (flatT 2 ps) ≠ [] → ∃ b o, A = some ⟨b, o, none⟩ ∧ AllAt w' (catStay (flatT 2 ps)) b o) ∧ Below w.heap.size w w' := by
  obtain ⟨A, c, rfl, hc, hsub⟩ := hat.open
  have HSUB := Lib.hid hsub
  have HPLN := Lib.hid HPL
  have HN := Lib.hid hn
  have hpl : ps.length ≤ 1099511627776 := Nat.le_trans (length_nodes ps) hn
  have HPS := Lib.hid (And.intro hps hpl)
  have hbox := BlkIs.new w 27 (reL 2 m A l.length c lo hi).toArray
  have HBOX := Lib.hid hbox
  clear hat hsub HPL hn hps hpl hbox
  unfold reV reL at *
  refine (callsIn_wide (n := 5)).1 ?_
  refine callsIn_of_wp_marks Tryd.func37 rfl trivial ?_ rfl
  simp only [Tryd.ntmps37, List.size_toArray, List.length_cons, List.length_nil, Nat.reduceAdd, Nat.reduceSub, Array.replicate_succ, Array.replicate_zero, List.push_toArray, List.append_toArray, List.nil_append, List.cons_append]
  refine wpIn_wide.2 ?_
  go_wp2
  go_loopw [5, 13] (fun x s wr => ∃ (i : Nat) (xs : List Value), s = .int .i64 i ∧ i ≤ l.length ∧ Hid (Below w.heap.size w wr ∧ BlkIs wr w.heap.size 27 #[.int .i64 2, .int .u64 (wd m 0 : Nat), .int .u64 (wd m 1 : Nat), .int .u64 (wd m 2 : Nat), .int .u64 (wd m 3 : Nat), .slice A l.length c, .int .i64 lo, .int .i64 hi] ∧
      BlkIs wr (w.heap.size + 1) 25 #[.slice none 0 0] ∧ RowP (w.heap.size + 2) wr x (ps.take i) xs)) (fun _ s _ => l.length - (intOf s).toNat)
  case atStart =>
    refine ⟨0, [], rfl, Nat.zero_le _, Lib.hid ⟨((Below.refl _ _).alloc (Nat.le_refl _) _).alloc (by simp) _, HBOX.out.alloc _, ?_, RowP.nil _ _⟩⟩
    have := BlkIs.new (w.alloc (.cells #[.int .i64 2, .int .u64 (wd m 0 : Nat), .int .u64 (wd m 1 : Nat), .int .u64 (wd m 2 : Nat), .int .u64 (wd m 3 : Nat), .slice A l.length c, .int .i64 lo, .int .i64 hi] 27)) 25 #[.slice none 0 0]
    rw [World.size_alloc] at this
    exact this
  case round =>
    obtain ⟨i, xs, rfl, hile, HH⟩ := hrel
    by_cases hlt : i < l.length
    · have hdi : decide ((i : Int) < (l.length : Int)) = true := by simp; omega
      obtain ⟨b, o, rfl, hall⟩ := HSUB.out (by intro e; subst e; simp at hlt)
      obtain ⟨cs, hat2, hcs, hrow⟩ := hall.2 i hlt
      obtain ⟨A2, c2, rfl, hc2, _⟩ := at_sub hat2
      obtain ⟨k0, k1, k2, k3, k4, k5, k6, k7⟩ := row_eight hrow HH.out.1
      have hip : i < ps.length := by rw [HPS.out.1]; exact hlt
      have hw2 : w.heap.size + 2 ≤ wr.heap.size := by have := HH.out.2.2.1.lt; omega
      have hUB : Below wr.heap.size wr (wr.alloc (.cells (reL l[i].kind l[i].set A2 l[i].sub.length c2 l[i].lo l[i].hi).toArray 27)) := (Below.refl _ _).alloc (Nat.le_refl _) _
      have hcall := HPLN.out i hlt hip _ (wr.alloc (.cells (reL l[i].kind l[i].set A2 l[i].sub.length c2 l[i].lo l[i].hi).toArray 27)) (hat2.step (HH.out.1.trans (hUB.mono HH.out.1.size)))
      have HC := Lib.hid hcall
      have HU := Lib.hid hUB
      have HW2 := Lib.hid hw2
      clear hcall hall hat2 hrow hUB
      unfold reL at HC
      go_wp2_with fail
      go_at_call 21
      refine HC.out.mono ?_
      rintro e w3 ⟨v', rfl, hv', hb3⟩
      obtain ⟨A4, n4, c4, rfl⟩ := hv'.form
      have hb03 := HU.out.trans (hb3.mono HU.out.size)
      have hpush := HH.out.2.2.2.push HW2.out hb03 (hv'.sub (hide_sub fun k h1 _ => ⟨by rw [low_no] at h1 ⊢; rw [World.size_alloc] at h1; omega, rfl⟩)) (by rw [List.length_take]; have := HPS.out.2; omega)
      obtain ⟨v5, W5, hrun, hrow5, hb5⟩ := hpush
      have HRUN := Lib.hid hrun
      have HR5 := Lib.hid (And.intro hrow5 hb5)
      clear hrun hrow5 hb5 hb03 hb3 hv' k0 k1 k2 k3 k4 k5 k6 k7
      unfold reL at HRUN
      unfold reV reL
      go_wp2_with (refine wpList_append_at rfl _ _ 25 25 rfl rfl rfl HRUN.out ?_)
      refine ⟨⟨i + 1, xs ++ reL (ps[i]).kind (ps[i]).set A4 n4 c4 (ps[i]).lo (ps[i]).hi, by go_num, by omega, Lib.hid ⟨HH.out.1.trans (HR5.out.2.mono (by omega)), ?_, ?_, ?_⟩⟩, by simp [intOf]; omega⟩
      · exact (HR5.out.2.block _ (by omega)).trans HH.out.2.1
      · exact (HR5.out.2.block _ (by omega)).trans HH.out.2.2.1
      · have := HR5.out.1
        rw [← List.take_succ_eq_append_getElem (by rw [HPS.out.1]; exact hlt)] at this
        exact this
    · have hdi : decide ((i : Int) < (l.length : Int)) = false := by simp; omega
      obtain rfl : i = l.length := by omega
      obtain ⟨h1, h2, h3, h4⟩ := HH.out
      rw [← HPS.out.1, List.take_length] at h4
      obtain ⟨A3, c3, hx3, hc3, _⟩ := h4.lies (V := wr) (fun _ _ _ => rfl)
      subst hx3
      have HH2 := Lib.hid (And.intro h1 (And.intro h2 (And.intro h3 h4)))
      have kk := h2.cell 0
      clear h1 h2 h3 h4 HH
      go_wp2_with (first
        | (go_at_call 53; go_must (refine (flat_any _ _ _ _ _).mono ?_); rintro e w3 ⟨rfl, rfl⟩)
        | (go_at_call 38; go_must (refine (ofCat_any _ _ _).mono ?_); rintro e w3 ⟨rfl, rfl⟩))
      obtain ⟨W1, hW1⟩ : ∃ W1, ((wr.alloc (.cells #[.slice A3 ps.length c3] 25)).alloc (.cells #[.int .i64 2] 3)).alloc (.cells #[.func (.func 73) #[] #[.pointer (some ⟨wr.heap.size, 0, none⟩), .pointer (some ⟨wr.heap.size + 1, 0, none⟩)]] 74) = W1 := ⟨_, rfl⟩
      rw [hW1]
      obtain ⟨h1, h2, h3, h4⟩ := HH2.out
      have hbW : Below wr.heap.size wr W1 := by rw [← hW1]; exact (((Below.refl _ _).alloc (Nat.le_refl _) _).alloc (by simp) _).alloc (by simp; omega) _
      have hszW : W1.heap.size = wr.heap.size + 3 := by rw [← hW1]; simp
      have hx1 : BlkIs W1 wr.heap.size 25 #[.slice A3 ps.length c3] := by rw [← hW1]; exact ((BlkIs.new wr _ _).alloc _).alloc _
      have hx2 : BlkIs W1 (wr.heap.size + 1) 3 #[.int .i64 2] := by
        have := (BlkIs.new (wr.alloc (.cells #[.slice A3 ps.length c3] 25)) 3 #[.int .i64 2]).alloc (.cells #[.func (.func 73) #[] #[.pointer (some ⟨wr.heap.size, 0, none⟩), .pointer (some ⟨wr.heap.size + 1, 0, none⟩)]] 74)
        rw [World.size_alloc] at this
        rw [← hW1]; exact this
      have hx3 : BlkIs W1 (wr.heap.size + 1 + 1) 74 #[.func (.func 73) #[] #[.pointer (some ⟨wr.heap.size, 0, none⟩), .pointer (some ⟨wr.heap.size + 1, 0, none⟩)]] := by
        have := BlkIs.new ((wr.alloc (.cells #[.slice A3 ps.length c3] 25)).alloc (.cells #[.int .i64 2] 3)) 74 #[.func (.func 73) #[] #[.pointer (some ⟨wr.heap.size, 0, none⟩), .pointer (some ⟨wr.heap.size + 1, 0, none⟩)]]
        rw [World.size_alloc, World.size_alloc] at this
        rw [← hW1]; exact this
      have hw2 : w.heap.size + 2 ≤ wr.heap.size := by have := h3.lt; omega
      obtain ⟨V, hV⟩ : ∃ V, V = less W1 (w.heap.size + 1) := ⟨_, rfl⟩
      have hVg : ∀ k, k ≠ w.heap.size + 1 → V.heap[k]? = W1.heap[k]? := fun k hk => by rw [hV]; exact World.putObj_heap_other hk
      have hsV : Sub V W1 := by rw [hV]; exact less_sub fun k _ _ => rfl
      have hcV : Clear V (fun k => False ∨ k = w.heap.size + 1) := fun p v hv h => by
        rw [hV] at hv
        exact (less_cell hv).1 (h.elim False.elim id)
      have hVc : ∀ {k : Nat} {u : Value} {t : TypeId}, k ≠ w.heap.size + 1 → BlkIs W1 k t #[u] → V.cell? ⟨k, 0, none⟩ = some u := fun {k u t} hk hb => by
        have hb' : BlkIs V k t #[u] := (hVg k hk).trans hb
        exact hb'.cell 0
      obtain ⟨A5, c5, he5, hc5, hl5⟩ := h4.lies (V := V) (fun k hk1 hk2 => (hVg k (by omega)).trans (hbW.block k hk2))
      injection he5 with e1 e2 e3
      subst e1 e3
      have ht1 := flat_tells V wr.heap.size (wr.heap.size + 1) ps A3 c3 2 (hVc (by omega) hx1) (hVc (by omega) hx2) hc5 hl5
      have hfn : nodesL (flatT 2 ps) ≤ nodesL ps := flatT_nodes ps
      have ht2 := ofCat_tells V (wr.heap.size + 1 + 1) 73 _ (enters_of Tryd.func73 (by kernel_rfl) rfl) (flatT 2 ps) ht1 (hVc (by omega) hx3)
      have hsn : nodesL (catStay (flatT 2 ps)) ≤ nodesL ps := Nat.le_trans (catStay_nodes _) hfn
      have hbl : BlkIs W1 (w.heap.size + 1) 25 #[.slice none 0 0] := h3.step hbW
      have hb01 := h1.trans (hbW.mono h1.size)
      have HF := Lib.hid (And.intro hb01 (And.intro hsn (And.intro hw2 hszW)))
      have H0 := Lib.hid (show RowH V NoJ (w.heap.size + 1) ((catStay (flatT 2 ps)).take 0) (fun k => False ∨ k = w.heap.size + 1) W1 from RowH.start (fun k h => h) (fun h => h) hbl)
      have HT := Lib.hid ht2
      have HS := Lib.hid (And.intro hsV hcV)
      clear h1 h2 h3 h4 hx1 hx2 hx3 hVg hVc hV hl5 ht1 ht2 hfn hsn hbl hb01 hsV hcV hbW HH2 kk hW1
      refine (wpIn_wide (n := 5)).1 ?_
      refine range_tells (n := 5) (by omega) (gf := 54) (lb := #[.pointer (some ⟨wr.heap.size + 1 + 1, 0, none⟩)]) rfl (enters_of Tryd.func54 (by kernel_rfl) rfl) (catStay (flatT 2 ps)) V HT.out HS.out.1 (fun k => False ∨ k = w.heap.size + 1) HS.out.2
        (fun i => RowH V NoJ (w.heap.size + 1) ((catStay (flatT 2 ps)).take i)) (fun _ _ _ => False) (fun i => RowH.holder NoJ.holder _ _ _) (fun _ => holder_no) H0.out
        (fun g cs => { tmps := #[.agg #[.int .i64 2, .int .u64 (wd m 0 : Nat), .int .u64 (wd m 1 : Nat), .int .u64 (wd m 2 : Nat), .int .u64 (wd m 3 : Nat), .slice A l.length c, .int .i64 lo, .int .i64 hi], .func (.func 38) #[] #[], .pointer (some ⟨w.heap.size, 0, none⟩), undef, .slice none 0 0, .slice A3 ps.length c3,
          .pointer (some ⟨w.heap.size + 1, 0, none⟩), undef, u8, .pointer (some ⟨g, 0, none⟩), .pointer (some ⟨w.heap.size, 5, none⟩), .slice A l.length c, .int .i64 (l.length : Nat), .int .i64 (l.length : Nat), .bool false, u15, u16, u17, u18, u19, u20, u21, u22, .func (.func 38) #[] #[], .slice A3 ps.length c3,
          .pointer (some ⟨w.heap.size, 0, none⟩), .int .i64 2, .func (.func 73) #[] #[.pointer (some ⟨wr.heap.size, 0, none⟩), .pointer (some ⟨wr.heap.size + 1, 0, none⟩)], .func (.func 54) #[] #[.pointer (some ⟨wr.heap.size + 1 + 1, 0, none⟩)], .agg cs.toArray, undef, undef, undef, undef, undef, undef, undef], defers := [] })
        ?assign ?body ?done (fun _ _ _ _ h => h.elim)
      case assign =>
        intro l k m A x c lo hi Wx K hK
        unfold reL at hK
        unfold reV reL
        gi_wp2
        exact hK
      case body =>
        obtain ⟨hi0, hhi0⟩ : ∃ x, x = hi := ⟨_, rfl⟩
        rw [← hhi0]
        clear hhi0
        rintro lq i hi Ob Wb A2 x2 c2 g hst hsb hcb hat hng hgV hbx
        have hltb := (RowH.holder NoJ.holder V (w.heap.size + 1) ((catStay (flatT 2 ps)).take i)).lt _ _ hst
        obtain ⟨Oo, v, xs, hj, hO, hn, hv, hbt, hrow⟩ := hst
        obtain ⟨A6, c6, rfl, hc6, _⟩ := hrow.lies hsb
        have hlen : ((catStay (flatT 2 ps)).take i).length + 1 ≤ 1099511627776 := by
          have h1 := length_nodes (catStay (flatT 2 ps))
          have h2 := HF.out.2.1
          have h3 := HN.out
          rw [List.length_take]; omega
        obtain ⟨gn, cn, W7, hrun, hcn, hgn, _, hgnlt, ⟨cur, hcur, hcs⟩, hfar, hpush⟩ := row_push hrow hlen (Nat.zero_le _)
        have hgng : gn ≠ g := fun e => by
          rcases hgn with h | h
          · exact hng (e ▸ (hO gn).2 (.inr (.inr h)))
          · have := hbx.lt; omega
        have hgnb : gn ≠ w.heap.size + 1 := fun e => by
          rcases hgn with h | h
          · exact (hv gn h).2 e
          · have := hbt.lt; omega
        have hsz7 := hfar.size
        have hbt7 : BlkIs W7 (w.heap.size + 1) 25 #[.slice A6 ((catStay (flatT 2 ps)).take i).length c6] := (hfar.far _ hbt.lt (fun e => (hv _ e).2 rfl)).trans hbt
        have hbt7' : BlkIs (W7.setCells gn (((catStay (flatT 2 ps)).take i).length * 8) (reL (catStay (flatT 2 ps))[i].kind (catStay (flatT 2 ps))[i].set A2 x2 c2 (catStay (flatT 2 ps))[i].lo (catStay (flatT 2 ps))[i].hi)) (w.heap.size + 1) 25 #[.slice A6 ((catStay (flatT 2 ps)).take i).length c6] := BlkIs.farCells (Ne.symm hgnb) _ _ _ hbt7
        obtain ⟨W8, hW8⟩ : ∃ W8, (W7.setCells gn (((catStay (flatT 2 ps)).take i).length * 8) (reL (catStay (flatT 2 ps))[i].kind (catStay (flatT 2 ps))[i].set A2 x2 c2 (catStay (flatT 2 ps))[i].lo (catStay (flatT 2 ps))[i].hi)).setCell ⟨w.heap.size + 1, 0, none⟩ (.slice (some ⟨gn, 0, none⟩) (((catStay (flatT 2 ps)).take i).length + 1) cn) = W8 := ⟨_, rfl⟩
        have hW8b : (W7.setCell ⟨w.heap.size + 1, 0, none⟩ (.slice (some ⟨gn, 0, none⟩) (((catStay (flatT 2 ps)).take i).length + 1) cn)).setCells gn (((catStay (flatT 2 ps)).take i).length * 8) (reL (catStay (flatT 2 ps))[i].kind (catStay (flatT 2 ps))[i].set A2 x2 c2 (catStay (flatT 2 ps))[i].lo (catStay (flatT 2 ps))[i].hi) = W8 := (sets_swap (Ne.symm hgnb) 0 _ _ _ _).trans hW8
        have hbt8 : BlkIs W8 (w.heap.size + 1) 25 #[.slice (some ⟨gn, 0, none⟩) (((catStay (flatT 2 ps)).take i).length + 1) cn] := by
          have := hbt7'.put 0 (.slice (some ⟨gn, 0, none⟩) (((catStay (flatT 2 ps)).take i).length + 1) cn)
          rw [← hW8]; simpa using this
        have hrow8 : RowT V W8 0 (.slice (some ⟨gn, 0, none⟩) (((catStay (flatT 2 ps)).take i).length + 1) cn) ((catStay (flatT 2 ps)).take (i + 1)) (xs ++ (reL (catStay (flatT 2 ps))[i].kind (catStay (flatT 2 ps))[i].set A2 x2 c2 (catStay (flatT 2 ps))[i].lo (catStay (flatT 2 ps))[i].hi)) := by
          rw [← hW8, List.take_succ_eq_append_getElem hi]
          exact (hpush ((catStay (flatT 2 ps))[i]) (reL (catStay (flatT 2 ps))[i].kind (catStay (flatT 2 ps))[i].set A2 x2 c2 (catStay (flatT 2 ps))[i].lo (catStay (flatT 2 ps))[i].hi) hat rfl).heap (fun k hk => by
            have : gn = k := Option.some.inj hk
            exact Below.heap_setCell _ _ _ k (fun e => hgnb (this.trans e)))
        have ht8 : Trip (fun k => Ob k ∨ k = g) Wb (fun k => Oo k ∨ k = w.heap.size + 1 ∨ (Value.slice (some ⟨gn, 0, none⟩) (((catStay (flatT 2 ps)).take i).length + 1) cn).ownBlock = some k) W8 := by
          have t6 : Trip (fun k => Ob k ∨ k = g) Wb Ob Wb := ⟨fun k h => .inl (.inl h), Far.refl _ _⟩
          have t7 : Trip Ob Wb (fun k => Ob k ∨ k = gn) W7 := ⟨fun k h => h.elim .inl (fun e => hgn.elim (fun h => .inl (e ▸ (hO gn).2 (.inr (.inr h)))) (fun h => .inr (e ▸ h))), hfar.mono (fun k h => (hO k).2 (.inr (.inr h)))⟩
          have t8 : Trip (fun k => Ob k ∨ k = gn) W7 (fun k => Ob k ∨ k = gn) W8 := by
            rw [← hW8]
            exact ⟨InN.refl _ _, (far_cells (O := fun k => Ob k ∨ k = gn) (b := gn) (.inr rfl) _ _ _).trans (InN.refl _ _) (far_set _ (.inl ((hO _).2 (.inr (.inl rfl)))))⟩
          exact ((t6.trans t7).trans t8).sub (fun k h => h.elim (fun h => (hj k h).elim) (fun h => h.elim (fun e => .inl ((hO k).2 (.inr (.inl e)))) (fun e => .inr (Option.some.inj e).symm)))
        have hend : NextIs (fun k => Ob k ∨ k = g) Wb (RowH V NoJ (w.heap.size + 1) ((catStay (flatT 2 ps)).take (i + 1))) W8 :=
          NextIs.of ht8 ⟨Oo, _, _, hj, fun _ => Iff.rfl, hn, fun k hk => ⟨hj k, by
            obtain rfl : gn = k := Option.some.inj hk
            exact hgnb⟩, hbt8, hrow8⟩
        have hth : W7.there gn (((catStay (flatT 2 ps)).take i).length * 8) (reL (catStay (flatT 2 ps))[i].kind (catStay (flatT 2 ps))[i].set A2 x2 c2 (catStay (flatT 2 ps))[i].lo (catStay (flatT 2 ps))[i].hi).length := fun j (hj : j < 8) => by
          have h := BlkIs.there (show BlkIs W7 gn 27 cur from hcur) (((catStay (flatT 2 ps)).take i).length * 8 + j) (by omega)
          rw [Nat.zero_add] at h
          exact h
        have hth' : (W7.setCell ⟨w.heap.size + 1, 0, none⟩ (.slice (some ⟨gn, 0, none⟩) (((catStay (flatT 2 ps)).take i).length + 1) cn)).there gn (((catStay (flatT 2 ps)).take i).length * 8) (reL (catStay (flatT 2 ps))[i].kind (catStay (flatT 2 ps))[i].set A2 x2 c2 (catStay (flatT 2 ps))[i].lo (catStay (flatT 2 ps))[i].hi).length := fun j (hj : j < 8) => by
          obtain ⟨h1, h2⟩ := hth j hj
          have e : (W7.setCell ⟨w.heap.size + 1, 0, none⟩ (.slice (some ⟨gn, 0, none⟩) (((catStay (flatT 2 ps)).take i).length + 1) cn)).heap[gn]? = W7.heap[gn]? := Below.heap_setCell _ _ _ gn (by simpa using hgnb)
          exact ⟨by rw [World.cell?_of_block (w := W7) e]; exact h1, by rw [World.frozen?_of_block (w := W7) e]; exact h2⟩
        have hUB : Below Wb.heap.size Wb (Wb.alloc (.cells zeroL.toArray 27)) := (Below.refl _ _).alloc (Nat.le_refl _) _
        have m0 := hbt.cell 0
        have m1 := (hbt.step hUB).cell 0
        have m2 := hbt7.cell 0
        have m3 := hbt7.frozen 0
        have m4 := hbt7'.cell 0
        have m5 := hbt7'.frozen 0
        obtain ⟨s0, s1, s2, s3, s4, s5, s6, s7⟩ := hbx.eight
        obtain ⟨t0, t1, t2, t3, t4, t5, t6, t7⟩ := (hbx.step hUB).eight
        simp only [List.getElem?_toArray, List.getElem?_cons_zero] at m0 m1 m2 m4
        have HRUN := Lib.hid hrun
        have HTH := Lib.hid (And.intro hth hth')
        have H8 := Lib.hid (And.intro hW8 hW8b)
        have H9 := Lib.hid (show (∀ a, tellEnds (fun k => Ob k ∨ k = g) Wb (RowH V NoJ (w.heap.size + 1) ((catStay (flatT 2 ps)).take (i + 1))) (fun _ _ _ => False) .normal a W8) from fun _ => hend)
        have hltq : (((catStay (flatT 2 ps)).take i).length : Int) < (((catStay (flatT 2 ps)).take i).length : Int) + 1 := by omega
        clear hrun hth hth' hUB hend ht8 hrow8 hbt8 hW8b hW8 hbt7' hbt7 hsz7 hgnb hgng hpush hfar hcur hcs hgnlt hgn hcn hlen hrow hbt hv hn hO hj hltb hsb hcb hat hng hgV hbx
        generalize hSI : (catStay (flatT 2 ps)).take i = SI at *
        clear hSI
        unfold zeroL at *
        have hmix : Tryd.prog.follows .mixedOrders = true := by kernel_rfl
        unfold reL
        gi_wp2
        · refine wpIn_mono (Q := fun e a' w' => e = .normal ∧ a' = { tmps := #[.agg #[.int .i64 2, .int .u64 (wd m 0 : Nat), .int .u64 (wd m 1 : Nat), .int .u64 (wd m 2 : Nat), .int .u64 (wd m 3 : Nat), .slice A l.length c, .int .i64 lo, .int .i64 hi0], .func (.func 38) #[] #[], .pointer (some ⟨w.heap.size, 0, none⟩), undef, .slice none 0 0, .slice A3 ps.length c3,
            .pointer (some ⟨w.heap.size + 1, 0, none⟩), undef, u8, .pointer (some ⟨g, 0, none⟩), .pointer (some ⟨w.heap.size, 5, none⟩), .slice A l.length c, .int .i64 (l.length : Nat), .int .i64 (l.length : Nat), .bool false, u15, u16, u17, u18, u19, u20, u21, u22, .func (.func 38) #[] #[], .slice A3 ps.length c3,
            .pointer (some ⟨w.heap.size, 0, none⟩), .int .i64 2, .func (.func 73) #[] #[.pointer (some ⟨wr.heap.size, 0, none⟩), .pointer (some ⟨wr.heap.size + 1, 0, none⟩)], .func (.func 54) #[] #[.pointer (some ⟨wr.heap.size + 1 + 1, 0, none⟩)], .agg #[.int .i64 (catStay (flatT 2 ps))[i].kind, .int .u64 (wd (catStay (flatT 2 ps))[i].set 0 : Nat), .int .u64 (wd (catStay (flatT 2 ps))[i].set 1 : Nat), .int .u64 (wd (catStay (flatT 2 ps))[i].set 2 : Nat), .int .u64 (wd (catStay (flatT 2 ps))[i].set 3 : Nat), .slice A2 x2 c2, .int .i64 (catStay (flatT 2 ps))[i].lo, .int .i64 (catStay (flatT 2 ps))[i].hi],
            .slice A6 SI.length c6, .agg #[.int .i64 (catStay (flatT 2 ps))[i].kind, .int .u64 (wd (catStay (flatT 2 ps))[i].set 0 : Nat), .int .u64 (wd (catStay (flatT 2 ps))[i].set 1 : Nat), .int .u64 (wd (catStay (flatT 2 ps))[i].set 2 : Nat), .int .u64 (wd (catStay (flatT 2 ps))[i].set 3 : Nat), .slice A2 x2 c2, .int .i64 (catStay (flatT 2 ps))[i].lo, .int .i64 (catStay (flatT 2 ps))[i].hi], .int .i64 (SI.length : Nat), .slice (some ⟨Wb.heap.size, 0, none⟩) 1 1, .slice (some ⟨gn, 0, none⟩) (SI.length + 1) cn, .pointer (some ⟨gn, SI.length * 8, none⟩), undef], defers := [] } ∧ w' = W8) ?_ ?_
          · refine wpIn_region_any hmix ?_
            change wpAnyIn _ _ _ _ _ _ _ _ _ (World.drew _)
            iterate 8
              all_goals (
                first
                    | (refine wpAnyIn_ready (rs := [0, 1, 2]) (by decide +kernel) (by simp) ?_; refine AllReadyIn.cons rfl (fun K hK => ?_) (AllReadyIn.cons rfl (fun K hK => ?_) (AllReadyIn.cons rfl (fun K hK => ?_) AllReadyIn.nil)))
                    | (refine wpAnyIn_ready (rs := [0, 1, 3]) (by decide +kernel) (by simp) ?_; refine AllReadyIn.cons rfl (fun K hK => ?_) (AllReadyIn.cons rfl (fun K hK => ?_) (AllReadyIn.cons rfl (fun K hK => ?_) AllReadyIn.nil)))
                    | (refine wpAnyIn_ready (rs := [0, 2, 3]) (by decide +kernel) (by simp) ?_; refine AllReadyIn.cons rfl (fun K hK => ?_) (AllReadyIn.cons rfl (fun K hK => ?_) (AllReadyIn.cons rfl (fun K hK => ?_) AllReadyIn.nil)))
                    | (refine wpAnyIn_ready (rs := [1, 2, 3]) (by decide +kernel) (by simp) ?_; refine AllReadyIn.cons rfl (fun K hK => ?_) (AllReadyIn.cons rfl (fun K hK => ?_) (AllReadyIn.cons rfl (fun K hK => ?_) AllReadyIn.nil)))
                    | (refine wpAnyIn_ready (rs := [0, 1]) (by decide +kernel) (by simp) ?_; refine AllReadyIn.cons rfl (fun K hK => ?_) (AllReadyIn.cons rfl (fun K hK => ?_) AllReadyIn.nil))
                    | (refine wpAnyIn_ready (rs := [0, 2]) (by decide +kernel) (by simp) ?_; refine AllReadyIn.cons rfl (fun K hK => ?_) (AllReadyIn.cons rfl (fun K hK => ?_) AllReadyIn.nil))
                    | (refine wpAnyIn_ready (rs := [0, 3]) (by decide +kernel) (by simp) ?_; refine AllReadyIn.cons rfl (fun K hK => ?_) (AllReadyIn.cons rfl (fun K hK => ?_) AllReadyIn.nil))
                    | (refine wpAnyIn_ready (rs := [1, 2]) (by decide +kernel) (by simp) ?_; refine AllReadyIn.cons rfl (fun K hK => ?_) (AllReadyIn.cons rfl (fun K hK => ?_) AllReadyIn.nil))
                    | (refine wpAnyIn_ready (rs := [1, 3]) (by decide +kernel) (by simp) ?_; refine AllReadyIn.cons rfl (fun K hK => ?_) (AllReadyIn.cons rfl (fun K hK => ?_) AllReadyIn.nil))
                    | (refine wpAnyIn_ready (rs := [2, 3]) (by decide +kernel) (by simp) ?_; refine AllReadyIn.cons rfl (fun K hK => ?_) (AllReadyIn.cons rfl (fun K hK => ?_) AllReadyIn.nil))
                    | (refine wpAnyIn_ready (rs := [0]) (by decide +kernel) (by simp) ?_; refine AllReadyIn.cons rfl (fun K hK => ?_) AllReadyIn.nil)
                    | (refine wpAnyIn_ready (rs := [1]) (by decide +kernel) (by simp) ?_; refine AllReadyIn.cons rfl (fun K hK => ?_) AllReadyIn.nil)
                    | (refine wpAnyIn_ready (rs := [2]) (by decide +kernel) (by simp) ?_; refine AllReadyIn.cons rfl (fun K hK => ?_) AllReadyIn.nil)
                    | (refine wpAnyIn_ready (rs := [3]) (by decide +kernel) (by simp) ?_; refine AllReadyIn.cons rfl (fun K hK => ?_) AllReadyIn.nil)
                    | (refine wpAnyIn_ready (rs := [5, 7]) (by decide +kernel) (by simp) ?_; refine AllReadyIn.cons rfl (fun K hK => ?_) (AllReadyIn.cons rfl (fun K hK => ?_) AllReadyIn.nil))
                    | (refine wpAnyIn_ready (rs := [6, 7]) (by decide +kernel) (by simp) ?_; refine AllReadyIn.cons rfl (fun K hK => ?_) (AllReadyIn.cons rfl (fun K hK => ?_) AllReadyIn.nil))
                    | (refine wpAnyIn_ready (rs := [4]) (by decide +kernel) (by simp) ?_; refine AllReadyIn.cons rfl (fun K hK => ?_) AllReadyIn.nil)
                    | (refine wpAnyIn_ready (rs := [5]) (by decide +kernel) (by simp) ?_; refine AllReadyIn.cons rfl (fun K hK => ?_) AllReadyIn.nil)
                    | (refine wpAnyIn_ready (rs := [6]) (by decide +kernel) (by simp) ?_; refine AllReadyIn.cons rfl (fun K hK => ?_) AllReadyIn.nil)
                    | (refine wpAnyIn_ready (rs := [7]) (by decide +kernel) (by simp) ?_; refine AllReadyIn.cons rfl (fun K hK => ?_) AllReadyIn.nil)
                all_goals (
                  first
                    | (rw [if_pos (show Region.wanted _ _ = true from rfl)]; refine operIn_append_at _ _ 25 25 rfl rfl rfl HRUN.out ?_)
                    | (rw [if_pos (show Region.wanted _ _ = true from rfl)]; refine operIn_store_at 27 _ _ rfl gn (SI.length * 8) (reL (catStay (flatT 2 ps))[i].kind (catStay (flatT 2 ps))[i].set A2 x2 c2 (catStay (flatT 2 ps))[i].lo (catStay (flatT 2 ps))[i].hi) rfl rfl (by first | (with_reducible exact HTH.out.1) | (with_reducible exact HTH.out.2)) info_re8 reL_all ?_)
                    | go_simp
                  refine hK _ _ ?_
                  clear hK K))
            all_goals (refine wpAnyIn_done ?_ ?_ _; decide +kernel)
            all_goals (refine ⟨rfl, rfl, ?_⟩; first | (with_reducible exact H8.out.1) | (with_reducible exact H8.out.2))
          · rintro e a' w' ⟨rfl, rfl, rfl⟩
            exact H9.out ⟨#[], []⟩
      case done =>
        rintro D O' W2 ⟨Oo, v, xs, hj, hO, hn, hv, hbt, hrow⟩ hi hf hsW hcW hD hnD hdD
        rw [List.take_length] at hrow
        obtain ⟨A6, c6, rfl, hc6, hl6⟩ := hrow.lies hsW
        have m0 := hbt.cell 0
        simp only [List.getElem?_toArray, List.getElem?_cons_zero] at m0
        have hbe : Below w.heap.size w W2 := HF.out.1.trans (hf.below (by have := HF.out.1.size; omega) (fun k h => h.elim False.elim (fun e => by omega)))
        have hD2 : w.heap.size ≤ D := by have := HF.out.1.size; omega
        have HE := Lib.hid (And.intro hl6 (And.intro hc6 (And.intro hbe hD2)))
        clear hl6 hc6 hbe hD2 hrow hbt hv hn hO hj hi hf hsW hcW hnD
        go_wp2
        refine ⟨by simp, .inl ⟨_, _, rfl, run_takeDeferred hdD, ?_⟩⟩
        refine ⟨_, results_tmp rfl _ _ _, A6, c6, rfl, HE.out.2.1, fun hne => ?_, HE.out.2.2.1.trans (belowK_b (w := w) (Nat.le_refl _) W2 D _ (.deferred none) HE.out.2.2.2 hdD rfl rfl)⟩
        obtain ⟨b, o, h1, h2⟩ := HE.out.1 hne
        exact ⟨b, o, h1, h2.sub (sub_put _ hdD rfl)⟩

end Go.Proofs.YtkladjjeacjgpaaDoor

