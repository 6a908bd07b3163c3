/-
  A ROW OF TREES THAT A LOOP OVER AN ITERATOR GATHERS by append, in a variable of its own: what is held of it, and one more. No condition.
-/
import Derived.Maps.AppendAt
import Derived.Deep.QuietTactic
import Derived.Test.YtkladjjeacjgpaaDoorQG06
import Derived.Test.YtkladjjeacjgpaaDoorQSame
import Derived.Test.YtkladjjeacjgpaaDoorQTtm
import Derived.Test.YtkladjjeacjgpaaDoorQShelf7
namespace Go.Proofs.YtkladjjeacjgpaaDoor
open Go.RowKit

/-- the row l lies in v, in a block of its own; its trees lie in V -/
def RowT (V W : World) (B : Nat) (v : Value) (l : List Tree) (xs : List Value) : Prop := W.ownsRow B 27 8 v l.length xs ∧ ∀ (i : Nat) (h : i < l.length), (l[i]).At V (.agg ((xs.drop (i * 8)).take 8).toArray)
theorem RowT.nil (V W : World) (B : Nat) : RowT V W B (.slice none 0 0) [] [] := ⟨World.ownsRow_nil _ _ _ _, fun i h => by simp at h⟩
theorem RowT.snoc {V W W' : World} {B B' : Nat} {v v' : Value} {l : List Tree} {xs cs : List Value} {T : Tree} (h : RowT V W B v l xs) (hT : T.At V (.agg cs.toArray)) (hcs : cs.length = 8)
    (hown : W'.ownsRow B' 27 8 v' (l.length + 1) (xs ++ cs)) : RowT V W' B' v' (l ++ [T]) (xs ++ cs) := by
  have hlen : xs.length = l.length * 8 := h.1.1
  refine ⟨by simpa using hown, fun i hi => ?_⟩
  by_cases hil : i < l.length
  · rw [List.getElem_append_left hil, List.drop_append_of_le_length (by omega), List.take_append_of_le_length (by simp; omega)]
    exact h.2 i hil
  · obtain rfl : i = l.length := by simp at hi; omega
    rw [← hlen]
    simp only [List.getElem_concat_length, List.drop_left]
    rw [List.take_of_length_le (by omega)]
    exact hT
theorem own_heap {W W' : World} {B : Nat} {t : TypeId} {z n : Nat} {v : Value} {xs : List Value} (h : W.ownsRow B t z v n xs) (hk : ∀ k, v.ownBlock = some k → W'.heap[k]? = W.heap[k]?) : W'.ownsRow B t z v n xs := by
  refine ⟨h.1, h.2.imp id ?_⟩
  rintro ⟨g, cap, cur, rfl, h1, h2, h3⟩
  exact ⟨g, cap, cur, rfl, h1, (hk g rfl).trans h2, h3⟩
theorem RowT.heap {V W W' : World} {B : Nat} {v : Value} {l : List Tree} {xs : List Value} (h : RowT V W B v l xs) (hk : ∀ k, v.ownBlock = some k → W'.heap[k]? = W.heap[k]?) : RowT V W' B v l xs := ⟨own_heap h.1 hk, h.2⟩
theorem RowT.lies {V W : World} {B : Nat} {v : Value} {l : List Tree} {xs : List Value} (h : RowT V W B v l xs) (hs : Sub V W) :
    ∃ A c, v = .slice A l.length c ∧ (l.length ≤ c ∧ c ≤ 9223372036854775807) ∧ (l ≠ [] → ∃ b o, A = some ⟨b, o, none⟩ ∧ AllAt W l b o) := by
  rcases h.1.2 with ⟨rfl, h1⟩ | ⟨g, cap, cur, rfl, h2, h3, h4, h5, h6, h7⟩
  · exact ⟨none, 0, by rw [h1], ⟨by omega, by omega⟩, fun hne => absurd (List.eq_nil_of_length_eq_zero h1) hne⟩
  · refine ⟨_, cap, rfl, ⟨h4, by unfold maxLen at h5; omega⟩, fun _ => ⟨g, 0, rfl, AllAt.mk _ _ _ fun i hi => ⟨_, (h.2 i hi).sub hs, ?_, fun j u hu => ?_⟩⟩⟩
    · have := h.1.1
      simp; omega
    · have hj : j < 8 := by have := (List.getElem?_eq_some_iff.1 hu).1; simp at this; omega
      rw [List.getElem?_take_of_lt hj, List.getElem?_drop] at hu
      have := h.1.cells (g := g) rfl _ u hu
      rw [Addr.add_lit, Nat.zero_add] at this
      rw [Nat.zero_add]
      exact this

theorem far_cells {O : Nat → Prop} {b : Nat} (hO : O b) (vs : List Value) (o : Nat) (w : World) : Far O w (w.setCells b o vs) := by
  induction vs generalizing o w with
  | nil => exact Far.refl O w
  | cons x vs ih => exact (far_set x hO).trans (InN.refl O w) (ih (o + 1) (w.setCell ⟨b, o, none⟩ x))

/-- cells stored one behind the other in a row of one's own -/
theorem own_stores {B g n cap z : Nat} {e : TypeId} : ∀ (vs pre : List Value) (ys post : List Value) (W : World), vs.length = ys.length → W.ownsRow B e z (.slice (some ⟨g, 0, none⟩) n cap) n (pre ++ ys ++ post) →
    (W.setCells g pre.length vs).ownsRow B e z (.slice (some ⟨g, 0, none⟩) n cap) n (pre ++ vs ++ post)
  | [], pre, ys, post, W, hl, h => by
    obtain rfl := List.eq_nil_of_length_eq_zero hl.symm
    exact h
  | x :: vs, pre, [], post, W, hl, h => by simp at hl
  | x :: vs, pre, y :: ys, post, W, hl, h => by
    have h1 := (h.stored pre.length x).1
    have e1 : (pre ++ y :: ys ++ post).set pre.length x = (pre ++ [x]) ++ ys ++ post := by
      rw [List.append_assoc, List.set_append_right _ _ (Nat.le_refl _), Nat.sub_self]
      simp
    rw [e1] at h1
    have h2 := own_stores vs (pre ++ [x]) ys post _ (by simpa using hl) h1
    rw [List.length_append, List.length_singleton] at h2
    simpa [World.setCells] using h2

theorem info_re3 : (Tryd.prog.info? 27).map (fun i => (i.zero, i.size, i.bytes)) = some (some (.agg zeroL.toArray), 8, 80) := by kernel_rfl
theorem zeroL_one : ∀ u ∈ zeroL, u.oneCell' = true := by
  intro u hu
  simp only [zeroL, List.mem_cons, List.not_mem_nil, or_false] at hu
  rcases hu with rfl | rfl | rfl | rfl | rfl | rfl | rfl | rfl <;> rfl

/-- one more -/
theorem row_push {V W : World} {B : Nat} {v : Value} {l : List Tree} {xs : List Value} (h : RowT V W B v l xs) (hl : l.length + 1 ≤ 1099511627776) (hB : B ≤ W.heap.size) :
    ∃ g c W', (Builtin.append_ #[25, 25] 25 #[v, .slice (some ⟨W.heap.size, 0, none⟩) 1 1]).run Tryd.prog (W.drew.alloc (.cells zeroL.toArray 27)) = .ok (.slice (some ⟨g, 0, none⟩) (l.length + 1) c) W' ∧
      (l.length + 1 ≤ c ∧ c ≤ 9223372036854775807) ∧ (v.ownBlock = some g ∨ W.heap.size ≤ g) ∧ B ≤ g ∧ g < W'.heap.size ∧ (∃ cur : Array Value, W'.heap[g]? = some (.cells cur 27 (0, 0)) ∧ (l.length + 1) * 8 ≤ cur.size) ∧
      Far (fun k => v.ownBlock = some k) W W' ∧
      ∀ (T : Tree) (cs : List Value), T.At V (.agg cs.toArray) → cs.length = 8 → RowT V (W'.setCells g (l.length * 8) cs) B (.slice (some ⟨g, 0, none⟩) (l.length + 1) c) (l ++ [T]) (xs ++ cs) := by
  obtain ⟨i0, hi, hz0, hz1, hz2⟩ := info_parts info_re3
  have hUB : Below W.heap.size W (W.drew.alloc (.cells zeroL.toArray 27)) := ((Below.refl _ W).drew).alloc (Nat.le_refl _) _
  have hown := own_heap h.1 (W' := W.drew.alloc (.cells zeroL.toArray 27)) fun k hk => hUB.block k (h.1.lt k hk).2
  have hnew := BlkIs.new W.drew 27 zeroL.toArray
  obtain ⟨v', W', hr, hown', hgr, _, hblk⟩ := run_append_own_at (P := Tryd.prog) (w := W.drew.alloc (.cells zeroL.toArray 27)) B 25 25 27 i0 (.agg zeroL.toArray) 8 80 Tryd.underlying25 hi hz0 hz1 hz2 rfl (by decide) v l.length xs hown
    ⟨W.heap.size, 0, none⟩ 1 1 zeroL rfl (fun j u hu => by
      rw [Addr.add_lit, Nat.zero_add]
      have := hnew.range j u (by simpa using hu)
      simpa using this) zeroL_one (by unfold maxLen; omega) (by omega) (by simp; omega)
  obtain ⟨g, c, rfl⟩ := ownsRow_succ hown'
  have hfar : Far (fun k => v.ownBlock = some k) W W' := (Far.of_below hUB).trans (InN.refl _ _) (far_grown hgr fun k e => e)
  obtain ⟨_, hc⟩ := hown'
  rcases hc with ⟨h1, _⟩ | ⟨g', cap, cur, h1, h2, h3, h4, h5, h6, h7⟩
  · cases h1
  injection h1 with h1 _ h1'
  injection h1 with h1
  injection h1 with h1
  subst h1 h1'
  refine ⟨g, c, W', hr, ⟨h4, by unfold maxLen at h5; omega⟩, ?_, h2, (Array.getElem?_eq_some_iff.1 h3).1, ⟨cur, h3, by rw [h6]; omega⟩, hfar, fun T cs hT hcs => ?_⟩
  · rcases hblk with e | e
    · exact .inl e.symm
    · have : some g = some (W.drew.alloc (.cells zeroL.toArray 27)).heap.size := e
      injection this with this
      exact .inr (by rw [this]; exact hUB.size)
  · refine h.snoc hT hcs ?_
    have hx : xs.length = l.length * 8 := h.1.1
    have := own_stores cs xs zeroL [] W' (by rw [hcs]; rfl) (by simpa using (show W'.ownsRow B 27 8 (.slice (some ⟨g, 0, none⟩) (l.length + 1) c) (l.length + 1) (xs ++ zeroL) from ⟨by simp [hx, zeroL]; omega, .inr ⟨g, c, cur, rfl, h2, h3, h4, h5, h6, h7⟩⟩))
    rw [hx, List.append_nil] at this
    exact this

/-! ### stores into two blocks -/
theorem World.ext_heap {A B : World} (h : A.heap = B.heap) (h2 : { A with heap := B.heap } = B) : A = B := by
  cases A; cases B; simp_all
theorem set_swap (w : World) {b b' : Nat} (hne : b ≠ b') (i j : Nat) (x y : Value) : (w.setCell ⟨b, i, none⟩ x).setCell ⟨b', j, none⟩ y = (w.setCell ⟨b', j, none⟩ y).setCell ⟨b, i, none⟩ x := by
  refine World.ext_heap ?_ rfl
  refine Array.ext_getElem? fun k => ?_
  by_cases h1 : k = b
  · subst h1
    rw [Below.heap_setCell _ _ _ k (by simpa using hne)]
    unfold World.setCell
    simp only [Array.getElem?_modify]
    rw [if_pos trivial, if_pos trivial, if_neg (Ne.symm hne)]
  · rw [Below.heap_setCell (w.setCell ⟨b', j, none⟩ y) _ _ k (by simpa using h1)]
    by_cases h2 : k = b'
    · subst h2
      unfold World.setCell
      simp only [Array.getElem?_modify]
      rw [if_pos trivial, if_pos trivial, if_neg hne]
    · rw [Below.heap_setCell _ _ _ k (by simpa using h2), Below.heap_setCell _ _ _ k (by simpa using h1), Below.heap_setCell _ _ _ k (by simpa using h2)]
theorem sets_swap {b b' : Nat} (hne : b ≠ b') (i : Nat) (x : Value) : ∀ (vs : List Value) (o : Nat) (w : World), (w.setCell ⟨b, i, none⟩ x).setCells b' o vs = (w.setCells b' o vs).setCell ⟨b, i, none⟩ x
  | [], _, _ => rfl
  | y :: vs, o, w => by
    show ((w.setCell ⟨b, i, none⟩ x).setCell ⟨b', o, none⟩ y).setCells b' (o + 1) vs = ((w.setCell ⟨b', o, none⟩ y).setCells b' (o + 1) vs).setCell ⟨b, i, none⟩ x
    rw [set_swap w hne, sets_swap hne i x vs]

/-- a variable bx with a row of one's own, beside what is held -/
def RowH (V : World) (J : Held) (bx : Nat) (l : List Tree) : Held := fun O W => ∃ Oo v xs, J Oo W ∧ (∀ k, O k ↔ Oo k ∨ k = bx ∨ v.ownBlock = some k) ∧ ¬ Oo bx ∧ (∀ k, v.ownBlock = some k → ¬ Oo k ∧ k ≠ bx) ∧ BlkIs W bx 25 #[v] ∧ RowT V W 0 v l xs
theorem RowH.holder {J : Held} (h : Holder J) (V : World) (bx : Nat) (l : List Tree) : Holder (RowH V J bx l) := by
  refine ⟨?_, ?_⟩
  · rintro O W ⟨Oo, v, xs, hj, hO, hn, hv, hb, hr⟩ k hk
    rcases (hO k).1 hk with g | rfl | g
    · exact h.lt _ _ hj k g
    · exact hb.lt
    · exact (hr.1.lt k g).2
  · rintro O W W' ⟨Oo, v, xs, hj, hO, hn, hv, hb, hr⟩ hk
    exact ⟨Oo, v, xs, h.keep _ _ _ hj ⟨hk.size, fun k g => hk.near k ((hO k).2 (.inl g))⟩, hO, hn, hv, (hk.near bx ((hO _).2 (.inr (.inl rfl)))).trans hb, hr.heap fun k g => hk.near k ((hO k).2 (.inr (.inr g)))⟩
theorem RowH.start {V : World} {J : Held} {O : Nat → Prop} {W : World} {bx : Nat} (h : J O W) (hn : ¬ O bx) (hb : BlkIs W bx 25 #[.slice none 0 0]) : RowH V J bx [] (fun k => O k ∨ k = bx) W :=
  ⟨O, _, [], h, fun k => by simp [Value.ownBlock], hn, fun k e => by simp [Value.ownBlock] at e, hb, RowT.nil V W 0⟩

theorem RowH.next {V : World} {J : Held} {O Oo : Nat → Prop} {W W' : World} {bx : Nat} {v : Value} {l : List Tree} {xs : List Value} (hO : ∀ k, O k ↔ Oo k ∨ k = bx ∨ v.ownBlock = some k) (hn : ¬ Oo bx) (hv : ∀ k, v.ownBlock = some k → ¬ Oo k ∧ k ≠ bx)
    (hb : BlkIs W bx 25 #[v]) (hr : RowT V W 0 v l xs) (h : NextIs Oo W J W') : NextIs O W (RowH V J bx l) W' := by
  obtain ⟨O2, hj, hi, hf⟩ := h
  have hn2 : ¬ O2 bx := fun g => (hi bx g).elim hn (by have := hb.lt; omega)
  have hv2 : ∀ k, v.ownBlock = some k → ¬ O2 k := fun k hk g => (hi k g).elim (hv k hk).1 (by have := (hr.1.lt k hk).2; omega)
  refine ⟨fun k => O2 k ∨ k = bx ∨ v.ownBlock = some k, ⟨O2, v, xs, hj, fun _ => Iff.rfl, hn2, fun k hk => ⟨hv2 k hk, (hv k hk).2⟩, (hf.far bx hb.lt hn).trans hb, hr.heap fun k hk => hf.far k (hr.1.lt k hk).2 (hv k hk).1⟩, ?_, hf.mono fun k hk => (hO k).2 (.inl hk)⟩
  rintro k (g | g)
  · exact (hi k g).imp (fun g => (hO k).2 (.inl g)) id
  · exact .inl ((hO k).2 (.inr g))
theorem BlkIs.thaw8 {w : World} {g : Nat} {t : TypeId} {cs : Array Value} (h : BlkIs w g t cs) : w.frozen? ⟨g, 0, none⟩ = false ∧ w.frozen? ⟨g, 1, none⟩ = false ∧ w.frozen? ⟨g, 2, none⟩ = false ∧ w.frozen? ⟨g, 3, none⟩ = false ∧
    w.frozen? ⟨g, 4, none⟩ = false ∧ w.frozen? ⟨g, 5, none⟩ = false ∧ w.frozen? ⟨g, 6, none⟩ = false ∧ w.frozen? ⟨g, 7, none⟩ = false :=
  ⟨h.frozen 0, h.frozen 1, h.frozen 2, h.frozen 3, h.frozen 4, h.frozen 5, h.frozen 6, h.frozen 7⟩

section
variable {F : Fence} {nF : Nat} {P : Program} {op : Oper} {a : Act} {w : World} {K : Act → World → Prop} {Q : Exit → Act → World → Prop}
theorem operIn_append_at (s x : Operand) (t t2 : TypeId) (hop : op.op = Op.call { callee := Callee.builtin Builtin.append, args := #[s, x], argTypes := #[t, t2] }) {v xv v' : Value} {w' : World} (hs : a.eval s = v) (hx : a.eval x = xv)
    (hrun : (Builtin.append_ #[t, t2] op.type #[v, xv]).run P w = .ok v' w') (h : K (a.put op.dst v') w') : op.wpIn F nF P a w K Q := by
  unfold Oper.wpIn
  refine ⟨by simp [Oper.about, hop, resolve, Target.leads, Sem.run_pure], ?_⟩
  rw [Oper.semAt_plain F _ _ (by rw [hop]; intro c hc'; cases hc')]
  simp [execOp, hop, resolve, invoke, builtin, hs, hx, hrun, Result.andThen]
  exact h
theorem operIn_store_at (ty : TypeId) (x y : Operand) (ho : op.op = .store ty x y) (b o : Nat) (cs : List Value) (hx : a.eval x = .pointer (some ⟨b, o, none⟩)) (hy : a.eval y = .agg cs.toArray)
    (ht : w.there b o cs.length) (hi : (P.info? ty).map (·.size) = some cs.length) (h1 : cs.toArray.all (·.oneCell') = true)
    (h : K (a.put op.dst undef) (w.setCells b o cs)) : op.wpIn F nF P a w K Q := by
  unfold Oper.wpIn
  refine ⟨by simp [Oper.about, ho], ?_⟩
  rw [Oper.semAt_plain F _ _ (by rw [ho]; intro c hc'; cases hc')]
  unfold execOp
  simp only [ho, hx, hy, Instr.storeAt, Instr.sureAddr, Sem.run_bind, Sem.run_pure, Result.andThen_ok, run_storeVar_mid w b o ty cs.toArray (by simpa using ht) (by simpa using hi) h1]
  exact h
end

end Go.Proofs.YtkladjjeacjgpaaDoor

/-
  WHAT holds AND subsText ANSWER: contracts, over what written answers of the Subs. Condition: the texts are at most 2^40 bytes in all.
-/
namespace Go.Proofs.YtkladjjeacjgpaaDoor
open Go.RowKit

def holdsI (k : Int) : Int := if k = 3 then 0 else if k = 2 then 1 else if k = 4 then 2 else 3
theorem holds_any (k : Int) (w : World) : Calls Tryd.prog 66 #[.int .i64 k] w fun e w' => e = .returned (.int .i64 (holdsI k)) ∧ w' = w := by
  unfold holdsI
  by_cases h3 : k = 3
  · subst h3
    go_enter Tryd.func66, Tryd.ntmps66
    go_wp2
    go_ret
    exact ⟨rfl, rfl⟩
  have e3 : (k == 3) = false := by simp [h3]
  rw [if_neg h3]
  by_cases h2 : k = 2
  · subst h2
    go_enter Tryd.func66, Tryd.ntmps66
    go_wp2
    go_ret
    exact ⟨rfl, rfl⟩
  have e2 : (k == 2) = false := by simp [h2]
  rw [if_neg h2]
  by_cases h4 : k = 4
  · subst h4
    go_enter Tryd.func66, Tryd.ntmps66
    go_wp2
    go_ret
    exact ⟨rfl, rfl⟩
  have e4 : (k == 4) = false := by simp [h4]
  rw [if_neg h4]
  go_enter Tryd.func66, Tryd.ntmps66
  go_wp2
  go_ret
  exact ⟨rfl, rfl⟩

theorem belowDrewN {B : Nat} {a w : World} (h : Below B a w) (m : Nat) : Below B a (w.drewN m) := ⟨h.os, h.tape, h.output, h.size, h.block⟩
theorem grown_drew {W W' : World} {m : Nat} {r : Option Nat} (h : (W.drewN m).grownBy W' r) : W.grownBy W' r := ⟨h.os, h.tape, h.output, h.size, h.block⟩
section
variable {P : Program} {op : Oper} {ops : Array Oper} {rest : List Oper} {a : Act} {w : World} {Q : Exit → Act → World → Prop}
theorem wpList_append_at' (hg : op.guard = none) (s x : Operand) (t t2 : TypeId) (hop : op.op = Op.call { callee := Callee.builtin Builtin.append, args := #[s, x], argTypes := #[t, t2] }) {v xv v' : Value} {w' : World} (hs : a.eval s = v) (hx : a.eval x = xv)
    (hrun : (Builtin.append_ #[t, t2] op.type #[v, xv]).run P w = .ok v' w') (h : wpList P ops Q rest (a.put op.dst v') w') : wpList P ops Q (op :: rest) a w :=
  wpList_plain hg fun _ hK => oper_append_run s x t t2 hop hs hx hrun (hK _ _ h)
end
theorem info_str : (Tryd.prog.info? 9).map (fun i => (i.zero, i.size, i.bytes)) = some (some (.string ⟨#[]⟩), 1, 16) := by kernel_rfl
theorem str_push {B n : Nat} {v : Value} {xs : List Value} {x : ByteArray} {W : World} (h : (W.alloc (.cells #[Value.string x] 9)).ownsRow B 9 1 v n xs) (hn : n ≤ 1099511627776) (hB : B ≤ (W.alloc (.cells #[Value.string x] 9)).heap.size) :
    ∃ v' w', (Builtin.append_ #[86, 86] 86 #[v, .slice (some ⟨W.heap.size, 0, none⟩) 1 1]).run Tryd.prog (W.alloc (.cells #[Value.string x] 9)) = .ok v' w' ∧ w'.ownsRow B 9 1 v' (n + 1) (xs ++ [Value.string x]) ∧ (W.alloc (.cells #[Value.string x] 9)).grownBy w' v.ownBlock := by
  obtain ⟨i0, hi, hz0, hz1, hz2⟩ := info_parts info_str
  obtain ⟨v', w', hr, hown, hg, _, _⟩ := run_append_own_at (P := Tryd.prog) (w := W.alloc (.cells #[Value.string x] 9)) B 86 86 9 i0 (.string ⟨#[]⟩) 1 16 Tryd.underlying86 hi hz0 hz1 hz2 rfl (by decide) v n xs h
    ⟨W.heap.size, 0, none⟩ 1 1 [Value.string x] rfl (cell_one_new W (.string x) 9) (by simp [Value.oneCell']) (by unfold maxLen; omega) (by omega) hB
  exact ⟨v', w', hr, hown, hg⟩
/-- a Sub's text, between ( and ) if it holds no tighter -/
def wrapB (k k' : Int) (s : ByteArray) : ByteArray := if holdsI k' ≤ holdsI k then ((⟨#[40]⟩ ++ s) ++ ⟨#[41]⟩) else s

set_option maxRecDepth 100000 in
set_option maxHeartbeats 8000000 in
theorem subs_any (k : Int) (m : Nat → Bool) (l : List Tree) (lo hi : Int) (v : Value) (w : World) (sep : ByteArray) (hat : Tree.At w (.node k m l lo hi) v) (tx : List ByteArray) (htx : tx.length = l.length) (hl : l.length ≤ 1099511627776) (hsz : ∀ s ∈ tx, s.size ≤ 1099511627776)
    (HW : ∀ (i : Nat) (h : i < l.length) (h' : i < tx.length) (v : Value) (u : World), Below w.heap.size w u → (l[i]).At u v → Calls Tryd.prog 30 #[v] u fun e u' => e = .returned (.string tx[i]) ∧ Below u.heap.size u u')
    (ps : List ByteArray) (hps : ps.length = l.length) (hpi : ∀ (i : Nat) (h : i < l.length) (h' : i < tx.length) (h2 : i < ps.length), ps[i] = wrapB k l[i].kind tx[i])
    (hj : (Lib.join (ps.map (·.data.toList)) sep.data.toList).length ≤ 140737488355328) :
    Calls Tryd.prog 46 #[v, .string sep] w fun e w' => e = .returned (.string ⟨(Lib.join (ps.map (·.data.toList)) sep.data.toList).toArray⟩) ∧ Below w.heap.size w w' := by
  obtain ⟨i0, hi0, hz0, hz1, hz2⟩ := info_parts info_str
  obtain ⟨A, c, rfl, hc, hsub⟩ := hat.open
  have HSUB := Lib.hid hsub
  have HWN := Lib.hid HW
  have HX := Lib.hid (And.intro htx (And.intro hps (And.intro hl (And.intro hsz (And.intro hpi hj)))))
  have HI := Lib.hid (And.intro hi0 (And.intro hz0 (And.intro hz1 hz2)))
  have HBX := Lib.hid (BlkIs.new w 27 (reL k m A l.length c lo hi).toArray)
  have HH := Lib.hid (fun (x : Int) (u : World) => holds_any x u)
  clear hat hsub HW htx hps hl hsz hpi hj hi0 hz0 hz1 hz2
  unfold reV reL at *
  go_enter Tryd.func46, Tryd.ntmps46
  go_wp2
  go_loopw [5, 12] (fun x s wr => ∃ (i : Nat), s = .int .i64 i ∧ i ≤ l.length ∧ Hid (Below w.heap.size w wr ∧ BlkIs wr w.heap.size 27 #[.int .i64 k, .int .u64 (wd m 0 : Nat), .int .u64 (wd m 1 : Nat), .int .u64 (wd m 2 : Nat), .int .u64 (wd m 3 : Nat), .slice A l.length c, .int .i64 lo, .int .i64 hi] ∧
      wr.ownsRow (w.heap.size + 1) 9 1 x i ((ps.take i).map Value.string))) (fun _ s _ => l.length - (intOf s).toNat)
  case atStart =>
    exact ⟨0, rfl, Nat.zero_le _, Lib.hid ⟨(Below.refl _ _).alloc (Nat.le_refl _) _, HBX.out, World.ownsRow_nil _ _ _ _⟩⟩
  case round =>
    obtain ⟨i, rfl, hile, HI2⟩ := hrel
    by_cases hlt : i < l.length
    · have hdi : decide ((i : Int) < (l.length : Int)) = true := by simp; omega
      obtain ⟨b, o, rfl, hb, hall⟩ := HSUB.out (by intro e; subst e; simp at hlt)
      obtain ⟨cs, hat2, hcs, hrow⟩ := hall i hlt
      obtain ⟨A2, c2, rfl, hc2, _⟩ := at_sub hat2
      obtain ⟨k0, k1, k2, k3, k4, k5, k6, k7⟩ := row_eight hrow HI2.out.1
      have hit : i < tx.length := by rw [HX.out.1]; exact hlt
      have hip : i < ps.length := by rw [HX.out.2.1]; exact hlt
      have hts : tx[i].size ≤ 1099511627776 := HX.out.2.2.2.1 _ (List.getElem_mem hit)
      have hUB : Below wr.heap.size wr (wr.alloc (.cells (reL l[i].kind l[i].set A2 l[i].sub.length c2 l[i].lo l[i].hi).toArray 27)) := (Below.refl _ _).alloc (Nat.le_refl _) _
      have hcall := HWN.out i hlt hit _ (wr.alloc (.cells (reL l[i].kind l[i].set A2 l[i].sub.length c2 l[i].lo l[i].hi).toArray 27)) (HI2.out.1.trans (hUB.mono HI2.out.1.size)) (hat2.step (HI2.out.1.trans (hUB.mono HI2.out.1.size)))
      have HC := Lib.hid hcall
      have HU := Lib.hid (And.intro hUB (BlkIs.new wr 27 (reL l[i].kind l[i].set A2 l[i].sub.length c2 l[i].lo l[i].hi).toArray))
      have hpe := HX.out.2.2.2.2.1 i hlt hit hip
      unfold wrapB at hpe
      have HPE := Lib.hid hpe
      clear hcall hall hat2 hrow hUB hpe
      have hup : ∀ u, Below wr.heap.size wr u → u.ownsRow (w.heap.size + 1) 9 1 u5 i ((ps.take i).map Value.string) := fun u hu => own_heap HI2.out.2.2 (fun q hq => hu.block q (HI2.out.2.2.lt q hq).2)
      have HUP := Lib.hid hup
      have hw1 : w.heap.size + 1 ≤ wr.heap.size := HI2.out.2.1.lt
      clear hup
      unfold reL at HC HU
      cases hle : decide (holdsI l[i].kind ≤ holdsI k) with
      | true =>
        go_wp2_with fail
        go_at_call 30
        refine HC.out.mono ?_
        rintro e w3 ⟨rfl, hb3⟩
        have hg3 := (HU.out.2.step hb3).cell 0
        have hb03 := HU.out.1.trans (hb3.mono HU.out.1.size)
        have hk3 : BlkIs w3 w.heap.size 27 _ := HI2.out.2.1.step hb03
        have hk3' := hk3.cell 0
        simp only [List.getElem?_toArray, List.getElem?_cons_zero] at hg3 hk3'
        have HB3 := Lib.hid (And.intro hb03 hk3)
        have HRUN := Lib.hid (fun (n : Nat) => str_push (HUP.out ((w3.drewN n).alloc (.cells #[Value.string ((⟨#[40]⟩ ++ tx[i]) ++ ⟨#[41]⟩)] 9)) ((belowDrewN hb03 n).alloc hb03.size _)) (by have := HX.out.2.2.1; omega) (by show w.heap.size + 1 ≤ ((w3.drewN n).alloc _).heap.size; rw [World.size_alloc]; show _ ≤ w3.heap.size + 1; have := hb03.size; omega))
        have hsz3 := hb03.size
        clear hb3 hk3 hb03 k0 k1 k2 k3 k4 k5 k6 k7
        go_wp2_with (first
          | (go_quiet (first | (go_at_call 66; refine Calls.quiet_of_same (HH.out _ _))))
          | (obtain ⟨v', w4, hrun, hown', hgrow⟩ := HRUN.out nq
             refine wpList_append_at' rfl _ _ 86 86 rfl rfl rfl hrun ?_
             have HGR := Lib.hid (And.intro hown' hgrow)
             clear hown' hgrow hrun))
        have hown : ∀ q, u5.ownBlock = some q → w.heap.size + 1 ≤ q ∧ q < wr.heap.size := fun q hq => HI2.out.2.2.lt q hq
        obtain ⟨hg1, hg2⟩ := HGR.out
        have hbq := (HI2.out.1.trans ((belowDrewN HB3.out.1 _).mono HI2.out.1.size)).trans (((Below.refl w.heap.size _).alloc (by show _ ≤ w3.heap.size; omega) _).grown hg2 (by simp; omega) (fun q hq => by have := (hown q hq).1; omega))
        refine ⟨⟨i + 1, by go_num, by omega, Lib.hid ⟨hbq, ?_, ?_⟩⟩, by simp [intOf]; omega⟩
        · refine (hg2.block w.heap.size (by simp; omega) (fun e => by have := (hown _ e.symm).1; omega)).trans ?_
          exact (Below.heap_alloc _ _ _ (by show _ < w3.heap.size; omega)).trans HB3.out.2
        · have h1 := hg1
          have e : (ps.take (i + 1)).map Value.string = (ps.take i).map Value.string ++ [Value.string ((⟨#[40]⟩ ++ tx[i]) ++ ⟨#[41]⟩)] := by
            rw [List.take_succ_eq_append_getElem hip, List.map_append, HPE.out]
            simp [of_decide_eq_true hle]
          rw [e]
          exact h1
      | false =>
        go_wp2_with fail
        go_at_call 30
        refine HC.out.mono ?_
        rintro e w3 ⟨rfl, hb3⟩
        have hg3 := (HU.out.2.step hb3).cell 0
        have hb03 := HU.out.1.trans (hb3.mono HU.out.1.size)
        have hk3 : BlkIs w3 w.heap.size 27 _ := HI2.out.2.1.step hb03
        have hk3' := hk3.cell 0
        simp only [List.getElem?_toArray, List.getElem?_cons_zero] at hg3 hk3'
        have HB3 := Lib.hid (And.intro hb03 hk3)
        have HRUN := Lib.hid (fun (n : Nat) => str_push (HUP.out ((w3.drewN n).alloc (.cells #[Value.string tx[i]] 9)) ((belowDrewN hb03 n).alloc hb03.size _)) (by have := HX.out.2.2.1; omega) (by show w.heap.size + 1 ≤ ((w3.drewN n).alloc _).heap.size; rw [World.size_alloc]; show _ ≤ w3.heap.size + 1; have := hb03.size; omega))
        have hsz3 := hb03.size
        clear hb3 hk3 hb03 k0 k1 k2 k3 k4 k5 k6 k7
        go_wp2_with (first
          | (go_quiet (first | (go_at_call 66; refine Calls.quiet_of_same (HH.out _ _))))
          | (obtain ⟨v', w4, hrun, hown', hgrow⟩ := HRUN.out nq
             refine wpList_append_at' rfl _ _ 86 86 rfl rfl rfl hrun ?_
             have HGR := Lib.hid (And.intro hown' hgrow)
             clear hown' hgrow hrun))
        have hown : ∀ q, u5.ownBlock = some q → w.heap.size + 1 ≤ q ∧ q < wr.heap.size := fun q hq => HI2.out.2.2.lt q hq
        obtain ⟨hg1, hg2⟩ := HGR.out
        have hbq := (HI2.out.1.trans ((belowDrewN HB3.out.1 _).mono HI2.out.1.size)).trans (((Below.refl w.heap.size _).alloc (by show _ ≤ w3.heap.size; omega) _).grown hg2 (by simp; omega) (fun q hq => by have := (hown q hq).1; omega))
        refine ⟨⟨i + 1, by go_num, by omega, Lib.hid ⟨hbq, ?_, ?_⟩⟩, by simp [intOf]; omega⟩
        · refine (hg2.block w.heap.size (by simp; omega) (fun e => by have := (hown _ e.symm).1; omega)).trans ?_
          exact (Below.heap_alloc _ _ _ (by show _ < w3.heap.size; omega)).trans HB3.out.2
        · have h1 := hg1
          have e : (ps.take (i + 1)).map Value.string = (ps.take i).map Value.string ++ [Value.string tx[i]] := by
            rw [List.take_succ_eq_append_getElem hip, List.map_append, HPE.out]
            simp [of_decide_eq_false hle]
          rw [e]
          exact h1
    · have hdi : decide ((i : Int) < (l.length : Int)) = false := by simp; omega
      obtain rfl : i = l.length := by omega
      obtain ⟨h1, h2, h3⟩ := HI2.out
      rw [← HX.out.2.1, List.take_length] at h3
      rcases h3.2 with ⟨rfl, h4⟩ | ⟨g, cap, cur, rfl, h4, h5, h6, h7, h8, h9⟩
      · have hnil : ps = [] := List.eq_nil_of_length_eq_zero h4
        subst hnil
        have HJ := Lib.hid (fun (u : World) => strings_Join_none none 0 sep u)
        have HE := Lib.hid h1
        clear h1 h2 h3 h4 HI2
        go_wp2_with (first | (go_at_call 67; go_must (refine (HJ.out _).mono ?_); rintro e u ⟨rfl, rfl⟩))
        go_ret
        exact ⟨rfl, HE.out⟩
      · have HJ := Lib.hid (strings_Join g 0 cap ps sep wr (fun j x hx => by
          have := h3.cells (g := g) rfl j (.string x) (by rw [List.getElem?_map, hx]; rfl)
          rw [Addr.add_lit] at this
          exact this) (Array.getElem?_eq_some_iff.1 h5).1 (by rw [HX.out.2.1]; have := HX.out.2.2.1; omega) h6 HX.out.2.2.2.2.2)
        have HE := Lib.hid h1
        clear h1 h2 h3 h4 h5 h6 h7 h8 h9 HI2
        go_wp2_with (first | (go_at_call 67; go_must (refine HJ.out.mono ?_); rintro e u ⟨rfl, hbj⟩; have HBJ := Lib.hid hbj; clear hbj))
        go_ret
        exact ⟨rfl, HE.out.trans (HBJ.out.mono HE.out.size)⟩

end Go.Proofs.YtkladjjeacjgpaaDoor

