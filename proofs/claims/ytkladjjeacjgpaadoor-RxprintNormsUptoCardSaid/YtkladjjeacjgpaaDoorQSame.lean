/-
  WHAT Same OF PACKAGE rx ANSWERS: a contract. Condition: the first tree has at most 2^40 nodes.
-/
import Derived.Deep.CutRange
import Derived.Test.YtkladjjeacjgpaaDoorQAlike
import Derived.Test.YtkladjjeacjgpaaDoorQG04
import Derived.Test.YtkladjjeacjgpaaDoorQG06
namespace Go.Proofs.YtkladjjeacjgpaaDoor
open Go.RowKit
attribute [local irreducible] FreeW

/-! ### what is said of no program -/
abbrev Pair := List Tree × List Tree
def PairV (V : World) (p : Pair) (q : Value × Value) : Prop := p.1.length = p.2.length ∧ ∃ A c A' c', q.1 = .slice A p.1.length c ∧ q.2 = .slice A' p.1.length c' ∧ (p.1.length ≤ c ∧ c ≤ 9223372036854775807) ∧ (p.1.length ≤ c' ∧ c' ≤ 9223372036854775807) ∧
  (p.1 ≠ [] → ∃ b o, A = some ⟨b, o, none⟩ ∧ AllAt V p.1 b o) ∧ (p.2 ≠ [] → ∃ b o, A' = some ⟨b, o, none⟩ ∧ AllAt V p.2 b o)
def PairsV (V : World) : List Pair → List (Value × Value) → Prop
  | [], [] => True
  | p :: st, q :: qs => PairV V p q ∧ PairsV V st qs
  | _, _ => False
theorem PairsV.len {V : World} : ∀ {st : List Pair} {qs : List (Value × Value)}, PairsV V st qs → qs.length = st.length
  | [], [], _ => rfl
  | _ :: _, _ :: _, h => by simp [PairsV.len h.2]
  | [], _ :: _, h => h.elim
  | _ :: _, [], h => h.elim
def flat : List (Value × Value) → List Value
  | [] => []
  | q :: qs => flat qs ++ [q.1, q.2]
theorem flat_len : ∀ qs : List (Value × Value), (flat qs).length = qs.length * 2
  | [] => rfl
  | q :: qs => by simp [flat, flat_len qs]; omega
def sameS : List Pair → Bool
  | [] => true
  | p :: st => sameL p.1 p.2 && sameS st
def leftP : List Pair → Nat
  | [] => 0
  | p :: st => nodesL p.1 + 1 + leftP st
theorem leftP_len : ∀ st : List Pair, st.length ≤ leftP st
  | [] => Nat.le_refl _
  | p :: st => by simp only [leftP, List.length_cons]; have := leftP_len st; omega
theorem same_node (t t' : Tree) : t.same t' = (nodeEqB t.kind t'.kind t.set t'.set t.lo t'.lo t.hi t'.hi t.sub.length t'.sub.length && sameL t.sub t'.sub) := by
  cases t with
  | node k m l lo hi =>
  cases t' with
  | node k' m' l' lo' hi' =>
    have e : ((l.length : Int) == (l'.length : Int)) = (l.length == l'.length) := by
      rw [Bool.eq_iff_iff, beq_iff_eq, beq_iff_eq]; omega
    unfold nodeEqB
    simp only [Tree.kind, Tree.set, Tree.lo, Tree.hi, Tree.sub, e, Tree.same]
theorem nodeEq_len {k k' : Int} {m m' : Nat → Bool} {lo lo' hi hi' : Int} {n n' : Nat} (h : nodeEqB k k' m m' lo lo' hi hi' n n' = true) : n = n' := by
  unfold nodeEqB at h
  simp only [Bool.and_eq_true, beq_iff_eq] at h
  omega
theorem nodes_sub (t : Tree) : t.nodes = nodesL t.sub + 1 := by
  cases t with
  | node k m l lo hi => simp only [Tree.sub, Tree.nodes]
theorem at_sub {V : World} {t : Tree} {cs : List Value} (h : Tree.At V t (.agg cs.toArray)) : ∃ A c, cs = reL t.kind t.set A t.sub.length c t.lo t.hi ∧ (t.sub.length ≤ c ∧ c ≤ 9223372036854775807) ∧ (t.sub ≠ [] → ∃ b o, A = some ⟨b, o, none⟩ ∧ AllAt V t.sub b o) := by
  cases t with
  | node k m l lo hi =>
    unfold Tree.At at h
    obtain ⟨A, c, e, hc, hs⟩ := h
    refine ⟨A, c, ?_, hc, hs⟩
    unfold reV at e
    injection e with e
    have e2 := congrArg Array.toList e
    exact e2
theorem pair_drop {la lb : List Tree} {j : Nat} (h : j < la.length) (h' : j < lb.length) : sameL (la.drop j) (lb.drop j) = ((la[j]).same lb[j] && sameL (la.drop (j + 1)) (lb.drop (j + 1))) := by
  rw [List.drop_eq_getElem_cons h, List.drop_eq_getElem_cons h']
  simp only [sameL]
theorem nodes_drop {la : List Tree} {j : Nat} (h : j < la.length) : nodesL (la.drop j) = (la[j]).nodes + nodesL (la.drop (j + 1)) := by
  rw [List.drop_eq_getElem_cons h]
  simp only [nodesL]

theorem oper_append_run {P : Program} {op : Oper} {a : Act} {w : World} {K : Act → World → Prop} {Q : Exit → Act → World → Prop} (s x : Operand) (t t2 : TypeId) (hop : op.op = Op.call { callee := Callee.builtin Builtin.append, args := #[s, x], argTypes := #[t, t2] }) {v xv v' : Value} {w' : World} (hs : a.eval s = v) (hx : a.eval x = xv)
    (hrun : (Builtin.append_ #[t, t2] op.type #[v, xv]).run P w = .ok v' w') (h : K (a.put op.dst v') w') : op.wp P a w K Q := by
  unfold Oper.wp execOp
  simp only [hop, resolve, invoke, builtin, Sem.run_bind, Sem.run_pure, Result.andThen_ok, List.map_toArray, List.map_cons, List.map_nil, hs, hx, hrun]
  exact h

theorem info_pairs : (Tryd.prog.info? 111).map (fun i => (i.zero, i.size, i.bytes)) = some (some (.agg #[.slice none 0 0, .slice none 0 0]), 2, 48) := by kernel_rfl

/-- the pairs that are ahead, in memory -/
def SInv (V : World) (R : Bool) (v : Value) (wr : World) (m : Nat) : Prop :=
  ∃ g cp st qs, v = .slice (some ⟨g, 0, none⟩) st.length cp ∧ leftP st = m ∧ sameS st = R ∧ PairsV V st qs ∧ wr.ownsRow V.heap.size 111 2 v st.length (flat qs) ∧ Below V.heap.size V wr ∧ st.length ≤ cp ∧ cp ≤ maxLen ∧ m ≤ 1099511627780

theorem pop_pair {W : World} {B g n c : Nat} {xs : List Value} {x y : Value} (h : W.ownsRow B 111 2 (.slice (some ⟨g, 0, none⟩) (n + 1) c) (n + 1) (xs ++ [x, y])) : W.ownsRow B 111 2 (.slice (some ⟨g, 0, none⟩) n c) n xs := by
  obtain ⟨h1, h2⟩ := h
  have hx : xs.length = n * 2 := by simp at h1; omega
  refine ⟨hx, ?_⟩
  rcases h2 with ⟨h, _⟩ | ⟨g', c', cur, hv, hb, hg, hn, hm, hc, ht⟩
  · simp at h
  · injection hv with e1 e2 e3
    injection e1 with e1
    injection e1 with e1
    subst e1 e3
    refine .inr ⟨g, c, cur, rfl, hb, hg, by omega, hm, hc, ?_⟩
    have := congrArg (List.take (n * 2)) ht
    rw [List.take_take, Nat.min_eq_left (by omega), ← hx, List.take_left] at this
    rw [← hx]
    exact this

theorem own_below {W u : World} {B : Nat} {e : TypeId} {sz : Nat} {v : Value} {k : Nat} {xs : List Value} (h : W.ownsRow B e sz v k xs) (hb : Below W.heap.size W u) : u.ownsRow B e sz v k xs := by
  refine ⟨h.1, ?_⟩
  rcases h.2 with h2 | ⟨g, cap, cur, rfl, hB, hg, h3⟩
  · exact .inl h2
  · exact .inr ⟨g, cap, cur, rfl, hB, (hb.block g (Array.getElem?_eq_some_iff.1 hg).1).trans hg, h3⟩

set_option maxRecDepth 100000 in
set_option maxHeartbeats 8000000 in
theorem same_any (T T' : Tree) (v v' : Value) (w : World) (hat : Tree.At w T v) (hat' : Tree.At w T' v') (hn : T.nodes ≤ 1099511627776) :
    Calls Tryd.prog 77 #[v, v'] w fun e w' => e = .returned (.bool (T.same T')) ∧ Below w.heap.size w w' := by
  obtain ⟨A, n, c, rfl⟩ := hat.form
  obtain ⟨A', n', c', rfl⟩ := hat'.form
  obtain ⟨i0, hi, hz0, hz1, hz2⟩ := info_parts info_pairs
  obtain ⟨V, hV⟩ : ∃ V, V = (((w.alloc (.cells (reL T.kind T.set A n c T.lo T.hi).toArray 27)).alloc (.cells (reL T'.kind T'.set A' n' c' T'.lo T'.hi).toArray 27)).alloc (.cells (reL T.kind T.set A n c T.lo T.hi).toArray 27)).alloc (.cells (reL T'.kind T'.set A' n' c' T'.lo T'.hi).toArray 27) := ⟨_, rfl⟩
  have hVB : Below w.heap.size w V := by rw [hV]; exact ((((Below.refl _ _).alloc (Nat.le_refl _) _).alloc (by simp) _).alloc (by simp; omega) _).alloc (by simp; omega) _
  have hVs : V.heap.size = w.heap.size + 4 := by rw [hV]; simp
  have hb1 : BlkIs V (w.heap.size + 1 + 1) 27 (reL T.kind T.set A n c T.lo T.hi).toArray := by
    have := (BlkIs.new ((w.alloc (.cells (reL T.kind T.set A n c T.lo T.hi).toArray 27)).alloc (.cells (reL T'.kind T'.set A' n' c' T'.lo T'.hi).toArray 27)) 27 (reL T.kind T.set A n c T.lo T.hi).toArray).alloc (.cells (reL T'.kind T'.set A' n' c' T'.lo T'.hi).toArray 27)
    rw [World.size_alloc, World.size_alloc] at this
    rw [hV]; exact this
  have hb2 : BlkIs V (w.heap.size + 1 + 1 + 1) 27 (reL T'.kind T'.set A' n' c' T'.lo T'.hi).toArray := by
    have := BlkIs.new (((w.alloc (.cells (reL T.kind T.set A n c T.lo T.hi).toArray 27)).alloc (.cells (reL T'.kind T'.set A' n' c' T'.lo T'.hi).toArray 27)).alloc (.cells (reL T.kind T.set A n c T.lo T.hi).toArray 27)) 27 (reL T'.kind T'.set A' n' c' T'.lo T'.hi).toArray
    rw [World.size_alloc, World.size_alloc, World.size_alloc] at this
    rw [hV]; exact this
  have one : ∀ (t : Tree) (a : Option Addr) (q d g : Nat), Tree.At V t (reV t.kind t.set a q d t.lo t.hi) → BlkIs V g 27 (reL t.kind t.set a q d t.lo t.hi).toArray → AllAt V [t] g 0 := fun t a q d g h hb => AllAt.mk [t] g 0 fun i hi => by
    obtain rfl : i = 0 := by simpa using hi
    refine ⟨reL t.kind t.set a q d t.lo t.hi, h, rfl, fun j x hx => ?_⟩
    have := hb.cell j
    simpa [hx] using this
  have hp0 : PairsV V [([T], [T'])] [(.slice (some ⟨w.heap.size + 1 + 1, 0, none⟩) 1 1, .slice (some ⟨w.heap.size + 1 + 1 + 1, 0, none⟩) 1 1)] :=
    ⟨⟨rfl, _, _, _, _, rfl, rfl, ⟨Nat.le_refl _, by simp⟩, ⟨Nat.le_refl _, by simp⟩, fun _ => ⟨_, 0, rfl, one T A n c _ (hat.step hVB) hb1⟩, fun _ => ⟨_, 0, rfl, one T' A' n' c' _ (hat'.step hVB) hb2⟩⟩, trivial⟩
  have hs0 : sameS [([T], [T'])] = T.same T' := by simp [sameS, sameL]
  have hl0 : leftP [([T], [T'])] ≤ 1099511627780 := by simp [leftP, nodesL]; omega
  obtain ⟨R, hR⟩ : ∃ R, R = T.same T' := ⟨_, rfl⟩
  rw [← hR] at hs0 ⊢
  have H0 := Lib.hid (And.intro hp0 (And.intro hs0 hl0))
  have HVB := Lib.hid hVB
  have HVS := Lib.hid hVs
  have HVE := Lib.hid hV
  have HI0 := Lib.hid (And.intro hi (And.intro hz0 (And.intro hz1 hz2)))
  clear hi hz0 hz1 hz2
  clear hp0 hs0 hl0 hVB hVs hb1 hb2 one hat hat' hR hV hn
  unfold reV reL at *
  go_enter Tryd.func77, Tryd.ntmps77
  go_wp2
  go_loopw [5] (fun v wr => ∃ m, SInv V R v wr m) (fun v wr => least (SInv V R v wr))
  case atStart =>
    rw [← HVE.out]
    refine ⟨_, V.heap.size, 1, [([T], [T'])], _, by rw [HVS.out]; rfl, rfl, H0.out.2.1, H0.out.1, ?_, (Below.refl _ _).alloc (Nat.le_refl _) _, Nat.le_refl _, by unfold maxLen; omega, H0.out.2.2⟩
    have := World.ownsRow_lit (base := V.heap.size) (e := 111) (size := 2) V #[.slice (some ⟨w.heap.size + 1 + 1, 0, none⟩) 1 1, .slice (some ⟨w.heap.size + 1 + 1 + 1, 0, none⟩) 1 1] 1 (Nat.le_refl _) (by unfold maxLen; omega) rfl
    rw [HVS.out] at this ⊢
    exact this
  case round =>
    obtain ⟨g, cp, st, qs, rfl, hm, hsm, hprs, hown, hbe, hcp1, hcp2, hml⟩ := least_spec hrel
    have HM := Lib.hid hm
    clear hm hrel
    cases st with
    | nil =>
      have HE := Lib.hid (And.intro hsm hbe)
      clear hsm hprs hown
      go_wp2
      go_ret
      exact ⟨by rw [← HE.out.1]; rfl, HVB.out.trans (HE.out.2.mono HVB.out.size)⟩
    | cons p st =>
      cases qs with
      | nil => exact hprs.elim
      | cons q qs =>
        obtain ⟨la, lb⟩ := p
        obtain ⟨⟨hlen, A1, c1, A2, c2, hq1, hq2, hc1, hc2, hal, hbl⟩, hprs⟩ := hprs
        obtain ⟨q1, q2⟩ := q
        dsimp only at hlen hq1 hq2 hc1 hc2 hal hbl
        subst hq1 hq2
        have hql := hprs.len
        have hst := leftP_len st
        have hfl := flat_len qs
        simp only [List.length_cons, flat] at *
        have hMM := HM.out
        simp only [leftP] at hMM
        have hcell0 : wr.cell? ⟨g, st.length * 2, none⟩ = some (.slice A1 la.length c1) := by
          have := hown.cellAt (st.length * 2) (by omega)
          rw [List.getElem?_append_right (by omega), hfl, hql, Nat.sub_self] at this
          exact this
        have hcell1 : wr.cell? ⟨g, st.length * 2 + 1, none⟩ = some (.slice A2 la.length c2) := by
          have := hown.cellAt (st.length * 2 + 1) (by omega)
          rw [List.getElem?_append_right (by omega), hfl, hql, Nat.add_sub_cancel_left] at this
          exact this
        have d1 : decide (((st.length + 1 : Nat) : Int) > 0) = true := decide_eq_true (by omega)
        have w1 : IntKind.i64.wrap (((st.length + 1 : Nat) : Int) - 1) = ((st.length : Nat) : Int) := by rw [IntKind.wrap_i64]; omega
        have hk40 : st.length ≤ 1099511627780 := by omega
        have w2 : (((st.length : Nat) : Int)).toNat = st.length := by omega
        have hlt : st.length < st.length + 1 := by omega
        have hlt2 : st.length ≤ cp := by omega
        have hgb := hown.lt g rfl
        have HST := Lib.hid (And.intro hsm (And.intro hprs (And.intro (pop_pair hown) (And.intro hbe (And.intro hgb (And.intro hlen (And.intro hal hbl)))))))
        have HNUM := Lib.hid (And.intro hc1 (And.intro hc2 (And.intro hMM hml)))
        have hm40 : nodesL la + leftP st ≤ 1099511627780 := by omega
        have HBX := Lib.hid (And.intro (BlkIs.new wr 111 #[.slice A1 la.length c1, .slice A2 la.length c2]) (And.intro ((Below.refl _ wr).alloc (Nat.le_refl _) (.cells #[.slice A1 la.length c1, .slice A2 la.length c2] 111)) ((pop_pair hown).alloc (.cells #[.slice A1 la.length c1, .slice A2 la.length c2] 111))))
        have HM40 := Lib.hid (And.intro hm40 (And.intro hlt2 hcp2))
        clear hsm hprs hown hbe hgb hlen hal hbl hc1 hc2 hMM hml hm40 hql hst hfl hcp1 hcp2
        generalize hk : st.length = k at *
        have HK := Lib.hid hk
        clear hk
        go_wp2
        clear hcell0 hcell1 d1 w1 w2 hlt hlt2
        obtain ⟨wo, rfl⟩ : ∃ wo : World, wo = wr := ⟨_, rfl⟩
        go_loopw [5, 33] (fun v i wz => ∃ (j : Nat) (g' cp' : Nat) (st' : List Pair) (qs' : List (Value × Value)), i = .int .i64 j ∧ v = .slice (some ⟨g', 0, none⟩) st'.length cp' ∧ j ≤ la.length ∧
          Hid (leftP st' + nodesL (la.drop j) ≤ nodesL la + leftP st ∧ (sameS st' && sameL (la.drop j) (lb.drop j)) = R ∧ PairsV V st' qs' ∧ wz.ownsRow V.heap.size 111 2 (.slice (some ⟨g', 0, none⟩) st'.length cp') st'.length (flat qs') ∧ Below V.heap.size V wz ∧ BlkIs wz wo.heap.size 111 #[.slice A1 la.length c1, .slice A2 la.length c2] ∧ g' ≠ wo.heap.size ∧ st'.length ≤ cp' ∧ cp' ≤ maxLen)) (fun _ i _ => la.length - (intOf i).toNat)
        case atStart =>
          refine ⟨0, g, cp, st, qs, rfl, by rw [HK.out], Nat.zero_le _, Lib.hid ⟨?_, ?_, HST.out.2.1, by rw [HK.out]; exact HBX.out.2.2, HST.out.2.2.2.1.trans (HBX.out.2.1.mono HST.out.2.2.2.1.size), HBX.out.1, ?_, by rw [HK.out]; exact HM40.out.2.1, HM40.out.2.2⟩⟩
          · rw [List.drop_zero]; omega
          · rw [List.drop_zero, List.drop_zero, Bool.and_comm, ← HST.out.1]; rfl
          · have := HST.out.2.2.2.2.1; omega
        case round =>
          obtain ⟨j, g', cp', st', qs', rfl, rfl, hj, HH⟩ := hrel
          by_cases hp : j < la.length
          · have hdl : decide ((j : Int) < (la.length : Int)) = true := by simp; omega
            have hp' : j < lb.length := by have := HST.out.2.2.2.2.2.1; omega
            obtain ⟨b, o, rfl, ha⟩ := HST.out.2.2.2.2.2.2.1 (by intro e; subst e; simp at hp)
            obtain ⟨b', o', rfl, ha'⟩ := HST.out.2.2.2.2.2.2.2 (by intro e; subst e; simp at hp')
            obtain ⟨cs, hcat, hcl, hrow⟩ := AllAt.get la b o ha j hp
            obtain ⟨cs', hcat', hcl', hrow'⟩ := AllAt.get lb b' o' ha' j hp'
            obtain ⟨As, cS, rfl, hsc, hss⟩ := at_sub hcat
            obtain ⟨As', cS', rfl, hsc', hss'⟩ := at_sub hcat'
            have hlc : la.length ≤ c1 := HNUM.out.1.1
            have hlc' : la.length ≤ c2 := HNUM.out.2.1.1
            have hlm : la.length ≤ 9223372036854775807 := Nat.le_trans HNUM.out.1.1 HNUM.out.1.2
            have hk1 : IntKind.i64.wrap ((j : Int) + 1) = ((j + 1 : Nat) : Int) := by rw [IntKind.wrap_i64]; omega
            have HR1 := Lib.hid (fun u (h : Below V.heap.size V u) => rangeAt_step hrow (by simp [reL]) h)
            have HR2 := Lib.hid (fun u (h : Below V.heap.size V u) => rangeAt_step hrow' (by simp [reL]) h)
            have HSU := Lib.hid (And.intro hsc (And.intro hss (And.intro hsc' hss')))
            have HD := Lib.hid (And.intro (pair_drop hp hp') (And.intro (nodes_drop hp) (And.intro (same_node la[j] lb[j]) (nodes_sub la[j]))))
            have HW0 := Lib.hid (And.intro HH.out.2.2.2.2.1 HH.out.2.2.2.2.2.1)
            clear ha ha' hcat hcl hrow hcat' hcl' hrow' hsc hss hsc' hss'
            generalize la[j] = t at *
            generalize lb[j] = t' at *
            go_wp2_with fail
            refine wp_region_reads 67 (fun u => Below V.heap.size V u ∧ BlkIs u _ 111 #[.slice (some ⟨b, o, none⟩) la.length c1, .slice (some ⟨b', o', none⟩) la.length c2]) (by kernel_rfl) (by kernel_rfl) rfl ⟨HW0.out.1.drew, HW0.out.2.drew⟩ (fun u u' h hb => ⟨h.1.trans (hb.mono h.1.size), h.2.step hb⟩) ?_
            repeat
              refine freeW_step fun K hK => ?_
              go_simp
              apply Exists.intro
              refine ⟨fun u h1 h2 => ?_, hK _ ?_⟩
              · have e0 := h2.cell 0
                have e1 := h2.cell 1
                simp at e0 e1
                clear h1 h2
                unfold freeAt
                go_simp
                exact free_val
              clear hK K
            refine freeW_nil ?_
            intro u hu hub
            have HU := Lib.hid (And.intro hu.1 (And.intro (hu.2) (own_below HH.out.2.2.2.1 hub)))
            clear hu hub
            have HAL := Lib.hid (alike_any b (o + j * 8) b' (o' + j * 8) _ _ _ _ _ _ _ _ _ _ _ _ _ _ u (HR1.out u HU.out.1) (HR2.out u HU.out.1))
            have HQ := Lib.hid (And.intro HH.out.2.1 (And.intro HD.out.1 HD.out.2.2.1))
            have HLN := Lib.hid (fun (h : nodeEqB t.kind t'.kind t.set t'.set t.lo t'.lo t.hi t'.hi t.sub.length t'.sub.length = true) => nodeEq_len h)
            generalize nodeEqB t.kind t'.kind t.set t'.set t.lo t'.lo t.hi t'.hi t.sub.length t'.sub.length = q at *
            cases q
            · go_wp2_with (go_at_call 90; go_must (refine HAL.out.mono ?_); rintro e u2 ⟨rfl, hb⟩; have HU2 := Lib.hid (HU.out.1.trans (hb.mono HU.out.1.size)); clear hb)
              go_ret
              refine ⟨?_, HVB.out.trans (HU2.out.mono HVB.out.size)⟩
              rw [← HQ.out.1, HQ.out.2.1, HQ.out.2.2]
              simp
            · have hll := HLN.out rfl
              have HLL := Lib.hid hll
              clear hll
              have e1 : (sameS st' && (sameL t.sub t'.sub && sameL (la.drop (j + 1)) (lb.drop (j + 1)))) = R := by
                rw [← HQ.out.1, HQ.out.2.1, HQ.out.2.2, Bool.true_and]
              have HE1 := Lib.hid e1
              have e2 : leftP st' + (nodesL t.sub + 1 + nodesL (la.drop (j + 1))) ≤ nodesL la + leftP st := by
                have h1 := HH.out.1
                rw [HD.out.2.1, HD.out.2.2.2] at h1
                exact h1
              have HE2 := Lib.hid e2
              clear e1 e2
              by_cases hs0 : t.sub = []
              · have d0 : decide ((t.sub.length : Int) > 0) = false := by rw [hs0]; rfl
                have d0n : ¬ 0 < t.sub.length := by rw [hs0]; simp
                have HE3 := Lib.hid (show sameL t.sub t'.sub = true by rw [hs0]; unfold sameL; rfl)
                clear hs0
                go_wp2_with (go_at_call 90; go_must (refine HAL.out.mono ?_); rintro e u2 ⟨rfl, hb⟩; have HU2 := Lib.hid (And.intro (HU.out.1.trans (hb.mono HU.out.1.size)) (And.intro (HU.out.2.1.step hb) (own_below HU.out.2.2 hb))); clear hb; obtain ⟨r0, r1, r2, r3, r4, r5, r6, r7⟩ := row_eight (HR1.out _ HU2.out.1) (Below.refl _ _))
                refine ⟨⟨j + 1, g', cp', st', qs', by go_num, rfl, hp, Lib.hid ⟨?_, ?_, HH.out.2.2.1, HU2.out.2.2, HU2.out.1, HU2.out.2.1, HH.out.2.2.2.2.2.2⟩⟩, by simp [intOf]; omega⟩
                · have := HE2.out; omega
                · rw [← HE1.out, HE3.out, Bool.true_and]
              · have hpos : 0 < t.sub.length := List.length_pos_iff.2 hs0
                have d0 : decide ((t.sub.length : Int) > 0) = true := decide_eq_true (by omega)
                have hs1 : t'.sub ≠ [] := by intro e; have := HLL.out; rw [e] at this; simp at this; exact hs0 this
                obtain ⟨bs, os, rfl, hbs⟩ := HSU.out.2.1 hs0
                obtain ⟨bs', os', rfl, hbs'⟩ := HSU.out.2.2.2 hs1
                have hpv : PairV V (t.sub, t'.sub) (.slice (some ⟨bs, os, none⟩) t.sub.length cS, .slice (some ⟨bs', os', none⟩) t.sub.length cS') :=
                  ⟨HLL.out, _, _, _, _, rfl, rfl, HSU.out.1, ⟨by rw [HLL.out]; exact HSU.out.2.2.1.1, HSU.out.2.2.1.2⟩, fun _ => ⟨bs, os, rfl, hbs⟩, fun _ => ⟨bs', os', rfl, hbs'⟩⟩
                have HPV := Lib.hid hpv
                clear hpv hbs hbs' hs0 hs1
                have HLE := HLL.out
                rw [← HLE] at HR2
                clear HLE
                go_wp2_with (go_at_call 90; go_must (refine HAL.out.mono ?_); rintro e u2 ⟨rfl, hb⟩; have HU2 := Lib.hid (And.intro (HU.out.1.trans (hb.mono HU.out.1.size)) (And.intro (HU.out.2.1.step hb) (own_below HU.out.2.2 hb))); clear hb; obtain ⟨r0, r1, r2, r3, r4, r5, r6, r7⟩ := row_eight (HR1.out _ HU2.out.1) (Below.refl _ _))
                clear r0 r1 r2 r3 r4 r5 r6 r7
                refine wp_region_held_drew (S := fun u => Below V.heap.size V u) (by kernel_rfl) HU2.out.1.drew ?_
                intro hS0
                refine wpAnyH_take (i := 0) (v := .slice (some ⟨g', 0, none⟩) st'.length cp') rfl (by kernel_rfl) (by kernel_rfl) (by kernel_rfl) (fun _ _ _ h => h) (.inl ⟨rfl, fun u hu => by go_simp⟩) hS0 ?_
                refine wpAnyH_take (i := 1) (v := .pointer (some ⟨b, o + j * 8, none⟩)) rfl (by kernel_rfl) (by kernel_rfl) (by kernel_rfl) (fun _ _ _ h => h) (.inl ⟨rfl, fun u hu => by go_simp⟩) hS0 ?_
                refine wpAnyH_take (i := 2) (v := .pointer (some ⟨b, o + j * 8, none⟩)) rfl (by kernel_rfl) (by kernel_rfl) (by kernel_rfl) (fun _ _ _ h => h) (.inl ⟨rfl, fun u hu => by go_simp⟩) hS0 ?_
                refine wpAnyH_take (i := 3) (v := .pointer (some ⟨b, o + j * 8 + 5, none⟩)) rfl (by kernel_rfl) (by kernel_rfl) (by kernel_rfl) (fun _ _ _ h => h) (.inl ⟨rfl, fun u hu => by go_simp⟩) hS0 ?_
                refine wpAnyH_take (i := 4) (v := .slice (some ⟨bs, os, none⟩) t.sub.length cS) rfl (by kernel_rfl) (by kernel_rfl) (by kernel_rfl) (fun _ _ _ h => h) (.inl ⟨rfl, fun u hu => by
                  obtain ⟨r0, r1, r2, r3, r4, r5, r6, r7⟩ := row_eight (HR1.out _ hu) (Below.refl _ _)
                  go_simp⟩) hS0 ?_
                refine wpAnyH_take (i := 5) (v := .pointer (some ⟨b', o' + j * 8, none⟩)) rfl (by kernel_rfl) (by kernel_rfl) (by kernel_rfl) (fun _ _ _ h => h) (.inl ⟨rfl, fun u hu => by go_simp⟩) hS0 ?_
                refine wpAnyH_take (i := 6) (v := .pointer (some ⟨b', o' + j * 8, none⟩)) rfl (by kernel_rfl) (by kernel_rfl) (by kernel_rfl) (fun _ _ _ h => h) (.inl ⟨rfl, fun u hu => by go_simp⟩) hS0 ?_
                refine wpAnyH_take (i := 7) (v := .pointer (some ⟨b', o' + j * 8 + 5, none⟩)) rfl (by kernel_rfl) (by kernel_rfl) (by kernel_rfl) (fun _ _ _ h => h) (.inl ⟨rfl, fun u hu => by go_simp⟩) hS0 ?_
                refine wpAnyH_take (i := 8) (v := .slice (some ⟨bs', os', none⟩) t.sub.length cS') rfl (by kernel_rfl) (by kernel_rfl) (by kernel_rfl) (fun _ _ _ h => h) (.inl ⟨rfl, fun u hu => by
                  obtain ⟨r0, r1, r2, r3, r4, r5, r6, r7⟩ := row_eight (HR2.out _ hu) (Below.refl _ _)
                  go_simp⟩) hS0 ?_
                refine wpAnyH_take (i := 9) (v := .agg #[.slice (some ⟨bs, os, none⟩) t.sub.length cS, .slice (some ⟨bs', os', none⟩) t.sub.length cS']) rfl (by kernel_rfl) (by kernel_rfl) (by kernel_rfl) (fun _ _ _ h => h) (.inl ⟨rfl, fun u hu => by go_simp⟩) hS0 ?_
                refine wpAnyH_ready (rs := [10]) (by kernel_rfl) (by simp) ?_
                refine AllReadyH.cons rfl (fun K hK => ?_) AllReadyH.nil
                go_simp
                obtain ⟨U, hU⟩ : ∃ U, U = (u2.alloc (.cells #[.slice (some ⟨bs, os, none⟩) t.sub.length cS, .slice (some ⟨bs', os', none⟩) t.sub.length cS'] 111)).drew := ⟨_, rfl⟩
                have hbU : Below V.heap.size V U := by rw [hU]; exact (HU2.out.1.alloc HU2.out.1.size _).drew
                have hoU : U.ownsRow V.heap.size 111 2 (.slice (some ⟨g', 0, none⟩) st'.length cp') st'.length (flat qs') := by rw [hU]; exact (HU2.out.2.2.alloc _).drew
                have hxU : BlkIs U wo.heap.size 111 #[.slice (some ⟨b, o, none⟩) la.length c1, .slice (some ⟨b', o', none⟩) la.length c2] := by rw [hU]; exact (HU2.out.2.1.alloc _).drew
                have hzU : U.heap.size = u2.heap.size + 1 := by rw [hU]; simp
                have hltx := HU2.out.2.1.lt
                have hltU := hxU.lt
                have hnews : ∀ q x, ([.slice (some ⟨bs, os, none⟩) t.sub.length cS, .slice (some ⟨bs', os', none⟩) t.sub.length cS'] : List Value)[q]? = some x → U.cell? ((⟨u2.heap.size, 0, none⟩ : Addr).add q) = some x := fun q x hx => by
                  have h1 := (BlkIs.new u2 111 #[.slice (some ⟨bs, os, none⟩) t.sub.length cS, .slice (some ⟨bs', os', none⟩) t.sub.length cS']).cell q
                  rw [Addr.add_lit, Nat.zero_add, hU]
                  refine h1.trans ?_
                  rw [← hx]
                  simp
                have hsl : st'.length ≤ 1099511627780 := by
                  have h1 := leftP_len st'
                  have h2 := HH.out.1
                  have h3 := HM40.out.1
                  omega
                obtain ⟨v4, w4, hrun, hown4, hgr4, _, hblk4⟩ := run_append_own_at (P := Tryd.prog) U V.heap.size 112 112 111 i0 (.agg #[.slice none 0 0, .slice none 0 0]) 2 48 Tryd.underlying112 HI0.out.1 HI0.out.2.1 HI0.out.2.2.1 HI0.out.2.2.2 rfl (by decide) _ _ _ hoU ⟨u2.heap.size, 0, none⟩ 1 1 _ rfl hnews (by intro u hu; simp at hu; rcases hu with rfl | rfl <;> rfl) (by unfold maxLen; omega) (by omega) hbU.size
                obtain ⟨g4, cap4, rfl⟩ := ownsRow_succ hown4
                have hb4 : Below V.heap.size V w4 := hbU.grown hgr4 hbU.size (fun k hk => (hoU.lt k hk).1)
                have hne : g4 ≠ wo.heap.size := fun e => by
                  rcases hblk4 with h | h
                  · have h1 : g4 = g' := by simpa [Value.ownBlock] using h
                    exact HH.out.2.2.2.2.2.2.1 (h1.symm.trans e)
                  · have h1 : g4 = U.heap.size := by simpa [Value.ownBlock] using h
                    exact absurd (h1.symm.trans e) (Nat.ne_of_gt hltU)
                have hx4 : BlkIs w4 wo.heap.size 111 #[.slice (some ⟨b, o, none⟩) la.length c1, .slice (some ⟨b', o', none⟩) la.length c2] := (hgr4.block _ hltU (fun e => HH.out.2.2.2.2.2.2.1 (by simpa [Value.ownBlock] using e.symm))).trans hxU
                have hcp4 : st'.length + 1 ≤ cap4 ∧ cap4 ≤ maxLen := by
                  rcases hown4.2 with ⟨h, _⟩ | ⟨_, _, _, h, _, _, h4, h5, _⟩
                  · cases h
                  · injection h with _ _ e
                    subst e
                    exact ⟨h4, h5⟩
                have HRUN := Lib.hid hrun
                have HB4 := Lib.hid hb4
                have HBU := Lib.hid hbU
                have HREL := Lib.hid (And.intro hown4 (And.intro hx4 (And.intro hne hcp4)))
                rw [← hU]
                have HUU := Lib.hid hU
                clear hbU hoU hxU hzU hltx hltU hnews hsl hrun hown4 hgr4 hblk4 hb4 hne hx4 hcp4 hU
                refine hK.out _ _ HBU.out (fun hS1 => ?_)
                clear hK K
                refine wpAnyH_ready (rs := [11]) (by kernel_rfl) (by simp) ?_
                refine AllReadyH.cons rfl (fun K hK => ?_) AllReadyH.nil
                rw [if_pos (show Region.wanted _ _ = true from rfl)]
                refine oper_append_run _ _ 112 112 rfl rfl rfl HRUN.out ?_
                refine hK.out _ _ HB4.out (fun hS2 => ?_)
                clear hK K hS0 hS1
                refine wpAnyH_ready (rs := [12]) (by kernel_rfl) (by simp) ?_
                refine AllReadyH.cons rfl (fun K hK => ?_) AllReadyH.nil
                go_simp
                refine hK.out _ _ HB4.out (fun hS3 => ?_)
                clear hK K hS2 hS3
                refine wpAnyH_done (by kernel_rfl) ?_ _
                go_wp2_with fail
                refine ⟨⟨j + 1, g4, cap4, (t.sub, t'.sub) :: st', (.slice (some ⟨bs, os, none⟩) t.sub.length cS, .slice (some ⟨bs', os', none⟩) t.sub.length cS') :: qs', by go_num, by simp, hp, Lib.hid ⟨?_, ?_, ⟨HPV.out, HH.out.2.2.1⟩, HREL.out.1, HB4.out, HREL.out.2.1, HREL.out.2.2.1, HREL.out.2.2.2.1, HREL.out.2.2.2.2⟩⟩, by simp [intOf]; omega⟩
                · have := HE2.out
                  simp only [leftP]
                  omega
                · rw [← HE1.out]
                  simp only [sameS]
                  cases sameL t.sub t'.sub <;> cases sameS st' <;> simp
          · have hdl : decide ((j : Int) < (la.length : Int)) = false := by simp; omega
            obtain rfl : j = la.length := by omega
            obtain ⟨h1, h2, h3, h4, h5, h6, h7, h8, h9⟩ := HH.out
            rw [List.drop_length] at h1
            have hb0 : sameL ([] : List Tree) (lb.drop la.length) = true := by unfold sameL; rfl
            rw [List.drop_length, hb0, Bool.and_true] at h2
            have hlt2 : leftP st' < leftP ((la, lb) :: st) := by simp only [leftP]; have h11 : nodesL ([] : List Tree) = 0 := rfl; omega
            have HLT := Lib.hid hlt2
            clear hlt2
            have hmx : leftP st' ≤ 1099511627780 := Nat.le_trans (Nat.le_trans (Nat.le_add_right _ _) h1) HM40.out.1
            have HINV := Lib.hid (show SInv V R (.slice (some ⟨g', 0, none⟩) st'.length cp') _ (leftP st') from ⟨g', cp', st', qs', rfl, rfl, h2, h3, h4, h5, h8, h9, hmx⟩)
            clear h1 h2 h3 h4 h5 h6 h7 h8 h9 hb0 hmx HH
            go_wp2
            exact ⟨⟨_, HINV.out⟩, Nat.lt_of_le_of_lt (least_le HINV.out) (by rw [← HM.out]; exact HLT.out)⟩

end Go.Proofs.YtkladjjeacjgpaaDoor

