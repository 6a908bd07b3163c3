/-
  WHAT hackleref04's Sets ANSWERS: a contract. Condition: the tree has at most 2^40 nodes.
-/
import Derived.Test.YtdnbfpgcmamdbaaSets4
import Derived.Laws.OwnMore
namespace Go.Proofs.Ytdnbfpgcmamdbaa
open Go.RowKit

theorem info_set3 : (Try.prog.info? 24).map (fun i => (i.size, i.bytes, i.zero.map (·.cells.size))) = some (4, 32, some 4) := by kernel_rfl
theorem info_set' : ∃ i z, Try.prog.info? 24 = some i ∧ i.zero = some z ∧ i.size = 4 ∧ i.bytes = 32 ∧ z.cells.size = 4 := by
  have h := info_set3
  cases hi : Try.prog.info? 24 with
  | none => rw [hi] at h; cases h
  | some i =>
    rw [hi] at h
    simp only [Option.map_some, Option.some.injEq, Prod.mk.injEq] at h
    cases hz : i.zero with
    | none => rw [hz] at h; simp at h
    | some z => rw [hz] at h; exact ⟨i, z, rfl, hz, h.1, h.2.1, by simpa using h.2.2⟩

section
variable {P : Program} {ops : Array Oper} {rest : List Oper} {op : Oper} {a : Act} {w : World} {Q : Exit → Act → World → Prop}
theorem wpList_append_run (hg : op.guard = none) (s x : Operand) (t t2 : TypeId) (hop : op.op = Op.call { callee := Callee.builtin Builtin.append, args := #[s, x], argTypes := #[t, t2] }) {v xv v' : Value} {w' : World} (hs : a.eval s = v) (hx : a.eval x = xv)
    (hrun : (Builtin.append_ #[t, t2] op.type #[v, xv]).run P w = .ok v' w') (h : wpList P ops Q rest (a.put op.dst v') w') : wpList P ops Q (op :: rest) a w := by
  refine wpList_plain hg fun K' hK' => ?_
  unfold Oper.wp
  simp [execOp, hop, resolve, invoke, builtin, hs, hx, hrun, Result.andThen]
  exact hK' _ _ h
end

/-- sets that the call gathers -/
def OwnSets (base : Nat) (v : Value) (xs : List (Nat → Bool)) (W : World) : Prop := W.ownsRow base 24 4 v xs.length (flatS xs) ∧ (v = .slice none 0 0 ↔ xs = [])
theorem OwnSets.nil (base : Nat) (W : World) : OwnSets base (.slice none 0 0) [] W := ⟨World.ownsRow_nil _ _ _ _, by simp⟩
theorem OwnSets.step {base : Nat} {v : Value} {xs : List (Nat → Bool)} {W W' : World} (h : OwnSets base v xs W) (hb : Below W.heap.size W W') : OwnSets base v xs W' := ⟨own_step h.1 hb, h.2⟩
theorem OwnSets.row {base : Nat} {v : Value} {xs : List (Nat → Bool)} {W : World} (h : OwnSets base v xs W) : SetsRow W v xs := own_sets h.1 h.2

/-- append(out, more...) -/
theorem more_sets {base : Nat} {v x : Value} {xs ys : List (Nat → Bool)} {W : World} (h : OwnSets base v xs W) (hx : SetsRow W x ys) (hl : xs.length + ys.length ≤ 1099511627776) (hb : base ≤ W.heap.size) :
    ∃ v' W', (Builtin.append_ #[32, 32] 32 #[v, x]).run Try.prog W = .ok v' W' ∧ OwnSets base v' (xs ++ ys) W' ∧ W.grownBy W' v.ownBlock := by
  obtain ⟨i, z, hi, hz, hs, hby, hzs⟩ := info_set'
  rcases hx with ⟨rfl, rfl⟩ | ⟨b, c, rfl, hne, hc, hlt, hcell⟩
  · refine ⟨v, W, run_append_owned_none W base 32 32 24 i 4 Try.underlying32 hi v xs.length (flatS xs) h.1, by rw [List.append_nil]; exact h, ⟨rfl, rfl, rfl, Nat.le_refl _, fun _ _ _ => rfl⟩⟩
  · obtain ⟨v', W', hr, hown, hg, hnil⟩ := run_append_own (P := Try.prog) W base 32 32 24 i z 4 32 Try.underlying32 hi hz hs hby hzs (by decide) v xs.length (flatS xs) h.1 ⟨b, 0, none⟩ ys.length c (flatS ys) (flatS_len ys)
      (fun j u hu => by rw [show (⟨b, 0, none⟩ : Addr).add j = ⟨b, j, none⟩ from by rw [Addr.add_lit, Nat.zero_add]]; exact hcell j u hu) (flatS_one ys) (by unfold maxLen; omega) (by omega) hb
    refine ⟨v', W', hr, ⟨by rw [flatS_append, List.length_append]; exact hown, ?_⟩, hg⟩
    rw [hnil, h.2]
    constructor
    · rintro ⟨_, h0⟩
      exact absurd (List.eq_nil_of_length_eq_zero h0) hne
    · intro e
      exact absurd (List.append_eq_nil_iff.1 e).2 hne

/-- one set in a new block -/
theorem one_row (W : World) (m : Nat → Bool) : SetsRow (W.alloc (.cells (setL m).toArray 24)) (.slice (some ⟨W.heap.size, 0, none⟩) 1 1) [m] := by
  refine .inr ⟨W.heap.size, 1, rfl, by simp, Nat.le_refl _, by simp, fun q u hu => ?_⟩
  have h1 : flatS [m] = setL m := by simp [flatS]
  rw [h1] at hu
  have := (BlkIs.new W 24 (setL m).toArray).range q u hu
  simpa using this

set_option maxRecDepth 20000 in
set_option maxHeartbeats 8000000 in
theorem refSets_any : ∀ (T : Tree) (v : Value) (w : World), T.nodes ≤ 1099511627776 → T.At w v → Calls Try.prog 24 #[v] w fun e w' => ∃ x, e = .returned x ∧ SetsRow w' x T.sets ∧ Below w.heap.size w w' := by
  intro T
  induction T using Tree.ind with
  | h k m l lo hi ih =>
    intro v w hn hat
    obtain ⟨A, c, rfl, hc, hs⟩ := hat.open
    have hsubs : ∀ t ∈ l, t.nodes ≤ 1099511627776 := fun t ht => by have := mem_nodes ht; simp only [Tree.nodes] at hn; omega
    have hll : nodesL l ≤ 1099511627776 := by simp only [Tree.nodes] at hn; omega
    have HS := Lib.hid hs
    have IH := Lib.hid (fun t ht v w => ih t ht v w (hsubs t ht))
    clear hat hs ih hsubs hn
    unfold reV reL
    have hbox := BlkIs.new w 27 (reL k m A l.length c lo hi).toArray
    unfold reL at hbox
    by_cases hk : k = 1
    · subst hk
      have hT : Tree.sets (.node 1 m l lo hi) = [m] := by unfold Tree.sets; rw [if_pos rfl]
      rw [hT]
      clear HS IH
      obtain ⟨c0, c1, c2, c3, c4, c5, c6, c7⟩ := hbox.eight
      go_enter Try.func24, Try.ntmps24
      go_wp2
      go_ret
      exact ⟨_, rfl, by have := one_row (w.alloc (.cells (reL 1 m A l.length c lo hi).toArray 27)) m; rw [World.size_alloc] at this; exact this, ((Below.refl _ _).alloc (Nat.le_refl _) _).alloc (by simp) _⟩
    · have hT : Tree.sets (.node k m l lo hi) = setsL l := by unfold Tree.sets; rw [if_neg hk]
      rw [hT]
      have e1 : (k == 1) = false := by simp [hk]
      obtain ⟨c0, c1, c2, c3, c4, c5, c6, c7⟩ := hbox.eight
      go_enter Try.func24, Try.ntmps24
      go_wp2
      clear c0 c1 c2 c3 c4 c5 c6 c7
      go_loopw [3, 4] (fun v i wr => ∃ j : Nat, i = .int .i64 j ∧ j ≤ l.length ∧ Hid (BlkIs wr w.heap.size 27 (reL k m A l.length c lo hi).toArray ∧ Below w.heap.size w wr ∧ w.heap.size + 1 ≤ wr.heap.size ∧ OwnSets (w.heap.size + 1) v (setsL (l.take j)) wr)) (fun _ i _ => l.length - (intOf i).toNat)
      case atStart => exact ⟨0, rfl, Nat.zero_le _, Lib.hid ⟨hbox, (Below.refl _ _).alloc (Nat.le_refl _) _, by simp, OwnSets.nil _ _⟩⟩
      case round =>
        obtain ⟨j, rfl, hj, HH⟩ := hrel
        have hb := HH.out.1
        unfold reL at hb
        obtain ⟨c0, c1, c2, c3, c4, c5, c6, c7⟩ := hb.eight
        clear hb hbox
        by_cases hp : j < l.length
        · have hdl : decide ((j : Int) < (l.length : Int)) = true := by simp; omega
          obtain ⟨b, o, rfl, hbw, hg⟩ := HS.out (by intro e; subst e; simp at hp)
          obtain ⟨cs, hcat, hlen, hrow⟩ := hg j hp
          obtain ⟨A', n', c', rfl⟩ := hcat.eight
          obtain ⟨r0, r1, r2, r3, r4, r5, r6, r7⟩ := row_eight hrow HH.out.2.1
          have hk1 : IntKind.i64.wrap ((j : Int) + 1) = ((j + 1 : Nat) : Int) := by rw [IntKind.wrap_i64]; omega
          have hcall := IH.out _ (List.getElem_mem hp) _ wr (hcat.step HH.out.2.1)
          unfold reL at hcall
          have HC := Lib.hid hcall
          have hsz : (setsL (l.take j)).length + (l[j]).sets.length ≤ 1099511627776 := by
            have h1 := setsL_nodes l
            have h2 : (setsL (l.take (j + 1))).length ≤ (setsL l).length := by
              have := congrArg (fun x => (setsL x).length) (List.take_append_drop (j + 1) l)
              simp only [setsL_append, List.length_append] at this
              omega
            rw [setsL_take hp, List.length_append] at h2
            omega
          have HSZ := Lib.hid hsz
          have HTK := Lib.hid (setsL_take hp)
          clear hrow hcat hcall hg hsz
          generalize setsL (l.take j) = xs at *
          generalize (l[j]).sets = ys at *
          go_wp2_with (first
            | (go_at_call 24
               go_must (refine HC.out.mono ?_)
               rintro e w3 ⟨x, rfl, hx, hb3⟩
               obtain ⟨v', w4, hrun, hown, hgr⟩ := more_sets (HH.out.2.2.2.step hb3) hx HSZ.out (Nat.le_trans HH.out.2.2.1 hb3.size)
               have H3 := Lib.hid (And.intro hb3 (And.intro hrun (And.intro hown hgr)))
               clear hx hb3 hrun hown hgr)
            | refine wpList_append_run rfl _ _ 32 32 rfl rfl rfl H3.out.2.1 ?_)
          refine ⟨⟨j + 1, by go_num, by omega, Lib.hid ?_⟩, by simp [intOf]; omega⟩
          rw [HTK.out]
          obtain ⟨hb3, _, hown, hgr⟩ := H3.out
          have hv := (HH.out.2.2.2.step hb3).1
          exact ⟨blk_grown (HH.out.1.step hb3) hgr (own_ne hv (by omega)), below_own hv (HH.out.2.1.trans (hb3.mono HH.out.2.1.size)) hgr (by omega) (Nat.le_trans HH.out.2.1.size hb3.size), Nat.le_trans HH.out.2.2.1 (Nat.le_trans hb3.size hgr.size), hown⟩
        · have hdl : decide ((j : Int) < (l.length : Int)) = false := by simp; omega
          obtain rfl : j = l.length := by omega
          have HH2 := HH
          rw [List.take_length] at HH2
          clear HH
          go_wp2
          go_ret
          exact ⟨_, rfl, HH2.out.2.2.2.row, HH2.out.2.1⟩

end Go.Proofs.Ytdnbfpgcmamdbaa
