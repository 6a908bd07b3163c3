/-
  ROWS OF NUMBERS THAT GROW; WHAT nfa's begin AND hackleref08's List, Ints ANSWER: contracts. Condition: the first places are places of the automaton.
-/
import Derived.Maps.AppendAt
import Derived.Test.YtgbljnnmhmlifaaQG06
import Derived.Test.YtgbljnnmhmlifaaQG04
namespace Go.Proofs.Ytgbljnnmhmlifaa
open Go.RowKit

attribute [local irreducible] FreeW

theorem ownI_heap {W W' : World} {B : Nat} {t : TypeId} {z n : Nat} {v : Value} {xs : List Value} (h : W.ownsRow B t z v n xs) (hk : ∀ k, v.ownBlock = some k → W'.heap[k]? = W.heap[k]?) : W'.ownsRow B t z v n xs := by
  refine ⟨h.1, h.2.imp id ?_⟩
  rintro ⟨g, cap, cur, rfl, h1, h2, h3⟩
  exact ⟨g, cap, cur, rfl, h1, (hk g rfl).trans h2, h3⟩
def RowI (B : Nat) (W : World) (v : Value) (l : List Int) : Prop := W.ownsRow B 3 1 v l.length (l.map (Value.int .i64))
theorem RowI.nil (B : Nat) (W : World) : RowI B W (.slice none 0 0) [] := World.ownsRow_nil _ _ _ _
theorem RowI.step {B : Nat} {W W' : World} {v : Value} {l : List Int} (h : RowI B W v l) (hb : Below W.heap.size W W') : RowI B W' v l := ownI_heap h fun k hk => hb.block k (World.ownsRow.lt h k hk).2
theorem RowI.ints {B : Nat} {W : World} {v : Value} {l : List Int} (h : RowI B W v l) : IntsV W l v := by
  rcases h.2 with ⟨rfl, h1⟩ | ⟨g, cap, cur, rfl, h2, h3, h4, h5, h6, h7⟩
  · obtain rfl := List.eq_nil_of_length_eq_zero h1
    exact IntsV.nil W
  · refine ⟨_, cap, rfl, ⟨h4, by unfold maxLen at h5; omega⟩, fun _ => ⟨g, 0, rfl, (Array.getElem?_eq_some_iff.1 h3).1, fun i hi => ?_⟩⟩
    have := World.ownsRow.cells h (g := g) rfl i (.int .i64 l[i]) (by simp [hi])
    rwa [Addr.add_lit] at this
theorem info_int : (Try.prog.info? 3).map (fun i => (i.zero, i.size, i.bytes)) = some (some (.int .i64 0), 1, 8) := by kernel_rfl
theorem RowI.push {B : Nat} {W : World} {v : Value} {l : List Int} (h : RowI B W v l) (hB : B ≤ W.heap.size) (p : Int) (hl : l.length + 1 ≤ 1099511627776) :
    ∃ v' W', (Builtin.append_ #[26, 26] 26 #[v, .slice (some ⟨W.heap.size, 0, none⟩) 1 1]).run Try.prog (W.alloc (.cells #[.int .i64 p] 3)) = .ok v' W' ∧ RowI B W' v' (l ++ [p]) ∧ Below B W W' := by
  obtain ⟨i0, hi0, hz0, hz1, hz2⟩ := info_parts info_int
  have hUB : Below W.heap.size W (W.alloc (.cells #[.int .i64 p] 3)) := (Below.refl _ _).alloc (Nat.le_refl _) _
  have h1 := h.step hUB
  have hnew := BlkIs.new W 3 #[.int .i64 p]
  obtain ⟨v', W', hr, hown, hgr, _, _⟩ := run_append_own_at (P := Try.prog) (w := W.alloc (.cells #[.int .i64 p] 3)) B 26 26 3 i0 (.int .i64 0) 1 8 Try.underlying26 hi0 hz0 hz1 hz2 rfl (by decide) v l.length _ h1
    ⟨W.heap.size, 0, none⟩ 1 1 [.int .i64 p] rfl (fun j u hu => by
      rw [Addr.add_lit, Nat.zero_add]
      have := hnew.range j u (by simpa using hu)
      simpa using this) (by simp [Value.oneCell']) (by unfold maxLen; omega) (by omega) (by have := hUB.size; omega)
  refine ⟨v', W', hr, ?_, (hUB.mono hB).grown hgr (by have := hUB.size; omega) (fun q hq => (World.ownsRow.lt h1 q hq).1)⟩
  unfold RowI
  rw [List.map_append, List.length_append]
  exact hown
theorem oper_app8 {P : Program} {op : Oper} {a : Act} {w : World} {K : Act → World → Prop} {Q : Exit → Act → World → Prop} (s x : Operand) (t t2 : TypeId) (hop : op.op = Op.call { callee := Callee.builtin Builtin.append, args := #[s, x], argTypes := #[t, t2] }) {v xv v' : Value} {w' : World} (hs : a.eval s = v) (hx : a.eval x = xv)
    (hrun : (Builtin.append_ #[t, t2] op.type #[v, xv]).run P w = .ok v' w') (h : K (a.put op.dst v') w') : op.wp P a w K Q := by
  unfold Oper.wp execOp
  simp only [hop, resolve, invoke, builtin, Sem.run_bind, Sem.run_pure, Result.andThen_ok, List.map_toArray, List.map_cons, List.map_nil, hs, hx, hrun]
  exact h

section
variable {P : Program} {op : Oper} {ops : Array Oper} {rest : List Oper} {a : Act} {w : World} {Q : Exit → Act → World → Prop}
theorem wpList_app8 (hg : op.guard = none) (s x : Operand) (t t2 : TypeId) (hop : op.op = Op.call { callee := Callee.builtin Builtin.append, args := #[s, x], argTypes := #[t, t2] }) {v xv v' : Value} {w' : World} (hs : a.eval s = v) (hx : a.eval x = xv)
    (hrun : (Builtin.append_ #[t, t2] op.type #[v, xv]).run P w = .ok v' w') (h : wpList P ops Q rest (a.put op.dst v') w') : wpList P ops Q (op :: rest) a w :=
  wpList_plain hg fun _ hK => oper_app8 s x t t2 hop hs hx hrun (hK _ _ h)
end

def Nf.setAt (N : Nf) (p : Int) : Nat → Bool := N.sets.getD p.toNat fun _ => false
def beginL (N : Nf) (c : Nat) : List Int := N.first.filter fun p => N.setAt p c
theorem filter_snoc {α : Type} (f : α → Bool) (l : List α) (j : Nat) (h : j < l.length) : (l.take (j + 1)).filter f = if f l[j] then (l.take j).filter f ++ [l[j]] else (l.take j).filter f := by
  rw [List.take_succ_eq_append_getElem h, List.filter_append]
  by_cases e : f l[j] = true
  · rw [if_pos e]; simp [e]
  · rw [if_neg e]; simp [e]

set_option maxRecDepth 20000 in
set_option maxHeartbeats 4000000 in
theorem begin_any (N : Nf) (c : Nat) (hc : c < 256) (v : Value) (w : World) (h : NfaAt w N v) (hin : ∀ p ∈ N.first, 0 ≤ p ∧ p < N.sets.length) (hn : N.first.length ≤ 1073741824) :
    Calls Try.prog 38 #[v, .int .u8 c] w fun e w' => ∃ v', e = .returned v' ∧ RowI (w.heap.size + 1) w' v' (beginL N c) ∧ Below w.heap.size w w' := by
  obtain ⟨v0, v1, v2, v3, v4, rfl, hs0, hs1, hs2, hs3, hs4⟩ := h
  obtain ⟨A0, c0, rfl, hc0, hg0⟩ := hs0
  obtain ⟨A2, c2, rfl, hc2, hg2⟩ := hs2
  obtain ⟨A3, c3, rfl, hc3, hx3⟩ := hs3
  obtain ⟨A1, c1, rfl, hc1, hx1⟩ := hs1
  obtain ⟨A4, c4, rfl, hc4, hx4⟩ := hs4
  have hb0 : Below w.heap.size w (w.alloc (.cells #[.slice A0 N.sets.length c0, .slice A1 N.rules.length c1, .slice A2 N.first.length c2, .slice A3 N.follow.length c3, .slice A4 N.ends.length c4, .int .i64 N.empty] 30)) := (Below.refl _ _).alloc (Nat.le_refl _) _
  have H0 := Lib.hid (And.intro hb0 (BlkIs.new w 30 #[.slice A0 N.sets.length c0, .slice A1 N.rules.length c1, .slice A2 N.first.length c2, .slice A3 N.follow.length c3, .slice A4 N.ends.length c4, .int .i64 N.empty]))
  have HG2 := Lib.hid hg2
  have HIN := Lib.hid (fun (j : Nat) (h : j < N.first.length) => hin _ (List.getElem_mem h))
  have HCELL := Lib.hid (fun (pn : Nat) (h : pn < N.sets.length) => (show ∃ b o, A0 = some ⟨b, o, none⟩ ∧ ∀ u : World, Below w.heap.size w u → u.cell? ⟨b, o + pn * 4, none⟩ = some (.int .u64 (wd (N.setAt pn) 0 : Nat)) ∧ u.cell? ⟨b, o + pn * 4 + 1, none⟩ = some (.int .u64 (wd (N.setAt pn) 1 : Nat)) ∧ u.cell? ⟨b, o + pn * 4 + 2, none⟩ = some (.int .u64 (wd (N.setAt pn) 2 : Nat)) ∧ u.cell? ⟨b, o + pn * 4 + 3, none⟩ = some (.int .u64 (wd (N.setAt pn) 3 : Nat)) by
    obtain ⟨b, o, e1, l1, g1⟩ := hg0 (by intro e; rw [e] at h; simp at h)
    have es : N.setAt pn = N.sets[pn] := by unfold Nf.setAt; simp [h]
    rw [es]
    exact ⟨b, o, e1, fun u hu => ⟨(hu.cell (p := ⟨b, o + pn * 4, none⟩) l1).trans (g1 pn h 0 (by decide)), (hu.cell (p := ⟨b, o + pn * 4 + 1, none⟩) l1).trans (g1 pn h 1 (by decide)), (hu.cell (p := ⟨b, o + pn * 4 + 2, none⟩) l1).trans (g1 pn h 2 (by decide)), (hu.cell (p := ⟨b, o + pn * 4 + 3, none⟩) l1).trans (g1 pn h 3 (by decide))⟩⟩))
  obtain ⟨R, hR⟩ : ∃ R, R = beginL N c := ⟨_, rfl⟩
  rw [← hR]
  have HR := Lib.hid hR
  have HHAS := Lib.hid (fun (m : Nat → Bool) (u : World) => has_any m c hc u)
  unfold setV at HHAS
  clear hb0 hg0 hg2 hx1 hx3 hx4 hin hR
  go_enter Try.func38, Try.ntmps38
  go_wp2
  go_loopw [5, 11] (fun s i wr => ∃ (j : Nat) (l : List Int), i = .int .i64 j ∧ j ≤ N.first.length ∧ l.length ≤ j ∧ Hid ((RowI (w.heap.size + 1) wr s l ∧ Below w.heap.size w wr ∧ BlkIs wr w.heap.size 30 #[.slice A0 N.sets.length c0, .slice A1 N.rules.length c1, .slice A2 N.first.length c2, .slice A3 N.follow.length c3, .slice A4 N.ends.length c4, .int .i64 N.empty]) ∧ l = (N.first.take j).filter fun p => N.setAt p c)) (fun _ i _ => N.first.length - (intOf i).toNat)
  case atStart => exact ⟨0, [], rfl, Nat.zero_le _, Nat.le_refl _, Lib.hid ⟨⟨RowI.nil _ _, H0.out⟩, rfl⟩⟩
  case round =>
    obtain ⟨j, l, rfl, hj, hlj, HH⟩ := hrel
    obtain ⟨d0, d1, d2, d3, d4, d5⟩ := six HH.out.1.2.2
    by_cases hp : j < N.first.length
    · have hk1 : IntKind.i64.wrap ((j : Int) + 1) = ((j + 1 : Nat) : Int) := by rw [IntKind.wrap_i64]; omega
      have hdl : decide ((j : Int) < (N.first.length : Int)) = true := by simp; omega
      obtain ⟨b, o, rfl, hlt, hg⟩ := HG2.out (by intro e; rw [e] at hp; simp at hp)
      have hcell := (HH.out.1.2.1.cell (p := ⟨b, o + j, none⟩) hlt).trans (hg j hp)
      have hpin := HIN.out j hp
      have hf := filter_snoc (fun p => N.setAt p c) N.first j hp
      rw [← HH.out.2] at hf
      clear hg hlt
      generalize N.first[j] = p at *
      obtain ⟨pn, rfl⟩ := Int.eq_ofNat_of_zero_le hpin.1
      have hpn : pn < N.sets.length := by omega
      have hi1 : (pn : Int) < (N.sets.length : Int) := by omega
      obtain ⟨b0, o0, rfl, hyy⟩ := HCELL.out pn hpn
      obtain ⟨y0, y1, y2, y3⟩ := hyy wr HH.out.1.2.1
      clear hyy hpin
      have HC := Lib.hid (HHAS.out (N.setAt (pn : Int)) wr)
      generalize N.setAt (pn : Int) = m at *
      generalize m c = hm at *
      have HF := Lib.hid hf
      clear hf
      cases hm with
      | true =>
        go_wp2_with fail
        go_at_call 50
        refine HC.out.mono ?_
        rintro e u ⟨rfl, hbu⟩
        have hsz := HH.out.1.2.2.lt
        obtain ⟨v', W', hrun, hri, hbw⟩ := (HH.out.1.1.step hbu).push (by have := hbu.size; omega) (pn : Int) (by omega)
        have HU := Lib.hid (And.intro hri (And.intro ((HH.out.1.2.1.trans (hbu.mono HH.out.1.2.1.size)).trans (hbw.mono (by omega))) ((hbw.block w.heap.size (by omega)).trans (HH.out.1.2.2.step hbu))))
        clear hbu hri hbw d0 d1 d2 d3 d4 d5 y0 y1 y2 y3 hcell
        go_wp2_with (refine wpList_app8 rfl _ _ 26 26 rfl rfl rfl hrun ?_)
        exact ⟨⟨j + 1, l ++ [(pn : Int)], rfl, hp, by rw [List.length_append, List.length_singleton]; omega, Lib.hid ⟨HU.out, by rw [HF.out]; rfl⟩⟩, by simp [intOf]; omega⟩
      | false =>
        go_wp2_with fail
        go_at_call 50
        refine HC.out.mono ?_
        rintro e u ⟨rfl, hbu⟩
        have HU := Lib.hid (And.intro (HH.out.1.1.step hbu) (And.intro (HH.out.1.2.1.trans (hbu.mono HH.out.1.2.1.size)) (HH.out.1.2.2.step hbu)))
        clear hbu d0 d1 d2 d3 d4 d5 y0 y1 y2 y3 hcell
        go_wp2
        exact ⟨⟨j + 1, l, rfl, hp, by omega, Lib.hid ⟨HU.out, by rw [HF.out]; rfl⟩⟩, by simp [intOf]; omega⟩
    · have hdl : decide ((j : Int) < (N.first.length : Int)) = false := by simp; omega
      have HF := Lib.hid (show l = R by rw [HH.out.2, HR.out, List.take_of_length_le (by omega)]; rfl)
      go_wp2
      go_ret
      exact ⟨_, rfl, by rw [← HF.out]; exact HH.out.1.1, HH.out.1.2.1⟩
end Go.Proofs.Ytgbljnnmhmlifaa

namespace Go.Proofs.Ytgbljnnmhmlifaa
open Go.RowKit

attribute [local irreducible] FreeW

set_option maxRecDepth 20000 in
set_option maxHeartbeats 2000000 in
theorem ints_any (l r : List Int) (v v' : Value) (w : World) (hl : IntsV w l v) (hr : IntsV w r v') : Calls Try.prog 21 #[v, v'] w fun e w' => e = .returned (.bool (decide (l = r))) ∧ Below w.heap.size w w' := by
  obtain ⟨A, c, rfl, hc, hs⟩ := hl
  obtain ⟨A', c', rfl, hc', hs'⟩ := hr
  have HS := Lib.hid hs
  have HS' := Lib.hid hs'
  clear hs hs'
  by_cases hlen : l.length = r.length
  case neg =>
    have e0 : ((l.length : Int) != (r.length : Int)) = true := by simp; omega
    have HF := Lib.hid (show decide (l = r) = false by simp; intro e; exact hlen (by rw [e]))
    clear hlen
    go_enter Try.func21, Try.ntmps21
    go_wp2
    go_ret
    exact ⟨by rw [HF.out]; rfl, Below.refl _ _⟩
  have e0 : ((l.length : Int) != (r.length : Int)) = false := by simp; omega
  have HL := Lib.hid hlen
  obtain ⟨R, hR⟩ : ∃ R, R = decide (l = r) := ⟨_, rfl⟩
  rw [← hR]
  have HR := Lib.hid hR
  clear hlen hR
  go_enter Try.func21, Try.ntmps21
  go_wp2
  go_loopw [5] (fun i wr => ∃ j : Nat, i = .int .i64 j ∧ j ≤ l.length ∧ Hid (Below w.heap.size w wr ∧ l.take j = r.take j)) (fun i _ => l.length - (intOf i).toNat)
  case atStart => exact ⟨0, rfl, Nat.zero_le _, Lib.hid ⟨Below.refl _ _, rfl⟩⟩
  case round =>
    obtain ⟨j, rfl, hj, HH⟩ := hrel
    by_cases hp : j < l.length
    · have hk1 : IntKind.i64.wrap ((j : Int) + 1) = ((j + 1 : Nat) : Int) := by rw [IntKind.wrap_i64]; omega
      have hdl : decide ((j : Int) < (l.length : Int)) = true := by simp; omega
      have hp' : j < r.length := by rw [← HL.out]; exact hp
      have hi1 : (j : Int) < (l.length : Int) := by omega
      have hi2 : (j : Int) < (r.length : Int) := by omega
      obtain ⟨b, o, rfl, hlt, hg⟩ := HS.out (by intro e; rw [e] at hp; simp at hp)
      obtain ⟨b', o', rfl, hlt', hg'⟩ := HS'.out (by intro e; rw [e] at hp'; simp at hp')
      have HX := Lib.hid (fun (u : World) (hu : Below w.heap.size w u) => (hu.cell (p := ⟨b, o + j, none⟩) hlt).trans (hg j hp))
      have HY := Lib.hid (fun (u : World) (hu : Below w.heap.size w u) => (hu.cell (p := ⟨b', o' + j, none⟩) hlt').trans (hg' j hp'))
      have ht1 := List.take_succ_eq_append_getElem hp
      have ht2 := List.take_succ_eq_append_getElem hp'
      have hne : l[j] ≠ r[j] → l ≠ r := fun h e => h (by subst e; rfl)
      clear hg hg'
      generalize l[j] = x at *
      generalize r[j] = y at *
      have HT := Lib.hid (And.intro ht1 (And.intro ht2 hne))
      clear ht1 ht2 hne hp'
      by_cases hxy : x = y
      · have e1 : (x != y) = false := by simp [hxy]
        have HN := Lib.hid (show l.take (j + 1) = r.take (j + 1) by rw [HT.out.1, HT.out.2.1, HH.out.2, hxy])
        clear hxy
        go_wp2_with fail
        refine wp_region_reads 26 (fun u => Hid (Below w.heap.size w u)) (by kernel_rfl) (by kernel_rfl) rfl (Lib.hid HH.out.1.drew) (fun u u' h hb => Lib.hid (h.out.trans (hb.mono h.out.size))) ?_
        repeat
          refine freeW_step fun K hK => ?_
          (first
            | skip)
          go_simp
          apply Exists.intro
          refine ⟨fun u h1 => ?_, hK _ ?_⟩
          · have y0 := HX.out u h1.out
            have y1 := HY.out u h1.out
            unfold freeAt
            go_simp
            first
              | exact free_val
              | (apply free_call
                 first
                   | fail
                 )
          clear hK K
        refine freeW_nil ?_
        intro u hC hb2
        have HC := Lib.hid hC.out
        clear hC hb2
        go_wp2
        exact ⟨⟨j + 1, rfl, hp, Lib.hid ⟨HC.out, HN.out⟩⟩, by simp [intOf]; omega⟩
      · have e1 : (x != y) = true := by simp [hxy]
        have HN := Lib.hid (show R = false by rw [HR.out]; simp; exact HT.out.2.2 hxy)
        clear hxy
        go_wp2_with fail
        refine wp_region_reads 26 (fun u => Hid (Below w.heap.size w u)) (by kernel_rfl) (by kernel_rfl) rfl (Lib.hid HH.out.1.drew) (fun u u' h hb => Lib.hid (h.out.trans (hb.mono h.out.size))) ?_
        repeat
          refine freeW_step fun K hK => ?_
          (first
            | skip)
          go_simp
          apply Exists.intro
          refine ⟨fun u h1 => ?_, hK _ ?_⟩
          · have y0 := HX.out u h1.out
            have y1 := HY.out u h1.out
            unfold freeAt
            go_simp
            first
              | exact free_val
              | (apply free_call
                 first
                   | fail
                 )
          clear hK K
        refine freeW_nil ?_
        intro u hC hb2
        have HC := Lib.hid hC.out
        clear hC hb2
        go_wp2
        go_ret
        exact ⟨by rw [HN.out]; rfl, HC.out⟩
    · have hdl : decide ((j : Int) < (l.length : Int)) = false := by simp; omega
      have HN := Lib.hid (show R = true by
        have := HH.out.2
        rw [List.take_of_length_le (by omega), List.take_of_length_le (by rw [← HL.out]; omega)] at this
        rw [HR.out, this]; simp)
      go_wp2
      go_ret
      exact ⟨by rw [HN.out]; rfl, HH.out.1⟩

end Go.Proofs.Ytgbljnnmhmlifaa

namespace Go.Proofs.Ytgbljnnmhmlifaa
open Go.RowKit

theorem okNode_kind {k : Int} {m : Nat → Bool} {n : Nat} {lo hi : Int} (h : okNode k m n lo hi = true) :
    (k = 0 ∧ n = 0) ∨ (k = 1 ∧ n = 0) ∨ (k = 2 ∧ 2 ≤ n) ∨ (k = 3 ∧ 2 ≤ n) ∨ (k = 4 ∧ n = 1 ∧ 0 ≤ lo ∧ lo ≤ 64 ∧ (hi = -1 ∨ lo ≤ hi ∧ hi ≤ 64)) := by
  unfold okNode at h
  split at h
  · cases h
  · split at h
    · rename_i h2; have := of_decide_eq_true h; omega
    · split at h
      · rename_i h2; have := of_decide_eq_true h; omega
      · split at h
        · have := of_decide_eq_true h; omega
        · cases h
theorem ok_open {k : Int} {m : Nat → Bool} {l : List Tree} {lo hi : Int} (h : Tree.ok (.node k m l lo hi) = true) : (∀ t ∈ l, t.ok = true) ∧ okNode k m l.length lo hi = true := by
  unfold Tree.ok at h
  rw [Bool.and_eq_true, allOk_iff] at h
  exact h

mutual
def Tree.void : Tree → Bool
  | .node k m l lo _ => if k = 0 then false else if k = 1 then setEq m (fun _ => false) else if k = 2 then anyVoid l else if k = 3 then allVoid l else (decide (0 < lo) && headVoid l)
def anyVoid : List Tree → Bool
  | [] => false
  | t :: r => t.void || anyVoid r
def allVoid : List Tree → Bool
  | [] => true
  | t :: r => t.void && allVoid r
def headVoid : List Tree → Bool
  | [] => false
  | t :: _ => t.void
end
theorem anyVoid_iff : ∀ {l : List Tree}, anyVoid l = true ↔ ∃ t ∈ l, t.void = true
  | [] => by simp [anyVoid]
  | a :: l => by simp only [anyVoid, Bool.or_eq_true, List.mem_cons, exists_eq_or_imp, anyVoid_iff (l := l)]
theorem allVoid_iff : ∀ {l : List Tree}, allVoid l = true ↔ ∀ t ∈ l, t.void = true
  | [] => by simp [allVoid]
  | a :: l => by simp only [allVoid, Bool.and_eq_true, List.mem_cons, forall_eq_or_imp, allVoid_iff (l := l)]
theorem mem_take_succ {l : List Tree} {i : Nat} (h : i < l.length) {t : Tree} (ht : t ∈ l.take (i + 1)) : t ∈ l.take i ∨ t = l[i] := by
  rw [← List.take_append_getElem h, List.mem_append] at ht
  rcases ht with ht | ht
  · exact .inl ht
  · exact .inr (by simpa using ht)

set_option maxHeartbeats 4000000 in
theorem refVoid_any : ∀ (T : Tree) (v : Value) (w : World), T.ok = true → T.At w v → Calls Try.prog 53 #[v] w fun e w' => e = .returned (.bool T.void) ∧ Below w.heap.size w w' := by
  intro T
  induction T using Tree.ind with
  | h k m l lo hi ih =>
    intro v w hok hat
    obtain ⟨A, c, rfl, hc, hs⟩ := hat.open
    obtain ⟨hoks, hn⟩ := ok_open hok
    have hkind := okNode_kind hn
    have HS := Lib.hid hs
    have IH := Lib.hid (fun t ht v w => ih t ht v w (hoks t ht))
    have hbox := BlkIs.new w 39 (reL k m A l.length c lo hi).toArray
    have hB0 : Below w.heap.size w (w.alloc (.cells (reL k m A l.length c lo hi).toArray 39)) := (Below.refl _ _).alloc (Nat.le_refl _) _
    have HB0 := Lib.hid (And.intro hB0 hbox)
    clear hat hs ih hok hoks hn hbox hB0
    unfold reV reL at *
    unfold Tree.void
    rcases hkind with ⟨rfl, hl⟩ | ⟨rfl, hl⟩ | ⟨rfl, hl⟩ | ⟨rfl, hl⟩ | ⟨rfl, hl, hlo⟩
    · rw [if_pos rfl]
      go_enter Try.func53, Try.ntmps53
      go_wp2
      go_ret
      exact ⟨rfl, (Below.refl _ _).alloc (Nat.le_refl _) _⟩
    · rw [if_neg (by decide), if_pos rfl]
      have he := eql_set m (fun _ => false)
      rw [set0_build] at he
      unfold setV at he
      generalize setEq m (fun _ => false) = q at *
      go_enter Try.func53, Try.ntmps53
      go_wp2
      go_ret
      exact ⟨rfl, (Below.refl _ _).alloc (Nat.le_refl _) _⟩
    · rw [if_neg (by decide), if_neg (by decide), if_pos rfl]
      obtain ⟨R, hR⟩ : ∃ R, anyVoid l = R := ⟨_, rfl⟩
      rw [hR]
      have HR := Lib.hid hR
      clear hR
      go_enter Try.func53, Try.ntmps53
      go_wp2
      go_loopw [3] (fun i wr => ∃ j : Nat, i = .int .i64 j ∧ j ≤ l.length ∧ Hid (Below w.heap.size w wr ∧ BlkIs wr w.heap.size 39 (reL 2 m A l.length c lo hi).toArray ∧ ∀ t ∈ l.take j, t.void = false)) (fun i _ => l.length - (intOf i).toNat)
      case atStart => exact ⟨0, rfl, Nat.zero_le _, Lib.hid ⟨HB0.out.1, HB0.out.2, by simp⟩⟩
      case round =>
        obtain ⟨j, rfl, hj, HH⟩ := hrel
        obtain ⟨hb, hbl, hall⟩ := HH.out
        have HB := Lib.hid HH.out
        unfold reL at hbl
        obtain ⟨_, _, _, _, _, c5, _, _⟩ := hbl.eight
        by_cases hp : j < l.length
        · have hdl : decide ((j : Int) < (l.length : Int)) = true := by simp; omega
          obtain ⟨b, o, rfl, hbw, hg⟩ := HS.out (by intro e; subst e; simp at hp)
          obtain ⟨cs, hcat, hlen, hrow⟩ := hg j hp
          obtain ⟨A', n', c', rfl⟩ := hcat.eight
          obtain ⟨r0, r1, r2, r3, r4, r5, r6, r7⟩ := row_eight hrow hb
          have hcall := IH.out _ (List.getElem_mem hp) _ wr (hcat.step hb)
          have hk1 : IntKind.i64.wrap ((j : Int) + 1) = ((j + 1 : Nat) : Int) := by rw [IntKind.wrap_i64]; omega
          by_cases hx : (l[j]).void = true
          · rw [hx] at hcall
            have HC := Lib.hid hcall
            have HA := Lib.hid (show R = true by rw [← HR.out, anyVoid_iff]; exact ⟨_, List.getElem_mem hp, hx⟩)
            clear hrow hcat hcall hg hb hbl hall hx
            go_wp2_with fail
            refine HC.out.mono ?_
            rintro e w1 ⟨rfl, hb1⟩
            have HB1 := Lib.hid hb1
            clear hb1
            go_wp2
            go_ret
            rw [HA.out]
            exact ⟨rfl, HB.out.1.trans (HB1.out.mono HB.out.1.size)⟩
          · have hx2 : (l[j]).void = false := by simpa using hx
            rw [hx2] at hcall
            have HC := Lib.hid hcall
            have HA := Lib.hid (show ∀ t ∈ l.take (j + 1), t.void = false from fun t ht => (mem_take_succ hp ht).elim (hall t) (fun e => e ▸ hx2))
            clear hrow hcat hcall hg hb hbl hall hx hx2
            go_wp2_with fail
            refine HC.out.mono ?_
            rintro e w1 ⟨rfl, hb1⟩
            have HB1 := Lib.hid hb1
            clear hb1
            go_wp2
            exact ⟨⟨j + 1, by go_num, hp, Lib.hid ⟨HB.out.1.trans (HB1.out.mono HB.out.1.size), HB.out.2.1.step HB1.out, HA.out⟩⟩, by simp [intOf]; omega⟩
        · have hdl : decide ((j : Int) < (l.length : Int)) = false := by simp; omega
          obtain rfl : j = l.length := by omega
          rw [List.take_length] at hall
          have HA := Lib.hid (show R = false by
            rw [← HR.out, Bool.eq_false_iff]; intro h
            rw [anyVoid_iff] at h
            obtain ⟨t, ht, hv⟩ := h
            rw [hall t ht] at hv; cases hv)
          clear hall hbl
          go_wp2
          go_ret
          rw [HA.out]
          exact ⟨rfl, hb⟩
    · rw [if_neg (by decide), if_neg (by decide), if_neg (by decide), if_pos rfl]
      obtain ⟨R, hR⟩ : ∃ R, allVoid l = R := ⟨_, rfl⟩
      rw [hR]
      have HR := Lib.hid hR
      clear hR
      go_enter Try.func53, Try.ntmps53
      go_wp2
      go_loopw [4] (fun i wr => ∃ j : Nat, i = .int .i64 j ∧ j ≤ l.length ∧ Hid (Below w.heap.size w wr ∧ BlkIs wr w.heap.size 39 (reL 3 m A l.length c lo hi).toArray ∧ ∀ t ∈ l.take j, t.void = true)) (fun i _ => l.length - (intOf i).toNat)
      case atStart => exact ⟨0, rfl, Nat.zero_le _, Lib.hid ⟨HB0.out.1, HB0.out.2, by simp⟩⟩
      case round =>
        obtain ⟨j, rfl, hj, HH⟩ := hrel
        obtain ⟨hb, hbl, hall⟩ := HH.out
        have HB := Lib.hid HH.out
        unfold reL at hbl
        obtain ⟨_, _, _, _, _, c5, _, _⟩ := hbl.eight
        by_cases hp : j < l.length
        · have hdl : decide ((j : Int) < (l.length : Int)) = true := by simp; omega
          obtain ⟨b, o, rfl, hbw, hg⟩ := HS.out (by intro e; subst e; simp at hp)
          obtain ⟨cs, hcat, hlen, hrow⟩ := hg j hp
          obtain ⟨A', n', c', rfl⟩ := hcat.eight
          obtain ⟨r0, r1, r2, r3, r4, r5, r6, r7⟩ := row_eight hrow hb
          have hcall := IH.out _ (List.getElem_mem hp) _ wr (hcat.step hb)
          have hk1 : IntKind.i64.wrap ((j : Int) + 1) = ((j + 1 : Nat) : Int) := by rw [IntKind.wrap_i64]; omega
          by_cases hx : (l[j]).void = true
          · rw [hx] at hcall
            have HC := Lib.hid hcall
            have HA := Lib.hid (show ∀ t ∈ l.take (j + 1), t.void = true from fun t ht => (mem_take_succ hp ht).elim (hall t) (fun e => e ▸ hx))
            clear hrow hcat hcall hg hb hbl hall hx
            go_wp2_with fail
            refine HC.out.mono ?_
            rintro e w1 ⟨rfl, hb1⟩
            have HB1 := Lib.hid hb1
            clear hb1
            go_wp2
            exact ⟨⟨j + 1, by go_num, hp, Lib.hid ⟨HB.out.1.trans (HB1.out.mono HB.out.1.size), HB.out.2.1.step HB1.out, HA.out⟩⟩, by simp [intOf]; omega⟩
          · have hx2 : (l[j]).void = false := by simpa using hx
            rw [hx2] at hcall
            have HC := Lib.hid hcall
            have HA := Lib.hid (show R = false by
              rw [← HR.out, Bool.eq_false_iff]; intro h
              rw [allVoid_iff] at h
              rw [h _ (List.getElem_mem hp)] at hx2; cases hx2)
            clear hrow hcat hcall hg hb hbl hall hx hx2
            go_wp2_with fail
            refine HC.out.mono ?_
            rintro e w1 ⟨rfl, hb1⟩
            have HB1 := Lib.hid hb1
            clear hb1
            go_wp2
            go_ret
            rw [HA.out]
            exact ⟨rfl, HB.out.1.trans (HB1.out.mono HB.out.1.size)⟩
        · have hdl : decide ((j : Int) < (l.length : Int)) = false := by simp; omega
          obtain rfl : j = l.length := by omega
          rw [List.take_length] at hall
          have HA := Lib.hid (show R = true by rw [← HR.out, allVoid_iff]; exact hall)
          clear hall hbl
          go_wp2
          go_ret
          rw [HA.out]
          exact ⟨rfl, hb⟩
    · rw [if_neg (by decide), if_neg (by decide), if_neg (by decide), if_neg (by decide)]
      obtain ⟨t, rfl⟩ : ∃ t, l = [t] := by
        match l, hl with
        | [t], _ => exact ⟨t, rfl⟩
      obtain ⟨b, o, rfl, hbw, hg⟩ := HS.out (by simp)
      obtain ⟨cs, hcat, hlen, hrow⟩ := hg 0 (by simp)
      obtain ⟨A', n', c', rfl⟩ := hcat.eight
      rw [show o + 0 * 8 = o by omega] at hrow
      simp only [List.getElem_cons_zero] at hcat hrow
      obtain ⟨r0, r1, r2, r3, r4, r5, r6, r7⟩ := row_eight hrow (Below.refl _ _)
      have hcall := IH.out t (by simp) _ _ (hcat.step HB0.out.1)
      have hhv : headVoid [t] = t.void := by unfold headVoid; rfl
      rw [hhv]
      unfold reL at hcall
      generalize t.void = q at *
      have HC := Lib.hid hcall
      clear hcall hrow hcat hg hc hlen hl hhv
      by_cases h0 : 0 < lo
      · have hd : decide (lo > 0) = true := by simp; omega
        rw [show decide (0 < lo) = true by simp [h0], Bool.true_and]
        go_enter Try.func53, Try.ntmps53
        go_wp2_with fail
        refine HC.out.mono ?_
        rintro e w1 ⟨rfl, hb1⟩
        have HB1 := Lib.hid hb1
        clear hb1
        go_wp2
        go_ret
        exact ⟨rfl, HB0.out.1.trans (HB1.out.mono HB0.out.1.size)⟩
      · have hd : decide (lo > 0) = false := by simp; omega
        rw [show decide (0 < lo) = false by simp; omega, Bool.false_and]
        go_enter Try.func53, Try.ntmps53
        go_wp2
        go_ret
        exact ⟨rfl, (Below.refl _ _).alloc (Nat.le_refl _) _⟩

end Go.Proofs.Ytgbljnnmhmlifaa

