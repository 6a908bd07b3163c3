/-
  WHAT nfa's parts ANSWERS, given what part answers of each Sub: a contract. Condition: at most 2^20 places in all.
-/
import Derived.Test.YtgbljnnmhmlifaaQG22
namespace Go.Proofs.Ytgbljnnmhmlifaa
open Go.RowKit

attribute [local irreducible] FreeW textFrame

def PartIs (T : Tree) : Prop := ∀ (M K : Nat → Bool) (S : Mk) (v : Value) (pb : Nat) (r f e m : Value) (w : World), MkAt M K w pb S r f e m → T.At (hide w M) v → S.Ok → S.sets.length + T.plN ≤ 1048576 → (∀ k, M k = true → k < w.heap.size) → (∀ k, K k = true → k < w.heap.size) →
  Calls Try.prog 45 #[.pointer (some ⟨pb, 0, none⟩), v] w fun x w' => ∃ M' v', x = .returned v' ∧ Nx M M' w w' ∧ (∀ k, M' k = true → k < w'.heap.size) ∧ MkAt M' K w' pb (partP T S).1 r f e m ∧ PrtV (hide w' (MK M' K)) (partP T S).2 v'
def PrtL (V : World) (ps : List Prt) (xs : List Value) : Prop := xs.length = ps.length * 3 ∧ ∀ (i : Nat) (h : i < ps.length), ∃ v1 v2, xs[i * 3]? = some v1 ∧ xs[i * 3 + 1]? = some v2 ∧ xs[i * 3 + 2]? = some (.bool ps[i].empty) ∧ IntsV V ps[i].first v1 ∧ IntsV V ps[i].ends v2
theorem PrtL.nil (V : World) : PrtL V [] [] := ⟨rfl, fun i h => by simp at h⟩
theorem PrtL.sub {V W : World} {ps : List Prt} {xs : List Value} (h : PrtL V ps xs) (hs : Sub V W) : PrtL W ps xs := ⟨h.1, fun i hi => by
  obtain ⟨v1, v2, h0, h1, h2, h3, h4⟩ := h.2 i hi
  exact ⟨v1, v2, h0, h1, h2, h3.sub hs, h4.sub hs⟩⟩
theorem PrtL.snoc {V : World} {ps : List Prt} {xs : List Value} (h : PrtL V ps xs) {p : Prt} {v1 v2 : Value} (h1 : IntsV V p.first v1) (h2 : IntsV V p.ends v2) : PrtL V (ps ++ [p]) (xs ++ [v1, v2, .bool p.empty]) := by
  refine ⟨by simp [h.1]; omega, fun i hi => ?_⟩
  simp only [List.length_append, List.length_singleton] at hi
  by_cases hil : i < ps.length
  · obtain ⟨a1, a2, k0, k1, k2, k3, k4⟩ := h.2 i hil
    have hx := h.1
    refine ⟨a1, a2, ?_, ?_, ?_, ?_, ?_⟩
    · rw [List.getElem?_append_left (by omega)]; exact k0
    · rw [List.getElem?_append_left (by omega)]; exact k1
    · rw [List.getElem?_append_left (by omega), List.getElem_append_left hil]; exact k2
    · rw [List.getElem_append_left hil]; exact k3
    · rw [List.getElem_append_left hil]; exact k4
  · obtain rfl : i = ps.length := by omega
    have hx := h.1
    refine ⟨v1, v2, ?_, ?_, ?_, by simpa using h1, by simpa using h2⟩
    · rw [List.getElem?_append_right (by omega)]; simp [hx]
    · rw [List.getElem?_append_right (by omega)]; simp [hx]
    · rw [List.getElem?_append_right (by omega)]; simp [hx]
theorem PrtL.parts {V W : World} {ps : List Prt} {xs : List Value} (h : PrtL V ps xs) {B n c : Nat} (hn : n = ps.length) (ho : W.ownsRow 0 78 3 (.slice (some ⟨B, 0, none⟩) n c) n xs) : PrtsAt V W ps (.slice (some ⟨B, 0, none⟩) n c) := by
  subst hn
  have hc : ps.length ≤ c ∧ c ≤ 9223372036854775807 := by
    obtain ⟨A, c', e, h1⟩ := own_form ho
    injection e with _ _ e
    subst e
    exact h1
  refine ⟨_, _, rfl, hc, fun _ => ⟨B, 0, rfl, fun i hi => ?_⟩⟩
  obtain ⟨v1, v2, h0, h1, h2, h3, h4⟩ := h.2 i hi
  have hcl := fun j u hu => ho.cells (g := B) rfl j u hu
  simp only [Addr.add_lit, Nat.zero_add] at hcl
  exact ⟨v1, v2, by rw [Nat.zero_add]; exact hcl _ _ h0, by rw [Nat.zero_add]; exact hcl _ _ h1, by rw [Nat.zero_add]; exact hcl _ _ h2, h3, h4⟩
theorem info_part8 : (Try.prog.info? 78).map (fun i => (i.zero, i.size, i.bytes)) = some (some (.agg #[.slice none 0 0, .slice none 0 0, .bool false]), 3, 56) := by kernel_rfl
theorem parts_push {W : World} {B n c : Nat} {xs : List Value} (ho : W.ownsRow 0 78 3 (.slice (some ⟨B, 0, none⟩) n c) n xs) (hn : n < c) {g : Nat} {a1 a2 a3 : Value} (hg : BlkIs W g 78 #[a1, a2, a3]) (h1 : a1.oneCell' = true) (h2 : a2.oneCell' = true) (h3 : a3.oneCell' = true) :
    ∃ W', (Builtin.append_ #[93, 93] 93 #[.slice (some ⟨B, 0, none⟩) n c, .slice (some ⟨g, 0, none⟩) 1 1]).run Try.prog W = .ok (.slice (some ⟨B, 0, none⟩) (n + 1) c) W' ∧ W'.ownsRow 0 78 3 (.slice (some ⟨B, 0, none⟩) (n + 1) c) (n + 1) (xs ++ [a1, a2, a3]) ∧ W.grownBy W' (some B) := by
  obtain ⟨i0, hi0, hz0, hz1, hz2⟩ := info_parts info_part8
  have hlen := ho.1
  rcases ho.2 with ⟨h, _⟩ | ⟨g', cap, cur, e, hbg, hgg, hnc, hcm, hcs, htake⟩
  · cases h
  injection e with e1 _ e2
  injection e1 with e1
  injection e1 with e1
  subst e1 e2
  have hnw : ∀ j u, [a1, a2, a3][j]? = some u → W.cell? ((⟨g, 0, none⟩ : Addr).add j) = some u := fun j u hu => by
    rw [Addr.add_lit, Nat.zero_add, hg.cell j]; simpa using hu
  have hone : ∀ u ∈ [a1, a2, a3], u.oneCell' = true := fun u hu => by
    simp only [List.mem_cons, List.not_mem_nil, or_false] at hu
    rcases hu with rfl | rfl | rfl <;> assumption
  have hr := run_append_room (P := Try.prog) W 93 93 78 i0 Try.underlying93 hi0 B n c cur hgg ⟨g, 0, none⟩ 1 1 [a1, a2, a3] (by rw [hz1]; rfl) hnw hone (by omega) (by rw [hz1]; simp; omega)
  refine ⟨_, hr, ⟨by simp [hlen]; omega, .inr ⟨B, c, _, rfl, Nat.zero_le _, setRow_heap W B cur _ _ _ hgg, by omega, hcm, ?_, ?_⟩⟩, ⟨rfl, rfl, rfl, by simp, fun k _ hk => setRow_other W B k _ (fun e => hk (by rw [e]))⟩⟩
  · have : n * 3 ≤ cur.toList.length := by rw [Array.length_toList]; omega
    simp only [hz1, List.size_toArray, List.length_append, List.length_take, List.length_drop, Array.length_toList, List.length_cons, List.length_nil]
    omega
  · rw [hz1, htake]
    show (xs ++ [a1, a2, a3] ++ _).take ((n + 1) * 3) = _
    rw [List.take_left' (by simp [hlen]; omega)]
theorem make_parts (n : Nat) (h : n ≤ 1099511627776) (w : World) : ∃ cur : Array Value, cur.size = n * 3 ∧ (Instr.makeSlice 93 (.int .i64 0) (.int .i64 (n : Nat))).run Try.prog w = .ok (.slice (some ⟨w.heap.size, 0, none⟩) 0 n) (w.alloc (.cells cur 78)) := by
  obtain ⟨i0, hi0, hz0, hz1, hz2⟩ := info_parts info_part8
  have hr := run_make (P := Try.prog) w 93 78 i0 _ Try.underlying93 hi0 hz0 .i64 .i64 0 n (by omega) (by omega) (by rw [hz2]; omega) (by omega)
  simp only [hz1, Int.toNat_natCast] at hr
  exact ⟨_, size_madeCells _ _ |>.trans (by simp), hr⟩
theorem partsP_snoc (t : Tree) : ∀ (l : List Tree) (S : Mk), partsP (l ++ [t]) S = ((partP t (partsP l S).1).1, (partsP l S).2 ++ [(partP t (partsP l S).1).2])
  | [], S => by simp [partsP]
  | x :: l, S => by simp only [List.cons_append, partsP, partsP_snoc t l]
theorem okTs_mem : ∀ {l : List Tree}, okTs l → ∀ t ∈ l, t.okT
  | [], _, t, ht => by simp at ht
  | x :: l, h, t, ht => by
    unfold okTs at h
    rcases List.mem_cons.1 ht with rfl | ht
    · exact h.1
    · exact okTs_mem h.2 t ht
theorem okTs_take : ∀ {l : List Tree} (j : Nat), okTs l → okTs (l.take j)
  | [], j, h => by simpa using h
  | x :: l, 0, h => by unfold okTs; trivial
  | x :: l, j + 1, h => by
    unfold okTs at h
    simp only [List.take_succ_cons]
    unfold okTs
    exact ⟨h.1, okTs_take j h.2⟩
theorem sumN_snoc (t : Tree) : ∀ l : List Tree, sumN (l ++ [t]) = sumN l + t.plN
  | [] => by simp [sumN]
  | x :: l => by simp only [List.cons_append, sumN, sumN_snoc t l]; omega
theorem sumN_take : ∀ (l : List Tree) (j : Nat), sumN (l.take j) ≤ sumN l
  | [], j => by simp
  | x :: l, 0 => by simp [sumN]
  | x :: l, j + 1 => by have := sumN_take l j; simp only [List.take_succ_cons, sumN]; omega

set_option maxRecDepth 20000 in
set_option maxHeartbeats 16000000 in
theorem parts_any (l : List Tree) (IH : ∀ t ∈ l, PartIs t) (hokT : okTs l) (M K : Nat → Bool) (S : Mk) (A : Option Addr) (c : Nat) (pb : Nat) (r f e m : Value) (w : World) (hm : MkAt M K w pb S r f e m)
    (hat : l ≠ [] → ∃ b o, A = some ⟨b, o, none⟩ ∧ ∀ (i : Nat) (h : i < l.length), ∃ cs : List Value, Tree.At (hide w M) l[i] (.agg cs.toArray) ∧ cs.length = 8 ∧ (hide w M).rangeAt b (o + i * 8) cs)
    (hS : S.Ok) (hn : S.sets.length + sumN l ≤ 1048576) (hll : l.length ≤ 1048576) (hM : ∀ k, M k = true → k < w.heap.size) (hK : ∀ k, K k = true → k < w.heap.size) :
    Calls Try.prog 57 #[.pointer (some ⟨pb, 0, none⟩), .slice A l.length c] w fun x w' => ∃ M' v', x = .returned v' ∧ Nx M M' w w' ∧ (∀ k, M' k = true → k < w'.heap.size) ∧ MkAt M' K w' pb (partsP l S).1 r f e m ∧ PrtsAt (hide w' (MK M' K)) (hide w' M') (partsP l S).2 v' := by
  obtain ⟨cur, hcs, hmk⟩ := make_parts l.length (by omega) w
  have hb1 : Below w.heap.size w (w.alloc (.cells cur 78)) := (Below.refl _ _).alloc (Nat.le_refl _) _
  have hMf : ∀ k, w.heap.size ≤ k → M k = false := fun k hk => by
    rw [Bool.eq_false_iff]; intro e; have := hM k e; omega
  have ho : (w.alloc (.cells cur 78)).ownsRow 0 78 3 (.slice (some ⟨w.heap.size, 0, none⟩) 0 l.length) 0 [] := World.ownsRow_made w cur l.length (Nat.zero_le _) (by unfold maxLen; omega) hcs
  have H0 := Lib.hid (show MkAt M (Kor K w.heap.size) (w.alloc (.cells cur 78)) pb S r f e m ∧ Nx M M w (w.alloc (.cells cur 78)) ∧ _ from ⟨hm.new hb1 (Nat.le_refl _), Nx.below hb1, ho⟩)
  have HAT := Lib.hid hat
  have HMM := Lib.hid (And.intro hM (And.intro hK hMf))
  have HIH := Lib.hid IH
  have HOK := Lib.hid hokT
  have HS := Lib.hid hS
  have HPO := Lib.hid (fun j => partsP_ok (l.take j) S (okTs_take j hokT) hS)
  have HSN := Lib.hid (fun (j : Nat) (h : j < l.length) => (show partsP (l.take (j + 1)) S = ((partP l[j] (partsP (l.take j) S).1).1, (partsP (l.take j) S).2 ++ [(partP l[j] (partsP (l.take j) S).1).2]) by rw [List.take_succ_eq_append_getElem h]; exact partsP_snoc l[j] (l.take j) S))
  have HNN := Lib.hid (fun (j : Nat) (h : j < l.length) => (show S.sets.length + sumN (l.take j) + (l[j]).plN ≤ 1048576 by
    have h1 := sumN_take l (j + 1)
    rw [List.take_succ_eq_append_getElem h, sumN_snoc] at h1
    omega))
  clear hat hM hK hMf IH hokT hS hm ho hb1 hcs
  go_enter Try.func57, Try.ntmps57
  go_wp2
  go_loopw [5, 13] (fun s i wr => ∃ (j : Nat) (M1 : Nat → Bool), s = .slice (some ⟨w.heap.size, 0, none⟩) j l.length ∧ i = .int .i64 j ∧ j ≤ l.length ∧ Hid (∃ xs, MkAt M1 (Kor K w.heap.size) wr pb (partsP (l.take j) S).1 r f e m ∧ Nx M M1 w wr ∧ (∀ k, M1 k = true → k < wr.heap.size) ∧ M1 w.heap.size = false ∧
    wr.ownsRow 0 78 3 (.slice (some ⟨w.heap.size, 0, none⟩) j l.length) j xs ∧ PrtL (hide wr (MK M1 (Kor K w.heap.size))) (partsP (l.take j) S).2 xs)) (fun _ i _ => l.length - (intOf i).toNat)
  case atStart => exact ⟨0, M, rfl, rfl, Nat.zero_le _, Lib.hid ⟨[], H0.out.1, H0.out.2.1, fun k hk => Nat.lt_of_lt_of_le (HMM.out.1 k hk) (by simp), HMM.out.2.2 _ (Nat.le_refl _), H0.out.2.2, PrtL.nil _⟩⟩
  case round =>
    obtain ⟨j, M1, rfl, rfl, hj, HH⟩ := hrel
    clear hmk
    obtain ⟨xs, g1, g2, g3, g4, g5, g6⟩ := HH.out
    clear HH
    by_cases hp : j < l.length
    · have hk1 : IntKind.i64.wrap ((j : Int) + 1) = ((j + 1 : Nat) : Int) := by rw [IntKind.wrap_i64]; omega
      have hdl : decide ((j : Int) < (l.length : Int)) = true := by simp; omega
      obtain ⟨b, o, rfl, hg⟩ := HAT.out (by intro e; rw [e] at hp; simp at hp)
      obtain ⟨cs, hcat, hlen, hrow⟩ := hg j hp
      obtain ⟨A', n', c', rfl⟩ := hcat.eight
      have hrow' : wr.rangeAt b (o + j * 8) (reL (l[j]).kind (l[j]).set A' n' c' (l[j]).lo (l[j]).hi) := fun i u hu => hide_less _ _ (g2.sub1 _ _ (hrow i u hu))
      obtain ⟨r0, r1, r2, r3, r4, r5, r6, r7⟩ := row_eight hrow' (Below.refl _ _)
      have hxb := BlkIs.new wr 39 (reL (l[j]).kind (l[j]).set A' n' c' (l[j]).lo (l[j]).hi).toArray
      have hxw : Below wr.heap.size wr (wr.alloc (.cells (reL (l[j]).kind (l[j]).set A' n' c' (l[j]).lo (l[j]).hi).toArray 39)) := (Below.refl _ _).alloc (Nat.le_refl _) _
      obtain ⟨W9, hW9⟩ : ∃ W9, wr.alloc (.cells (reL (l[j]).kind (l[j]).set A' n' c' (l[j]).lo (l[j]).hi).toArray 39) = W9 := ⟨_, rfl⟩
      rw [hW9] at hxb hxw
      have hcx := HIH.out _ (List.getElem_mem hp) M1 (Kor K w.heap.size) (partsP (l.take j) S).1 _ pb r f e m W9 (g1.step hxw) ((hcat.sub g2.sub1).sub (below_sub _ hxw)) (HPO.out j).1 (by rw [(HPO.out j).2.2.1]; exact HNN.out j hp)
        (fun k hk => Nat.lt_of_lt_of_le (g3 k hk) hxw.size) (Kor_lt (fun k hk => Nat.lt_of_lt_of_le (HMM.out.2.1 k hk) (Nat.le_trans g2.size hxw.size)) (Nat.lt_of_lt_of_le (World.ownsRow.lt g5 _ rfl).2 hxw.size))
      have hsn := HSN.out j hp
      have hlt := (World.ownsRow.lt g5 _ rfl).2
      have hG := And.intro g2 (And.intro hxw (And.intro g4 (And.intro (ownsRow_heap (W' := W9) g5 fun k hk => hxw.block k (World.ownsRow.lt g5 k hk).2) (g6.sub (below_sub _ hxw)))))
      have HG := Lib.hid hG
      simp only [reL] at hW9
      unfold reV reL at *
      have HC := Lib.hid hcx
      have HSS := Lib.hid hsn
      clear hcat hg hrow hrow' hlen hcx hsn hG hxw g1 g2 g3 g4 g5 g6
      generalize partP l[j] (partsP (l.take j) S).1 = TS at *
      generalize (l[j]).kind = kx at *
      generalize (l[j]).set = mx at *
      generalize (l[j]).lo = lx at *
      generalize (l[j]).hi = hx at *
      obtain ⟨x0, x1, x2, x3, x4, x5, x6, x7⟩ := hxb.eight
      clear hxb
      go_wp2_with fail
      go_at_call 45
      refine HC.out.mono ?_
      rintro x u1 ⟨M2, v2, rfl, hnx, hlt2, hmk2, p1, p2, rfl, hp1, hp2⟩
      obtain ⟨Y1, y1, rfl, _⟩ := hp1.form
      obtain ⟨Y2, y2, rfl, _⟩ := hp2.form
      have hBW : w.heap.size < W9.heap.size := (World.ownsRow.lt HG.out.2.2.2.1 _ rfl).2
      have hMB : M2 w.heap.size = false := (hnx.mine _ hBW).trans HG.out.2.2.1
      have hbA : Below u1.heap.size u1 (u1.alloc (.cells #[.slice Y1 TS.2.first.length y1, .slice Y2 TS.2.ends.length y2, .bool TS.2.empty] 78)) := (Below.refl _ _).alloc (Nat.le_refl _) _
      have hown := ownsRow_heap (W' := u1) HG.out.2.2.2.1 fun k hk => by
        injection hk with hk
        subst hk
        exact hnx.block _ hBW HG.out.2.2.1
      have hownA := ownsRow_heap (W' := u1.alloc (.cells #[.slice Y1 TS.2.first.length y1, .slice Y2 TS.2.ends.length y2, .bool TS.2.empty] 78)) hown fun k hk => hbA.block k (World.ownsRow.lt hown k hk).2
      obtain ⟨W5, hrun, hown5, hgr⟩ := parts_push hownA hp (BlkIs.new u1 78 #[.slice Y1 TS.2.first.length y1, .slice Y2 TS.2.ends.length y2, .bool TS.2.empty]) rfl rfl rfl
      have hkB : Kor K w.heap.size w.heap.size = true := Kor_me _ _
      have hsub5 : Sub (hide u1 (MK M2 (Kor K w.heap.size))) (hide W5 (MK M2 (Kor K w.heap.size))) := (below_sub _ hbA).trans (hide_sub fun k k1 k2 => ⟨k1, hgr.block k k2 (fun e => by
        injection e with e
        rw [MK_no, e, hkB] at k1
        cases k1.2)⟩)
      have hnx5 : Nx M M2 w W5 := by
        have h := HG.out.1.trans ((Nx.below HG.out.2.1).trans (hnx.trans (Nx.below hbA)))
        exact ⟨hgr.os.trans h.os, hgr.tape.trans h.tape, hgr.output.trans h.output, Nat.le_trans h.size hgr.size, fun k hk hm => (hgr.block k (Nat.lt_of_lt_of_le hk h.size) (fun e => by injection e with e; omega)).trans (h.block k hk hm), h.mine⟩
      have HF := Lib.hid (show ∃ xs, MkAt M2 (Kor K w.heap.size) W5 pb (partsP (l.take (j + 1)) S).1 r f e m ∧ Nx M M2 w W5 ∧ (∀ k, M2 k = true → k < W5.heap.size) ∧ M2 w.heap.size = false ∧
          W5.ownsRow 0 78 3 (.slice (some ⟨w.heap.size, 0, none⟩) (j + 1) l.length) (j + 1) xs ∧ PrtL (hide W5 (MK M2 (Kor K w.heap.size))) (partsP (l.take (j + 1)) S).2 xs from by
        rw [HSS.out]
        refine ⟨_, (hmk2.step hbA).sub (fun k hk hm => hgr.block k hk (fun e => by injection e with e; rw [e, hMB] at hm; cases hm)) (hide_sub fun k k1 k2 => ⟨k1, hgr.block k k2 (fun e => by
          injection e with e
          rw [MK_no, e, hkB] at k1
          cases k1.2)⟩), hnx5, fun k hk => Nat.lt_of_lt_of_le (hlt2 k hk) (Nat.le_trans hbA.size hgr.size), hMB, hown5, PrtL.snoc ((HG.out.2.2.2.2.sub (hnx.sub _)).sub hsub5) (hp1.sub hsub5) (hp2.sub hsub5)⟩)
      clear hnx hlt2 hmk2 hp1 hp2 hbA hown hownA hown5 hgr hsub5 hnx5
      go_wp2_with (refine wpList_app8 rfl _ _ 93 93 rfl rfl rfl hrun ?_)
      exact ⟨⟨j + 1, M2, rfl, rfl, hp, HF⟩, by simp [intOf]; omega⟩
    · have hdl : decide ((j : Int) < (l.length : Int)) = false := by simp; omega
      obtain rfl : j = l.length := by omega
      rw [List.take_length] at g1 g6
      have HF := Lib.hid (show MkAt M1 K wr pb (partsP l S).1 r f e m ∧ PrtsAt (hide wr (MK M1 K)) (hide wr M1) (partsP l S).2 (.slice (some ⟨w.heap.size, 0, none⟩) l.length l.length) from by
        refine ⟨g1.less, ?_⟩
        have hlen : (partsP l S).2.length = l.length := by have := (HPO.out l.length).2.2.2; rw [List.take_length] at this; exact this
        have ho : (hide wr M1).ownsRow 0 78 3 (.slice (some ⟨w.heap.size, 0, none⟩) l.length l.length) l.length xs := ownsRow_heap g5 fun k hk => by
          injection hk with hk
          subst hk
          rw [hide_get, g4]; simp
        exact PrtL.parts (g6.sub Kor_sub) hlen.symm ho)
      have HE := Lib.hid (And.intro g2 g3)
      clear g1 g2 g3 g4 g5 g6
      go_wp2
      go_ret
      exact ⟨M1, _, rfl, HE.out.1, HE.out.2, HF.out.1, HF.out.2⟩
end Go.Proofs.Ytgbljnnmhmlifaa

namespace Go.Proofs.Ytgbljnnmhmlifaa
open Go.RowKit

attribute [local irreducible] FreeW textFrame

theorem MkAt.read {M K : Nat → Bool} {W : World} {pb : Nat} {S : Mk} {r f e m : Value} (h : MkAt M K W pb S r f e m) : ∃ A c, W.cell? ⟨pb, 0, none⟩ = some (.slice A S.sets.length c) := by
  obtain ⟨vs, vf, xs, h⟩ := h
  obtain ⟨A, c, rfl, _⟩ := own_form h.own0
  exact ⟨A, c, (six h.blk).1⟩
theorem PrtsAt.one {V W : World} {p : Prt} {g : Nat} {p1 p2 : Value} (h1 : IntsV V p.first p1) (h2 : IntsV V p.ends p2) (h : BlkIs W g 78 #[p1, p2, .bool p.empty]) : PrtsAt V W [p] (.slice (some ⟨g, 0, none⟩) 1 1) :=
  ⟨_, _, rfl, ⟨by simp, by decide⟩, fun _ => ⟨g, 0, rfl, fun i hi => by
    simp only [List.length_singleton] at hi
    obtain rfl : i = 0 := by omega
    exact ⟨p1, p2, by simpa using h.cell 0, by simpa using h.cell 1, by simpa using h.cell 2, h1, h2⟩⟩⟩
theorem BlkIs.hidden {W : World} {M : Nat → Bool} {g : Nat} {t : TypeId} {cs : Array Value} (h : BlkIs W g t cs) (hm : M g = false) : BlkIs (hide W M) g t cs := by
  unfold BlkIs at *
  rw [hide_get, h, hm]; rfl

set_option maxRecDepth 20000 in
set_option maxHeartbeats 16000000 in
theorem repeated_none (mm : Nat → Bool) (A : Option Addr) (n c : Nat) (lo hi : Int) (hz : copiesI lo hi = 0) (pb : Nat) (w : World) :
    Calls Try.prog 59 #[.pointer (some ⟨pb, 0, none⟩), reV 4 mm A n c lo hi] w fun x w' => x = .returned (.slice none 0 0) ∧ Below w.heap.size w w' := by
  have hb : Below w.heap.size w (w.alloc (.cells (reL 4 mm A n c lo hi).toArray 39)) := (Below.refl _ _).alloc (Nat.le_refl _) _
  have hx := BlkIs.new w 39 (reL 4 mm A n c lo hi).toArray
  have HC := Lib.hid (fun u => copies_any 4 mm A n c lo hi u)
  rw [hz] at HC
  have HB := Lib.hid hb
  obtain ⟨d0, d1, d2, d3, d4, d5, d6, d7⟩ := hx.eight
  unfold reV reL at *
  clear hb hx hz
  go_enter Try.func59, Try.ntmps59
  go_wp2_with fail
  go_at_call 48
  refine (HC.out _).mono ?_
  rintro x u ⟨rfl, hu⟩
  have HU := Lib.hid (HB.out.trans (hu.mono HB.out.size))
  clear hu
  go_wp2
  go_ret
  exact ⟨rfl, HU.out⟩

set_option maxRecDepth 20000 in
set_option maxHeartbeats 16000000 in
theorem repeated_one (t : Tree) (IH : PartIs t) (hokt : t.okT) (M K : Nat → Bool) (S : Mk) (mm : Nat → Bool) (A : Option Addr) (c : Nat) (lo hi : Int) (hz : copiesI lo hi = 1) (pb : Nat) (r f e m : Value) (w : World) (hm : MkAt M K w pb S r f e m)
    (hat : ∃ b o, A = some ⟨b, o, none⟩ ∧ ∃ cs : List Value, Tree.At (hide w M) t (.agg cs.toArray) ∧ cs.length = 8 ∧ (hide w M).rangeAt b o cs)
    (hS : S.Ok) (hn : S.sets.length + t.plN ≤ 1048576) (hM : ∀ k, M k = true → k < w.heap.size) (hK : ∀ k, K k = true → k < w.heap.size) :
    Calls Try.prog 59 #[.pointer (some ⟨pb, 0, none⟩), reV 4 mm A 1 c lo hi] w fun x w' => ∃ M' v', x = .returned v' ∧ Nx M M' w w' ∧ (∀ k, M' k = true → k < w'.heap.size) ∧
      MkAt M' K w' pb ⟨(partP t S).1.sets, if hi = -1 then linkF (partP t S).1.follow (partP t S).2.ends (partP t S).2.first else (partP t S).1.follow⟩ r f e m ∧ PrtsAt (hide w' (MK M' K)) (hide w' M') [(partP t S).2] v' := by
  have hb : Below w.heap.size w (w.alloc (.cells (reL 4 mm A 1 c lo hi).toArray 39)) := (Below.refl _ _).alloc (Nat.le_refl _) _
  have hx := BlkIs.new w 39 (reL 4 mm A 1 c lo hi).toArray
  have HC := Lib.hid (fun u => copies_any 4 mm A 1 c lo hi u)
  rw [hz] at HC
  obtain ⟨b, o, rfl, cs, hcat, hlen, hrow⟩ := hat
  obtain ⟨A', n', c', rfl⟩ := hcat.eight
  obtain ⟨hpo, hp2, hp3⟩ := partP_ok t S hokt hS
  have HP := Lib.hid (And.intro hpo (And.intro hp2 (show (partP t S).1.sets.length ≤ 1048576 by omega)))
  have HI := Lib.hid (fun u (hu : Below w.heap.size w u) => IH M K S _ pb r f e m u (hm.step hu) (hcat.sub (below_sub _ hu)) hS hn (fun k hk => Nat.lt_of_lt_of_le (hM k hk) hu.size) (fun k hk => Nat.lt_of_lt_of_le (hK k hk) hu.size))
  have HR := Lib.hid (fun u (hu : Below w.heap.size w u) => row_eight (fun i x hi => (hu.cell (World.block_lt_of_cell? w _ (hide_less _ _ (hrow i x hi)))).trans (hide_less _ _ (hrow i x hi))) (Below.refl u.heap.size u))
  have HMR := Lib.hid (fun u (hu : Below w.heap.size w u) => (hm.step hu).read)
  have HX := Lib.hid (And.intro hb hx)
  have HK := Lib.hid hK
  have HMF := Lib.hid (show M w.heap.size = false by rw [Bool.eq_false_iff]; intro e; have := hM _ e; omega)
  obtain ⟨d0, d1, d2, d3, d4, d5, d6, d7⟩ := hx.eight
  have hc1 : 1 ≤ 1 := Nat.le_refl _
  unfold reV reL at *
  clear hb hx hz hcat hrow hlen hpo hp2 hp3 hm hS hn hM hK IH hokt hc1
  generalize partP t S = TS at *
  obtain ⟨F, hF⟩ : ∃ F, F = if hi = -1 then linkF TS.1.follow TS.2.ends TS.2.first else TS.1.follow := ⟨_, rfl⟩
  rw [← hF]
  have HF := Lib.hid hF
  clear hF
  generalize t.kind = kx at *
  generalize t.set = mx at *
  generalize t.lo = lx at *
  generalize t.hi = hxx at *
  go_enter Try.func59, Try.ntmps59
  go_wp2_with fail
  go_at_call 48
  refine (HC.out _).mono ?_
  rintro x u ⟨rfl, hu⟩
  have hbu := HX.out.1.trans (hu.mono HX.out.1.size)
  have hxu := HX.out.2.step hu
  have HU := Lib.hid (And.intro hbu hxu)
  obtain ⟨As, cs, hvs⟩ := HMR.out u hbu
  obtain ⟨r0, r1, r2, r3, r4, r5, r6, r7⟩ := HR.out u hbu
  clear d0 d1 d2 d3 d4 d5 d6 d7
  obtain ⟨d0, d1, d2, d3, d4, d5, d6, d7⟩ := hxu.eight
  have HI2 := Lib.hid (HI.out u hbu)
  clear hu hbu hxu
  go_wp2_with fail
  go_at_call 45
  refine HI2.out.mono ?_
  rintro x u1 ⟨M1, v1, rfl, hnx, hlt1, hmk, p1, p2, rfl, hp1, hp2⟩
  obtain ⟨Y1, y1, rfl, _⟩ := hp1.form
  obtain ⟨Y2, y2, rfl, _⟩ := hp2.form
  obtain ⟨U2, hU2⟩ : ∃ U2, u1.alloc (.cells #[.slice Y1 TS.2.first.length y1, .slice Y2 TS.2.ends.length y2, .bool TS.2.empty] 78) = U2 := ⟨_, rfl⟩
  obtain ⟨U3, hU3⟩ : ∃ U3, U2.alloc (.cells #[.slice Y1 TS.2.first.length y1, .slice Y2 TS.2.ends.length y2, .bool TS.2.empty] 78) = U3 := ⟨_, rfl⟩
  have hb2 : Below u1.heap.size u1 U2 := by rw [← hU2]; exact (Below.refl _ _).alloc (Nat.le_refl _) _
  have hs2 : U2.heap.size = u1.heap.size + 1 := by rw [← hU2]; simp
  have hf2 : BlkIs U2 u1.heap.size 78 #[.slice Y1 TS.2.first.length y1, .slice Y2 TS.2.ends.length y2, .bool TS.2.empty] := by rw [← hU2]; exact BlkIs.new _ _ _
  have hb3 : Below U2.heap.size U2 U3 := by rw [← hU3]; exact (Below.refl _ _).alloc (Nat.le_refl _) _
  have hf3 : BlkIs U3 U2.heap.size 78 #[.slice Y1 TS.2.first.length y1, .slice Y2 TS.2.ends.length y2, .bool TS.2.empty] := by rw [← hU3]; exact BlkIs.new _ _ _
  have hb23 : Below u1.heap.size u1 U3 := hb2.trans (hb3.mono hb2.size)
  have hx3 : BlkIs U3 w.heap.size 39 _ := ((HU.out.2.nx hnx HMF.out).step hb2).step hb3
  have hmu : M1 U2.heap.size = false := by rw [Bool.eq_false_iff]; intro e; have := hlt1 _ e; omega
  rw [hs2] at hf3 hmu
  have hn3 : Nx M M1 w U3 := (Nx.below HU.out.1).trans (hnx.trans (Nx.below hb23))
  obtain ⟨Bs, bs, hvs2⟩ := (hmk.step hb2).read
  obtain ⟨f0, f1, f2, _, _, _⟩ := three hf2
  have H3 := Lib.hid (And.intro hn3 (And.intro (hmk.step hb23) (And.intro (hp1.sub (below_sub _ hb23)) (And.intro (hp2.sub (below_sub _ hb23)) (And.intro hf3 hmu)))))
  have HL1 := Lib.hid (fun k hk => Nat.lt_of_lt_of_le (hlt1 k hk) hb23.size)
  have HX3 := Lib.hid hx3
  clear d0 d1 d2 d3 d4 d5 d6 d7 r0 r1 r2 r3 r4 r5 r6 r7 hvs hnx hlt1 hmk hp1 hp2 hb2 hb3 hb23 hf2 hx3 hn3 hmu
  go_wp2
  obtain ⟨U3', hU3'⟩ : ∃ u, u = U3 := ⟨_, rfl⟩
  go_loopw [9] (fun s wr => s = .slice (some ⟨u1.heap.size + 1, 0, none⟩) 1 1 ∧ Hid (wr = U3)) (fun _ _ => 0)
  case atStart => exact ⟨rfl, Lib.hid rfl⟩
  case round =>
    obtain ⟨rfl, HH⟩ := hrel
    obtain rfl := HH.out
    clear HH
    obtain ⟨d0, d1, d2, d3, d4, d5, d6, d7⟩ := HX3.out.eight
    obtain ⟨f0, f1, f2, _, _, _⟩ := three H3.out.2.2.2.2.1
    by_cases hh : hi = -1
    · have e1 : (hi == -1) = true := by simp [hh]
      have HFF := Lib.hid (show F = linkF TS.1.follow TS.2.ends TS.2.first by rw [HF.out, if_pos hh])
      clear hh
      obtain ⟨U4, hU4⟩ : ∃ U4, wr.alloc (.cells #[.slice Y1 TS.2.first.length y1, .slice Y2 TS.2.ends.length y2, .bool TS.2.empty] 78) = U4 := ⟨_, rfl⟩
      have hb4 : Below wr.heap.size wr U4 := by rw [← hU4]; exact (Below.refl _ _).alloc (Nat.le_refl _) _
      have hf4 : BlkIs U4 wr.heap.size 78 #[.slice Y1 TS.2.first.length y1, .slice Y2 TS.2.ends.length y2, .bool TS.2.empty] := by rw [← hU4]; exact BlkIs.new _ _ _
      obtain ⟨g0, g1, g2, _, _, _⟩ := three hf4
      have HLK := Lib.hid (link_any M1 K TS.1 TS.2.ends TS.2.first _ _ pb r f e m U4 (H3.out.2.1.step hb4) (H3.out.2.2.2.1.sub (below_sub _ hb4)) (H3.out.2.2.1.sub (below_sub _ hb4)) HP.out.1 HP.out.2.1.2 HP.out.2.1.1 HP.out.2.2
        (fun k hk => Nat.lt_of_lt_of_le (HL1.out k hk) hb4.size) (fun k hk => by have := HK.out k hk; have := H3.out.1.size; have := hb4.size; omega))
      have H4 := Lib.hid (And.intro hb4 (H3.out.2.2.2.2.1.step hb4))
      clear hb4 hf4
      go_wp2_with fail
      go_at_call 66
      refine HLK.out.mono ?_
      rintro x u5 ⟨y, rfl, hnx5, hmk5⟩
      have HN5 := Lib.hid hnx5
      have HK5 := Lib.hid hmk5
      clear hnx5 hmk5
      go_wp2
      go_ret
      have hns := (Nx.below H4.out.1 (M := M1)).trans HN5.out
      have hfe := H4.out.2.nx HN5.out H3.out.2.2.2.2.2
      exact ⟨M1, _, rfl, H3.out.1.trans hns, fun k hk => Nat.lt_of_lt_of_le (HL1.out k hk) hns.size, by rw [HFF.out]; exact HK5.out, PrtsAt.one (H3.out.2.2.1.sub (hns.sub K)) (H3.out.2.2.2.1.sub (hns.sub K)) (hfe.hidden H3.out.2.2.2.2.2)⟩
    · have e1 : (hi == -1) = false := by simp [hh]
      have HFF := Lib.hid (show F = TS.1.follow by rw [HF.out, if_neg hh])
      clear hh
      go_wp2
      go_ret
      exact ⟨M1, _, rfl, H3.out.1, HL1.out, by rw [HFF.out]; exact H3.out.2.1, PrtsAt.one H3.out.2.2.1 H3.out.2.2.2.1 (H3.out.2.2.2.2.1.hidden H3.out.2.2.2.2.2)⟩
end Go.Proofs.Ytgbljnnmhmlifaa

