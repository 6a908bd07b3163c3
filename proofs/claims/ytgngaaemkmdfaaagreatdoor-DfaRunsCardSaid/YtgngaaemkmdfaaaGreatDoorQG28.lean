/-
 WHAT nfa's merged ANSWERS: a contract. Condition: both rows together have at most 2^30 numbers.
-/
import Derived.Laws.Bits64b
import Derived.Test.YtgngaaemkmdfaaaGreatDoorQG27
import Derived.Test.YtgngaaemkmdfaaaGreatDoorQG22
import Derived.Test.YtgngaaemkmdfaaaGreatDoorQG12
namespace Go.Proofs.YtgngaaemkmdfaaaGreatDoor
section
open Go.RowKit

attribute [local irreducible] FreeW

theorem xzwt (n : Nat) (h : n ≤ 1099511627776) (w : World) : (Instr.makeSlice 26 (.int .i64 0) (.int .i64 (n : Nat))).run Tryz.prog w = .ok (.slice (some ⟨w.heap.size, 0, none⟩) 0 n) (w.alloc (.cells (madeCells #[.int .i64 0] n) 3)) := by
 obtain ⟨i0, hi0, hz0, hz1, hz2⟩ := info_parts xzcy; have hr := run_make (P := Tryz.prog) w 26 3 i0 (.int .i64 0) Tryz.underlying26 hi0 hz0 .i64 .i64 0 n (by omega) (by omega) (by rw [hz2]; omega) (by omega); simp only [hz1, Int.toNat_natCast, Nat.mul_one] at hr; exact hr
theorem RowI.room (B : Nat) (w : World) (n : Nat) (hB : B ≤ w.heap.size) (hn : n ≤ 1099511627776) : RowI B (w.alloc (.cells (madeCells #[.int .i64 0] n) 3)) (.slice (some ⟨w.heap.size, 0, none⟩) 0 n) [] :=
 World.ownsRow_made w _ n hB (by unfold maxLen; omega) (by rw [xzfh]; omega)
theorem RowI.pushes {B : Nat} {W : World} {v : Value} {l : List Int} (h : RowI B W v l) (hB : B ≤ W.heap.size) {b : List Int} {g o c : Nat} (hb : RunAt W b g o c) (hl : l.length + b.length ≤ 1099511627776) :
   ∃ v' W', (Builtin.append_ #[26, 26] 26 #[v, .slice (some ⟨g, o, none⟩) b.length c]).run Tryz.prog W = .ok v' W' ∧ RowI B W' v' (l ++ b) ∧ W.grownBy W' v.ownBlock := by
 obtain ⟨i0, hi0, hz0, hz1, hz2⟩ := info_parts xzcy
 obtain ⟨v', W', hr, hown, hgr, _, _⟩ := run_append_own_at (P := Tryz.prog) (w := W) B 26 26 3 i0 (.int .i64 0) 1 8 Tryz.underlying26 hi0 hz0 hz1 hz2 rfl (by decide) v l.length _ h
   ⟨g, o, none⟩ b.length c (b.map (Value.int .i64)) (by simp) (fun j u hu => by
     rw [List.getElem?_map] at hu
     cases e : b[j]? with
     | none => rw [e] at hu; cases hu
     | some x =>
       rw [e] at hu; obtain ⟨hj, rfl⟩ := List.getElem?_eq_some_iff.1 e; rw [Addr.add_lit]
       exact (hb.2 j hj).trans hu) (xzws b) (by unfold maxLen; omega) (by omega) hB
 refine ⟨v', W', hr, ?_, hgr⟩; unfold RowI; rw [List.map_append, List.length_append]; exact hown
theorem xzpu {W : World} {a b : List Int} {g o g' o' c' : Nat} (ha : RunAt W a g o a.length) (hb : RunAt W b g' o' c') (hne : b ≠ []) (hl : a.length + b.length ≤ 1099511627776) :
   ∃ v' W', (Builtin.append_ #[26, 26] 26 #[.slice (some ⟨g, o, none⟩) a.length a.length, .slice (some ⟨g', o', none⟩) b.length c']).run Tryz.prog W = .ok v' W' ∧ RowI W.heap.size W' v' (a ++ b) ∧ Below W.heap.size W W' := by
 obtain ⟨i0, hi0, hz0, hz1, hz2⟩ := info_parts xzcy; have hlb := List.length_pos_iff.2 hne
 have hcl : ∀ (l : List Int) (p q c : Nat), RunAt W l p q c → ∀ j u, (l.map (Value.int .i64))[j]? = some u → W.cell? ((⟨p, q, none⟩ : Addr).add j) = some u := fun l p q c h j u hu => by
   rw [List.getElem?_map] at hu
   cases e : l[j]? with
   | none => rw [e] at hu; cases hu
   | some x =>
     rw [e] at hu; obtain ⟨hj, rfl⟩ := List.getElem?_eq_some_iff.1 e; rw [Addr.add_lit]; exact (h.2 j hj).trans hu
 have hr := run_append_grow (P := Tryz.prog) W 26 26 3 i0 (.int .i64 0) Tryz.underlying26 hi0 hz0 ⟨g, o, none⟩ a.length a.length (a.map (Value.int .i64)) (by simp [hz1]) (hcl a g o _ ha) ⟨g', o', none⟩ b.length c' (b.map (Value.int .i64)) (by simp [hz1]) (hcl b g' o' _ hb) (by omega) (by omega)
   (growslice_fits (by omega) (by rw [hz2]; omega))
 have hge := grownCap_ge W (a.length + b.length) a.length 3; have hcm := grownCap_le_maxLen W (a.length + b.length) a.length 3 (by unfold maxLen; omega); refine ⟨_, _, hr, ⟨by simp, .inr ⟨W.heap.size, _, _, by rw [List.length_append], Nat.le_refl _, heap_alloc_new W.drew _, ?_, hcm, ?_, ?_⟩⟩, ((Below.refl _ W).drew).alloc (Nat.le_refl _) _⟩
 · rw [List.length_append]; exact hge
 · simp only [Array.size_append, List.size_toArray, List.length_map, size_zeroCells]
   rw [show (Value.int IntKind.i64 0).cells.size = 1 from rfl]; omega
 · simp only [Array.toList_append, List.append_assoc]
   rw [← List.append_assoc, List.map_append, List.length_append, Nat.mul_one]; rw [List.take_left' (by simp)]

theorem xzpv {n : Nat} {x y : Int} {a b : List Int} (h : (x :: a).length + (y :: b).length ≤ n) : ∃ n', mergeN n (x :: a) (y :: b) = (if y < x then y else x) :: mergeN n' (behindL (if y < x then y else x) (x :: a)) (behindL (if y < x then y else x) (y :: b)) ∧
   (behindL (if y < x then y else x) (x :: a)).length + (behindL (if y < x then y else x) (y :: b)).length ≤ n' ∧ (behindL (if y < x then y else x) (x :: a)).length + (behindL (if y < x then y else x) (y :: b)).length < (x :: a).length + (y :: b).length := by
 obtain ⟨m, rfl⟩ : ∃ m, n = m + 1 := ⟨n - 1, by simp only [List.length_cons] at h; omega⟩; refine ⟨m, ?_⟩; simp only [List.length_cons] at h
 rcases Int.lt_trichotomy x y with h1 | h1 | h1
 · have e1 : ¬ y < x := by omega
   have e2 : ¬ y = x := by omega
   simp [mergeN, behindL, h1, e1, e2]; omega
 · subst h1
   simp [mergeN, behindL]; omega
 · have e1 : ¬ x < y := by omega
   have e2 : ¬ x = y := by omega
   simp [mergeN, behindL, h1, e1, e2]; omega
theorem xzib {w W : World} {K : Nat → Bool} {l : List Int} {g o c : Nat} (h : RunAt (hide w K) l g o c) (hb : Below w.heap.size w W) : RunAt W l g o c :=
 (h.sub xzba).sub fun p _ hu => (hb.cell (World.block_lt_of_cell? w p hu)).trans hu
theorem xzbc {B : Nat} {a w : World} (h : Below B a w) (m : Nat) : Below B a (w.drewN m) := ⟨h.os, h.tape, h.output, h.size, h.block⟩
theorem yzau {a : List Int} (_ : a ≠ []) : ∀ (hh : a.length - 1 < a.length), a[a.length - 1] = a.getLastD 0 := by
 intro hh; rw [List.getLastD_eq_getLast?, List.getLast?_eq_getElem?]
 simp [hh]

set_option maxRecDepth 20000 in
set_option maxHeartbeats 8000000 in
theorem xzcf (a b : List Int) (va vb : Value) (w : World) (K : Nat → Bool) (hK : ∀ k, K k = true → k < w.heap.size) (ha : IntsV (hide w K) a va) (hb : IntsV (hide w K) b vb) (hn : a.length + b.length ≤ 1073741824) :
   Calls Tryz.prog 82 #[va, vb] w fun e w' => ∃ v', e = .returned v' ∧ IntsV (hide w' K) (mergedL a b) v' ∧ Below w.heap.size w w' := by
 by_cases hae : a = []
 · subst hae
   obtain ⟨A, c, rfl, _, _⟩ := ha; have HF := Lib.hid (show IntsV (hide w K) (mergedL [] b) vb by simp only [mergedL, if_pos]; exact hb); clear hb
   go_enter Tryz.func82, Tryz.ntmps82
   go_wp2; go_ret; exact ⟨_, rfl, HF.out, Below.refl _ _⟩
 · have hla := List.length_pos_iff.2 hae
   obtain ⟨g1, o1, c1, rfl, hra⟩ := ha.run hae
   have za : ((a.length : Int) == 0) = false := by simp; omega
   by_cases hbe : b = []
   · subst hbe
     obtain ⟨A, c, rfl, _, _⟩ := hb; have HF := Lib.hid (show IntsV (hide w K) (mergedL a []) (.slice (some ⟨g1, o1, none⟩) a.length c1) by unfold mergedL; rw [if_neg hae, if_pos rfl]; exact ha); clear ha hra
     go_enter Tryz.func82, Tryz.ntmps82
     go_wp2; go_ret; exact ⟨_, rfl, HF.out, Below.refl _ _⟩
   · have hlb := List.length_pos_iff.2 hbe
     obtain ⟨g2, o2, c2, rfl, hrb⟩ := hb.run hbe
     have zb : ((b.length : Int) == 0) = false := by simp; omega
     have hk1 : IntKind.i64.wrap ((a.length : Int) - 1) = ((a.length - 1 : Nat) : Int) := by rw [IntKind.wrap_i64]; omega
     have hi1 : ((a.length - 1 : Nat) : Int) < (a.length : Int) := by omega
     have hi2 : (0 : Int) < (b.length : Int) := by omega
     have hca := xzba _ _ (hra.2 (a.length - 1) (by omega)); rw [yzau hae] at hca; have hcb := xzba _ _ (hrb.2 0 hlb)
     have hbh : b[0] = b.headD 0 := by cases b with | nil => exact absurd rfl hbe | cons y b => rfl
     rw [hbh, Nat.add_zero] at hcb; have hcap := hra.1
     by_cases hlt : a.getLastD 0 < b.headD 0
     · have HF := Lib.hid (show mergedL a b = a ++ b by unfold mergedL; rw [if_neg hae, if_neg hbe, if_pos hlt])
       have hd1 : decide (a.getLastD 0 < b.headD 0) = true := by simpa using hlt
       have HRA := Lib.hid hra; have HRB := Lib.hid hrb; have HBE := Lib.hid hbe; have HK := Lib.hid hK; clear ha hb hra hrb hbh hlt hae hbe hK; generalize a.getLastD 0 = x at *; generalize b.headD 0 = y at *
       go_enter Tryz.func82, Tryz.ntmps82
       go_wp2
       go_quiet (fail)
       have hbd : Below w.heap.size w (w.drewN nq) := xzbc (Below.refl _ _) nq; obtain ⟨v', W', hrun, hri, hbw⟩ := xzpu (W := w.drewN nq) (xzib ⟨⟨Nat.le_refl _, by omega⟩, HRA.out.2⟩ hbd) (xzib HRB.out hbd) HBE.out (by omega); have HU := Lib.hid (And.intro hri hbw); clear hri hbw
       go_wp2_with (refine xzaj rfl _ _ 26 26 rfl rfl rfl hrun ?_)
       go_ret
       exact ⟨_, rfl, by rw [HF.out]; exact HU.out.1.show (fun k hk => by
         rw [Bool.eq_false_iff]; intro e; have := HK.out k e; have : w.heap.size ≤ k := hk; omega), hbd.trans HU.out.2⟩
     · have hd1 : decide (a.getLastD 0 < b.headD 0) = false := by simpa using hlt
       have HF := Lib.hid (show mergedL a b = mergeN (a.length + b.length) a b by unfold mergedL; rw [if_neg hae, if_neg hbe, if_neg hlt]); rw [HF.out]; obtain ⟨R, hR⟩ : ∃ R, R = mergeN (a.length + b.length) a b := ⟨_, rfl⟩; rw [← hR]
       have hk0 : IntKind.i64.wrap ((a.length : Int) + (b.length : Int)) = ((a.length + b.length : Nat) : Int) := by rw [IntKind.wrap_i64]; omega
       have hmk := fun u => xzwt (a.length + b.length) (by omega) u
       simp only [Int.natCast_add] at hmk; have H0 := Lib.hid (show (RunAt (hide w K) a g1 o1 c1 ∧ RunAt (hide w K) b g2 o2 c2) ∧ (∃ n, a.length + b.length ≤ n ∧ R = [] ++ mergeN n a b) from ⟨⟨hra, hrb⟩, _, Nat.le_refl _, by simpa using hR⟩); have HK := Lib.hid hK; have HRO := Lib.hid (fun u (h : w.heap.size ≤ u.heap.size) => RowI.room w.heap.size u (a.length + b.length) h (by omega)); clear ha hb hra hrb hbh hlt hae hbe hK hR HF; generalize a.getLastD 0 = x at *; generalize b.headD 0 = y at *
       go_enter Tryz.func82, Tryz.ntmps82
       go_wp2
       go_quiet (fail)
       go_wp2; have HW := Lib.hid (And.intro (HRO.out (w.drewN nq) (Nat.le_refl _)) ((xzbc (Below.refl w.heap.size w) nq).alloc (Nat.le_refl _) (.cells (madeCells #[Value.int .i64 0] (a.length + b.length)) 3))); clear hca hcb HRO hmk
       go_loopw [0, 1, 5] (fun s0 s1 s5 wr => ∃ (a' b' l : List Int) (p1 q1 d1 p2 q2 d2 : Nat), s0 = .slice (some ⟨p1, q1, none⟩) a'.length d1 ∧ s1 = .slice (some ⟨p2, q2, none⟩) b'.length d2 ∧ l.length + (a'.length + b'.length) ≤ a.length + b.length ∧
         Hid ((RowI w.heap.size wr s5 l ∧ Below w.heap.size w wr) ∧ (RunAt (hide w K) a' p1 q1 d1 ∧ RunAt (hide w K) b' p2 q2 d2) ∧ ∃ n, a'.length + b'.length ≤ n ∧ R = l ++ mergeN n a' b')) (fun s0 s1 _ _ => lenV s0 + lenV s1)
       case atStart => exact ⟨a, b, [], g1, o1, c1, g2, o2, c2, rfl, rfl, by simp, Lib.hid ⟨HW.out, H0.out⟩⟩
       case round =>
         obtain ⟨a', b', l, p1, q1, d1, p2, q2, d2, rfl, rfl, hlen, HH⟩ := hrel; clear hcap hi1 hi2 hk1 hk0 za zb hd1 hla hlb HW H0
         cases a' with
         | nil =>
           have HR := Lib.hid (show R = l ++ [] ++ b' by
             obtain ⟨n, hn', hR⟩ := HH.out.2.2
             rw [hR, xztb]; simp)
           obtain ⟨v1, W1, hrun1, hri1, hgr1⟩ := HH.out.1.1.pushes HH.out.1.2.size (xzib HH.out.2.1.1 HH.out.1.2) (by simp only [List.length_nil] at hlen ⊢; omega)
           have hb1 : Below w.heap.size w W1 := HH.out.1.2.grown hgr1 HH.out.1.2.size fun k hk => (World.ownsRow.lt HH.out.1.1 k hk).1
           obtain ⟨v2, W2, hrun2, hri2, hgr2⟩ := hri1.pushes hb1.size (xzib HH.out.2.1.2 hb1) (by simp only [List.length_nil, List.length_append] at hlen ⊢; omega)
           have hb2 : Below w.heap.size w W2 := hb1.grown hgr2 hb1.size fun k hk => (World.ownsRow.lt hri1 k hk).1
           have HV := Lib.hid (And.intro hri2 hb2); clear hri1 hgr1 hri2 hgr2 hb1 hb2; simp only [List.length_nil] at hrun1 hrun2 hlen ⊢
           go_wp2_with (first | (refine xzaj rfl _ _ 26 26 rfl rfl rfl hrun1 ?_) | (refine xzaj rfl _ _ 26 26 rfl rfl rfl hrun2 ?_))
           go_ret
           exact ⟨_, rfl, by rw [HR.out]; exact HV.out.1.show (fun k hk => by
             rw [Bool.eq_false_iff]; intro e; have := HK.out k e; omega), HV.out.2⟩
         | cons x a' =>
           cases b' with
           | nil =>
             have HR := Lib.hid (show R = l ++ (x :: a') ++ [] by
               obtain ⟨n, hn', hR⟩ := HH.out.2.2
               rw [hR, xzpt]; simp)
             obtain ⟨v1, W1, hrun1, hri1, hgr1⟩ := HH.out.1.1.pushes HH.out.1.2.size (xzib HH.out.2.1.1 HH.out.1.2) (by simp only [List.length_cons, List.length_nil] at hlen ⊢; omega)
             have hb1 : Below w.heap.size w W1 := HH.out.1.2.grown hgr1 HH.out.1.2.size fun k hk => (World.ownsRow.lt HH.out.1.1 k hk).1
             obtain ⟨v2, W2, hrun2, hri2, hgr2⟩ := hri1.pushes hb1.size (xzib HH.out.2.1.2 hb1) (by simp only [List.length_cons, List.length_nil, List.length_append] at hlen ⊢; omega)
             have hb2 : Below w.heap.size w W2 := hb1.grown hgr2 hb1.size fun k hk => (World.ownsRow.lt hri1 k hk).1
             have HV := Lib.hid (And.intro hri2 hb2); clear hri1 hgr1 hri2 hgr2 hb1 hb2; simp only [List.length_cons, List.length_nil] at hrun1 hrun2 hlen ⊢
             have g1 : decide (((a'.length + 1 : Nat) : Int) > 0) = true := by simp
             go_wp2_with (first | (refine xzaj rfl _ _ 26 26 rfl rfl rfl hrun1 ?_) | (refine xzaj rfl _ _ 26 26 rfl rfl rfl hrun2 ?_))
             go_ret
             exact ⟨_, rfl, by rw [HR.out]; exact HV.out.1.show (fun k hk => by
               rw [Bool.eq_false_iff]; intro e; have := HK.out k e; omega), HV.out.2⟩
           | cons y b' =>
             have HCELL := Lib.hid (fun u (hu : Below wr.heap.size wr u) => And.intro (((HH.out.1.2.trans (hu.mono HH.out.1.2.size)).cell (World.block_lt_of_cell? w _ (xzba _ _ (HH.out.2.1.1.2 0 (by simp))))).trans (xzba _ _ (HH.out.2.1.1.2 0 (by simp))))
               (((HH.out.1.2.trans (hu.mono HH.out.1.2.size)).cell (World.block_lt_of_cell? w _ (xzba _ _ (HH.out.2.1.2.2 0 (by simp))))).trans (xzba _ _ (HH.out.2.1.2.2 0 (by simp)))))
             obtain ⟨n, hn', hR⟩ := HH.out.2.2; obtain ⟨n2, hm1, hm2, hm3⟩ := xzpv hn'; rw [hm1] at hR; have hca := HH.out.2.1.1.1; have hcb := HH.out.2.1.2.1; have HB1 := Lib.hid (fun u => xzkx x a' p1 q1 d1 (if y < x then y else x) u (hide w K) HH.out.2.1.1); have HB2 := Lib.hid (fun u => xzkx y b' p2 q2 d2 (if y < x then y else x) u (hide w K) HH.out.2.1.2); have HS := Lib.hid (And.intro (And.intro HH.out.2.1.1 HH.out.2.1.2) hR); simp only [List.length_cons, List.getElem_cons_zero, Nat.add_zero] at HCELL hca hcb hm3 hlen; simp only [List.length_cons]; clear hn' hR hm1
             have g1 : decide (((a'.length + 1 : Nat) : Int) > 0) = true := by simp
             have g2 : decide (((b'.length + 1 : Nat) : Int) > 0) = true := by simp
             obtain ⟨p, hp⟩ : ∃ p, p = (if y < x then y else x) := ⟨_, rfl⟩; rw [← hp] at HB1 HB2 HS hm2 hm3; have hp2 := hp.symm; clear hp
             go_wp2_with fail
             refine xzcl 72 (fun u => Hid (Below wr.heap.size wr u)) (by kernel_rfl) (by kernel_rfl) rfl (Lib.hid (Below.refl _ _).drew) (fun u u' h hb => Lib.hid (h.out.trans (hb.mono h.out.size))) ?_
             repeat
               refine xzfv fun K hK => ?_
               (first
                 | skip)
               go_simp
               apply Exists.intro
               refine ⟨fun u h1 => ?_, hK _ ?_⟩
               · obtain ⟨y0, y1⟩ := HCELL.out u h1.out
                 unfold freeAt; go_simp
                 first
                   | exact xzli
                   | (apply xzil
                      first
                        | fail
                      )
               clear hK K
             refine xzim ?_; intro u hC hb2; have hwu := hC.out; have HB0 := Lib.hid (HH.out.1.2.trans (hwu.mono HH.out.1.2.size)); have HL := Lib.hid (HH.out.1.1.step hwu); obtain ⟨v', W', hrun, hri, hgr⟩ := HL.out.push HB0.out.size p (by omega); have HV := Lib.hid (And.intro hri (HB0.out.trans hgr)); clear hC hb2 hri hgr hwu
             go_wp2_with (refine xzaj rfl _ _ 26 26 rfl rfl rfl hrun ?_)
             have hsb : Sub (hide w K) W' := fun p _ hu => (HV.out.2.cell (World.block_lt_of_cell? w p (xzba _ _ hu))).trans (xzba _ _ hu)
             refine (HB1.out W' hsb).mono ?_; rintro e u1 ⟨pa, qa, da, rfl, hra, rfl⟩; have HRA := Lib.hid hra; clear hra
             go_wp2_with fail
             go_at_call 97
             refine (HB2.out _ hsb).mono ?_; rintro e u1 ⟨pb, qb, db, rfl, hrb, rfl⟩; have HRB := Lib.hid hrb; have HSB := Lib.hid hm2; clear hrb hm2; generalize behindL p (x :: a') = aa at *; generalize behindL p (y :: b') = bb at *; go_wp2; refine ⟨⟨aa, bb, l ++ [p], pa, qa, da, pb, qb, db, rfl, rfl, ?_, Lib.hid ⟨HV.out, ⟨HRA.out, HRB.out⟩, n2, HSB.out, by rw [HS.out.2]; simp⟩⟩, ?_⟩
             · rw [List.length_append, List.length_singleton]; omega
             · simp only [lenV]; omega
end

section
open Go.RowKit

attribute [local irreducible] FreeW

theorem and_low (n : Nat) (h : n ≤ 1048576) : bits .and .u64 (n : Int) 4294967295 = (n : Int) := by
 have h1 := bits_and_u64_nat n 4294967295 (by omega) (by omega)
 have e : n &&& 4294967295 = n := by
   have : n &&& 4294967295 = n % 4294967296 := Nat.and_two_pow_sub_one_eq_mod n 32; omega
 rw [e] at h1; exact h1
set_option maxRecDepth 20000 in
set_option maxHeartbeats 4000000 in
theorem xzwu (n : Nat) (h : n ≤ 1048576) (w : World) : Calls Tryz.prog 79 #[.int .u64 1, .int .u64 (n : Nat)] w fun e w' => e = .returned (.tuple #[.int .u64 0, .int .u64 (n : Nat)]) ∧ w' = w := by
 have e1 := and_low n h
 have e2 : (n : Int) / 4294967296 = 0 := by omega
 have e3 : IntKind.u64.wrap (n : Int) = (n : Int) := by rw [IntKind.wrap_u64]; omega
 have e4 : bits .and .u64 1 4294967295 = 1 := by decide +kernel
 have e5 : bits .and .u64 0 4294967295 = 0 := by decide +kernel
 have e6 : IntKind.u64.wrap 0 = 0 := by decide +kernel
 go_enter Tryz.func79, Tryz.ntmps79
 go_wp2
 go_ret2
 exact ⟨rfl, rfl⟩
theorem mul_one (n : Nat) (h : n ≤ 1048576) (w : World) : Calls Tryz.prog 58 #[.int .u64 1, .int .u64 (n : Nat)] w fun e w' => e = .returned (.tuple #[.int .u64 0, .int .u64 (n : Nat)]) ∧ w' = w := by
 have e3 : IntKind.u64.wrap (n : Int) = (n : Int) := by rw [IntKind.wrap_u64]; omega
 have e6 : IntKind.u64.wrap 0 = 0 := by decide +kernel
 have HM := Lib.hid (xzwu n h w)
 go_enter Tryz.func58, Tryz.ntmps58
 go_wp2_with (go_at_call 79; refine HM.out.mono ?_; rintro e u ⟨rfl, hu⟩; obtain rfl := hu)
 go_ret2
 exact ⟨rfl, rfl⟩
theorem nil_eq (w : World) : (binOp BinOp.eql 26 (.slice none 0 0) (.slice none 0 0)).run Tryz.prog w = .ok (.bool true) w := by kernel_rfl
theorem nil_ne (w : World) (a : Addr) (n c : Nat) : (binOp BinOp.eql 26 (.slice (some a) n c) (.slice none 0 0)).run Tryz.prog w = .ok (.bool false) w := by kernel_rfl
set_option maxRecDepth 20000 in
set_option maxHeartbeats 4000000 in
theorem xztf (l : List Int) (v : Value) (w : World) (h : IntsV w l v) (hnil : l = [] → v = .slice none 0 0) (hl : l.length ≤ 1048576) :
   Calls Tryz.prog 59 #[v] w fun e w' => ∃ v', e = .returned v' ∧ RowI w.heap.size w' v' l ∧ Below w.heap.size w w' := by
 by_cases hne : l = []
 · obtain rfl := hnil hne
   subst hne; clear hnil h; have hq := nil_eq w
   go_enter Tryz.func59, Tryz.ntmps59
   go_wp2; go_ret; exact ⟨_, rfl, RowI.nil _ _, Below.refl _ _⟩
 · obtain ⟨b, o, c, rfl, hr⟩ := h.run hne
   obtain ⟨U, hU⟩ : ∃ U, w.alloc (.cells #[] 3) = U := ⟨_, rfl⟩
   have hsz : U.heap.size = w.heap.size + 1 := by rw [← hU]; simp
   have hb1 : Below w.heap.size w U := by rw [← hU]; exact (Below.refl _ _).alloc (Nat.le_refl _) _
   have hlt : b < w.heap.size := World.block_lt_of_cell? w ⟨b, o + 0, none⟩ (hr.2 0 (List.length_pos_iff.2 hne)); have hr' : RunAt U l b o c := ⟨hr.1, fun i hi => (hb1.cell (p := ⟨b, o + i, none⟩) hlt).trans (hr.2 i hi)⟩
   have h0 : RowI w.heap.size U (.slice (some ⟨w.heap.size, 0, none⟩) 0 0) [] := by
     rw [← hU]; exact ⟨rfl, .inr ⟨w.heap.size, 0, #[], rfl, Nat.le_refl _, BlkIs.new w _ _, Nat.le_refl _, by unfold maxLen; decide, rfl, rfl⟩⟩
   obtain ⟨v', W', hrun, hrow, hgr⟩ := h0.pushes (by omega) hr' (by simp; omega); have HN := Lib.hid (show RowI w.heap.size W' v' l ∧ Below w.heap.size w W' from ⟨hrow, hb1.grown hgr (by omega) (fun k hk => by injection hk with hk; rw [← hk]; exact Nat.le_refl _)⟩); clear hr hr' h0 hrow hgr hnil; have hq := nil_ne w ⟨b, o, none⟩ l.length c
   go_enter Tryz.func59, Tryz.ntmps59
   go_wp2_with (refine xzaj rfl _ _ 26 26 rfl rfl rfl hrun ?_)
   go_ret; exact ⟨_, rfl, HN.out⟩
theorem xztg (k m : Nat) : (fun i => if k ≤ i ∧ i < k + m then (Value.int .i64 (-1)) else noneF k i) = noneF (k + m) := by
 funext i
 unfold noneF
 by_cases h : k ≤ i ∧ i < k + m
 · rw [if_pos h, if_pos h.2]
 · rw [if_neg h]
   by_cases h2 : i < k
   · rw [if_pos h2, if_pos (by omega)]
   · rw [if_neg h2, if_neg (by omega)]
theorem xzky {W : World} {g n k : Nat} (h : BlkF W g 3 n (noneF k)) {b o dl dc sl sc m : Nat} (hm : m = Nat.min sl dl) (hkm : k + m ≤ n) (hsrc : ∀ j, j < m → W.cell? ⟨b, o + j, none⟩ = some (.int .i64 (-1))) :
   (Builtin.copy_ #[26, 26] 3 #[.slice (some ⟨g, k, none⟩) dl dc, .slice (some ⟨b, o, none⟩) sl sc]).run Tryz.prog W = .ok (goInt m) (W.setCells g k (List.replicate m (.int .i64 (-1)))) ∧ BlkF (W.setCells g k (List.replicate m (.int .i64 (-1)))) g 3 n (noneF (k + m)) := by
 refine ⟨?_, ?_⟩
 · have := run_copy_cells (P := Tryz.prog) W 26 26 3 3 g k dl dc ⟨b, o, none⟩ sl sc (List.replicate m (.int .i64 (-1))) Tryz.underlying26 (by kernel_rfl) (by simpa using hm) (fun j v hv => by
     rw [List.getElem?_replicate] at hv
     split at hv
     · injection hv with hv; subst hv; rw [Addr.add_lit]; exact hsrc j (by assumption)
     · cases hv) (fun j hj => by rw [BlkF.cell h (by simp at hj; omega)]; rfl) (fun j _ => BlkIs.frozen h _) (fun v hv => by rw [List.eq_of_mem_replicate hv]; rfl)
   rw [List.length_replicate] at this; exact this
 · have := BlkF.puts (z := .int .i64 (-1)) m k W (noneF k) h
   rw [xztg] at this; exact this
set_option maxRecDepth 20000 in
set_option maxHeartbeats 8000000 in
theorem xzpw (n : Nat) (h : n ≤ 1048576) (b : Nat) (w : World) (hx : w.cell? ⟨b, 0, none⟩ = some (.int .i64 (-1))) : Calls Tryz.prog 40 #[.slice (some ⟨b, 0, none⟩) 1 1, .int .i64 (n : Nat)] w fun e w' =>
   e = .returned (.slice (some ⟨w.heap.size, 0, none⟩) n n) ∧ BlkF w' w.heap.size 3 n (noneF n) ∧ Below w.heap.size w w' := by
 obtain ⟨W1, hW1⟩ : ∃ W1, (w.alloc (.cells (cellsN n fun _ => .int .i64 0) 3)) = W1 := ⟨_, rfl⟩
 have hb1 : Below w.heap.size w W1 := by rw [← hW1]; exact (Below.refl _ _).alloc (Nat.le_refl _) _
 have hx1 : BlkF W1 w.heap.size 3 n (noneF 0) := by rw [← hW1, ← xzjx]; exact BlkIs.new w _ _
 have hmk := xzgl n (by omega) w; rw [hW1] at hmk; have hlt : b < w.heap.size := World.block_lt_of_cell? w ⟨b, 0, none⟩ hx; have hxc := (hb1.cell (p := ⟨b, 0, none⟩) hlt).trans hx; have HMU := Lib.hid (mul_one n h w)
 have e1 : decide ((n : Int) < 0) = false := by simp
 have e3 : IntKind.u64.wrap (n : Int) = (n : Int) := by rw [IntKind.wrap_u64]; omega
 have e4 : IntKind.i64.wrap (n : Int) = (n : Int) := by rw [IntKind.wrap_i64]; omega
 have e5 : decide ((n : Int) > 9223372036854775807) = false := by simp; omega
 have e6 : decide ((9223372036854775807 : Int) < (n : Int)) = false := by simp; omega
 obtain ⟨m0, hm0⟩ : ∃ m0, m0 = Nat.min 1 n := ⟨_, rfl⟩
 have hm0' : m0 ≤ n ∧ (n = 0 ∨ 1 ≤ m0) := by
   rw [hm0]; simp only [Nat.min_def]; split <;> omega
 obtain ⟨hcp, hx2⟩ := xzky hx1 (b := b) (o := 0) (dl := n) (dc := n) (sl := 1) (sc := 1) hm0 (by omega) (fun j hj => by
   have : j = 0 := by rw [hm0] at hj; simp only [Nat.min_def] at hj; split at hj <;> omega
   subst this; exact hxc)
 obtain ⟨W2, hW2⟩ : ∃ W2, W1.setCells w.heap.size 0 (List.replicate m0 (.int .i64 (-1))) = W2 := ⟨_, rfl⟩; rw [hW2] at hcp hx2
 have hb2 : Below w.heap.size w W2 := by rw [← hW2]; exact (Wrote.cells w.heap.size _ 0 W1).2.1 _ _ (Nat.le_refl _) hb1
 rw [Nat.zero_add] at hx2; have HI := Lib.hid (And.intro hb2 hx2); have hgo : goInt m0 = .int .i64 (m0 : Nat) := rfl; rw [hgo] at hcp; clear hb1 hx1 hx2 hb2 hW1 hW2 hx hxc hgo hm0
 go_enter Tryz.func40, Tryz.ntmps40
 go_wp2_with (go_at_call 58; refine HMU.out.mono ?_; rintro e u ⟨rfl, hu⟩; obtain rfl := hu)
 clear hmk hcp HMU e1 e3 e4 e5 e6
 go_loopw [8] (fun i wr => ∃ k : Nat, i = .int .i64 k ∧ k ≤ n ∧ (n = 0 ∨ 1 ≤ k) ∧ Hid (Below u.heap.size u wr ∧ BlkF wr u.heap.size 3 n (noneF k))) (fun i _ => n - (intOf i).toNat)
 case atStart => exact ⟨m0, rfl, hm0'.1, hm0'.2, HI⟩
 case round =>
   obtain ⟨k, rfl, hk, hk0, HH⟩ := hrel
   by_cases hp : k < n
   · have hdl : decide ((k : Int) < (n : Int)) = true := by simp; omega
     obtain ⟨m, hm⟩ : ∃ m, m = Nat.min k (n - k) := ⟨_, rfl⟩
     have hmk : k + m ≤ n ∧ 1 ≤ m := by rw [hm]; simp only [Nat.min_def]; split <;> omega
     obtain ⟨hcp, hx2⟩ := xzky (W := wr.drew) HH.out.2 (b := u.heap.size) (o := 0) (dl := n - k) (dc := n - k) (sl := k) (sc := n) hm (by omega) (fun j hj => by
       have hj2 : j < k := by rw [hm] at hj; simp only [Nat.min_def] at hj; split at hj <;> omega
       have := BlkF.cell (W := wr.drew) HH.out.2 (i := 0 + j) (by omega)
       rw [this]; unfold noneF; rw [if_pos (by omega)])
     have hk1 : IntKind.i64.wrap ((k : Int) + (m : Int)) = ((k + m : Nat) : Int) := by rw [IntKind.wrap_i64]; omega
     have hgo : goInt m = .int .i64 (m : Nat) := rfl; rw [hgo] at hcp
     have HN := Lib.hid (show Below u.heap.size u (wr.drew.setCells u.heap.size k (List.replicate m (.int .i64 (-1)))) ∧ BlkF (wr.drew.setCells u.heap.size k (List.replicate m (.int .i64 (-1)))) u.heap.size 3 n (noneF (k + m)) from
       ⟨(Wrote.cells u.heap.size _ k wr.drew).2.1 _ _ (Nat.le_refl _) HH.out.1.drew, hx2⟩)
     clear hx2 hgo hm
     go_wp2_with fail
     go_region
     go_wp2; exact ⟨⟨k + m, rfl, by omega, .inr (by omega), HN⟩, by simp [intOf]; omega⟩
   · have hdl : decide ((k : Int) < (n : Int)) = false := by simp; omega
     obtain rfl : k = n := by omega
     go_wp2; go_ret; exact ⟨rfl, HH.out.2, HH.out.1⟩
end

section
open Go.RowKit

attribute [local irreducible] FreeW

def seenF (q : List Int) (i : Nat) : Value := .bool (decide ((i : Int) ∈ q))
theorem xzwv (q : List Int) (x : Nat) : putV (seenF q) x (.bool true) = seenF (q ++ [(x : Int)]) := by
 funext i; unfold putV seenF
 by_cases h : i = x
 · subst h; rw [if_pos rfl, decide_eq_true (by simp)]
 · rw [if_neg h]
   congr 1
   have : (i : Int) ∈ q ++ [(x : Int)] ↔ (i : Int) ∈ q := by
     rw [List.mem_append, List.mem_singleton]
     constructor
     · rintro (h1 | h1)
       · exact h1
       · omega
     · exact .inl
   simp only [this]
theorem xzfa (n : Nat) (h : n ≤ 1099511627776) (w : World) : (Instr.makeSlice 47 (.int .i64 (n : Nat)) (.int .i64 (n : Nat))).run Tryz.prog w = .ok (.slice (some ⟨w.heap.size, 0, none⟩) n n) (w.alloc (.cells (cellsN n fun _ => .bool false) 4)) := by
 have e : madeCells #[Value.bool false] n = cellsN n fun _ => .bool false := by
   unfold madeCells cellsN
   apply Array.ext'
   simp [Nat.mod_one]
 rw [← e]; exact run_make_row' (P := Tryz.prog) 47 4 (.bool false) 1 Tryz.underlying47 xznq rfl .i64 .i64 n (by omega) (by omega) w
theorem xzoj : (fun _ => Value.bool false) = seenF [] := by funext i; unfold seenF; simp
structure FQ (w0 : World) (g n : Nat) (q sn : List Int) (v : Value) (W : World) : Prop where
 below : Below w0.heap.size w0 W
 blk : BlkF W g 4 n (seenF sn)
 row : RowI w0.heap.size W v q
 ne : v.ownBlock ≠ some g
 lo : w0.heap.size ≤ g
theorem FQ.mark {w0 : World} {g n : Nat} {q sn : List Int} {v : Value} {W : World} (h : FQ w0 g n q sn v W) (x : Nat) : FQ w0 g n q (sn ++ [(x : Int)]) v (W.setCell ⟨g, x, none⟩ (.bool true)) :=
 ⟨h.below.setCell (p := ⟨g, x, none⟩) h.lo _, by rw [← xzwv]; exact h.blk.put _ _, xzat h.row fun k hk => Below.heap_setCell _ _ _ _ (fun e => h.ne (hk.trans (congrArg some e))), h.ne, h.lo⟩
theorem FQ.push {w0 : World} {g n : Nat} {q sn : List Int} {v : Value} {W : World} (h : FQ w0 g n q sn v W) (x : Int) (hl : q.length + 1 ≤ 1073741824) :
   ∃ v' W', (Builtin.append_ #[26, 26] 26 #[v, .slice (some ⟨W.heap.size, 0, none⟩) 1 1]).run Tryz.prog (W.alloc (.cells #[.int .i64 x] 3)) = .ok v' W' ∧ FQ w0 g n (q ++ [x]) sn v' W' := by
 obtain ⟨U, hU⟩ : ∃ U, W.alloc (.cells #[.int .i64 x] 3) = U := ⟨_, rfl⟩
 have hsz : U.heap.size = W.heap.size + 1 := by rw [← hU]; simp
 have hUB : Below W.heap.size W U := by rw [← hU]; exact (Below.refl _ _).alloc (Nat.le_refl _) _
 have hnew : U.cell? ⟨W.heap.size, 0, none⟩ = some (.int .i64 x) := by
   rw [← hU]; exact (BlkIs.new W 3 #[.int .i64 x]).cell 0
 have h1 := h.row.step hUB; have hle := h.below.size; obtain ⟨v', W', hr, hown, hgr, _, hob⟩ := xzca h1 hnew hl (by omega) (c := 1); rw [hU]; have hgl := BlkIs.lt h.blk; refine ⟨v', W', hr, ?_, (hgr.block g (by omega) (fun e => h.ne e.symm)).trans ((hUB.block g hgl).trans h.blk), hown, ?_, h.lo⟩
 · exact (h.below.trans (hUB.mono hle)).grown hgr (by omega) (fun k hk => (World.ownsRow.lt h1 k hk).1)
 · rcases hob with e | e
   · rw [e]; exact h.ne
   · rw [e]; intro e2; injection e2 with e2; omega
theorem xzhb (q r : List Int) {c : Nat} (hc : c < r.length) : addRowQ q (r.take (c + 1)) = addQ (addRowQ q (r.take c)) r[c] := by
 rw [List.take_succ_eq_append_getElem hc]; unfold addRowQ; rw [List.foldl_append]; rfl
set_option maxRecDepth 20000 in
set_option maxHeartbeats 8000000 in
theorem xzok (next : List (List Int)) (fr : List Int) (vN vF : Value) (w : World) (hN : RowsI w next vN) (hF : IntsV w fr vF) (hnil : fr = [] → vF = .slice none 0 0) (hw : WfN next) (hf : InR next.length fr) (hn : next.length ≤ 1048576) :
   Calls Tryz.prog 41 #[vN, vF] w fun e w' => ∃ v', e = .returned v' ∧ RowI w.heap.size w' v' (foundL next fr) ∧ Below w.heap.size w w' := by
 obtain ⟨An, cn, rfl, hcn, hgn⟩ := hN; have hfl := xzbz _ _ hf; have HCL := Lib.hid (xztf fr vF w hF hnil (by omega)); have HGN := Lib.hid hgn; have HW := Lib.hid (And.intro hw hf); clear hF hnil hgn hw hf
 go_enter Tryz.func41, Tryz.ntmps41
 go_wp2_with fail
 go_at_call 59
 refine HCL.out.mono ?_; rintro e u ⟨vq, rfl, hrow, hbu⟩; obtain ⟨W2, hW2⟩ : ∃ W2, u.alloc (.cells (cellsN next.length fun _ => .bool false) 4) = W2 := ⟨_, rfl⟩; have hmk := xzfa next.length (by omega) u; rw [hW2] at hmk
 have hb2 : Below u.heap.size u W2 := by rw [← hW2]; exact (Below.refl _ _).alloc (Nat.le_refl _) _
 have HQ := Lib.hid (show FQ w u.heap.size next.length fr [] vq W2 from
   ⟨hbu.trans (hb2.mono hbu.size), by rw [← hW2, ← xzoj]; exact BlkIs.new u _ _, hrow.step hb2, fun e => by have := (World.ownsRow.lt hrow _ e).2; omega, hbu.size⟩)
 obtain ⟨Aq, cq, rfl, hcq⟩ := xzar hrow; clear hrow hbu hb2 hW2 HCL; obtain ⟨g, hg⟩ : ∃ g, g = u.heap.size := ⟨_, rfl⟩; rw [← hg] at HQ hmk; clear hg; go_wp2; clear hmk
 go_loopw [8, 19] (fun _ i wr => ∃ k : Nat, i = .int .i64 k ∧ k ≤ fr.length ∧ Hid (FQ w g next.length fr (fr.take k) (.slice Aq fr.length cq) wr)) (fun _ i _ => fr.length - (intOf i).toNat)
 case atStart => exact ⟨0, rfl, Nat.zero_le _, HQ⟩
 case round =>
   obtain ⟨k, rfl, hk, HH⟩ := hrel; obtain ⟨w1, rfl⟩ : ∃ w1, w1 = wr := ⟨_, rfl⟩
   by_cases hp : k < fr.length
   · have hk1 : IntKind.i64.wrap ((k : Int) + 1) = ((k + 1 : Nat) : Int) := by rw [IntKind.wrap_i64]; omega
     have hdl : decide ((k : Int) < (fr.length : Int)) = true := by simp; omega
     obtain ⟨A', c', e', _, hs⟩ := HH.out.row.ints; obtain ⟨b, o, e2, hlt, hgc⟩ := hs (by intro e; subst e; simp at hp)
     injection e' with e'
     rw [e2] at e'; subst e'; have hcell := hgc k hp; obtain ⟨x, hx⟩ : ∃ x : Nat, fr[k] = (x : Nat) := ⟨fr[k].toNat, by have := (HW.out.2.2 _ (List.getElem_mem hp)).1; omega⟩
     have hxn : x < next.length := by have := (HW.out.2.2 _ (List.getElem_mem hp)).2; omega
     have i1 : decide ((x : Int) < (next.length : Int)) = true := by simp; omega
     have hc2 := BlkF.cell HH.out.blk hxn; have hfz := BlkIs.frozen HH.out.blk x
     have HN := Lib.hid (show FQ w g next.length fr (fr.take (k + 1)) (.slice (some ⟨b, o, none⟩) fr.length cq) (w1.setCell ⟨g, x, none⟩ (.bool true)) by
       rw [List.take_succ_eq_append_getElem hp, hx]; exact HH.out.mark x)
     rw [hx] at hcell; clear hgc hs hx; go_wp2; exact ⟨⟨k + 1, rfl, hp, HN⟩, by simp [intOf]; omega⟩
   · have hdl : decide ((k : Int) < (fr.length : Int)) = false := by simp; omega
     obtain rfl : k = fr.length := by omega
     have H1 := Lib.hid (show FQ w g next.length fr fr (.slice Aq fr.length cq) w1 by have := HH.out; rwa [List.take_length] at this); clear HH; go_wp2
     go_loopw [5, 9, 11, 41] (fun v i _ _ wr => ∃ k : Nat, i = .int .i64 k ∧ k ≤ (qTo next fr k).length ∧ Hid (FQ w g next.length (qTo next fr k) (qTo next fr k) v wr)) (fun _ i _ _ _ => next.length + 1 - (intOf i).toNat)
     case atStart => exact ⟨0, rfl, Nat.zero_le _, H1⟩
     case round =>
       obtain ⟨k, rfl, hk, HH⟩ := hrel; obtain ⟨w3, rfl⟩ : ∃ w3, w3 = wr := ⟨_, rfl⟩; have hkn : (qTo next fr k).length ≤ next.length := xzkn HW.out.1 HW.out.2 k; have hin := xzmd HW.out.1 HW.out.2 k
       by_cases hp : k < (qTo next fr k).length
       · have hk1 : IntKind.i64.wrap ((k : Int) + 1) = ((k + 1 : Nat) : Int) := by rw [IntKind.wrap_i64]; omega
         have hq1 : qTo next fr (k + 1) = addRowQ (qTo next fr k) (next.getD ((qTo next fr k)[k]).toNat []) := by
           show (match (qTo next fr k)[k]? with | none => _ | some x => addRowQ (qTo next fr k) (next.getD x.toNat [])) = _
           rw [List.getElem?_eq_getElem hp]
         have hkl : k + 1 ≤ (qTo next fr (k + 1)).length := by have := (xzix next fr k).length_le; omega
         have hx0 := hin.2 _ (List.getElem_mem hp); have HQ1 := Lib.hid hq1; obtain ⟨q, hqe⟩ : ∃ q, qTo next fr k = q := ⟨_, rfl⟩; have hroww := HH.out.row; simp only [hqe] at hp hq1 hx0 HH hkn hroww HQ1
         have hin' : InR next.length q := by rw [← hqe]; exact hin
         clear hq1 hk hin
         have hdl : decide ((k : Int) < (q.length : Int)) = true := by simp; omega
         obtain ⟨A', c', e', _, hs⟩ := hroww.ints; subst e'; obtain ⟨b, o, rfl, hlt, hgc⟩ := hs (by intro e; subst e; simp at hp); have hcell := hgc k hp; obtain ⟨x, hx⟩ : ∃ x : Nat, q[k] = (x : Nat) := ⟨q[k].toNat, by omega⟩
         have hxn : x < next.length := by omega
         have i1 : decide ((x : Int) < (next.length : Int)) = true := by simp; omega
         rw [hx] at hcell; obtain ⟨bn, on, rfl, hltn, hgnr⟩ := HGN.out (by intro e; rw [e] at hxn; simp at hxn); obtain ⟨vr, hcr, hvr⟩ := hgnr x hxn; have hcr' := (HH.out.below.cell (p := ⟨bn, on + x, none⟩) hltn).trans hcr
         have HQ2 := Lib.hid (show qTo next fr (k + 1) = addRowQ q next[x] by
           rw [HQ1.out, hx, Int.toNat_natCast, List.getD_eq_getElem?_getD, List.getElem?_eq_getElem hxn]; rfl)
         have hrr := HW.out.1 _ (List.getElem_mem hxn); generalize next[x] = r at *; obtain ⟨Ar, cr, rfl, hcrr, hgr⟩ := hvr; have HGR := Lib.hid hgr; have HRR := Lib.hid hrr; have HKL := Lib.hid hkl; have HIQ := Lib.hid (fun c => xzbz _ _ (xzgr (r.take c) q hin' (fun x hx => hrr x (List.mem_of_mem_take hx)))); clear hgc hs hx hx0 hcr hgr hrr HQ1 hqe hroww hgnr hkl hin'; go_wp2; clear hcell hcr' H1
         go_loopw [5, 11, 41] (fun v _ i wr => ∃ c : Nat, i = .int .i64 c ∧ c ≤ r.length ∧ Hid (FQ w g next.length (addRowQ q (r.take c)) (addRowQ q (r.take c)) v wr)) (fun _ _ i _ => r.length - (intOf i).toNat)
         case atStart => exact ⟨0, rfl, Nat.zero_le _, HH⟩
         case round =>
           obtain ⟨c, rfl, hc, HI⟩ := hrel; obtain ⟨w4, rfl⟩ : ∃ w4, w4 = wr := ⟨_, rfl⟩
           by_cases hq : c < r.length
           · have hk2 : IntKind.i64.wrap ((c : Int) + 1) = ((c + 1 : Nat) : Int) := by rw [IntKind.wrap_i64]; omega
             have hdl2 : decide ((c : Int) < (r.length : Int)) = true := by simp; omega
             obtain ⟨br, or, rfl, hltr, hgr⟩ := HGR.out (by intro e; rw [e] at hq; simp at hq); have hcc := (HI.out.below.cell (p := ⟨br, or + c, none⟩) hltr).trans (hgr c hq); have hyb := HRR.out _ (List.getElem_mem hq); have HSU := Lib.hid (xzhb q r hq); have HLN := Lib.hid (HIQ.out c); clear hgr; generalize r[c] = y at *; obtain ⟨p, hpe⟩ : ∃ p, addRowQ q (r.take c) = p := ⟨_, rfl⟩; rw [hpe] at HI HSU HLN; clear hpe
             by_cases hy : y = -1
             · subst hy
               have HN := Lib.hid (show FQ w g next.length (addRowQ q (r.take (c + 1))) (addRowQ q (r.take (c + 1))) u5 w4 by
                 rw [HSU.out]
                 have e : addQ p (-1) = p := by unfold addQ; rw [if_pos (.inl rfl)]
                 rw [e]; exact HI.out)
               clear hyb; go_wp2; exact ⟨⟨c + 1, rfl, hq, HN⟩, by simp [intOf]; omega⟩
             · obtain ⟨t, rfl⟩ : ∃ t : Nat, y = (t : Nat) := ⟨y.toNat, by omega⟩
               have ht : t < next.length := by omega
               have e1 := ne_m1 t
               have i1 : decide ((t : Int) < (next.length : Int)) = true := by simp; omega
               have hc2 := BlkF.cell HI.out.blk ht; have hfz := BlkIs.frozen HI.out.blk t; unfold seenF at hc2
               by_cases hm : (t : Int) ∈ p
               · rw [decide_eq_true hm] at hc2
                 have HN := Lib.hid (show FQ w g next.length (addRowQ q (r.take (c + 1))) (addRowQ q (r.take (c + 1))) u5 w4 by
                   rw [HSU.out]
                   have e : addQ p (t : Int) = p := by unfold addQ; rw [if_pos (.inr hm)]
                   rw [e]; exact HI.out)
                 clear hyb hm hy; go_wp2; exact ⟨⟨c + 1, rfl, hq, HN⟩, by simp [intOf]; omega⟩
               · rw [decide_eq_false hm] at hc2
                 obtain ⟨v', W', hrun, hfq⟩ := (HI.out.mark t).push (t : Int) (by have := HLN.out; omega)
                 have HN := Lib.hid (show FQ w g next.length (addRowQ q (r.take (c + 1))) (addRowQ q (r.take (c + 1))) v' W' by
                   rw [HSU.out]
                   have e : addQ p (t : Int) = p ++ [(t : Int)] := by unfold addQ; rw [if_neg (by simp [hm, hy])]
                   rw [e]; exact hfq)
                 rw [World.size_setCell] at hrun; clear hyb hm hy hfq
                 go_wp2_with (refine xzaj rfl _ _ 26 26 rfl rfl rfl hrun ?_)
                 exact ⟨⟨c + 1, rfl, hq, HN⟩, by simp [intOf]; omega⟩
           · have hdl2 : decide ((c : Int) < (r.length : Int)) = false := by simp; omega
             obtain rfl : c = r.length := by omega
             have HN := Lib.hid (show ∀ v, FQ w g next.length (addRowQ q (r.take r.length)) (addRowQ q (r.take r.length)) v w4 → FQ w g next.length (qTo next fr (k + 1)) (qTo next fr (k + 1)) v w4 by
               intro v h; rwa [List.take_length, ← HQ2.out] at h)
             go_wp2; exact ⟨⟨k + 1, rfl, HKL.out, Lib.hid (HN.out _ HI.out)⟩, by simp [intOf]; omega⟩
       · have HE := Lib.hid (xzko HW.out.1 HW.out.2 (k := k) (by omega))
         obtain ⟨Av, cv, rfl, _⟩ := xzar HH.out.row
         have hdl : decide ((k : Int) < ((qTo next fr k).length : Int)) = false := by simp; omega
         go_wp2; go_ret; exact ⟨_, rfl, by rw [← HE.out]; exact HH.out.row, HH.out.below⟩
end
end Go.Proofs.YtgngaaemkmdfaaaGreatDoor
