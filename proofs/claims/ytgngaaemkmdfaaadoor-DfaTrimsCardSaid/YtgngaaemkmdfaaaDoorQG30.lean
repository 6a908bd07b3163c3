/-
  WHAT nfa's merged ANSWERS: a contract. Condition: both rows together have at most 2^30 numbers.
-/
import Derived.Laws.Bits64b
import Derived.Test.YtgngaaemkmdfaaaDoorQG29
import Derived.Test.YtgngaaemkmdfaaaDoorQG24
import Derived.Test.YtgngaaemkmdfaaaDoorQG14
namespace Go.Proofs.YtgngaaemkmdfaaaDoor
section
open Go.RowKit

attribute [local irreducible] FreeW

theorem make_room (n : Nat) (h : n ≤ 1099511627776) (w : World) : (Instr.makeSlice 26 (.int .i64 0) (.int .i64 (n : Nat))).run Tryd.prog w = .ok (.slice (some ⟨w.heap.size, 0, none⟩) 0 n) (w.alloc (.cells (madeCells #[.int .i64 0] n) 3)) := by
  obtain ⟨i0, hi0, hz0, hz1, hz2⟩ := info_parts info_int
  have hr := run_make (P := Tryd.prog) w 26 3 i0 (.int .i64 0) Tryd.underlying26 hi0 hz0 .i64 .i64 0 n (by omega) (by omega) (by rw [hz2]; omega) (by omega)
  simp only [hz1, Int.toNat_natCast, Nat.mul_one] at hr
  exact hr
theorem RowI.room (B : Nat) (w : World) (n : Nat) (hB : B ≤ w.heap.size) (hn : n ≤ 1099511627776) : RowI B (w.alloc (.cells (madeCells #[.int .i64 0] n) 3)) (.slice (some ⟨w.heap.size, 0, none⟩) 0 n) [] :=
  World.ownsRow_made w _ n hB (by unfold maxLen; omega) (by rw [madeInts_size]; omega)
theorem RowI.pushes {B : Nat} {W : World} {v : Value} {l : List Int} (h : RowI B W v l) (hB : B ≤ W.heap.size) {b : List Int} {g o c : Nat} (hb : RunAt W b g o c) (hl : l.length + b.length ≤ 1099511627776) :
    ∃ v' W', (Builtin.append_ #[26, 26] 26 #[v, .slice (some ⟨g, o, none⟩) b.length c]).run Tryd.prog W = .ok v' W' ∧ RowI B W' v' (l ++ b) ∧ W.grownBy W' v.ownBlock := by
  obtain ⟨i0, hi0, hz0, hz1, hz2⟩ := info_parts info_int
  obtain ⟨v', W', hr, hown, hgr, _, _⟩ := run_append_own_at (P := Tryd.prog) (w := W) B 26 26 3 i0 (.int .i64 0) 1 8 Tryd.underlying26 hi0 hz0 hz1 hz2 rfl (by decide) v l.length _ h
    ⟨g, o, none⟩ b.length c (b.map (Value.int .i64)) (by simp) (fun j u hu => by
      rw [List.getElem?_map] at hu
      cases e : b[j]? with
      | none => rw [e] at hu; cases hu
      | some x =>
        rw [e] at hu
        obtain ⟨hj, rfl⟩ := List.getElem?_eq_some_iff.1 e
        rw [Addr.add_lit]
        exact (hb.2 j hj).trans hu) (il_one b) (by unfold maxLen; omega) (by omega) hB
  refine ⟨v', W', hr, ?_, hgr⟩
  unfold RowI
  rw [List.map_append, List.length_append]
  exact hown
theorem append_full {W : World} {a b : List Int} {g o g' o' c' : Nat} (ha : RunAt W a g o a.length) (hb : RunAt W b g' o' c') (hne : b ≠ []) (hl : a.length + b.length ≤ 1099511627776) :
    ∃ v' W', (Builtin.append_ #[26, 26] 26 #[.slice (some ⟨g, o, none⟩) a.length a.length, .slice (some ⟨g', o', none⟩) b.length c']).run Tryd.prog W = .ok v' W' ∧ RowI W.heap.size W' v' (a ++ b) ∧ Below W.heap.size W W' := by
  obtain ⟨i0, hi0, hz0, hz1, hz2⟩ := info_parts info_int
  have hlb := List.length_pos_iff.2 hne
  have hcl : ∀ (l : List Int) (p q c : Nat), RunAt W l p q c → ∀ j u, (l.map (Value.int .i64))[j]? = some u → W.cell? ((⟨p, q, none⟩ : Addr).add j) = some u := fun l p q c h j u hu => by
    rw [List.getElem?_map] at hu
    cases e : l[j]? with
    | none => rw [e] at hu; cases hu
    | some x =>
      rw [e] at hu
      obtain ⟨hj, rfl⟩ := List.getElem?_eq_some_iff.1 e
      rw [Addr.add_lit]
      exact (h.2 j hj).trans hu
  have hr := run_append_grow (P := Tryd.prog) W 26 26 3 i0 (.int .i64 0) Tryd.underlying26 hi0 hz0 ⟨g, o, none⟩ a.length a.length (a.map (Value.int .i64)) (by simp [hz1]) (hcl a g o _ ha) ⟨g', o', none⟩ b.length c' (b.map (Value.int .i64)) (by simp [hz1]) (hcl b g' o' _ hb) (by omega) (by omega)
    (growslice_fits (by omega) (by rw [hz2]; omega))
  have hge := grownCap_ge W (a.length + b.length) a.length 3
  have hcm := grownCap_le_maxLen W (a.length + b.length) a.length 3 (by unfold maxLen; omega)
  refine ⟨_, _, hr, ⟨by simp, .inr ⟨W.heap.size, _, _, by rw [List.length_append], Nat.le_refl _, heap_alloc_new W.drew _, ?_, hcm, ?_, ?_⟩⟩, ((Below.refl _ W).drew).alloc (Nat.le_refl _) _⟩
  · rw [List.length_append]; exact hge
  · simp only [Array.size_append, List.size_toArray, List.length_map, size_zeroCells]
    rw [show (Value.int IntKind.i64 0).cells.size = 1 from rfl]
    omega
  · simp only [Array.toList_append, List.append_assoc]
    rw [← List.append_assoc, List.map_append, List.length_append, Nat.mul_one]
    rw [List.take_left' (by simp)]

theorem mergeN_step {n : Nat} {x y : Int} {a b : List Int} (h : (x :: a).length + (y :: b).length ≤ n) : ∃ n', mergeN n (x :: a) (y :: b) = (if y < x then y else x) :: mergeN n' (behindL (if y < x then y else x) (x :: a)) (behindL (if y < x then y else x) (y :: b)) ∧
    (behindL (if y < x then y else x) (x :: a)).length + (behindL (if y < x then y else x) (y :: b)).length ≤ n' ∧ (behindL (if y < x then y else x) (x :: a)).length + (behindL (if y < x then y else x) (y :: b)).length < (x :: a).length + (y :: b).length := by
  obtain ⟨m, rfl⟩ : ∃ m, n = m + 1 := ⟨n - 1, by simp only [List.length_cons] at h; omega⟩
  refine ⟨m, ?_⟩
  simp only [List.length_cons] at h
  rcases Int.lt_trichotomy x y with h1 | h1 | h1
  · have e1 : ¬ y < x := by omega
    have e2 : ¬ y = x := by omega
    simp [mergeN, behindL, h1, e1, e2]; omega
  · subst h1
    simp [mergeN, behindL]; omega
  · have e1 : ¬ x < y := by omega
    have e2 : ¬ x = y := by omega
    simp [mergeN, behindL, h1, e1, e2]; omega
theorem run_low {w W : World} {K : Nat → Bool} {l : List Int} {g o c : Nat} (h : RunAt (hide w K) l g o c) (hb : Below w.heap.size w W) : RunAt W l g o c :=
  (h.sub hide_less).sub fun p _ hu => (hb.cell (World.block_lt_of_cell? w p hu)).trans hu
theorem below_drewN {B : Nat} {a w : World} (h : Below B a w) (m : Nat) : Below B a (w.drewN m) := ⟨h.os, h.tape, h.output, h.size, h.block⟩
theorem last_get {a : List Int} (_ : a ≠ []) : ∀ (hh : a.length - 1 < a.length), a[a.length - 1] = a.getLastD 0 := by
  intro hh
  rw [List.getLastD_eq_getLast?, List.getLast?_eq_getElem?]
  simp [hh]

set_option maxRecDepth 20000 in
set_option maxHeartbeats 8000000 in
theorem merged_any (a b : List Int) (va vb : Value) (w : World) (K : Nat → Bool) (hK : ∀ k, K k = true → k < w.heap.size) (ha : IntsV (hide w K) a va) (hb : IntsV (hide w K) b vb) (hn : a.length + b.length ≤ 1073741824) :
    Calls Tryd.prog 79 #[va, vb] w fun e w' => ∃ v', e = .returned v' ∧ IntsV (hide w' K) (mergedL a b) v' ∧ Below w.heap.size w w' := by
  by_cases hae : a = []
  · subst hae
    obtain ⟨A, c, rfl, _, _⟩ := ha
    have HF := Lib.hid (show IntsV (hide w K) (mergedL [] b) vb by simp only [mergedL, if_pos]; exact hb)
    clear hb
    go_enter Tryd.func79, Tryd.ntmps79
    go_wp2
    go_ret
    exact ⟨_, rfl, HF.out, Below.refl _ _⟩
  · have hla := List.length_pos_iff.2 hae
    obtain ⟨g1, o1, c1, rfl, hra⟩ := ha.run hae
    have za : ((a.length : Int) == 0) = false := by simp; omega
    by_cases hbe : b = []
    · subst hbe
      obtain ⟨A, c, rfl, _, _⟩ := hb
      have HF := Lib.hid (show IntsV (hide w K) (mergedL a []) (.slice (some ⟨g1, o1, none⟩) a.length c1) by unfold mergedL; rw [if_neg hae, if_pos rfl]; exact ha)
      clear ha hra
      go_enter Tryd.func79, Tryd.ntmps79
      go_wp2
      go_ret
      exact ⟨_, rfl, HF.out, Below.refl _ _⟩
    · have hlb := List.length_pos_iff.2 hbe
      obtain ⟨g2, o2, c2, rfl, hrb⟩ := hb.run hbe
      have zb : ((b.length : Int) == 0) = false := by simp; omega
      have hk1 : IntKind.i64.wrap ((a.length : Int) - 1) = ((a.length - 1 : Nat) : Int) := by rw [IntKind.wrap_i64]; omega
      have hi1 : ((a.length - 1 : Nat) : Int) < (a.length : Int) := by omega
      have hi2 : (0 : Int) < (b.length : Int) := by omega
      have hca := hide_less _ _ (hra.2 (a.length - 1) (by omega))
      rw [last_get hae] at hca
      have hcb := hide_less _ _ (hrb.2 0 hlb)
      have hbh : b[0] = b.headD 0 := by cases b with | nil => exact absurd rfl hbe | cons y b => rfl
      rw [hbh, Nat.add_zero] at hcb
      have hcap := hra.1
      by_cases hlt : a.getLastD 0 < b.headD 0
      · have HF := Lib.hid (show mergedL a b = a ++ b by unfold mergedL; rw [if_neg hae, if_neg hbe, if_pos hlt])
        have hd1 : decide (a.getLastD 0 < b.headD 0) = true := by simpa using hlt
        have HRA := Lib.hid hra
        have HRB := Lib.hid hrb
        have HBE := Lib.hid hbe
        have HK := Lib.hid hK
        clear ha hb hra hrb hbh hlt hae hbe hK
        generalize a.getLastD 0 = x at *
        generalize b.headD 0 = y at *
        go_enter Tryd.func79, Tryd.ntmps79
        go_wp2
        go_quiet (fail)
        have hbd : Below w.heap.size w (w.drewN nq) := below_drewN (Below.refl _ _) nq
        obtain ⟨v', W', hrun, hri, hbw⟩ := append_full (W := w.drewN nq) (run_low ⟨⟨Nat.le_refl _, by omega⟩, HRA.out.2⟩ hbd) (run_low HRB.out hbd) HBE.out (by omega)
        have HU := Lib.hid (And.intro hri hbw)
        clear hri hbw
        go_wp2_with (refine wpList_app8 rfl _ _ 26 26 rfl rfl rfl hrun ?_)
        go_ret
        exact ⟨_, rfl, by rw [HF.out]; exact HU.out.1.show (fun k hk => by
          rw [Bool.eq_false_iff]; intro e; have := HK.out k e; have : w.heap.size ≤ k := hk; omega), hbd.trans HU.out.2⟩
      · have hd1 : decide (a.getLastD 0 < b.headD 0) = false := by simpa using hlt
        have HF := Lib.hid (show mergedL a b = mergeN (a.length + b.length) a b by unfold mergedL; rw [if_neg hae, if_neg hbe, if_neg hlt])
        rw [HF.out]
        obtain ⟨R, hR⟩ : ∃ R, R = mergeN (a.length + b.length) a b := ⟨_, rfl⟩
        rw [← hR]
        have hk0 : IntKind.i64.wrap ((a.length : Int) + (b.length : Int)) = ((a.length + b.length : Nat) : Int) := by rw [IntKind.wrap_i64]; omega
        have hmk := fun u => make_room (a.length + b.length) (by omega) u
        simp only [Int.natCast_add] at hmk
        have H0 := Lib.hid (show (RunAt (hide w K) a g1 o1 c1 ∧ RunAt (hide w K) b g2 o2 c2) ∧ (∃ n, a.length + b.length ≤ n ∧ R = [] ++ mergeN n a b) from ⟨⟨hra, hrb⟩, _, Nat.le_refl _, by simpa using hR⟩)
        have HK := Lib.hid hK
        have HRO := Lib.hid (fun u (h : w.heap.size ≤ u.heap.size) => RowI.room w.heap.size u (a.length + b.length) h (by omega))
        clear ha hb hra hrb hbh hlt hae hbe hK hR HF
        generalize a.getLastD 0 = x at *
        generalize b.headD 0 = y at *
        go_enter Tryd.func79, Tryd.ntmps79
        go_wp2
        go_quiet (fail)
        go_wp2
        have HW := Lib.hid (And.intro (HRO.out (w.drewN nq) (Nat.le_refl _)) ((below_drewN (Below.refl w.heap.size w) nq).alloc (Nat.le_refl _) (.cells (madeCells #[Value.int .i64 0] (a.length + b.length)) 3)))
        clear hca hcb HRO hmk
        go_loopw [0, 1, 5] (fun s0 s1 s5 wr => ∃ (a' b' l : List Int) (p1 q1 d1 p2 q2 d2 : Nat), s0 = .slice (some ⟨p1, q1, none⟩) a'.length d1 ∧ s1 = .slice (some ⟨p2, q2, none⟩) b'.length d2 ∧ l.length + (a'.length + b'.length) ≤ a.length + b.length ∧
          Hid ((RowI w.heap.size wr s5 l ∧ Below w.heap.size w wr) ∧ (RunAt (hide w K) a' p1 q1 d1 ∧ RunAt (hide w K) b' p2 q2 d2) ∧ ∃ n, a'.length + b'.length ≤ n ∧ R = l ++ mergeN n a' b')) (fun s0 s1 _ _ => lenV s0 + lenV s1)
        case atStart => exact ⟨a, b, [], g1, o1, c1, g2, o2, c2, rfl, rfl, by simp, Lib.hid ⟨HW.out, H0.out⟩⟩
        case round =>
          obtain ⟨a', b', l, p1, q1, d1, p2, q2, d2, rfl, rfl, hlen, HH⟩ := hrel
          clear hcap hi1 hi2 hk1 hk0 za zb hd1 hla hlb HW H0
          cases a' with
          | nil =>
            have HR := Lib.hid (show R = l ++ [] ++ b' by
              obtain ⟨n, hn', hR⟩ := HH.out.2.2
              rw [hR, mergeN_nil]; simp)
            obtain ⟨v1, W1, hrun1, hri1, hgr1⟩ := HH.out.1.1.pushes HH.out.1.2.size (run_low HH.out.2.1.1 HH.out.1.2) (by simp only [List.length_nil] at hlen ⊢; omega)
            have hb1 : Below w.heap.size w W1 := HH.out.1.2.grown hgr1 HH.out.1.2.size fun k hk => (World.ownsRow.lt HH.out.1.1 k hk).1
            obtain ⟨v2, W2, hrun2, hri2, hgr2⟩ := hri1.pushes hb1.size (run_low HH.out.2.1.2 hb1) (by simp only [List.length_nil, List.length_append] at hlen ⊢; omega)
            have hb2 : Below w.heap.size w W2 := hb1.grown hgr2 hb1.size fun k hk => (World.ownsRow.lt hri1 k hk).1
            have HV := Lib.hid (And.intro hri2 hb2)
            clear hri1 hgr1 hri2 hgr2 hb1 hb2
            simp only [List.length_nil] at hrun1 hrun2 hlen ⊢
            go_wp2_with (first | (refine wpList_app8 rfl _ _ 26 26 rfl rfl rfl hrun1 ?_) | (refine wpList_app8 rfl _ _ 26 26 rfl rfl rfl hrun2 ?_))
            go_ret
            exact ⟨_, rfl, by rw [HR.out]; exact HV.out.1.show (fun k hk => by
              rw [Bool.eq_false_iff]; intro e; have := HK.out k e; omega), HV.out.2⟩
          | cons x a' =>
            cases b' with
            | nil =>
              have HR := Lib.hid (show R = l ++ (x :: a') ++ [] by
                obtain ⟨n, hn', hR⟩ := HH.out.2.2
                rw [hR, mergeN_nil2]; simp)
              obtain ⟨v1, W1, hrun1, hri1, hgr1⟩ := HH.out.1.1.pushes HH.out.1.2.size (run_low HH.out.2.1.1 HH.out.1.2) (by simp only [List.length_cons, List.length_nil] at hlen ⊢; omega)
              have hb1 : Below w.heap.size w W1 := HH.out.1.2.grown hgr1 HH.out.1.2.size fun k hk => (World.ownsRow.lt HH.out.1.1 k hk).1
              obtain ⟨v2, W2, hrun2, hri2, hgr2⟩ := hri1.pushes hb1.size (run_low HH.out.2.1.2 hb1) (by simp only [List.length_cons, List.length_nil, List.length_append] at hlen ⊢; omega)
              have hb2 : Below w.heap.size w W2 := hb1.grown hgr2 hb1.size fun k hk => (World.ownsRow.lt hri1 k hk).1
              have HV := Lib.hid (And.intro hri2 hb2)
              clear hri1 hgr1 hri2 hgr2 hb1 hb2
              simp only [List.length_cons, List.length_nil] at hrun1 hrun2 hlen ⊢
              have g1 : decide (((a'.length + 1 : Nat) : Int) > 0) = true := by simp
              go_wp2_with (first | (refine wpList_app8 rfl _ _ 26 26 rfl rfl rfl hrun1 ?_) | (refine wpList_app8 rfl _ _ 26 26 rfl rfl rfl hrun2 ?_))
              go_ret
              exact ⟨_, rfl, by rw [HR.out]; exact HV.out.1.show (fun k hk => by
                rw [Bool.eq_false_iff]; intro e; have := HK.out k e; omega), HV.out.2⟩
            | cons y b' =>
              have HCELL := Lib.hid (fun u (hu : Below wr.heap.size wr u) => And.intro (((HH.out.1.2.trans (hu.mono HH.out.1.2.size)).cell (World.block_lt_of_cell? w _ (hide_less _ _ (HH.out.2.1.1.2 0 (by simp))))).trans (hide_less _ _ (HH.out.2.1.1.2 0 (by simp))))
                (((HH.out.1.2.trans (hu.mono HH.out.1.2.size)).cell (World.block_lt_of_cell? w _ (hide_less _ _ (HH.out.2.1.2.2 0 (by simp))))).trans (hide_less _ _ (HH.out.2.1.2.2 0 (by simp)))))
              obtain ⟨n, hn', hR⟩ := HH.out.2.2
              obtain ⟨n2, hm1, hm2, hm3⟩ := mergeN_step hn'
              rw [hm1] at hR
              have hca := HH.out.2.1.1.1
              have hcb := HH.out.2.1.2.1
              have HB1 := Lib.hid (fun u => behind_any x a' p1 q1 d1 (if y < x then y else x) u (hide w K) HH.out.2.1.1)
              have HB2 := Lib.hid (fun u => behind_any y b' p2 q2 d2 (if y < x then y else x) u (hide w K) HH.out.2.1.2)
              have HS := Lib.hid (And.intro (And.intro HH.out.2.1.1 HH.out.2.1.2) hR)
              simp only [List.length_cons, List.getElem_cons_zero, Nat.add_zero] at HCELL hca hcb hm3 hlen
              simp only [List.length_cons]
              clear hn' hR hm1
              have g1 : decide (((a'.length + 1 : Nat) : Int) > 0) = true := by simp
              have g2 : decide (((b'.length + 1 : Nat) : Int) > 0) = true := by simp
              obtain ⟨p, hp⟩ : ∃ p, p = (if y < x then y else x) := ⟨_, rfl⟩
              rw [← hp] at HB1 HB2 HS hm2 hm3
              have hp2 := hp.symm
              clear hp
              go_wp2_with fail
              refine wp_region_reads 72 (fun u => Hid (Below wr.heap.size wr u)) (by kernel_rfl) (by kernel_rfl) rfl (Lib.hid (Below.refl _ _).drew) (fun u u' h hb => Lib.hid (h.out.trans (hb.mono h.out.size))) ?_
              repeat
                refine freeW_step fun K hK => ?_
                (first
                  | skip)
                go_simp
                apply Exists.intro
                refine ⟨fun u h1 => ?_, hK _ ?_⟩
                · obtain ⟨y0, y1⟩ := HCELL.out u h1.out
                  unfold freeAt
                  go_simp
                  first
                    | exact free_val
                    | (apply free_call
                       first
                         | fail
                       )
                clear hK K
              refine freeW_nil ?_
              intro u hC hb2
              have hwu := hC.out
              have HB0 := Lib.hid (HH.out.1.2.trans (hwu.mono HH.out.1.2.size))
              have HL := Lib.hid (HH.out.1.1.step hwu)
              obtain ⟨v', W', hrun, hri, hgr⟩ := HL.out.push HB0.out.size p (by omega)
              have HV := Lib.hid (And.intro hri (HB0.out.trans hgr))
              clear hC hb2 hri hgr hwu
              go_wp2_with (refine wpList_app8 rfl _ _ 26 26 rfl rfl rfl hrun ?_)
              have hsb : Sub (hide w K) W' := fun p _ hu => (HV.out.2.cell (World.block_lt_of_cell? w p (hide_less _ _ hu))).trans (hide_less _ _ hu)
              refine (HB1.out W' hsb).mono ?_
              rintro e u1 ⟨pa, qa, da, rfl, hra, rfl⟩
              have HRA := Lib.hid hra
              clear hra
              go_wp2_with fail
              go_at_call 94
              refine (HB2.out _ hsb).mono ?_
              rintro e u1 ⟨pb, qb, db, rfl, hrb, rfl⟩
              have HRB := Lib.hid hrb
              have HSB := Lib.hid hm2
              clear hrb hm2
              generalize behindL p (x :: a') = aa at *
              generalize behindL p (y :: b') = bb at *
              go_wp2
              refine ⟨⟨aa, bb, l ++ [p], pa, qa, da, pb, qb, db, rfl, rfl, ?_, Lib.hid ⟨HV.out, ⟨HRA.out, HRB.out⟩, n2, HSB.out, by rw [HS.out.2]; simp⟩⟩, ?_⟩
              · rw [List.length_append, List.length_singleton]; omega
              · simp only [lenV]; omega
end

section
open Go.RowKit

attribute [local irreducible] FreeW

theorem and_low (n : Nat) (h : n ≤ 1048576) : bits .and .u64 (n : Int) 4294967295 = (n : Int) := by
  have h1 := bits_and_u64_nat n 4294967295 (by omega) (by omega)
  have e : n &&& 4294967295 = n := by
    have : n &&& 4294967295 = n % 4294967296 := Nat.and_two_pow_sub_one_eq_mod n 32
    omega
  rw [e] at h1
  exact h1
set_option maxRecDepth 20000 in
set_option maxHeartbeats 4000000 in
theorem mul64_one (n : Nat) (h : n ≤ 1048576) (w : World) : Calls Tryd.prog 76 #[.int .u64 1, .int .u64 (n : Nat)] w fun e w' => e = .returned (.tuple #[.int .u64 0, .int .u64 (n : Nat)]) ∧ w' = w := by
  have e1 := and_low n h
  have e2 : (n : Int) / 4294967296 = 0 := by omega
  have e3 : IntKind.u64.wrap (n : Int) = (n : Int) := by rw [IntKind.wrap_u64]; omega
  have e4 : bits .and .u64 1 4294967295 = 1 := by decide +kernel
  have e5 : bits .and .u64 0 4294967295 = 0 := by decide +kernel
  have e6 : IntKind.u64.wrap 0 = 0 := by decide +kernel
  go_enter Tryd.func76, Tryd.ntmps76
  go_wp2
  go_ret2
  exact ⟨rfl, rfl⟩
theorem mul_one (n : Nat) (h : n ≤ 1048576) (w : World) : Calls Tryd.prog 55 #[.int .u64 1, .int .u64 (n : Nat)] w fun e w' => e = .returned (.tuple #[.int .u64 0, .int .u64 (n : Nat)]) ∧ w' = w := by
  have e3 : IntKind.u64.wrap (n : Int) = (n : Int) := by rw [IntKind.wrap_u64]; omega
  have e6 : IntKind.u64.wrap 0 = 0 := by decide +kernel
  have HM := Lib.hid (mul64_one n h w)
  go_enter Tryd.func55, Tryd.ntmps55
  go_wp2_with (go_at_call 76; refine HM.out.mono ?_; rintro e u ⟨rfl, hu⟩; obtain rfl := hu)
  go_ret2
  exact ⟨rfl, rfl⟩
theorem nil_eq (w : World) : (binOp BinOp.eql 26 (.slice none 0 0) (.slice none 0 0)).run Tryd.prog w = .ok (.bool true) w := by kernel_rfl
theorem nil_ne (w : World) (a : Addr) (n c : Nat) : (binOp BinOp.eql 26 (.slice (some a) n c) (.slice none 0 0)).run Tryd.prog w = .ok (.bool false) w := by kernel_rfl
set_option maxRecDepth 20000 in
set_option maxHeartbeats 4000000 in
theorem clone_ints (l : List Int) (v : Value) (w : World) (h : IntsV w l v) (hnil : l = [] → v = .slice none 0 0) (hl : l.length ≤ 1048576) :
    Calls Tryd.prog 56 #[v] w fun e w' => ∃ v', e = .returned v' ∧ RowI w.heap.size w' v' l ∧ Below w.heap.size w w' := by
  by_cases hne : l = []
  · obtain rfl := hnil hne
    subst hne
    clear hnil h
    have hq := nil_eq w
    go_enter Tryd.func56, Tryd.ntmps56
    go_wp2
    go_ret
    exact ⟨_, rfl, RowI.nil _ _, Below.refl _ _⟩
  · obtain ⟨b, o, c, rfl, hr⟩ := h.run hne
    obtain ⟨U, hU⟩ : ∃ U, w.alloc (.cells #[] 3) = U := ⟨_, rfl⟩
    have hsz : U.heap.size = w.heap.size + 1 := by rw [← hU]; simp
    have hb1 : Below w.heap.size w U := by rw [← hU]; exact (Below.refl _ _).alloc (Nat.le_refl _) _
    have hlt : b < w.heap.size := World.block_lt_of_cell? w ⟨b, o + 0, none⟩ (hr.2 0 (List.length_pos_iff.2 hne))
    have hr' : RunAt U l b o c := ⟨hr.1, fun i hi => (hb1.cell (p := ⟨b, o + i, none⟩) hlt).trans (hr.2 i hi)⟩
    have h0 : RowI w.heap.size U (.slice (some ⟨w.heap.size, 0, none⟩) 0 0) [] := by
      rw [← hU]
      exact ⟨rfl, .inr ⟨w.heap.size, 0, #[], rfl, Nat.le_refl _, BlkIs.new w _ _, Nat.le_refl _, by unfold maxLen; decide, rfl, rfl⟩⟩
    obtain ⟨v', W', hrun, hrow, hgr⟩ := h0.pushes (by omega) hr' (by simp; omega)
    have HN := Lib.hid (show RowI w.heap.size W' v' l ∧ Below w.heap.size w W' from ⟨hrow, hb1.grown hgr (by omega) (fun k hk => by injection hk with hk; rw [← hk]; exact Nat.le_refl _)⟩)
    clear hr hr' h0 hrow hgr hnil
    have hq := nil_ne w ⟨b, o, none⟩ l.length c
    go_enter Tryd.func56, Tryd.ntmps56
    go_wp2_with (refine wpList_app8 rfl _ _ 26 26 rfl rfl rfl hrun ?_)
    go_ret
    exact ⟨_, rfl, HN.out⟩
theorem noneF_puts (k m : Nat) : (fun i => if k ≤ i ∧ i < k + m then (Value.int .i64 (-1)) else noneF k i) = noneF (k + m) := by
  funext i
  unfold noneF
  by_cases h : k ≤ i ∧ i < k + m
  · rw [if_pos h, if_pos h.2]
  · rw [if_neg h]
    by_cases h2 : i < k
    · rw [if_pos h2, if_pos (by omega)]
    · rw [if_neg h2, if_neg (by omega)]
theorem copy_nones {W : World} {g n k : Nat} (h : BlkF W g 3 n (noneF k)) {b o dl dc sl sc m : Nat} (hm : m = Nat.min sl dl) (hkm : k + m ≤ n) (hsrc : ∀ j, j < m → W.cell? ⟨b, o + j, none⟩ = some (.int .i64 (-1))) :
    (Builtin.copy_ #[26, 26] 3 #[.slice (some ⟨g, k, none⟩) dl dc, .slice (some ⟨b, o, none⟩) sl sc]).run Tryd.prog W = .ok (goInt m) (W.setCells g k (List.replicate m (.int .i64 (-1)))) ∧ BlkF (W.setCells g k (List.replicate m (.int .i64 (-1)))) g 3 n (noneF (k + m)) := by
  refine ⟨?_, ?_⟩
  · have := run_copy_cells (P := Tryd.prog) W 26 26 3 3 g k dl dc ⟨b, o, none⟩ sl sc (List.replicate m (.int .i64 (-1))) Tryd.underlying26 (by kernel_rfl) (by simpa using hm) (fun j v hv => by
      rw [List.getElem?_replicate] at hv
      split at hv
      · injection hv with hv; subst hv; rw [Addr.add_lit]; exact hsrc j (by assumption)
      · cases hv) (fun j hj => by rw [BlkF.cell h (by simp at hj; omega)]; rfl) (fun j _ => BlkIs.frozen h _) (fun v hv => by rw [List.eq_of_mem_replicate hv]; rfl)
    rw [List.length_replicate] at this
    exact this
  · have := BlkF.puts (z := .int .i64 (-1)) m k W (noneF k) h
    rw [noneF_puts] at this
    exact this
set_option maxRecDepth 20000 in
set_option maxHeartbeats 8000000 in
theorem repeat_none (n : Nat) (h : n ≤ 1048576) (b : Nat) (w : World) (hx : w.cell? ⟨b, 0, none⟩ = some (.int .i64 (-1))) : Calls Tryd.prog 36 #[.slice (some ⟨b, 0, none⟩) 1 1, .int .i64 (n : Nat)] w fun e w' =>
    e = .returned (.slice (some ⟨w.heap.size, 0, none⟩) n n) ∧ BlkF w' w.heap.size 3 n (noneF n) ∧ Below w.heap.size w w' := by
  obtain ⟨W1, hW1⟩ : ∃ W1, (w.alloc (.cells (cellsN n fun _ => .int .i64 0) 3)) = W1 := ⟨_, rfl⟩
  have hb1 : Below w.heap.size w W1 := by rw [← hW1]; exact (Below.refl _ _).alloc (Nat.le_refl _) _
  have hx1 : BlkF W1 w.heap.size 3 n (noneF 0) := by rw [← hW1, ← noneF_none]; exact BlkIs.new w _ _
  have hmk := make_intsD n (by omega) w
  rw [hW1] at hmk
  have hlt : b < w.heap.size := World.block_lt_of_cell? w ⟨b, 0, none⟩ hx
  have hxc := (hb1.cell (p := ⟨b, 0, none⟩) hlt).trans hx
  have HMU := Lib.hid (mul_one n h w)
  have e1 : decide ((n : Int) < 0) = false := by simp
  have e3 : IntKind.u64.wrap (n : Int) = (n : Int) := by rw [IntKind.wrap_u64]; omega
  have e4 : IntKind.i64.wrap (n : Int) = (n : Int) := by rw [IntKind.wrap_i64]; omega
  have e5 : decide ((n : Int) > 9223372036854775807) = false := by simp; omega
  have e6 : decide ((9223372036854775807 : Int) < (n : Int)) = false := by simp; omega
  obtain ⟨m0, hm0⟩ : ∃ m0, m0 = Nat.min 1 n := ⟨_, rfl⟩
  have hm0' : m0 ≤ n ∧ (n = 0 ∨ 1 ≤ m0) := by
    rw [hm0]; simp only [Nat.min_def]; split <;> omega
  obtain ⟨hcp, hx2⟩ := copy_nones hx1 (b := b) (o := 0) (dl := n) (dc := n) (sl := 1) (sc := 1) hm0 (by omega) (fun j hj => by
    have : j = 0 := by rw [hm0] at hj; simp only [Nat.min_def] at hj; split at hj <;> omega
    subst this; exact hxc)
  obtain ⟨W2, hW2⟩ : ∃ W2, W1.setCells w.heap.size 0 (List.replicate m0 (.int .i64 (-1))) = W2 := ⟨_, rfl⟩
  rw [hW2] at hcp hx2
  have hb2 : Below w.heap.size w W2 := by rw [← hW2]; exact (Wrote.cells w.heap.size _ 0 W1).2.1 _ _ (Nat.le_refl _) hb1
  rw [Nat.zero_add] at hx2
  have HI := Lib.hid (And.intro hb2 hx2)
  have hgo : goInt m0 = .int .i64 (m0 : Nat) := rfl
  rw [hgo] at hcp
  clear hb1 hx1 hx2 hb2 hW1 hW2 hx hxc hgo hm0
  go_enter Tryd.func36, Tryd.ntmps36
  go_wp2_with (go_at_call 55; refine HMU.out.mono ?_; rintro e u ⟨rfl, hu⟩; obtain rfl := hu)
  clear hmk hcp HMU e1 e3 e4 e5 e6
  go_loopw [8] (fun i wr => ∃ k : Nat, i = .int .i64 k ∧ k ≤ n ∧ (n = 0 ∨ 1 ≤ k) ∧ Hid (Below u.heap.size u wr ∧ BlkF wr u.heap.size 3 n (noneF k))) (fun i _ => n - (intOf i).toNat)
  case atStart => exact ⟨m0, rfl, hm0'.1, hm0'.2, HI⟩
  case round =>
    obtain ⟨k, rfl, hk, hk0, HH⟩ := hrel
    by_cases hp : k < n
    · have hdl : decide ((k : Int) < (n : Int)) = true := by simp; omega
      obtain ⟨m, hm⟩ : ∃ m, m = Nat.min k (n - k) := ⟨_, rfl⟩
      have hmk : k + m ≤ n ∧ 1 ≤ m := by rw [hm]; simp only [Nat.min_def]; split <;> omega
      obtain ⟨hcp, hx2⟩ := copy_nones (W := wr.drew) HH.out.2 (b := u.heap.size) (o := 0) (dl := n - k) (dc := n - k) (sl := k) (sc := n) hm (by omega) (fun j hj => by
        have hj2 : j < k := by rw [hm] at hj; simp only [Nat.min_def] at hj; split at hj <;> omega
        have := BlkF.cell (W := wr.drew) HH.out.2 (i := 0 + j) (by omega)
        rw [this]; unfold noneF; rw [if_pos (by omega)])
      have hk1 : IntKind.i64.wrap ((k : Int) + (m : Int)) = ((k + m : Nat) : Int) := by rw [IntKind.wrap_i64]; omega
      have hgo : goInt m = .int .i64 (m : Nat) := rfl
      rw [hgo] at hcp
      have HN := Lib.hid (show Below u.heap.size u (wr.drew.setCells u.heap.size k (List.replicate m (.int .i64 (-1)))) ∧ BlkF (wr.drew.setCells u.heap.size k (List.replicate m (.int .i64 (-1)))) u.heap.size 3 n (noneF (k + m)) from
        ⟨(Wrote.cells u.heap.size _ k wr.drew).2.1 _ _ (Nat.le_refl _) HH.out.1.drew, hx2⟩)
      clear hx2 hgo hm
      go_wp2_with fail
      go_region
      go_wp2
      exact ⟨⟨k + m, rfl, by omega, .inr (by omega), HN⟩, by simp [intOf]; omega⟩
    · have hdl : decide ((k : Int) < (n : Int)) = false := by simp; omega
      obtain rfl : k = n := by omega
      go_wp2
      go_ret
      exact ⟨rfl, HH.out.2, HH.out.1⟩
end
end Go.Proofs.YtgngaaemkmdfaaaDoor
