/-
  WHAT hacklelaw09.Plain AND hacklelaw09.Of ANSWER: contracts: the same cells. No condition.
-/
import Derived.Test.YtkcnknhhabbomaaDoorQG16
import Derived.Test.YtkcnknhhabbomaaDoorQG07
namespace Go.Proofs.YtkcnknhhabbomaaDoor
open Go.RowKit

attribute [local irreducible] FreeW

theorem put_dn (f : Nat → Nat) (n n' : Int) (vn vt : Value) : putV (dfF f n vn vt) 256 (.int .i64 n') = dfF f n' vn vt := by
  funext i; unfold putV; by_cases h : i = 256
  · subst h; rfl
  · rw [if_neg h]; unfold dfF; simp only [if_neg h]
theorem put_dx (f : Nat → Nat) (n : Int) (vn vt v : Value) : putV (dfF f n vn vt) 257 v = dfF f n v vt := by
  funext i; unfold putV; by_cases h : i = 257
  · subst h; rfl
  · rw [if_neg h]; unfold dfF; simp only [if_neg h]
theorem put_dt (f : Nat → Nat) (n : Int) (vn vt v : Value) : ∀ i, i < 259 → putV (dfF f n vn vt) 258 v i = dfF f n vn v i := by
  intro i hi; unfold putV; by_cases h : i = 258
  · subst h; rfl
  · rw [if_neg h]; unfold dfF
    by_cases h1 : i < 256
    · simp only [if_pos h1]
    · by_cases h2 : i = 256
      · simp only [if_neg h1, if_pos h2]
      · have h3 : i = 257 := by omega
        simp only [if_neg h1, if_neg h2, if_pos h3]
section
variable {W : World} {g : Nat} {t : TypeId} {f : Nat → Nat} {n : Int} {vn vt : Value}
theorem blk_dn (h : BlkIs W g t (dfC f n vn vt)) (n' : Int) : BlkIs (W.setCell ⟨g, 256, none⟩ (.int .i64 n')) g t (dfC f n' vn vt) := by
  have := BlkF.put (h : BlkF W g t 259 (dfF f n vn vt)) 256 (.int .i64 n')
  rw [put_dn] at this
  exact this
theorem blk_dx (h : BlkIs W g t (dfC f n vn vt)) (v : Value) : BlkIs (W.setCell ⟨g, 257, none⟩ v) g t (dfC f n v vt) := by
  have := BlkF.put (h : BlkF W g t 259 (dfF f n vn vt)) 257 v
  rw [put_dx] at this
  exact this
theorem blk_dt (h : BlkIs W g t (dfC f n vn vt)) (v : Value) : BlkIs (W.setCell ⟨g, 258, none⟩ v) g t (dfC f n vn v) := by
  have := BlkF.put (h : BlkF W g t 259 (dfF f n vn vt)) 258 v
  unfold BlkF at this
  rw [cellsN_congr (put_dt f n vn vt v)] at this
  exact this
theorem store_of {P : Program} (h : BlkIs W g t (dfC f n vn vt)) (f' : Nat → Nat) : ∃ W9, (storeCells ⟨g, 0, none⟩ (ofC f').toList).run P W = .ok () W9 ∧ BlkIs W9 g t (dfC f' n vn vt) ∧ Wrote g W W9 := by
  refine ⟨_, storeCells_all (fun j hj => BlkIs.there h j (by rw [ofC_size] at hj; rw [dfC_size]; omega)) (by unfold ofC; exact cellsN_one fun _ => rfl), ?_, Wrote.cells g _ 0 W⟩
  have h1 := BlkF.putsL (ofC f').toList 0 W (dfF f n vn vt) h
  have e : cellsN 259 (fun i => if 0 ≤ i ∧ i < 0 + (ofC f').toList.length then (ofC f').toList.getD (i - 0) undef else dfF f n vn vt i) = dfC f' n vn vt := cellsN_congr fun i hi => by
    rw [Array.length_toList, ofC_size]
    by_cases h2 : i < 256
    · rw [if_pos (by omega), Nat.sub_zero, List.getD_eq_getElem?_getD, Array.getElem?_toList, ofC_get f' h2]
      unfold dfF
      rw [if_pos h2]; rfl
    · rw [if_neg (by omega)]
      unfold dfF
      simp only [if_neg h2]
  unfold BlkF at h1
  rw [e] at h1
  exact h1
end
set_option maxRecDepth 20000 in
set_option maxHeartbeats 8000000 in
theorem plain9_any (f : Nat → Nat) (n : Int) (A : Option Addr) (na ca : Nat) (B : Option Addr) (nb cb : Nat) (w : World) : Calls Tryd.prog 11 #[.agg (dfC f n (.slice A na ca) (.slice B nb cb))] w fun e w' => e = .returned (.agg (dfC f n (.slice A na ca) (.slice B nb cb))) ∧ Below w.heap.size w w' := by
  obtain ⟨W1, hW1, hs1, hb1, hx1⟩ := boxed_df f n (.slice A na ca) (.slice B nb cb) w
  obtain ⟨W2, hW2⟩ : ∃ W2, W1.alloc (.cells df0 44) = W2 := ⟨_, rfl⟩
  obtain ⟨W3, hW3⟩ : ∃ W3, W2.alloc (.cells df0 44) = W3 := ⟨_, rfl⟩
  have hs2 : W2.heap.size = w.heap.size + 2 := by rw [← hW2]; simp [hs1]
  have hs3 : W3.heap.size = w.heap.size + 3 := by rw [← hW3]; simp [hs2]
  have hb2 : Below w.heap.size w W2 := by rw [← hW2]; exact hb1.alloc (by omega) _
  have hb3 : Below w.heap.size w W3 := by rw [← hW3]; exact hb2.alloc (by omega) _
  have hx3 : BlkIs W3 w.heap.size 35 (dfC f n (.slice A na ca) (.slice B nb cb)) := by rw [← hW3, ← hW2]; exact (hx1.alloc _).alloc _
  have hy3 : BlkIs W3 (w.heap.size + 1) 44 df0 := by rw [← hW3, ← hW2, ← hs1]; exact (BlkIs.new W1 _ _).alloc _
  have hz3 : BlkIs W3 (w.heap.size + 2) 44 df0 := by rw [← hW3, ← hs2]; exact BlkIs.new W2 _ _
  -- the classes, the others
  obtain ⟨W4, hsc4, hz4, hw4⟩ := store_of (P := Tryd.prog) (show BlkIs W3 (w.heap.size + 2) 44 (dfC (fun _ => 0) 0 (.slice none 0 0) (.slice none 0 0)) from hz3) f
  have hx4 := hw4.blk (show w.heap.size ≠ w.heap.size + 2 by omega) hx3
  have hy4 := hw4.blk (show w.heap.size + 1 ≠ w.heap.size + 2 by omega) hy3
  have hb4 := hw4.2.1 _ _ (show w.heap.size ≤ w.heap.size + 2 by omega) hb3
  have hz5 := blk_dt (blk_dx (blk_dn hz4 n) (.slice A na ca)) (.slice B nb cb)
  have hd4 := (DfB.of hx4).cells
  have hd4z := (DfB.of hz4).cells
  have fz1 := BlkIs.frozen hz4 256
  have fz2 := BlkIs.frozen hz4 257
  have fz3 := BlkIs.frozen hz4 258
  have hb5 : Below w.heap.size w (((W4.setCell ⟨w.heap.size + 2, 256, none⟩ (.int .i64 n)).setCell ⟨w.heap.size + 2, 257, none⟩ (.slice A na ca)).setCell ⟨w.heap.size + 2, 258, none⟩ (.slice B nb cb)) :=
    ((hb4.setCell (p := ⟨w.heap.size + 2, 256, none⟩) (by show w.heap.size ≤ w.heap.size + 2; omega) _).setCell (p := ⟨w.heap.size + 2, 257, none⟩) (by show w.heap.size ≤ w.heap.size + 2; omega) _).setCell (p := ⟨w.heap.size + 2, 258, none⟩) (by show w.heap.size ≤ w.heap.size + 2; omega) _
  have hy5 : BlkIs (((W4.setCell ⟨w.heap.size + 2, 256, none⟩ (.int .i64 n)).setCell ⟨w.heap.size + 2, 257, none⟩ (.slice A na ca)).setCell ⟨w.heap.size + 2, 258, none⟩ (.slice B nb cb)) (w.heap.size + 1) 44 df0 :=
    (Below.heap_setCell _ _ _ _ (by show w.heap.size + 1 ≠ w.heap.size + 2; omega)).trans ((Below.heap_setCell _ _ _ _ (by show w.heap.size + 1 ≠ w.heap.size + 2; omega)).trans ((Below.heap_setCell _ _ _ _ (by show w.heap.size + 1 ≠ w.heap.size + 2; omega)).trans hy4))
  generalize hW5 : ((W4.setCell ⟨w.heap.size + 2, 256, none⟩ (.int .i64 n)).setCell ⟨w.heap.size + 2, 257, none⟩ (.slice A na ca)).setCell ⟨w.heap.size + 2, 258, none⟩ (.slice B nb cb) = W5 at *
  obtain ⟨W9, hsc, hb9, hw9⟩ := store_blk (P := Tryd.prog) hy5 (new := dfC f n (.slice A na ca) (.slice B nb cb)) (by rw [dfC_size]; exact (dfC_size _ _ _ _).symm) (dfC_one _ _ _ _ rfl rfl)
  have hl9 := loadVarDr (DfB.of hb9)
  have HB9 := Lib.hid (hw9.2.1 _ _ (show w.heap.size ≤ w.heap.size + 1 by omega) hb5)
  have HX := Lib.hid (DfB.of hx3)
  have HZ := Lib.hid (DfB.of hz5)
  have hds : (dfC f n (.slice A na ca) (.slice B nb cb)).size = 259 := dfC_size _ _ _ _
  have hos : (ofC f).size = 256 := ofC_size f
  obtain ⟨d9, hd9⟩ : ∃ d9, dfC f n (.slice A na ca) (.slice B nb cb) = d9 := ⟨_, rfl⟩
  obtain ⟨d0, hd0⟩ : ∃ d0, df0 = d0 := ⟨_, rfl⟩
  obtain ⟨o9, ho9⟩ : ∃ o9, ofC f = o9 := ⟨_, rfl⟩
  have z := zeroDr
  rw [hd0] at z hW2 hW3
  rw [hd9] at hW1 hsc hl9 hds
  rw [ho9] at hsc4 hos
  rw [hd9]
  obtain ⟨k256, k257, k258⟩ := hd4
  obtain ⟨m256, m257, m258⟩ := hd4z
  clear hb1 hx1 hb2 hb3 hx3 hy3 hz3 hz4 hw4 hx4 hy4 hb4 hz5 hb5 hy5 hb9 hw9
  go_enter Tryd.func11, Tryd.ntmps11
  go_wp2_with (first
    | ((with_reducible refine wpList_loadDo rfl (.tmp 5) ?_ ?_ HX.out ?_); exact rfl; exact rfl; rw [ho9])
    | ((with_reducible refine wpList_loadDr rfl (.tmp 3) ?_ ?_ HZ.out ?_); exact rfl; exact rfl; rw [hd9]))
  exact bodyPost_ret (results_cell1 rfl rfl hl9) rfl ⟨rfl, HB9.out⟩
end Go.Proofs.YtkcnknhhabbomaaDoor

namespace Go.Proofs.YtkcnknhhabbomaaDoor
open Go.RowKit

attribute [local irreducible] FreeW textFrame

theorem wpList_neqR9 {ops : Array Oper} {rest : List Oper} {op : Oper} {a : Act} {w : World} {Q : Exit → Act → World → Prop} {f : Nat → Nat} {n : Int} (hgd : op.guard = none) (x y : Operand) (ho : op.op = .binOp .neq 31 x y 31) {f' : Nat → Nat} {n' : Int} (hx : a.eval x = .agg (clsC f n)) (hy : a.eval y = .agg (clsC f' n'))
    (hK : wpList Tryd.prog ops Q rest (a.put op.dst (.bool (!sameB f f' n n'))) w) : wpList Tryd.prog ops Q (op :: rest) a w := by
  refine wpList_plain hgd fun K' hK' => ?_
  have hq := run_eqGuard_agg (P := Tryd.prog) w .neq 31 x y (clsC f n) (clsC f' n') (by kernel_rfl)
  unfold Oper.wp execOp
  simp only [ho, hx, hy, Sem.run_bind, Sem.run_pure, hq, neq_ref, Result.andThen_ok]
  exact hK' _ _ hK
def sameD (D E : Df) : Bool := sameB D.of E.of D.n E.n && (decide (D.tag = E.tag) && decide (D.next = E.next))
theorem list_from {α : Type} [DecidableEq α] (l r : List α) (h : l.length = r.length) (j : Nat) (hj : j < l.length) : decide (l.drop j = r.drop j) = (decide (l[j] = r[j]'(by omega)) && decide (l.drop (j + 1) = r.drop (j + 1))) := by
  rw [List.drop_eq_getElem_cons hj, List.drop_eq_getElem_cons (by omega : j < r.length)]
  rw [Bool.eq_iff_iff]
  simp only [List.cons.injEq, decide_eq_true_eq, Bool.and_eq_true]
set_option maxRecDepth 20000 in
set_option maxHeartbeats 8000000 in
theorem sameR_any (D E : Df) (v v' : Value) (w : World) (h : DfAt w D v) (h' : DfAt w E v') : Calls Tryd.prog 10 #[v, v'] w fun e w' => e = .returned (.bool (sameD D E)) ∧ Below w.heap.size w w' := by
  obtain ⟨vn, vt, rfl, hrn, hrt⟩ := h
  obtain ⟨vn', vt', rfl, hrn', hrt'⟩ := h'
  obtain ⟨W1, hW1, hs1, hb1, hx1⟩ := boxed_dr D.of D.n vn vt w
  obtain ⟨W2, hW2, hs2, hb2, hx2⟩ := boxed_dr E.of E.n vn' vt' W1
  have hbb : Below w.heap.size w W2 := hb1.trans (hb2.mono (by omega))
  have hd1 := (DfB.of hx1).step hb2
  have hd2 := DfB.of hx2
  rw [hs1] at hs2 hd2
  obtain ⟨c256, c257, c258⟩ := hd1.cells
  obtain ⟨k256, k257, k258⟩ := hd2.cells
  have HIT := Lib.hid (ints_any D.tag E.tag vt vt' W2 (hrt.step hbb) (hrt'.step hbb))
  obtain ⟨An, cn, rfl, hcn, hgn⟩ := hrn.step hbb
  obtain ⟨An2, cn2, rfl, hcn2, hgn2⟩ := hrn'.step hbb
  obtain ⟨At, ct, rfl, hct, _⟩ := hrt
  obtain ⟨At2, ct2, rfl, hct2, _⟩ := hrt'
  have HG := Lib.hid (And.intro hgn hgn2)
  have HD := Lib.hid (And.intro hd1 hd2)
  have HB := Lib.hid hbb
  obtain ⟨R, hR⟩ : ∃ R, R = sameD D E := ⟨_, rfl⟩
  rw [← hR]
  unfold sameD at hR
  obtain ⟨d9, hd9⟩ : ∃ d9, dfC D.of D.n (.slice An D.next.length cn) (.slice At D.tag.length ct) = d9 := ⟨_, rfl⟩
  obtain ⟨e9, he9⟩ : ∃ e9, dfC E.of E.n (.slice An2 E.next.length cn2) (.slice At2 E.tag.length ct2) = e9 := ⟨_, rfl⟩
  have hds : d9.size = 259 := by rw [← hd9]; exact dfC_size _ _ _ _
  have hes : e9.size = 259 := by rw [← he9]; exact dfC_size _ _ _ _
  rw [hd9] at hW1
  rw [he9] at hW2
  rw [hd9, he9]
  have HK0 := Lib.hid (And.intro c257 k257)
  have HL2 := Lib.hid (show w.heap.size < W2.heap.size ∧ w.heap.size + 1 < W2.heap.size by omega)
  clear hrn hrn' hb1 hb2 hbb hx1 hx2 hd1 hd2 hgn hgn2
  cases hsb : sameB D.of E.of D.n E.n with
  | false =>
    have HN := Lib.hid (show R = false by rw [hR, hsb]; rfl)
    clear hR HIT
    go_enter Tryd.func10, Tryd.ntmps10
    go_wp2_with (first
      | ((with_reducible refine wpList_loadDcr rfl (.tmp 6) ?_ ?_ HD.out.1 ?_); exact rfl; exact rfl)
      | ((with_reducible refine wpList_loadDcr rfl (.tmp 8) ?_ ?_ HD.out.2 ?_); exact rfl; exact rfl)
      | ((with_reducible refine wpList_neqR9 (f := D.of) (n := D.n) (f' := E.of) (n' := E.n) rfl (.tmp 7) (.tmp 9) ?_ ?_ ?_ ?_); exact rfl; exact rfl; exact rfl; rw [hsb]))
    go_ret
    exact ⟨by rw [HN.out]; rfl, HB.out⟩
  | true =>
    rw [hsb, Bool.true_and] at hR
    cases htg : decide (D.tag = E.tag) with
    | false =>
      have HN := Lib.hid (show R = false by rw [hR, htg]; rfl)
      clear hR
      go_enter Tryd.func10, Tryd.ntmps10
      go_wp2_with (first
      | ((with_reducible refine wpList_loadDcr rfl (.tmp 6) ?_ ?_ HD.out.1 ?_); exact rfl; exact rfl)
      | ((with_reducible refine wpList_loadDcr rfl (.tmp 8) ?_ ?_ HD.out.2 ?_); exact rfl; exact rfl)
      | ((with_reducible refine wpList_neqR9 (f := D.of) (n := D.n) (f' := E.of) (n' := E.n) rfl (.tmp 7) (.tmp 9) ?_ ?_ ?_ ?_); exact rfl; exact rfl; exact rfl; rw [hsb])
      | (go_at_call 24; refine HIT.out.mono ?_; rintro e u1 ⟨rfl, hbu⟩; have HU := Lib.hid hbu; have q1 := (hbu.cell (p := ⟨w.heap.size, 257, none⟩) HL2.out.1).trans HK0.out.1; have q2 := (hbu.cell (p := ⟨w.heap.size + 1, 257, none⟩) HL2.out.2).trans HK0.out.2; rw [htg]; clear hbu))
      go_ret
      exact ⟨by rw [HN.out]; rfl, HB.out.trans (HU.out.mono HB.out.size)⟩
    | true =>
      rw [htg, Bool.true_and] at hR
      by_cases hl : D.next.length = E.next.length
      · have e1 : ((D.next.length : Int) != (E.next.length : Int)) = false := by simp; omega
        have HN := Lib.hid (show R = decide (D.next.drop 0 = E.next.drop 0) from hR)
        clear hR
        go_enter Tryd.func10, Tryd.ntmps10
        go_wp2_with (first
      | ((with_reducible refine wpList_loadDcr rfl (.tmp 6) ?_ ?_ HD.out.1 ?_); exact rfl; exact rfl)
      | ((with_reducible refine wpList_loadDcr rfl (.tmp 8) ?_ ?_ HD.out.2 ?_); exact rfl; exact rfl)
      | ((with_reducible refine wpList_neqR9 (f := D.of) (n := D.n) (f' := E.of) (n' := E.n) rfl (.tmp 7) (.tmp 9) ?_ ?_ ?_ ?_); exact rfl; exact rfl; exact rfl; rw [hsb])
      | (go_at_call 24; refine HIT.out.mono ?_; rintro e u1 ⟨rfl, hbu⟩; have HU := Lib.hid hbu; have q1 := (hbu.cell (p := ⟨w.heap.size, 257, none⟩) HL2.out.1).trans HK0.out.1; have q2 := (hbu.cell (p := ⟨w.heap.size + 1, 257, none⟩) HL2.out.2).trans HK0.out.2; rw [htg]; clear hbu))
        have HHS := Lib.hid (show Below W2.heap.size W2 u1 from HU.out)
        clear hW1 hW2 hds hes HIT HD c256 k256 c257 k257 c258 k258 q1 q2
        go_loopw [5] (fun i wr => ∃ j : Nat, i = .int .i64 j ∧ j ≤ D.next.length ∧ Hid (Below W2.heap.size W2 wr ∧ R = decide (D.next.drop j = E.next.drop j))) (fun i _ => D.next.length - (intOf i).toNat)
        case atStart => exact ⟨0, rfl, Nat.zero_le _, Lib.hid ⟨HHS.out, HN.out⟩⟩
        case round =>
          obtain ⟨j, rfl, hj, HH⟩ := hrel
          obtain ⟨wq, rfl⟩ : ∃ wq, wq = wr := ⟨_, rfl⟩
          clear HHS HU HN
          have q1 := (HH.out.1.cell (p := ⟨w.heap.size, 257, none⟩) HL2.out.1).trans HK0.out.1
          by_cases hp : j < D.next.length
          · have hk1 : IntKind.i64.wrap ((j : Int) + 1) = ((j + 1 : Nat) : Int) := by rw [IntKind.wrap_i64]; omega
            have hdl : decide ((j : Int) < (D.next.length : Int)) = true := by simp; omega
            have hdl2 : decide ((j : Int) < (E.next.length : Int)) = true := by simp; omega
            obtain ⟨b1, o1, rfl, hlt1, hg1⟩ := HG.out.1 (by intro e; rw [e] at hp; simp at hp)
            obtain ⟨b2, o2, rfl, hlt2, hg2⟩ := HG.out.2 (by intro e; rw [e] at hl; simp at hl; rw [hl] at hp; simp at hp)
            obtain ⟨v1, hc1, hv1⟩ := hg1 j hp
            obtain ⟨v2, hc2, hv2⟩ := hg2 j (by omega)
            have hd := HH.out.2
            rw [list_from _ _ hl j hp] at hd
            generalize D.next[j] = r1 at *
            generalize E.next[j] = r2 at *
            have HIN := Lib.hid (fun (u : World) (hu : Below W2.heap.size W2 u) => ints_any r1 r2 v1 v2 u (hv1.step hu) (hv2.step hu))
            have HK := Lib.hid (And.intro HK0.out.1 (And.intro HK0.out.2 (And.intro hc1 hc2)))
            have HLT := Lib.hid (And.intro hlt1 hlt2)
            have HDL := Lib.hid hdl
            have HDL2 := Lib.hid hdl2
            have HP0 := Lib.hid (show (0 : Int) ≤ (j : Int) by omega)
            have HRD := Lib.hid hd
            clear hd hg1 hg2 hc1 hc2 hv1 hv2
            go_wp2_with fail
            refine wp_region_acts 12 47 (fun u => Hid (Below W2.heap.size W2 u)) (fun _ u u' => Below u.heap.size u u')
              (fun i v u => match i with
                | 0 => v = .pointer (some ⟨w.heap.size, 257, none⟩)
                | 1 => v = .slice (some ⟨b1, o1, none⟩) D.next.length cn
                | 2 => v = .int .i64 (j : Nat)
                | 3 => v = .pointer (some ⟨b1, o1 + j, none⟩)
                | 4 => v = v1
                | 5 => v = .pointer (some ⟨w.heap.size + 1, 257, none⟩)
                | 6 => v = .slice (some ⟨b2, o2, none⟩) E.next.length cn2
                | 7 => v = .int .i64 (j : Nat)
                | 8 => v = .pointer (some ⟨b2, o2 + j, none⟩)
                | 9 => v = v2
                | 10 => v = .bool (decide (r1 = r2))
                | 11 => v = .bool (!decide (r1 = r2))
                | _ => True) (by kernel_rfl) (by kernel_rfl) rfl (Lib.hid HH.out.1.drew) ?_ ?_ ?_ ?_
            · intro i u u' hix hC hr
              exact Lib.hid (hC.out.trans (hr.mono hC.out.size))
            · intro i j v u u' hix hj hne hv hr
              match i, hix, hne, hv with
              | 0, _, _, hv => exact hv
              | 1, _, _, hv => exact hv
              | 2, _, _, hv => exact hv
              | 3, _, _, hv => exact hv
              | 4, _, _, hv => exact hv
              | 5, _, _, hv => exact hv
              | 6, _, _, hv => exact hv
              | 7, _, _, hv => exact hv
              | 8, _, _, hv => exact hv
              | 9, _, _, hv => exact hv
              | 10, _, _, hv => exact hv
              | 11, _, _, hv => exact hv
              | i + 12, hix, _, _ => omega
            · intro i hix vs u hC hw oq ho
              match i, hix, hw, ho with
              | 0, _, hw, ho =>
                simp only [List.getElem?_toArray, List.getElem?_cons_zero, Option.some.injEq] at ho
                subst ho
                refine ⟨rfl, ?_⟩
                have q1 := (hC.out.cell (p := ⟨w.heap.size, 257, none⟩) HL2.out.1).trans HK.out.1
                have q2 := (hC.out.cell (p := ⟨w.heap.size + 1, 257, none⟩) HL2.out.2).trans HK.out.2.1
                have q3 := (hC.out.cell (p := ⟨b1, o1 + j, none⟩) HLT.out.1).trans HK.out.2.2.1
                have q4 := (hC.out.cell (p := ⟨b2, o2 + j, none⟩) HLT.out.2).trans HK.out.2.2.2
                clear hw
                simp only [textFrame_eq, tmpsTo]
                go_simp
                exact act_val (Below.refl _ _) rfl
              | 1, _, hw, ho =>
                have e0 : vs 0 = .pointer (some ⟨w.heap.size, 257, none⟩) := hw 0 (by omega) (by kernel_rfl)
                simp only [List.getElem?_toArray, List.getElem?_cons_zero, List.getElem?_cons_succ, Option.some.injEq] at ho
                subst ho
                refine ⟨rfl, ?_⟩
                have q1 := (hC.out.cell (p := ⟨w.heap.size, 257, none⟩) HL2.out.1).trans HK.out.1
                have q2 := (hC.out.cell (p := ⟨w.heap.size + 1, 257, none⟩) HL2.out.2).trans HK.out.2.1
                have q3 := (hC.out.cell (p := ⟨b1, o1 + j, none⟩) HLT.out.1).trans HK.out.2.2.1
                have q4 := (hC.out.cell (p := ⟨b2, o2 + j, none⟩) HLT.out.2).trans HK.out.2.2.2
                clear hw
                simp only [textFrame_eq, tmpsTo, putT, List.getElem?_toArray, List.getElem?_cons_zero, Option.bind_some, List.setIfInBounds_toArray, List.set_cons_zero, List.set_cons_succ]
                rw [e0]
                clear e0
                go_simp
                exact act_val (Below.refl _ _) rfl
              | 2, _, hw, ho =>
                simp only [List.getElem?_toArray, List.getElem?_cons_zero, List.getElem?_cons_succ, Option.some.injEq] at ho
                subst ho
                refine ⟨rfl, ?_⟩
                have q1 := (hC.out.cell (p := ⟨w.heap.size, 257, none⟩) HL2.out.1).trans HK.out.1
                have q2 := (hC.out.cell (p := ⟨w.heap.size + 1, 257, none⟩) HL2.out.2).trans HK.out.2.1
                have q3 := (hC.out.cell (p := ⟨b1, o1 + j, none⟩) HLT.out.1).trans HK.out.2.2.1
                have q4 := (hC.out.cell (p := ⟨b2, o2 + j, none⟩) HLT.out.2).trans HK.out.2.2.2
                clear hw
                simp only [textFrame_eq, tmpsTo, putT, List.getElem?_toArray, List.getElem?_cons_zero, List.getElem?_cons_succ, Option.bind_some, List.setIfInBounds_toArray, List.set_cons_zero, List.set_cons_succ]
                go_simp
                exact act_val (Below.refl _ _) rfl
              | 3, _, hw, ho =>
                have e1 : vs 1 = .slice (some ⟨b1, o1, none⟩) D.next.length cn := hw 1 (by omega) (by kernel_rfl)
                have e2 : vs 2 = .int .i64 (j : Nat) := hw 2 (by omega) (by kernel_rfl)
                simp only [List.getElem?_toArray, List.getElem?_cons_zero, List.getElem?_cons_succ, Option.some.injEq] at ho
                subst ho
                refine ⟨rfl, ?_⟩
                have q1 := (hC.out.cell (p := ⟨w.heap.size, 257, none⟩) HL2.out.1).trans HK.out.1
                have q2 := (hC.out.cell (p := ⟨w.heap.size + 1, 257, none⟩) HL2.out.2).trans HK.out.2.1
                have q3 := (hC.out.cell (p := ⟨b1, o1 + j, none⟩) HLT.out.1).trans HK.out.2.2.1
                have q4 := (hC.out.cell (p := ⟨b2, o2 + j, none⟩) HLT.out.2).trans HK.out.2.2.2
                clear hw
                simp only [textFrame_eq, tmpsTo, putT, List.getElem?_toArray, List.getElem?_cons_zero, List.getElem?_cons_succ, Option.bind_some, List.setIfInBounds_toArray, List.set_cons_zero, List.set_cons_succ]
                rw [e1, e2]
                clear e1 e2
                have hdl := HDL.out
                have hp0 := HP0.out
                go_simp
                exact act_val (Below.refl _ _) rfl
              | 4, _, hw, ho =>
                have e3 : vs 3 = .pointer (some ⟨b1, o1 + j, none⟩) := hw 3 (by omega) (by kernel_rfl)
                simp only [List.getElem?_toArray, List.getElem?_cons_zero, List.getElem?_cons_succ, Option.some.injEq] at ho
                subst ho
                refine ⟨rfl, ?_⟩
                have q1 := (hC.out.cell (p := ⟨w.heap.size, 257, none⟩) HL2.out.1).trans HK.out.1
                have q2 := (hC.out.cell (p := ⟨w.heap.size + 1, 257, none⟩) HL2.out.2).trans HK.out.2.1
                have q3 := (hC.out.cell (p := ⟨b1, o1 + j, none⟩) HLT.out.1).trans HK.out.2.2.1
                have q4 := (hC.out.cell (p := ⟨b2, o2 + j, none⟩) HLT.out.2).trans HK.out.2.2.2
                clear hw
                simp only [textFrame_eq, tmpsTo, putT, List.getElem?_toArray, List.getElem?_cons_zero, List.getElem?_cons_succ, Option.bind_some, List.setIfInBounds_toArray, List.set_cons_zero, List.set_cons_succ]
                rw [e3]
                clear e3
                go_simp
                exact act_val (Below.refl _ _) rfl
              | 5, _, hw, ho =>
                simp only [List.getElem?_toArray, List.getElem?_cons_zero, List.getElem?_cons_succ, Option.some.injEq] at ho
                subst ho
                refine ⟨rfl, ?_⟩
                have q1 := (hC.out.cell (p := ⟨w.heap.size, 257, none⟩) HL2.out.1).trans HK.out.1
                have q2 := (hC.out.cell (p := ⟨w.heap.size + 1, 257, none⟩) HL2.out.2).trans HK.out.2.1
                have q3 := (hC.out.cell (p := ⟨b1, o1 + j, none⟩) HLT.out.1).trans HK.out.2.2.1
                have q4 := (hC.out.cell (p := ⟨b2, o2 + j, none⟩) HLT.out.2).trans HK.out.2.2.2
                clear hw
                simp only [textFrame_eq, tmpsTo, putT, List.getElem?_toArray, List.getElem?_cons_zero, List.getElem?_cons_succ, Option.bind_some, List.setIfInBounds_toArray, List.set_cons_zero, List.set_cons_succ]
                go_simp
                exact act_val (Below.refl _ _) rfl
              | 6, _, hw, ho =>
                have e5 : vs 5 = .pointer (some ⟨w.heap.size + 1, 257, none⟩) := hw 5 (by omega) (by kernel_rfl)
                simp only [List.getElem?_toArray, List.getElem?_cons_zero, List.getElem?_cons_succ, Option.some.injEq] at ho
                subst ho
                refine ⟨rfl, ?_⟩
                have q1 := (hC.out.cell (p := ⟨w.heap.size, 257, none⟩) HL2.out.1).trans HK.out.1
                have q2 := (hC.out.cell (p := ⟨w.heap.size + 1, 257, none⟩) HL2.out.2).trans HK.out.2.1
                have q3 := (hC.out.cell (p := ⟨b1, o1 + j, none⟩) HLT.out.1).trans HK.out.2.2.1
                have q4 := (hC.out.cell (p := ⟨b2, o2 + j, none⟩) HLT.out.2).trans HK.out.2.2.2
                clear hw
                simp only [textFrame_eq, tmpsTo, putT, List.getElem?_toArray, List.getElem?_cons_zero, List.getElem?_cons_succ, Option.bind_some, List.setIfInBounds_toArray, List.set_cons_zero, List.set_cons_succ]
                rw [e5]
                clear e5
                go_simp
                exact act_val (Below.refl _ _) rfl
              | 7, _, hw, ho =>
                simp only [List.getElem?_toArray, List.getElem?_cons_zero, List.getElem?_cons_succ, Option.some.injEq] at ho
                subst ho
                refine ⟨rfl, ?_⟩
                have q1 := (hC.out.cell (p := ⟨w.heap.size, 257, none⟩) HL2.out.1).trans HK.out.1
                have q2 := (hC.out.cell (p := ⟨w.heap.size + 1, 257, none⟩) HL2.out.2).trans HK.out.2.1
                have q3 := (hC.out.cell (p := ⟨b1, o1 + j, none⟩) HLT.out.1).trans HK.out.2.2.1
                have q4 := (hC.out.cell (p := ⟨b2, o2 + j, none⟩) HLT.out.2).trans HK.out.2.2.2
                clear hw
                simp only [textFrame_eq, tmpsTo, putT, List.getElem?_toArray, List.getElem?_cons_zero, List.getElem?_cons_succ, Option.bind_some, List.setIfInBounds_toArray, List.set_cons_zero, List.set_cons_succ]
                go_simp
                exact act_val (Below.refl _ _) rfl
              | 8, _, hw, ho =>
                have e6 : vs 6 = .slice (some ⟨b2, o2, none⟩) E.next.length cn2 := hw 6 (by omega) (by kernel_rfl)
                have e7 : vs 7 = .int .i64 (j : Nat) := hw 7 (by omega) (by kernel_rfl)
                simp only [List.getElem?_toArray, List.getElem?_cons_zero, List.getElem?_cons_succ, Option.some.injEq] at ho
                subst ho
                refine ⟨rfl, ?_⟩
                have q1 := (hC.out.cell (p := ⟨w.heap.size, 257, none⟩) HL2.out.1).trans HK.out.1
                have q2 := (hC.out.cell (p := ⟨w.heap.size + 1, 257, none⟩) HL2.out.2).trans HK.out.2.1
                have q3 := (hC.out.cell (p := ⟨b1, o1 + j, none⟩) HLT.out.1).trans HK.out.2.2.1
                have q4 := (hC.out.cell (p := ⟨b2, o2 + j, none⟩) HLT.out.2).trans HK.out.2.2.2
                clear hw
                simp only [textFrame_eq, tmpsTo, putT, List.getElem?_toArray, List.getElem?_cons_zero, List.getElem?_cons_succ, Option.bind_some, List.setIfInBounds_toArray, List.set_cons_zero, List.set_cons_succ]
                rw [e6, e7]
                clear e6 e7
                have hdl := HDL2.out
                have hp0 := HP0.out
                go_simp
                exact act_val (Below.refl _ _) rfl
              | 9, _, hw, ho =>
                have e8 : vs 8 = .pointer (some ⟨b2, o2 + j, none⟩) := hw 8 (by omega) (by kernel_rfl)
                simp only [List.getElem?_toArray, List.getElem?_cons_zero, List.getElem?_cons_succ, Option.some.injEq] at ho
                subst ho
                refine ⟨rfl, ?_⟩
                have q1 := (hC.out.cell (p := ⟨w.heap.size, 257, none⟩) HL2.out.1).trans HK.out.1
                have q2 := (hC.out.cell (p := ⟨w.heap.size + 1, 257, none⟩) HL2.out.2).trans HK.out.2.1
                have q3 := (hC.out.cell (p := ⟨b1, o1 + j, none⟩) HLT.out.1).trans HK.out.2.2.1
                have q4 := (hC.out.cell (p := ⟨b2, o2 + j, none⟩) HLT.out.2).trans HK.out.2.2.2
                clear hw
                simp only [textFrame_eq, tmpsTo, putT, List.getElem?_toArray, List.getElem?_cons_zero, List.getElem?_cons_succ, Option.bind_some, List.setIfInBounds_toArray, List.set_cons_zero, List.set_cons_succ]
                rw [e8]
                clear e8
                go_simp
                exact act_val (Below.refl _ _) rfl
              | 10, _, hw, ho =>
                have e4 : vs 4 = v1 := hw 4 (by omega) (by kernel_rfl)
                have e9 : vs 9 = v2 := hw 9 (by omega) (by kernel_rfl)
                simp only [List.getElem?_toArray, List.getElem?_cons_zero, List.getElem?_cons_succ, Option.some.injEq] at ho
                subst ho
                refine ⟨rfl, ?_⟩
                have q1 := (hC.out.cell (p := ⟨w.heap.size, 257, none⟩) HL2.out.1).trans HK.out.1
                have q2 := (hC.out.cell (p := ⟨w.heap.size + 1, 257, none⟩) HL2.out.2).trans HK.out.2.1
                have q3 := (hC.out.cell (p := ⟨b1, o1 + j, none⟩) HLT.out.1).trans HK.out.2.2.1
                have q4 := (hC.out.cell (p := ⟨b2, o2 + j, none⟩) HLT.out.2).trans HK.out.2.2.2
                clear hw
                simp only [textFrame_eq, tmpsTo, putT, List.getElem?_toArray, List.getElem?_cons_zero, List.getElem?_cons_succ, Option.bind_some, List.setIfInBounds_toArray, List.set_cons_zero, List.set_cons_succ]
                rw [e4, e9]
                clear e4 e9
                go_simp
                refine act_call ((HIN.out u hC.out).mono ?_)
                rintro e u' ⟨rfl, hbu⟩
                exact ⟨_, rfl, hbu, rfl⟩
              | 11, _, hw, ho =>
                have e10 : vs 10 = .bool (decide (r1 = r2)) := hw 10 (by omega) (by kernel_rfl)
                simp only [List.getElem?_toArray, List.getElem?_cons_zero, List.getElem?_cons_succ, Option.some.injEq] at ho
                subst ho
                refine ⟨rfl, ?_⟩
                have q1 := (hC.out.cell (p := ⟨w.heap.size, 257, none⟩) HL2.out.1).trans HK.out.1
                have q2 := (hC.out.cell (p := ⟨w.heap.size + 1, 257, none⟩) HL2.out.2).trans HK.out.2.1
                have q3 := (hC.out.cell (p := ⟨b1, o1 + j, none⟩) HLT.out.1).trans HK.out.2.2.1
                have q4 := (hC.out.cell (p := ⟨b2, o2 + j, none⟩) HLT.out.2).trans HK.out.2.2.2
                clear hw
                simp only [textFrame_eq, tmpsTo, putT, List.getElem?_toArray, List.getElem?_cons_zero, List.getElem?_cons_succ, Option.bind_some, List.setIfInBounds_toArray, List.set_cons_zero, List.set_cons_succ]
                rw [e10]
                clear e10
                go_simp
                exact act_val (Below.refl _ _) rfl
              | i + 12, hix, _, _ => omega
            intro vs1 u hC hV
            have h11 : vs1 11 = .bool (!decide (r1 = r2)) := hV 11 (by omega)
            clear hV
            simp only [textFrame_eq, tmpsTo, putT, List.getElem?_toArray, List.getElem?_cons_zero, List.getElem?_cons_succ, Option.bind_some, List.setIfInBounds_toArray, List.set_cons_zero, List.set_cons_succ, List.drop_succ_cons, List.drop_zero]
            rw [h11]
            clear h11
            generalize vs1 0 = q0
            generalize vs1 1 = qq1
            generalize vs1 2 = q2
            generalize vs1 3 = q3
            generalize vs1 4 = q4
            generalize vs1 5 = q5
            generalize vs1 6 = q6
            generalize vs1 7 = q7
            generalize vs1 8 = q8
            generalize vs1 9 = q9
            generalize vs1 10 = q10
            cases hrr : decide (r1 = r2) with
            | true =>
              have HRN := Lib.hid (show R = decide (D.next.drop (j + 1) = E.next.drop (j + 1)) by rw [HRD.out, hrr, Bool.true_and])
              clear hrr
              go_wp2
              exact ⟨⟨j + 1, rfl, hp, Lib.hid ⟨hC.out, HRN.out⟩⟩, by simp [intOf]; omega⟩
            | false =>
              have HRN := Lib.hid (show R = false by rw [HRD.out, hrr]; rfl)
              clear hrr
              go_wp2
              go_ret
              exact ⟨by rw [HRN.out]; rfl, HB.out.trans (hC.out.mono HB.out.size)⟩
          · have hdl : decide ((j : Int) < (D.next.length : Int)) = false := by simp; omega
            obtain rfl : j = D.next.length := by omega
            have HRN := Lib.hid (show R = true by rw [HH.out.2, List.drop_length, hl, List.drop_length]; simp)
            go_wp2
            go_ret
            exact ⟨by rw [HRN.out]; rfl, HB.out.trans (HH.out.1.mono HB.out.size)⟩
      · have e1 : ((D.next.length : Int) != (E.next.length : Int)) = true := by simp; omega
        have HN := Lib.hid (show R = false by rw [hR]; simp; intro e; exact hl (by rw [e]))
        clear hR
        go_enter Tryd.func10, Tryd.ntmps10
        go_wp2_with (first
      | ((with_reducible refine wpList_loadDcr rfl (.tmp 6) ?_ ?_ HD.out.1 ?_); exact rfl; exact rfl)
      | ((with_reducible refine wpList_loadDcr rfl (.tmp 8) ?_ ?_ HD.out.2 ?_); exact rfl; exact rfl)
      | ((with_reducible refine wpList_neqR9 (f := D.of) (n := D.n) (f' := E.of) (n' := E.n) rfl (.tmp 7) (.tmp 9) ?_ ?_ ?_ ?_); exact rfl; exact rfl; exact rfl; rw [hsb])
      | (go_at_call 24; refine HIT.out.mono ?_; rintro e u1 ⟨rfl, hbu⟩; have HU := Lib.hid hbu; have q1 := (hbu.cell (p := ⟨w.heap.size, 257, none⟩) HL2.out.1).trans HK0.out.1; have q2 := (hbu.cell (p := ⟨w.heap.size + 1, 257, none⟩) HL2.out.2).trans HK0.out.2; rw [htg]; clear hbu))
        go_ret
        exact ⟨by rw [HN.out]; rfl, HB.out.trans (HU.out.mono HB.out.size)⟩
end Go.Proofs.YtkcnknhhabbomaaDoor

namespace Go.Proofs.YtkcnknhhabbomaaDoor
open Go.RowKit

attribute [local irreducible] FreeW textFrame

def findI (L : List (List Int)) (x : List Int) : Int := match findL L x with | some i => (i : Nat) | none => -1
theorem findL_yes {L : List (List Int)} {x : List Int} {i : Nat} (hi : i < L.length) (h1 : 1 ≤ i) (hx : L[i] = x) (hb : ∀ k, 1 ≤ k → k < i → L.getD k [] ≠ x) : findI L x = (i : Nat) := by
  unfold findI findL
  have : (List.range L.length).find? (fun i => decide (1 ≤ i) && decide (L.getD i [] = x)) = some i := by
    rw [List.find?_range_eq_some]
    refine ⟨?_, List.mem_range.2 hi, fun j hj => ?_⟩
    · rw [List.getD_eq_getElem?_getD, List.getElem?_eq_getElem hi, Option.getD_some, hx]; simp [h1]
    · by_cases h : 1 ≤ j
      · rw [decide_eq_false (hb j h hj)]; simp
      · simp [h]
  rw [this]
theorem findL_no {L : List (List Int)} {x : List Int} (hb : ∀ k, 1 ≤ k → k < L.length → L.getD k [] ≠ x) : findI L x = -1 := by
  unfold findI findL
  have : (List.range L.length).find? (fun i => decide (1 ≤ i) && decide (L.getD i [] = x)) = none := by
    rw [List.find?_range_eq_none]
    intro j hj
    by_cases h : 1 ≤ j
    · rw [decide_eq_false (hb j h hj)]; simp
    · simp [h]
  rw [this]
set_option maxRecDepth 20000 in
set_option maxHeartbeats 8000000 in
theorem find_any (L : List (List Int)) (x : List Int) (v vx : Value) (w : World) (hL : RowsI w L v) (hx : IntsV w x vx) (hn : L.length ≤ 1099511627776) : Calls Tryd.prog 32 #[v, vx] w fun e w' => e = .returned (.int .i64 (findI L x)) ∧ Below w.heap.size w w' := by
  obtain ⟨A, c, rfl, hc, hg⟩ := hL
  have HG := Lib.hid hg
  have HX := Lib.hid hx
  clear hg
  go_enter Tryd.func32, Tryd.ntmps32
  go_wp2
  go_loopw [5] (fun i wr => ∃ j : Nat, i = .int .i64 j ∧ 1 ≤ j ∧ j ≤ L.length + 1 ∧ Hid (Below w.heap.size w wr ∧ ∀ k, 1 ≤ k → k < j → L.getD k [] ≠ x)) (fun i _ => L.length + 1 - (intOf i).toNat)
  case atStart => exact ⟨1, rfl, Nat.le_refl _, by omega, Lib.hid ⟨Below.refl _ _, fun k h1 h2 => absurd h2 (by omega)⟩⟩
  case round =>
    obtain ⟨j, rfl, hj1, hj, HH⟩ := hrel
    obtain ⟨w2, rfl⟩ : ∃ w2, w2 = wr := ⟨_, rfl⟩
    by_cases hp : j < L.length
    · have hk1 : IntKind.i64.wrap ((j : Int) + 1) = ((j + 1 : Nat) : Int) := by rw [IntKind.wrap_i64]; omega
      have hdl : decide ((j : Int) < (L.length : Int)) = true := by simp; omega
      obtain ⟨b, o, rfl, hlt, hgr⟩ := HG.out (by intro e; rw [e] at hp; simp at hp)
      obtain ⟨vr, hcell, hvr⟩ := hgr j hp
      have hcell' := (HH.out.1.cell (p := ⟨b, o + j, none⟩) hlt).trans hcell
      have HIN := Lib.hid (ints_any L[j] x vr vx w2 (hvr.step HH.out.1) (HX.out.step HH.out.1))
      clear hcell hvr hgr
      cases hrr : decide (L[j] = x) with
      | true =>
        have HR := Lib.hid (findL_yes hp hj1 (of_decide_eq_true hrr) HH.out.2)
        rw [hrr] at HIN
        clear hrr
        go_wp2_with (go_at_call 24; refine HIN.out.mono ?_; rintro e u1 ⟨rfl, hbu⟩; have HU := Lib.hid (HH.out.1.trans (hbu.mono HH.out.1.size)); clear hbu)
        go_ret
        exact ⟨by rw [HR.out]; rfl, HU.out⟩
      | false =>
        have HR := Lib.hid (show ∀ k, 1 ≤ k → k < j + 1 → L.getD k [] ≠ x from fun k h1 h2 => by
          by_cases e : k = j
          · subst e; rw [List.getD_eq_getElem?_getD, List.getElem?_eq_getElem hp]; exact of_decide_eq_false hrr
          · exact HH.out.2 k h1 (by omega))
        rw [hrr] at HIN
        clear hrr
        go_wp2_with (go_at_call 24; refine HIN.out.mono ?_; rintro e u1 ⟨rfl, hbu⟩; have HU := Lib.hid (HH.out.1.trans (hbu.mono HH.out.1.size)); clear hbu)
        exact ⟨⟨j + 1, rfl, by omega, by omega, Lib.hid ⟨HU.out, HR.out⟩⟩, by simp [intOf]; omega⟩
    · have hdl : decide ((j : Int) < (L.length : Int)) = false := by simp; omega
      have HR := Lib.hid (findL_no (x := x) (L := L) fun k h1 h2 => HH.out.2 k h1 (by omega))
      go_wp2
      go_ret
      exact ⟨by rw [HR.out]; rfl, HH.out.1⟩
end Go.Proofs.YtkcnknhhabbomaaDoor

