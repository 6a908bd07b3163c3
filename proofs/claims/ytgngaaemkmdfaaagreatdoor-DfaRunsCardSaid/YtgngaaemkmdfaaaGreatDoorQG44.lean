/-
 WHAT slices.Equal, slices.EqualFunc (of rows of numbers) AND dfa.Same ANSWER: contracts. No condition but that all lies there.
-/
import Derived.Test.YtgngaaemkmdfaaaGreatDoorQG43
namespace Go.Proofs.YtgngaaemkmdfaaaGreatDoor
section
open Go.RowKit

attribute [local irreducible] FreeW textFrame

set_option maxRecDepth 20000 in
set_option maxHeartbeats 8000000 in
theorem xzle (a b : List Int) (v v' : Value) (w : World) (h : IntsV w a v) (h' : IntsV w b v') :
   Calls Tryz.prog 28 #[v, v'] w fun e w' => e = .returned (.bool (decide (a = b))) ∧ Below w.heap.size w w' := by
 obtain ⟨A, c, rfl, hc, hs⟩ := h; obtain ⟨B, c', rfl, hc', hs'⟩ := h'; have HS := Lib.hid (And.intro hs hs'); obtain ⟨R, hR⟩ : ∃ R, R = decide (a = b) := ⟨_, rfl⟩; rw [← hR]; clear hs hs'
 by_cases hl : a.length = b.length
 case neg =>
   have e1 : ((a.length : Int) != (b.length : Int)) = true := by rw [bne_iff_ne]; omega
   have HN := Lib.hid (show R = false by rw [hR]; exact decide_eq_false fun e => hl (by rw [e])); clear hR hl
   go_enter Tryz.func28, Tryz.ntmps28
   go_wp2; go_ret; exact ⟨by rw [HN.out]; rfl, Below.refl _ _⟩
 have e1 : ((a.length : Int) != (b.length : Int)) = false := by rw [bne_eq_false_iff_eq]; omega
 have H0 := Lib.hid (show R = decide (a.drop 0 = b.drop 0) from hR); have HLF := Lib.hid (show ∀ (j : Nat) (h1 : j < a.length) (h2 : j < b.length), decide (a.drop j = b.drop j) = (decide (a[j] = b[j]) && decide (a.drop (j + 1) = b.drop (j + 1))) from fun j h1 _ => xzjk a b hl j h1); have HL := Lib.hid hl; clear hR hl
 go_enter Tryz.func28, Tryz.ntmps28
 go_wp2
 go_loopw [5, 13] (fun _ i wr => ∃ j : Nat, i = .int .i64 j ∧ j ≤ a.length ∧ Hid (Below w.heap.size w wr ∧ R = decide (a.drop j = b.drop j))) (fun _ i _ => a.length - (intOf i).toNat)
 case atStart => exact ⟨0, rfl, Nat.zero_le _, Lib.hid ⟨Below.refl _ _, H0.out⟩⟩
 case round =>
   obtain ⟨j, rfl, hj, HH⟩ := hrel; obtain ⟨w1, rfl⟩ : ∃ w1, w1 = wr := ⟨_, rfl⟩
   by_cases hp : j < a.length
   · have hk1 : IntKind.i64.wrap ((j : Int) + 1) = ((j + 1 : Nat) : Int) := by rw [IntKind.wrap_i64]; omega
     have hpb : j < b.length := by rw [← HL.out]; exact hp
     have hdl : decide ((j : Int) < (a.length : Int)) = true := by simp; omega
     have hdl2 : decide ((j : Int) < (b.length : Int)) = true := by simp; omega
     obtain ⟨p, o, rfl, hlt, hg⟩ := HS.out.1 (by intro e; rw [e] at hp; simp at hp); obtain ⟨p', o', rfl, hlt', hg'⟩ := HS.out.2 (by intro e; rw [e] at hpb; simp at hpb); have hcell := (HH.out.1.cell (p := ⟨p, o + j, none⟩) hlt).trans (hg j hp); have hcell' := (HH.out.1.cell (p := ⟨p', o' + j, none⟩) hlt').trans (hg' j hpb); have HD := Lib.hid (HH.out.2.trans (HLF.out j hp hpb)); clear hg hg'; generalize a[j] = x at *; generalize b[j] = y at *
     by_cases hxy : x = y
     · have q1 : (x != y) = false := by rw [bne_eq_false_iff_eq]; exact hxy
       have HN := Lib.hid (show R = decide (a.drop (j + 1) = b.drop (j + 1)) by rw [HD.out, decide_eq_true hxy, Bool.true_and]); clear hxy
       go_wp2_with fail
       go_region
       go_wp2; exact ⟨⟨j + 1, rfl, hp, Lib.hid ⟨HH.out.1.drew, HN.out⟩⟩, by simp [intOf]; omega⟩
     · have q1 : (x != y) = true := by rw [bne_iff_ne]; exact hxy
       have HN := Lib.hid (show R = false by rw [HD.out, decide_eq_false hxy, Bool.false_and]); clear hxy
       go_wp2_with fail
       go_region
       go_wp2; go_ret; exact ⟨by rw [HN.out]; rfl, HH.out.1.drew⟩
   · have hdl : decide ((j : Int) < (a.length : Int)) = false := by simp; omega
     obtain rfl : j = a.length := by omega
     have HN := Lib.hid (show R = true by rw [HH.out.2, List.drop_length, HL.out, List.drop_length]; simp); go_wp2; go_ret; exact ⟨by rw [HN.out]; rfl, HH.out.1⟩
set_option maxRecDepth 20000 in
set_option maxHeartbeats 8000000 in
theorem xzue (a b : List (List Int)) (v v' : Value) (w : World) (h : RowsI w a v) (h' : RowsI w b v') :
   Calls Tryz.prog 27 #[v, v', .func (.func 28) #[] #[]] w fun e w' => e = .returned (.bool (decide (a = b))) ∧ Below w.heap.size w w' := by
 obtain ⟨A, c, rfl, hc, hs⟩ := h; obtain ⟨B, c', rfl, hc', hs'⟩ := h'; have HS := Lib.hid (And.intro hs hs'); obtain ⟨R, hR⟩ : ∃ R, R = decide (a = b) := ⟨_, rfl⟩; rw [← hR]; clear hs hs'
 by_cases hl : a.length = b.length
 case neg =>
   have e1 : ((a.length : Int) != (b.length : Int)) = true := by rw [bne_iff_ne]; omega
   have HN := Lib.hid (show R = false by rw [hR]; exact decide_eq_false fun e => hl (by rw [e])); clear hR hl
   go_enter Tryz.func27, Tryz.ntmps27
   go_wp2; go_ret; exact ⟨by rw [HN.out]; rfl, Below.refl _ _⟩
 have e1 : ((a.length : Int) != (b.length : Int)) = false := by rw [bne_eq_false_iff_eq]; omega
 have H0 := Lib.hid (show R = decide (a.drop 0 = b.drop 0) from hR); have HLF := Lib.hid (show ∀ (j : Nat) (h1 : j < a.length) (h2 : j < b.length), decide (a.drop j = b.drop j) = (decide (a[j] = b[j]) && decide (a.drop (j + 1) = b.drop (j + 1))) from fun j h1 _ => xzjk a b hl j h1); have HL := Lib.hid hl; clear hR hl
 go_enter Tryz.func27, Tryz.ntmps27
 go_wp2
 go_loopw [7, 8, 9, 17] (fun _ _ _ i wr => ∃ j : Nat, i = .int .i64 j ∧ j ≤ a.length ∧ Hid (Below w.heap.size w wr ∧ R = decide (a.drop j = b.drop j))) (fun _ _ _ i _ => a.length - (intOf i).toNat)
 case atStart => exact ⟨0, rfl, Nat.zero_le _, Lib.hid ⟨Below.refl _ _, H0.out⟩⟩
 case round =>
   obtain ⟨j, rfl, hj, HH⟩ := hrel; obtain ⟨w1, rfl⟩ : ∃ w1, w1 = wr := ⟨_, rfl⟩
   by_cases hp : j < a.length
   · have hk1 : IntKind.i64.wrap ((j : Int) + 1) = ((j + 1 : Nat) : Int) := by rw [IntKind.wrap_i64]; omega
     have hpb : j < b.length := by rw [← HL.out]; exact hp
     have hdl : decide ((j : Int) < (a.length : Int)) = true := by simp; omega
     have hdl2 : decide ((j : Int) < (b.length : Int)) = true := by simp; omega
     obtain ⟨p, o, rfl, hlt, hg⟩ := HS.out.1 (by intro e; rw [e] at hp; simp at hp); obtain ⟨p', o', rfl, hlt', hg'⟩ := HS.out.2 (by intro e; rw [e] at hpb; simp at hpb); obtain ⟨u1, hu1, hx1⟩ := hg j hp; obtain ⟨u2, hu2, hx2⟩ := hg' j hpb; have hcell := (HH.out.1.cell (p := ⟨p, o + j, none⟩) hlt).trans hu1; have hcell' := (HH.out.1.cell (p := ⟨p', o' + j, none⟩) hlt').trans hu2; have HD := Lib.hid (HH.out.2.trans (HLF.out j hp hpb)); have HEQ := Lib.hid (xzle a[j] b[j] u1 u2 w1 (hx1.step HH.out.1) (hx2.step HH.out.1)); clear hg hg' hu1 hu2 hx1 hx2
     cases hxy : decide (a[j] = b[j]) with
     | true =>
       rw [hxy] at HEQ; have HN := Lib.hid (show R = decide (a.drop (j + 1) = b.drop (j + 1)) by rw [HD.out, hxy, Bool.true_and]); clear hxy
       go_wp2_with (go_at_call 28; refine HEQ.out.mono ?_; rintro e u ⟨rfl, hbu⟩; have HU := Lib.hid (HH.out.1.trans (hbu.mono HH.out.1.size)); clear hbu)
       exact ⟨⟨j + 1, rfl, hp, Lib.hid ⟨HU.out, HN.out⟩⟩, by simp [intOf]; omega⟩
     | false =>
       rw [hxy] at HEQ; have HN := Lib.hid (show R = false by rw [HD.out, hxy, Bool.false_and]); clear hxy
       go_wp2_with (go_at_call 28; refine HEQ.out.mono ?_; rintro e u ⟨rfl, hbu⟩; have HU := Lib.hid (HH.out.1.trans (hbu.mono HH.out.1.size)); clear hbu)
       go_ret; exact ⟨by rw [HN.out]; rfl, HU.out⟩
   · have hdl : decide ((j : Int) < (a.length : Int)) = false := by simp; omega
     obtain rfl : j = a.length := by omega
     have HN := Lib.hid (show R = true by rw [HH.out.2, List.drop_length, HL.out, List.drop_length]; simp); go_wp2; go_ret; exact ⟨by rw [HN.out]; rfl, HH.out.1⟩
theorem xzmt {ops : Array Oper} {rest : List Oper} {op : Oper} {a : Act} {w : World} {Q : Exit → Act → World → Prop} {f : Nat → Nat} {n : Int} (hgd : op.guard = none) (x y : Operand) (ho : op.op = .binOp .eql 31 x y 31) {f' : Nat → Nat} {n' : Int} (hx : a.eval x = .agg (clsC f n)) (hy : a.eval y = .agg (clsC f' n'))
   (hK : wpList Tryz.prog ops Q rest (a.put op.dst (.bool (sameB f f' n n'))) w) : wpList Tryz.prog ops Q (op :: rest) a w := by
 refine wpList_plain hgd fun K' hK' => ?_
 have hq := run_eqGuard_agg (P := Tryz.prog) w .eql 31 x y (clsC f n) (clsC f' n') (by kernel_rfl); unfold Oper.wp execOp; simp only [ho, hx, hy, Sem.run_bind, Sem.run_pure, hq, eql_cls, Result.andThen_ok]; exact hK' _ _ hK
set_option maxRecDepth 20000 in
set_option maxHeartbeats 8000000 in
theorem xzxo (D E : Df) (v v' : Value) (w : World) (h : DfAt w D v) (h' : DfAt w E v') (hDE : sameD D E = true) :
   Calls Tryz.prog 9 #[v, v'] w fun e w' => e = .returned (.bool true) ∧ Below w.heap.size w w' := by
 unfold sameD at hDE; simp only [Bool.and_eq_true, decide_eq_true_eq] at hDE; obtain ⟨hsb, htg, hnx⟩ := hDE; obtain ⟨vn, vt, rfl, hrn, hrt⟩ := h; obtain ⟨vn', vt', rfl, hrn', hrt'⟩ := h'; obtain ⟨W1, hW1, hs1, hb1, hx1⟩ := xzbs D.of D.n vn vt w; obtain ⟨W2, hW2, hs2, hb2, hx2⟩ := xzbs E.of E.n vn' vt' W1; have hbb : Below w.heap.size w W2 := hb1.trans (hb2.mono (by omega)); have hd1 := (DfB.of hx1).step hb2; have hd2 := DfB.of hx2; rw [hs1] at hs2 hd2; have HEN := Lib.hid (xzue D.next E.next vn vn' W2 (hrn.step hbb) (hrn'.step hbb)); have HET := Lib.hid (fun (u : World) (hu : Below W2.heap.size W2 u) => xzle D.tag E.tag vt vt' u ((hrt.step hbb).step hu) ((hrt'.step hbb).step hu)); rw [decide_eq_true hnx] at HEN; rw [decide_eq_true htg] at HET; have HD := Lib.hid (And.intro hd1 hd2); have HB := Lib.hid (And.intro hbb (show w.heap.size + 1 < W2.heap.size by omega)); obtain ⟨k256, k257, k258⟩ := hd1.cells; obtain ⟨m256, m257, m258⟩ := hd2.cells; obtain ⟨An, cn, rfl, _⟩ := hrn; obtain ⟨An2, cn2, rfl, _⟩ := hrn'; obtain ⟨At, ct, rfl, _⟩ := hrt; obtain ⟨At2, ct2, rfl, _⟩ := hrt'; obtain ⟨d9, hd9⟩ : ∃ d9, dfC D.of D.n (.slice An D.next.length cn) (.slice At D.tag.length ct) = d9 := ⟨_, rfl⟩; obtain ⟨e9, he9⟩ : ∃ e9, dfC E.of E.n (.slice An2 E.next.length cn2) (.slice At2 E.tag.length ct2) = e9 := ⟨_, rfl⟩
 have hds : d9.size = 259 := by rw [← hd9]; exact xzad _ _ _ _
 have hes : e9.size = 259 := by rw [← he9]; exact xzad _ _ _ _
 rw [hd9] at hW1; rw [he9] at hW2; rw [hd9, he9]; have HSB := Lib.hid hsb; clear hb1 hb2 hbb hx1 hx2 hd1 hd2 hsb htg hnx hs2 hd9 he9
 go_enter Tryz.func9, Tryz.ntmps9
 go_wp2_with (first
   | ((with_reducible refine xzff rfl (.tmp 5) ?_ ?_ HD.out.1 ?_); exact rfl; exact rfl)
   | ((with_reducible refine xzff rfl (.tmp 7) ?_ ?_ HD.out.2 ?_); exact rfl; exact rfl)
   | ((with_reducible refine xzmt (f := D.of) (n := D.n) (f' := E.of) (n' := E.n) rfl (.tmp 6) (.tmp 8) ?_ ?_ ?_ ?_); exact rfl; exact rfl; exact rfl; rw [HSB.out])
   | (go_at_call 27; refine HEN.out.mono ?_; rintro e u1 ⟨rfl, hbu⟩; have HU := Lib.hid hbu; have q1 := (hbu.cell (p := ⟨w.heap.size, 258, none⟩) (by have := HB.out.2; show w.heap.size < _; omega)).trans k258; have q2 := (hbu.cell (p := ⟨w.heap.size + 1, 258, none⟩) HB.out.2).trans m258; clear hbu)
   | (go_at_call 28; refine (HET.out u1 HU.out).mono ?_; rintro e u2 ⟨rfl, hbu⟩; have HU2 := Lib.hid (HB.out.1.trans ((HU.out.trans (hbu.mono HU.out.size)).mono HB.out.1.size)); clear hbu))
 go_ret; exact ⟨rfl, HU2.out⟩
end

section
open Go.RowKit

attribute [local irreducible] FreeW textFrame

def Df.stepP (D : Df) (a : Int) (b : Nat) : Int := if D.may then D.stepR a b else -1
set_option maxRecDepth 20000 in
set_option maxHeartbeats 8000000 in
theorem xzox (D : Df) (a : Int) (b : Nat) (v : Value) (w : World) (h : DfAt w D v) (hf : ∀ b, b < 256 → D.of b < 256) (hb : b < 256) :
   Calls Tryz.prog 10 #[v, .int .i64 a, .int .u8 (b : Nat)] w fun e w' => e = .returned (.int .i64 (D.stepP a b)) ∧ Below w.heap.size w w' := by
 have HAT := Lib.hid h; obtain ⟨vn, vt, rfl, hrn, hrt⟩ := h; obtain ⟨An, cn, rfl, hcn, _⟩ := hrn; obtain ⟨At, ct, rfl, hct, _⟩ := hrt; obtain ⟨W1, hbx, hsz, hb1, hx1⟩ := xzbs D.of D.n (.slice An D.next.length cn) (.slice At D.tag.length ct) w; have HD := Lib.hid (And.intro (DfB.of hx1) (And.intro hb1 (show w.heap.size < W1.heap.size by omega))); obtain ⟨dc, hdc⟩ : ∃ dc, dfC D.of D.n (.slice An D.next.length cn) (.slice At D.tag.length ct) = dc := ⟨_, rfl⟩; rw [hdc] at hbx HAT
 have hds : dc.size = 259 := by rw [← hdc]; exact xzad _ _ _ _
 rw [hdc]; have HDC := Lib.hid hdc; have HMA := Lib.hid (xziv D _ W1 (HAT.out.step hb1) hf); obtain ⟨R, hR⟩ : ∃ R, D.stepP a b = R := ⟨_, rfl⟩; rw [hR]; unfold Df.stepP at hR; have HFF := Lib.hid (And.intro hf hb); clear hb1 hx1 hdc hf hb
 cases hm : D.may with
 | false =>
   rw [hm] at HMA hR; have HN := Lib.hid (show R = -1 by rw [← hR]; rfl); clear hR hm
   go_enter Tryz.func10, Tryz.ntmps10
   go_wp2_with (first
     | ((with_reducible refine xzan (.tmp 3) ?_ ?_ HD.out.1 ?_ ?_); exact rfl; exact rfl; kernel_rfl; rw [HDC.out])
     | (go_at_call 7; refine HMA.out.mono ?_; rintro e u1 ⟨rfl, hbu⟩; have HB := Lib.hid (HD.out.2.1.trans (hbu.mono HD.out.2.1.size)); clear hbu))
   go_ret; exact ⟨by rw [HN.out]; rfl, HB.out⟩
 | true =>
   rw [hm] at HMA; rw [hm, if_pos rfl] at hR; unfold Df.stepR at hR; have HMD := Lib.hid (yzae hm)
   by_cases h1 : a < 0
   · have e1 : decide (a < 0) = true := by simp; omega
     have HN := Lib.hid (show R = -1 by rw [← hR, if_pos (.inl h1)]); clear hR h1 hm
     go_enter Tryz.func10, Tryz.ntmps10
     go_wp2_with (first
       | ((with_reducible refine xzan (.tmp 3) ?_ ?_ HD.out.1 ?_ ?_); exact rfl; exact rfl; kernel_rfl; rw [HDC.out])
       | (go_at_call 7; refine HMA.out.mono ?_; rintro e u1 ⟨rfl, hbu⟩; have HB := Lib.hid (HD.out.2.1.trans (hbu.mono HD.out.2.1.size)); clear hbu))
     go_ret; exact ⟨by rw [HN.out]; rfl, HB.out⟩
   have e1 : decide (a < 0) = false := by simp; omega
   by_cases h2 : (D.next.length : Int) ≤ a
   · have e2 : decide (a ≥ (D.next.length : Int)) = true := by simp; omega
     have e2b : decide ((D.next.length : Int) ≤ a) = true := by simp; omega
     have HN := Lib.hid (show R = -1 by rw [← hR, if_pos (.inr h2)]); clear hR h1 h2 hm
     go_enter Tryz.func10, Tryz.ntmps10
     go_wp2_with (first
       | ((with_reducible refine xzan (.tmp 3) ?_ ?_ HD.out.1 ?_ ?_); exact rfl; exact rfl; kernel_rfl; rw [HDC.out])
       | (go_at_call 7; refine HMA.out.mono ?_; rintro e u1 ⟨rfl, hbu⟩; have HB := Lib.hid (HD.out.2.1.trans (hbu.mono HD.out.2.1.size)); have k257 := (hbu.cell (p := ⟨w.heap.size, 257, none⟩) HD.out.2.2).trans HD.out.1.cells.2.1; clear hbu))
     go_ret; exact ⟨by rw [HN.out]; rfl, HB.out⟩
   rw [if_neg (by omega)] at hR; obtain ⟨an, rfl⟩ : ∃ an : Nat, a = (an : Nat) := ⟨a.toNat, by omega⟩
   have ha : an < D.next.length := by omega
   have e2 : decide ((an : Int) ≥ (D.next.length : Int)) = false := by simp; omega
   have e2b : decide ((D.next.length : Int) ≤ (an : Int)) = false := by simp; omega
   have hc : D.of b < D.next[an].length := by have h1 := HMD.out.cl b HFF.out.2; have h2 := (HMD.out.rows _ (List.getElem_mem ha)).1; omega
   have hN : D.nxt (an : Nat) b = D.next[an][D.of b] := by
     unfold Df.nxt; rw [List.getD_eq_getElem?_getD, List.getD_eq_getElem?_getD, Int.toNat_natCast, List.getElem?_eq_getElem ha, Option.getD_some, List.getElem?_eq_getElem hc]; rfl
   rw [hN] at hR; have HN := Lib.hid hR.symm; have HST := Lib.hid (fun (u : World) (hu : Below w.heap.size w u) => xzob D _ u (HAT.out.step hu) HFF.out.1 an b ha HFF.out.2 hc); clear hR hN h1 h2 hm
   go_enter Tryz.func10, Tryz.ntmps10
   go_wp2_with (first
     | ((with_reducible refine xzan (.tmp 3) ?_ ?_ HD.out.1 ?_ ?_); exact rfl; exact rfl; kernel_rfl; rw [HDC.out])
     | (go_at_call 7; refine HMA.out.mono ?_; rintro e u1 ⟨rfl, hbu⟩; have HB := Lib.hid (And.intro (HD.out.2.1.trans (hbu.mono HD.out.2.1.size)) (HD.out.1.step hbu)); have k257 := (hbu.cell (p := ⟨w.heap.size, 257, none⟩) HD.out.2.2).trans HD.out.1.cells.2.1; clear hbu)
     | ((with_reducible refine xzan (.tmp 3) ?_ ?_ HB.out.2 ?_ ?_); exact rfl; exact rfl; kernel_rfl; rw [HDC.out])
     | (go_at_call 29; refine (HST.out _ HB.out.1).mono ?_; rintro e u2 ⟨rfl, hbu⟩; have HB2 := Lib.hid (HB.out.1.trans (hbu.mono HB.out.1.size)); clear hbu))
   go_ret; exact ⟨by rw [HN.out]; rfl, HB2.out⟩
end

section
open Go.RowKit

structure TqD where
 L : List Int
 R : List (List Int)
 hn : List Value
 T : List Int
 r : List Int
structure TqV where
 vl : Value
 vn : Value
 vt : Value
 vr : Value
structure TqX (h : Nat → Prop) (w0 : World) (gl : Nat) (cl : Array Value) (g : Nat) (f : Nat → Nat) (n : Int) (ρ : Nat → Nat) (S : TqD) (V : TqV) (W : World) : Prop where
 below : Below w0.heap.size w0 W
 lo : w0.heap.size ≤ g
 blk : ¬ h 1 → BlkIs W g 28 (dfC f n V.vn V.vt)
 l : ¬ h 2 → RowI w0.heap.size W V.vl S.L
 t : ¬ h 3 → RowI w0.heap.size W V.vt S.T
 n : ¬ h 4 → W.ownsRow w0.heap.size 26 1 V.vn S.R.length S.hn
 r : ¬ h 5 → RowI w0.heap.size W V.vr S.r
 rn : Rows0 ρ W S.R S.hn
 lv : BlkIs W gl 4 cl
 r7 : ρ gl = 7
 r0 : ρ g = 1
 old : ∀ k, k < w0.heap.size → ρ k = 9
 ro : (∀ k, V.vl.ownBlock = some k → ρ k = 2) ∧ (∀ k, V.vt.ownBlock = some k → ρ k = 3) ∧ (∀ k, V.vn.ownBlock = some k → ρ k = 4) ∧ (∀ k, V.vr.ownBlock = some k → ρ k = 5)
abbrev TqS := TqX fun _ => False
section
variable {h h' : Nat → Prop} {w0 : World} {gl : Nat} {cl : Array Value} {g : Nat} {f : Nat → Nat} {n : Int} {ρ : Nat → Nat} {S : TqD} {V : TqV} {W W' : World}
theorem TqX.size (H : TqX h w0 gl cl g f n ρ S V W) : w0.heap.size ≤ W.heap.size := H.below.size
theorem TqX.tn (H : TqX h w0 gl cl g f n ρ S V W) (hh : ∀ q, h q → h' q) (h0 : ¬ h' 0 ∧ ¬ h' 7) {o : Option Nat} (ht : Tn o W W') (ho : ∀ k, o = some k → w0.heap.size ≤ k ∧ (h' (ρ k) ∨ W.heap.size ≤ k)) : TqX h' w0 gl cl g f n ρ S V W' := by
 have hB := H.size
 have key : ∀ k q, k < W.heap.size → ρ k = q → ¬ h' q → W'.heap[k]? = W.heap[k]? := fun k q hk hq hr => ht.2.1 k hk (fun e => by
   rcases (ho k e).2 with h1 | h1
   · rw [hq] at h1; exact hr h1
   · omega)
 have up : ∀ q, ¬ h' q → ¬ h q := fun q h1 h2 => h1 (hh q h2)
 refine ⟨ht.2.2 _ _ hB (fun k hk => (ho k hk).1) H.below, H.lo, fun hr => ?_, fun hr => ?_, fun hr => ?_, fun hr => ?_, fun hr => ?_, ?_, (key _ _ (BlkIs.lt H.lv) H.r7 h0.2).trans H.lv, H.r7, H.r0, H.old, H.ro⟩
 · exact (key _ _ (BlkIs.lt (H.blk (up _ hr))) H.r0 hr).trans (H.blk (up _ hr))
 · exact xzat (H.l (up _ hr)) fun k hk => key k _ (World.ownsRow.lt (H.l (up _ hr)) k hk).2 (H.ro.1 k hk) hr
 · exact xzat (H.t (up _ hr)) fun k hk => key k _ (World.ownsRow.lt (H.t (up _ hr)) k hk).2 (H.ro.2.1 k hk) hr
 · exact xzav (H.n (up _ hr)) fun k hk => key k _ (World.ownsRow.lt (H.n (up _ hr)) k hk).2 (H.ro.2.2.1 k hk) hr
 · exact xzat (H.r (up _ hr)) fun k hk => key k _ (World.ownsRow.lt (H.r (up _ hr)) k hk).2 (H.ro.2.2.2 k hk) hr
 · exact H.rn.keep ht.1 fun b hb hb0 => key b 0 hb hb0 h0.1
theorem TqX.step (H : TqS w0 gl cl g f n ρ S V W) (hb : Below W.heap.size W W') : TqS w0 gl cl g f n ρ S V W' := TqX.tn (o := none) H (fun _ h => h) ⟨fun h => h, fun h => h⟩ (Tn.below hb) (fun k e => by cases e)
theorem TqX.role (H : TqS w0 gl cl g f n ρ S V W) (o : Option Nat) (q : Nat) (ho : ∀ k, o = some k → ρ k = q ∨ W.heap.size ≤ k) : TqS w0 gl cl g f n (fun k => if o = some k then q else ρ k) S V W := by
 have key : ∀ k q', k < W.heap.size → ρ k = q' → (if o = some k then q else ρ k) = q' := fun k q' hk hq' => by
   by_cases e : o = some k
   · rw [if_pos e]
     rcases ho k e with h1 | h1
     · exact h1.symm.trans hq'
     · omega
   · rw [if_neg e]; exact hq'
 have F : ¬ False := fun h => h
 exact ⟨H.below, H.lo, H.blk, H.l, H.t, H.n, H.r, H.rn.role fun b hb h0 => key b 0 hb h0, H.lv, key _ _ (BlkIs.lt H.lv) H.r7, key _ _ (BlkIs.lt (H.blk F)) H.r0, fun k hk => key _ _ (Nat.lt_of_lt_of_le hk H.size) (H.old k hk),
   ⟨fun k hk => key _ _ (World.ownsRow.lt (H.l F) k hk).2 (H.ro.1 k hk), fun k hk => key _ _ (World.ownsRow.lt (H.t F) k hk).2 (H.ro.2.1 k hk), fun k hk => key _ _ (World.ownsRow.lt (H.n F) k hk).2 (H.ro.2.2.1 k hk), fun k hk => key _ _ (World.ownsRow.lt (H.r F) k hk).2 (H.ro.2.2.2 k hk)⟩⟩
theorem TqX.pushL (H : TqS w0 gl cl g f n ρ S V W) {v' : Value} {x : Int} (ht : Tn V.vl.ownBlock W W') (hv : RowI w0.heap.size W' v' (S.L ++ [x])) (hb : v'.ownBlock = V.vl.ownBlock ∨ ∃ b, v'.ownBlock = some b ∧ W.heap.size ≤ b) : ∃ ρ', TqS w0 gl cl g f n ρ' { S with L := S.L ++ [x] } { V with vl := v' } W' := by
 have F : ¬ False := fun h => h
 have r5 := H.role v'.ownBlock 2 (fun k hk => by
   rcases hb with e | ⟨b, e1, e2⟩
   · exact .inl (H.ro.1 k (e ▸ hk))
   · rw [e1] at hk; injection hk with hk; exact .inr (by omega))
 have t5 := r5.tn (h' := fun k => k = 2) (fun _ h => h.elim) (by decide) ht (fun k hk => ⟨(World.ownsRow.lt (r5.l F) k hk).1, .inl (r5.ro.1 k hk)⟩); exact ⟨_, t5.below, t5.lo, fun _ => t5.blk (by decide), fun _ => hv, fun _ => t5.t (by decide), fun _ => t5.n (by decide), fun _ => t5.r (by decide), t5.rn, t5.lv, t5.r7, t5.r0, t5.old, ⟨fun k hk => if_pos hk, t5.ro.2.1, t5.ro.2.2.1, t5.ro.2.2.2⟩⟩
theorem TqX.pushR (H : TqS w0 gl cl g f n ρ S V W) {v' : Value} {x : Int} (ht : Tn V.vr.ownBlock W W') (hv : RowI w0.heap.size W' v' (S.r ++ [x])) (hb : v'.ownBlock = V.vr.ownBlock ∨ ∃ b, v'.ownBlock = some b ∧ W.heap.size ≤ b) : ∃ ρ', TqS w0 gl cl g f n ρ' { S with r := S.r ++ [x] } { V with vr := v' } W' := by
 have F : ¬ False := fun h => h
 have r5 := H.role v'.ownBlock 5 (fun k hk => by
   rcases hb with e | ⟨b, e1, e2⟩
   · exact .inl (H.ro.2.2.2 k (e ▸ hk))
   · rw [e1] at hk; injection hk with hk; exact .inr (by omega))
 have t5 := r5.tn (h' := fun k => k = 5) (fun _ h => h.elim) (by decide) ht (fun k hk => ⟨(World.ownsRow.lt (r5.r F) k hk).1, .inl (r5.ro.2.2.2 k hk)⟩); exact ⟨_, t5.below, t5.lo, fun _ => t5.blk (by decide), fun _ => t5.l (by decide), fun _ => t5.t (by decide), fun _ => t5.n (by decide), fun _ => hv, t5.rn, t5.lv, t5.r7, t5.r0, t5.old, ⟨t5.ro.1, t5.ro.2.1, t5.ro.2.2.1, fun k hk => if_pos hk⟩⟩
theorem TqX.pushT (H : TqS w0 gl cl g f n ρ S V W) {v' : Value} {x : Int} (ht : Tn V.vt.ownBlock W W') (hv : RowI w0.heap.size W' v' (S.T ++ [x])) (hb : v'.ownBlock = V.vt.ownBlock ∨ ∃ b, v'.ownBlock = some b ∧ W.heap.size ≤ b) :
   (∃ ρ', TqS w0 gl cl g f n ρ' { S with T := S.T ++ [x] } { V with vt := v' } (W'.setCell ⟨g, 258, none⟩ v')) ∧ (∃ y, W'.cell? ⟨g, 258, none⟩ = some y) ∧ W'.frozen? ⟨g, 258, none⟩ = false := by
 have F : ¬ False := fun h => h
 have r5 := H.role v'.ownBlock 3 (fun k hk => by
   rcases hb with e | ⟨b, e1, e2⟩
   · exact .inl (H.ro.2.1 k (e ▸ hk))
   · rw [e1] at hk; injection hk with hk; exact .inr (by omega))
 have t5 := r5.tn (h' := fun k => k = 3) (fun _ h => h.elim) (by decide) ht (fun k hk => ⟨(World.ownsRow.lt (r5.t F) k hk).1, .inl (r5.ro.2.1 k hk)⟩); have bk := t5.blk (by decide)
 have t6 := t5.tn (h' := fun k => k = 3 ∨ k = 1) (fun _ h => .inl h) (by decide) (Tn.wrote (Wrote.cell W' g 258 v')) (fun k hk => by
   obtain rfl : g = k := Option.some.inj hk
   exact ⟨H.lo, .inl (.inr t5.r0)⟩)
 refine ⟨⟨_, t6.below, t6.lo, fun _ => yzag bk v', fun _ => t6.l (by decide), fun _ => ?_, fun _ => t6.n (by decide), fun _ => t6.r (by decide), t6.rn, t6.lv, t6.r7, t6.r0, t6.old, ⟨t6.ro.1, fun k hk => if_pos hk, t6.ro.2.2.1, t6.ro.2.2.2⟩⟩, ⟨_, (DfB.of bk) 258 (by decide)⟩, BlkIs.frozen bk 258⟩
 exact xzat hv fun k hk => Below.heap_setCell W' ⟨g, 258, none⟩ v' k (fun e => by
   have h1 : (if v'.ownBlock = some k then 3 else ρ k) = 3 := if_pos hk; have h2 := t5.r0; rw [show k = g from e] at h1
   rw [h1] at h2; cases h2)
theorem TqX.pushN (H : TqS w0 gl cl g f n ρ S V W) {v' : Value} (ht : Tn V.vn.ownBlock W W') (hv : W'.ownsRow w0.heap.size 26 1 v' (S.R.length + 1) (S.hn ++ [V.vr])) (hb : v'.ownBlock = V.vn.ownBlock ∨ ∃ b, v'.ownBlock = some b ∧ W.heap.size ≤ b) :
   (∃ ρ', TqS w0 gl cl g f n ρ' { S with R := S.R ++ [S.r], hn := S.hn ++ [V.vr], r := [] } { V with vn := v', vr := .slice none 0 0 } (W'.setCell ⟨g, 257, none⟩ v')) ∧ (∃ y, W'.cell? ⟨g, 257, none⟩ = some y) ∧ W'.frozen? ⟨g, 257, none⟩ = false := by
 have F : ¬ False := fun h => h
 have hvr := H.r F
 have h1 : V.vr.oneCell' = true := by obtain ⟨A, c, e, _⟩ := xzar hvr; rw [e]; rfl
 have r5 := H.role v'.ownBlock 4 (fun k hk => by
   rcases hb with e | ⟨b, e1, e2⟩
   · exact .inl (H.ro.2.2.1 k (e ▸ hk))
   · rw [e1] at hk; injection hk with hk; exact .inr (by omega))
 have t5 := r5.tn (h' := fun k => k = 4) (fun _ h => h.elim) (by decide) ht (fun k hk => ⟨(World.ownsRow.lt (r5.n F) k hk).1, .inl (r5.ro.2.2.1 k hk)⟩); have bk := t5.blk (by decide)
 have t6 := t5.tn (h' := fun k => k = 4 ∨ k = 1) (fun _ h => .inl h) (by decide) (Tn.wrote (Wrote.cell W' g 257 v')) (fun k hk => by
   obtain rfl : g = k := Option.some.inj hk
   exact ⟨H.lo, .inl (.inr t5.r0)⟩)
 refine ⟨?_, ⟨_, (DfB.of bk) 257 (by decide)⟩, BlkIs.frozen bk 257⟩; obtain ⟨ρ6, hρ6⟩ : ∃ ρ6, (fun k => if v'.ownBlock = some k then 4 else ρ k) = ρ6 := ⟨_, rfl⟩; rw [hρ6] at t6
 have k4 : ∀ k, v'.ownBlock = some k → ρ6 k = 4 := fun k hk => by rw [← hρ6]; exact if_pos hk
 have kr := t6.r (by decide)
 have down : ∀ k, ρ6 k ≠ 5 → (if V.vr.ownBlock = some k then 0 else ρ6 k) = ρ6 k := fun k hk => by
   rw [if_neg fun e => hk (t6.ro.2.2.2 k e)]
 refine ⟨fun k => if V.vr.ownBlock = some k then 0 else ρ6 k, t6.below, t6.lo, fun _ => yzaf bk v', fun _ => t6.l (by decide), fun _ => t6.t (by decide), fun _ => ?_, fun _ => World.ownsRow_nil _ _ _ _, (t6.rn.role fun b _ h0 => (down b (by omega)).trans h0).push h1 (RowI.ints kr) (fun b hbk _ => ⟨if_pos hbk, (World.ownsRow.lt kr b hbk).2⟩),
   t6.lv, (down _ (by rw [t6.r7]; decide)).trans t6.r7, (down _ (by rw [t6.r0]; decide)).trans t6.r0, fun k hk => (down k (by rw [t6.old k hk]; decide)).trans (t6.old k hk),
   ⟨fun k hk => (down k (by rw [t6.ro.1 k hk]; decide)).trans (t6.ro.1 k hk), fun k hk => (down k (by rw [t6.ro.2.1 k hk]; decide)).trans (t6.ro.2.1 k hk), fun k hk => (down k (by rw [k4 k hk]; decide)).trans (k4 k hk), fun k hk => by cases hk⟩⟩
 show (W'.setCell ⟨g, 257, none⟩ v').ownsRow w0.heap.size 26 1 v' (S.R ++ [S.r]).length (S.hn ++ [V.vr])
 rw [List.length_append]
 exact xzav hv fun k hk => Below.heap_setCell W' ⟨g, 257, none⟩ v' k (fun e => by
   have h1 := k4 k hk; have h2 := t6.r0; rw [show k = g from e] at h1
   rw [h1] at h2; cases h2)
theorem TqX.wrote (H : TqS w0 gl cl g f n ρ S V W) (hz : W.heap.size ≤ W'.heap.size) (hb : ∀ b, w0.heap.size ≤ b → W'.heap[b]? = W.heap[b]?) : DfAt W' ⟨f, n, S.R, S.T⟩ (.agg (dfC f n V.vn V.vt)) := by
 have F : ¬ False := fun h => h
 refine ⟨V.vn, V.vt, rfl, xzmb (xzav (H.n F) fun b hb' => hb b (World.ownsRow.lt (H.n F) b hb').1) (H.rn.keep hz fun b _ hb0 => hb b ?_), RowI.ints (xzat (H.t F) fun b hb' => hb b (World.ownsRow.lt (H.t F) b hb').1)⟩
 rcases Nat.lt_or_ge b w0.heap.size with h1 | h1
 · have := H.old b h1; omega
 · exact h1
theorem TqX.addL (H : TqS w0 gl cl g f n ρ S V W) (x : Int) (hl : S.L.length + 1 ≤ 1073741824) :
   ∃ A c W', (Builtin.append_ #[26, 26] 26 #[V.vl, .slice (some ⟨W.heap.size, 0, none⟩) 1 1]).run Tryz.prog (W.alloc (.cells #[.int .i64 x] 3)) = .ok (.slice A (S.L.length + 1) c) W' ∧
     ∃ ρ', TqS w0 gl cl g f n ρ' { S with L := S.L ++ [x] } { V with vl := .slice A (S.L.length + 1) c } W' := by
 have F : ¬ False := fun h => h
 have hb : Below W.heap.size W (W.alloc (.cells #[.int .i64 x] 3)) := (Below.refl _ _).alloc (Nat.le_refl _) _; have hn := BlkIs.new W 3 #[.int .i64 x]; obtain ⟨v', W', hrun, k1, k2, _, k4⟩ := xzca ((H.step hb).l F) (b := W.heap.size) (c := 1) ((hn.cell 0).trans rfl) hl (by have := H.size; have := hb.size; omega); obtain ⟨A, c, e, _⟩ := xzar k1; rw [show (S.L ++ [x]).length = S.L.length + 1 by simp] at e; subst e; exact ⟨A, c, W', hrun, H.pushL ((Tn.below hb).trans (Tn.grown k2)) k1 (k4.imp id fun e => ⟨_, e, hb.size⟩)⟩
theorem TqX.addR (H : TqS w0 gl cl g f n ρ S V W) (x : Int) (hl : S.r.length + 1 ≤ 1073741824) :
   ∃ A c W', (Builtin.append_ #[26, 26] 26 #[V.vr, .slice (some ⟨W.heap.size, 0, none⟩) 1 1]).run Tryz.prog (W.alloc (.cells #[.int .i64 x] 3)) = .ok (.slice A (S.r.length + 1) c) W' ∧
     ∃ ρ', TqS w0 gl cl g f n ρ' { S with r := S.r ++ [x] } { V with vr := .slice A (S.r.length + 1) c } W' := by
 have F : ¬ False := fun h => h
 have hb : Below W.heap.size W (W.alloc (.cells #[.int .i64 x] 3)) := (Below.refl _ _).alloc (Nat.le_refl _) _; have hn := BlkIs.new W 3 #[.int .i64 x]; obtain ⟨v', W', hrun, k1, k2, _, k4⟩ := xzca ((H.step hb).r F) (b := W.heap.size) (c := 1) ((hn.cell 0).trans rfl) hl (by have := H.size; have := hb.size; omega); obtain ⟨A, c, e, _⟩ := xzar k1; rw [show (S.r ++ [x]).length = S.r.length + 1 by simp] at e; subst e; exact ⟨A, c, W', hrun, H.pushR ((Tn.below hb).trans (Tn.grown k2)) k1 (k4.imp id fun e => ⟨_, e, hb.size⟩)⟩
theorem TqX.rowed (H : TqS w0 gl cl g f n ρ S V W) (hl : S.R.length + 1 ≤ 1073741824) :
   ∃ A c W', (Builtin.append_ #[25, 25] 25 #[V.vn, .slice (some ⟨W.heap.size, 0, none⟩) 1 1]).run Tryz.prog (W.alloc (.cells #[V.vr] 26)) = .ok (.slice A (S.R.length + 1) c) W' ∧
     (∃ ρ', TqS w0 gl cl g f n ρ' { S with R := S.R ++ [S.r], hn := S.hn ++ [V.vr], r := [] } { V with vn := .slice A (S.R.length + 1) c, vr := .slice none 0 0 } (W'.setCell ⟨g, 257, none⟩ (.slice A (S.R.length + 1) c))) ∧ (∃ y, W'.cell? ⟨g, 257, none⟩ = some y) ∧ W'.frozen? ⟨g, 257, none⟩ = false := by
 have F : ¬ False := fun h => h
 have hb : Below W.heap.size W (W.alloc (.cells #[V.vr] 26)) := (Below.refl _ _).alloc (Nat.le_refl _) _; have hn := BlkIs.new W 26 #[V.vr]
 have h1 : V.vr.oneCell' = true := by obtain ⟨A, c, e, _⟩ := xzar (H.r F); rw [e]; rfl
 obtain ⟨v', W', hrun, k1, k2, k3, k4⟩ := xzgj ((H.step hb).n F) (b := W.heap.size) (c := 1) ((hn.cell 0).trans rfl) h1 hl (by have := H.size; have := hb.size; omega); obtain ⟨A, c, e, _⟩ := xzar k1; subst e; exact ⟨A, c, W', hrun, H.pushN ((Tn.below hb).trans (Tn.grown k2)) k1 (k4.imp id fun e => ⟨_, e, hb.size⟩)⟩
end
theorem RowI.spot {B : Nat} {W : World} {v : Value} {l : List Int} (h : RowI B W v l) {i : Nat} (hi : i < l.length) : ∃ b c, v = .slice (some ⟨b, 0, none⟩) l.length c ∧ v.ownBlock = some b ∧ b < W.heap.size ∧ ∀ (j : Nat) (hj : j < l.length), W.cell? ⟨b, j, none⟩ = some (.int .i64 l[j]) := by
 rcases h.2 with ⟨rfl, h0⟩ | ⟨g, cap, cur, rfl, h1, h2, h3⟩
 · omega
 · refine ⟨g, cap, rfl, rfl, (Array.getElem?_eq_some_iff.1 h2).1, fun j hj => ?_⟩
   have := World.ownsRow.cells (g := g) h rfl j (.int .i64 l[j]) (by simp [hj]); rw [Addr.add_lit, Nat.zero_add] at this; exact this
theorem xzxp {l : List Int} (hn : l.Nodup) (x : Int) {j : Nat} (hj : j < l.length) : numL (l.take (j + 1)) x = if l[j] = x then (j : Int) else numL (l.take j) x := by
 have hnm : l[j] ∉ l.take j := fun hm => by
   obtain ⟨i, hi, e⟩ := List.getElem_of_mem hm
   have hij : i < j := by rw [List.length_take] at hi; omega
   rw [List.getElem_take] at e; have := (List.getElem_inj hn).1 e; omega
 rw [List.take_succ_eq_append_getElem hj]
 have hlen : (l.take j).length = j := by rw [List.length_take]; omega
 split
 · rename_i e
   subst e; unfold numL; rw [if_pos (List.mem_append.2 (.inr (List.mem_singleton.2 rfl))), List.idxOf_append, if_neg hnm, hlen]; simp
 · rename_i e
   unfold numL
   by_cases hm : x ∈ l.take j
   · rw [if_pos hm, if_pos (List.mem_append.2 (.inl hm)), List.idxOf_append, if_pos hm]
   · rw [if_neg hm, if_neg fun h => by
       rcases List.mem_append.1 h with h | h
       · exact hm h
       · rw [List.mem_singleton] at h; exact e h.symm]
noncomputable def refQ (D : Df) (i c : Nat) : List Int := addRowQ (qTo (liveN D) [0] i) (((liveN D).getD ((qTo (liveN D) [0] i).getD i 0).toNat []).take c)
theorem xzmu {q : List Int} {i : Nat} (h : i < q.length) : q.getD i 0 = q[i] := by
 rw [List.getD_eq_getElem?_getD, List.getElem?_eq_getElem h]; rfl
theorem yzbl {D : Df} {i : Nat} (h : i < (qTo (liveN D) [0] i).length) : refQ D i ((D.next.getD ((qTo (liveN D) [0] i)[i]).toNat []).length) = qTo (liveN D) [0] (i + 1) := by
 unfold refQ; rw [xzmu h, xzfo, List.take_of_length_le (by rw [List.length_map]; exact Nat.le_refl _), ← xzfo]
 show _ = (match (qTo (liveN D) [0] i)[i]? with | none => _ | some x => addRowQ (qTo (liveN D) [0] i) ((liveN D).getD x.toNat []))
 rw [List.getElem?_eq_getElem h]
theorem xzxq (D : Df) (i : Nat) : refQ D i 0 = qTo (liveN D) [0] i := rfl
theorem yzbm {D : Df} {i c : Nat} (h : i < (qTo (liveN D) [0] i).length) : refQ D i c <+: qTo (liveN D) [0] (i + 1) := by
 have e : qTo (liveN D) [0] (i + 1) = addRowQ (qTo (liveN D) [0] i) ((liveN D).getD ((qTo (liveN D) [0] i).getD i 0).toNat []) := by
   show (match (qTo (liveN D) [0] i)[i]? with | none => _ | some x => addRowQ (qTo (liveN D) [0] i) ((liveN D).getD x.toNat [])) = _
   rw [List.getElem?_eq_getElem h, xzmu h]
 rw [e]; unfold refQ
 conv => rhs; rw [← List.take_append_drop c ((liveN D).getD ((qTo (liveN D) [0] i).getD i 0).toNat [])]
 unfold addRowQ; rw [List.foldl_append]; exact xzcs _ _
theorem xzxr {D : Df} {i c : Nat} (h : i < (qTo (liveN D) [0] i).length) (hc : c < (D.next.getD ((qTo (liveN D) [0] i)[i]).toNat []).length) :
   refQ D i (c + 1) = addQ (refQ D i c) (if lvB D (D.next.getD ((qTo (liveN D) [0] i)[i]).toNat [])[c] then (D.next.getD ((qTo (liveN D) [0] i)[i]).toNat [])[c] else -1) := by
 unfold refQ; rw [xzmu h, xzfo, xzhb _ _ (by rw [List.length_map]; exact hc), List.getElem_map]
end
end Go.Proofs.YtgngaaemkmdfaaaGreatDoor
