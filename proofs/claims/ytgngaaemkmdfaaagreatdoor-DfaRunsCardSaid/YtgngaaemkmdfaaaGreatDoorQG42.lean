/-
 WHAT hackleref09's Step, Run AND Tag ANSWER: contracts. Condition: an automaton that may be; a text of at most 2^30 bytes.
-/
import Derived.Test.YtgngaaemkmdfaaaGreatDoorQG41
namespace Go.Proofs.YtgngaaemkmdfaaaGreatDoor
open Go.RowKit

attribute [local irreducible] FreeW textFrame

def Df.stepR (D : Df) (a : Int) (b : Nat) : Int := if a < 0 ∨ (D.next.length : Int) ≤ a then -1 else D.nxt a b
set_option maxRecDepth 20000 in
set_option maxHeartbeats 8000000 in
theorem xzhh (D : Df) (a : Int) (b : Nat) (v : Value) (w : World) (h : DfAt w D v) (hm : MayD D) (hf : ∀ b, b < 256 → D.of b < 256) (hb : b < 256) :
   Calls Tryz.prog 16 #[v, .int .i64 a, .int .u8 (b : Nat)] w fun e w' => e = .returned (.int .i64 (D.stepR a b)) ∧ Below w.heap.size w w' := by
 obtain ⟨vn, vt, rfl, hrn, hrt⟩ := h; obtain ⟨An, cn, rfl, hcn, hgn⟩ := hrn; obtain ⟨At, ct, rfl, hct, hgt⟩ := hrt; obtain ⟨W1, hbx, hsz, hb1, hx1⟩ := xzce D.of D.n (.slice An D.next.length cn) (.slice At D.tag.length ct) w; have hd1 := DfB.of hx1; obtain ⟨c256, c257, c258⟩ := hd1.cells; have c0 := hd1.ofAt hb; have HB := Lib.hid hb1; obtain ⟨dc, hdc⟩ : ∃ dc, dfC D.of D.n (.slice An D.next.length cn) (.slice At D.tag.length ct) = dc := ⟨_, rfl⟩; rw [hdc] at hbx
 have hds : dc.size = 259 := by rw [← hdc]; exact xzad _ _ _ _
 rw [hdc]; obtain ⟨R, hR⟩ : ∃ R, D.stepR a b = R := ⟨_, rfl⟩; rw [hR]; unfold Df.stepR at hR
 by_cases h1 : a < 0
 · have e1 : decide (a < 0) = true := by simp; omega
   have HN := Lib.hid (show R = -1 by rw [← hR, if_pos (.inl h1)]); clear hR h1 hb1 hx1 hd1 hgn hgt hdc hm hf
   go_enter Tryz.func16, Tryz.ntmps16
   go_wp2; go_ret; exact ⟨by rw [HN.out]; rfl, HB.out⟩
 have e1 : decide (a < 0) = false := by simp; omega
 by_cases h2 : (D.next.length : Int) ≤ a
 · have e2 : decide (a ≥ (D.next.length : Int)) = true := by simp; omega
   have e2b : decide ((D.next.length : Int) ≤ a) = true := by simp; omega
   have HN := Lib.hid (show R = -1 by rw [← hR, if_pos (.inr h2)]); clear hR h1 h2 hb1 hx1 hd1 hgn hgt hdc hm hf
   go_enter Tryz.func16, Tryz.ntmps16
   go_wp2; go_ret; exact ⟨by rw [HN.out]; rfl, HB.out⟩
 rw [if_neg (by omega)] at hR; obtain ⟨an, rfl⟩ : ∃ an : Nat, a = (an : Nat) := ⟨a.toNat, by omega⟩
 have ha : an < D.next.length := by omega
 have e2 : decide ((an : Int) ≥ (D.next.length : Int)) = false := by simp; omega
 have e2b : decide ((D.next.length : Int) ≤ (an : Int)) = false := by simp; omega
 have hc : D.of b < D.next[an].length := by have h1 := hm.cl b hb; have h2 := (hm.rows _ (List.getElem_mem ha)).1; omega
 obtain ⟨bn, on, rfl, hlt, hg⟩ := hgn (by intro e; rw [e] at ha; simp at ha); obtain ⟨vr, hcell0, hvr⟩ := hg an ha; obtain ⟨Ar, cr, rfl, hcr, hgr⟩ := hvr; obtain ⟨br, or, rfl, hltr, hgr2⟩ := hgr (by intro e; rw [e] at hc; simp at hc); have hcell := (hb1.cell (p := ⟨bn, on + an, none⟩) hlt).trans hcell0; have hcell2 := (hb1.cell (p := ⟨br, or + D.of b, none⟩) hltr).trans (hgr2 (D.of b) hc)
 have i1 : decide ((an : Int) < (D.next.length : Int)) = true := by simp; omega
 have i2 : decide ((b : Int) < 256) = true := by simp; omega
 have i3 : decide ((D.of b : Int) < (D.next[an].length : Int)) = true := by simp; omega
 have hN : D.nxt (an : Nat) b = D.next[an][D.of b] := by
   unfold Df.nxt; rw [List.getD_eq_getElem?_getD, List.getD_eq_getElem?_getD, Int.toNat_natCast, List.getElem?_eq_getElem ha, Option.getD_some, List.getElem?_eq_getElem hc]; rfl
 rw [hN] at hR; have HN := Lib.hid hR.symm; have HF := Lib.hid (hf b hb); have HHB := Lib.hid hb; clear hb1 hx1 hd1 hgn hg hgr hgr2 hgt hdc hf hm hcell0 hN hR h1 h2; generalize D.next[an][D.of b] = x at *; generalize D.next[an].length = nr at *; generalize D.next.length = nn at *; generalize D.of b = c at *; generalize D.n = n at *
 go_enter Tryz.func16, Tryz.ntmps16
 go_wp2_with fail
 go_region
 go_wp2; go_ret; exact ⟨by rw [HN.out]; rfl, HB.out.drew⟩
theorem xzuc {D : Df} (hm : MayD D) (hne : D.next ≠ []) (s : ByteArray) (j : Nat) : D.goTo s (j + 1) = D.stepR (D.goTo s j) (b8 s j) := by
 have h := hm.goTo_in hne s j
 show (if D.goTo s j = -1 then -1 else D.nxt (D.goTo s j) (b8 s j)) = _
 unfold Df.stepR
 by_cases e : D.goTo s j = -1
 · rw [if_pos e, if_pos (by omega)]
 · rw [if_neg e, if_neg (by omega)]
def Df.goR (D : Df) (s : ByteArray) (j : Nat) : Int := if D.next.length = 0 then -1 else D.goTo s j
theorem yzbj {D : Df} (hm : MayD D) (s : ByteArray) (j : Nat) : D.goR s (j + 1) = D.stepR (D.goR s j) (b8 s j) := by
 unfold Df.goR
 by_cases e : D.next.length = 0
 · rw [if_pos e, if_pos e]; unfold Df.stepR; rw [if_pos (by omega)]
 · rw [if_neg e, if_neg e]; exact xzuc hm (fun h => e (by rw [h]; rfl)) s j
theorem xzyg {D : Df} (hm : D.may = true) (s : ByteArray) : D.goR s s.size = D.run s := by
 unfold Df.goR Df.run; rw [hm, Bool.true_and]
 cases h : D.next with
 | nil => rfl
 | cons a r => rfl
set_option maxRecDepth 20000 in
set_option maxHeartbeats 8000000 in
theorem xzih (D : Df) (s : ByteArray) (hs : s.size ≤ 1073741824) (v : Value) (w : World) (h : DfAt w D v) (hm : D.may = true) (hf : ∀ b, b < 256 → D.of b < 256) :
   Calls Tryz.prog 17 #[v, .string s] w fun e w' => e = .returned (.int .i64 (D.run s)) ∧ Below w.heap.size w w' := by
 have hmd := yzae hm; have HST := Lib.hid (fun (a : Int) (b : Nat) (u : World) (hu : Below w.heap.size w u) (hb : b < 256) => xzhh D a b v u (h.step hu) hmd hf hb); obtain ⟨vn, vt, rfl, hrn, hrt⟩ := h; obtain ⟨An, cn, rfl, hcn, _⟩ := hrn; obtain ⟨At, ct, rfl, hct, _⟩ := hrt; obtain ⟨W1, hbx, hsz, hb1, hx1⟩ := xzce D.of D.n (.slice An D.next.length cn) (.slice At D.tag.length ct) w; have hd1 := DfB.of hx1; obtain ⟨c256, c257, c258⟩ := hd1.cells; have HB := Lib.hid (And.intro hb1 hd1); obtain ⟨dc, hdc⟩ : ∃ dc, dfC D.of D.n (.slice An D.next.length cn) (.slice At D.tag.length ct) = dc := ⟨_, rfl⟩; have HLD := Lib.hid (fun (u : World) (hu : DfB u w.heap.size D.of D.n (.slice An D.next.length cn) (.slice At D.tag.length ct)) => loadDr hu); rw [hdc] at hbx HST HLD
 have hds : dc.size = 259 := by rw [← hdc]; exact xzad _ _ _ _
 rw [hdc]
 have HIX := Lib.hid (show ∀ (j : Nat), j < s.size → ∀ u : World, (Instr.index 9 (.string s) (.int .i64 (j : Nat))).run Tryz.prog u = .ok (.int .u8 (b8 s j : Nat)) u from fun j hj u => by
   have := xzit 9 Tryz.underlying9 s j hj u (P := Tryz.prog)
   rw [this]; unfold b8; rw [dif_pos hj])
 have HRN := Lib.hid (xzyg hm s); have HGS := Lib.hid (fun j => yzbj hmd s j); have HG0 := Lib.hid (show D.goR s 0 = (if D.next.length = 0 then -1 else 0) from rfl); clear hb1 hx1 hd1 hdc hm hmd hf
 have key : ∀ (i0 : Value), i0 = .int .i64 (D.goR s 0) → True := fun _ _ => trivial
 by_cases hz : D.next.length = 0
 · have e1 : ((D.next.length : Int) == 0) = true := by simp [hz]
   have e1b : decide ((D.next.length : Int) = 0) = true := by simp [hz]
   have HG := Lib.hid (show D.goR s 0 = -1 by rw [HG0.out, if_pos hz]); clear hz key
   go_enter Tryz.func17, Tryz.ntmps17
   go_wp2; clear hbx hds c256 c257 c258 e1 e1b
   go_loopw [5, 6] (fun x i wr => ∃ j : Nat, i = .int .i64 j ∧ x = .int .i64 (D.goR s j) ∧ j ≤ s.size ∧ Hid (Below w.heap.size w wr ∧ DfB wr w.heap.size D.of D.n (.slice An D.next.length cn) (.slice At D.tag.length ct))) (fun _ i _ => s.size - (intOf i).toNat)
   case atStart => exact ⟨0, rfl, by rw [HG.out], Nat.zero_le _, HB⟩
   case round =>
     obtain ⟨j, rfl, rfl, hj, HH⟩ := hrel; obtain ⟨w2, rfl⟩ : ∃ w2, w2 = wr := ⟨_, rfl⟩
     by_cases hp : j < s.size
     · have hk1 : IntKind.i64.wrap ((j : Int) + 1) = ((j + 1 : Nat) : Int) := by rw [IntKind.wrap_i64]; omega
       have hdl : decide ((j : Int) < (s.size : Int)) = true := by simp; omega
       have HNX := Lib.hid (HGS.out j); obtain ⟨cu, hcu⟩ : ∃ cu, D.goR s j = cu := ⟨_, rfl⟩; rw [hcu] at HNX; rw [hcu]; clear hcu
       go_wp2_with fail
       refine xzaf 6 24 (fun u => Hid (Below w.heap.size w u ∧ DfB u w.heap.size D.of D.n (.slice An D.next.length cn) (.slice At D.tag.length ct))) (fun _ u u' => Below u.heap.size u u')
         (fun i v u => match i with
           | 0 => v = .agg dc
           | 1 => v = .int .i64 cu
           | 2 => v = .string s
           | 3 => v = .int .i64 (j : Nat)
           | 4 => v = .int .u8 (b8 s j : Nat)
           | 5 => v = .int .i64 (D.stepR cu (b8 s j))
           | _ => True) (by kernel_rfl) (by kernel_rfl) rfl (Lib.hid ⟨HH.out.1.drew, HH.out.2⟩) ?_ ?_ ?_ ?_
       · intro i u u' hix hC hr
         exact Lib.hid ⟨hC.out.1.trans (hr.mono hC.out.1.size), hC.out.2.step hr⟩
       · intro i j v u u' hix hj hne hv hr
         match i, hix, hne, hv with
         | 0, _, _, hv => exact hv
         | 1, _, _, hv => exact hv
         | 2, _, _, hv => exact hv
         | 3, _, _, hv => exact hv
         | 4, _, _, hv => exact hv
         | 5, _, _, hv => exact hv
         | i + 6, hix, _, _ => omega
       · intro i hix vs u hC hw oq ho
         match i, hix, hw, ho with
         | 0, _, hw, ho =>
           simp only [zqa, zqb, zqh] at ho; subst ho; refine ⟨rfl, ?_⟩; clear hw; simp only [xzaa, tmpsTo]; rw [xzao 28 (.tmp 2) _ rfl rfl (HLD.out u hC.out.2)]; exact zqi
         | 1, _, hw, ho =>
           simp only [zqa, zqb, zqc, zqh] at ho; subst ho; refine ⟨rfl, ?_⟩; clear hw; simp only [xzaa, tmpsTo, putT, zqa, zqb, zqd, zqe, zqf, zqg]; go_simp; exact zqi
         | 2, _, hw, ho =>
           simp only [zqa, zqb, zqc, zqh] at ho; subst ho; refine ⟨rfl, ?_⟩; clear hw; simp only [xzaa, tmpsTo, putT, zqa, zqb, zqc, zqd, zqe, zqf, zqg]; go_simp; exact zqi
         | 3, _, hw, ho =>
           simp only [zqa, zqb, zqc, zqh] at ho; subst ho; refine ⟨rfl, ?_⟩; clear hw; simp only [xzaa, tmpsTo, putT, zqa, zqb, zqc, zqd, zqe, zqf, zqg]; go_simp; exact zqi
         | 4, _, hw, ho =>
           have e2 : vs 2 = .string s := hw 2 (by omega) (by kernel_rfl); have e3 : vs 3 = .int .i64 (j : Nat) := hw 3 (by omega) (by kernel_rfl); simp only [zqa, zqb, zqc, zqh] at ho; subst ho; refine ⟨rfl, ?_⟩; have hix := HIX.out j hp u; clear hw; simp only [xzaa, tmpsTo, putT, zqa, zqb, zqc, zqd, zqe, zqf, zqg]; rw [e2, e3]; clear e2 e3; go_simp; exact zqi
         | 5, _, hw, ho =>
           have e0 : vs 0 = .agg dc := hw 0 (by omega) (by kernel_rfl); have e1 : vs 1 = .int .i64 cu := hw 1 (by omega) (by kernel_rfl); have e4 : vs 4 = .int .u8 (b8 s j : Nat) := hw 4 (by omega) (by kernel_rfl); simp only [zqa, zqb, zqc, zqh] at ho; subst ho; refine ⟨rfl, ?_⟩; clear hw; simp only [xzaa, tmpsTo, putT, zqa, zqb, zqc, zqd, zqe, zqf, zqg]; rw [e0, e1, e4]; clear e0 e1 e4; go_simp; refine xzas ((HST.out cu (b8 s j) u hC.out.1 (xzzg s j)).mono ?_); rintro e u' ⟨rfl, hbu⟩; exact ⟨_, rfl, hbu, rfl⟩
         | i + 6, hix, _, _ => omega
       intro vs1 u hC hV; have h5 : vs1 5 = .int .i64 (D.stepR cu (b8 s j)) := hV 5 (by omega); clear hV; simp only [xzaa, tmpsTo, putT, zqa, zqb, zqc, zqd, zqe, zqf, zqg, List.drop_succ_cons, List.drop_zero]; rw [h5]; clear h5; generalize vs1 0 = q0; generalize vs1 1 = q1; generalize vs1 2 = q2; generalize vs1 3 = q3; generalize vs1 4 = q4; go_wp2; exact ⟨⟨j + 1, rfl, by rw [HNX.out], hp, hC⟩, by simp [intOf]; omega⟩
     · have hdl : decide ((j : Int) < (s.size : Int)) = false := by simp; omega
       obtain rfl : j = s.size := by omega
       have HR2 := Lib.hid HRN.out; go_wp2; go_ret; exact ⟨by rw [← HR2.out]; rfl, HH.out.1⟩
 · have e1 : ((D.next.length : Int) == 0) = false := by simp; intro e; rw [e] at hz; exact hz rfl
   have e1b : decide ((D.next.length : Int) = 0) = false := by simp; intro e; rw [e] at hz; exact hz rfl
   have HG := Lib.hid (show D.goR s 0 = 0 by rw [HG0.out, if_neg hz]); clear hz key
   go_enter Tryz.func17, Tryz.ntmps17
   go_wp2; clear hbx hds c256 c257 c258 e1 e1b
   go_loopw [5, 6] (fun x i wr => ∃ j : Nat, i = .int .i64 j ∧ x = .int .i64 (D.goR s j) ∧ j ≤ s.size ∧ Hid (Below w.heap.size w wr ∧ DfB wr w.heap.size D.of D.n (.slice An D.next.length cn) (.slice At D.tag.length ct))) (fun _ i _ => s.size - (intOf i).toNat)
   case atStart => exact ⟨0, rfl, by rw [HG.out], Nat.zero_le _, HB⟩
   case round =>
     obtain ⟨j, rfl, rfl, hj, HH⟩ := hrel; obtain ⟨w2, rfl⟩ : ∃ w2, w2 = wr := ⟨_, rfl⟩
     by_cases hp : j < s.size
     · have hk1 : IntKind.i64.wrap ((j : Int) + 1) = ((j + 1 : Nat) : Int) := by rw [IntKind.wrap_i64]; omega
       have hdl : decide ((j : Int) < (s.size : Int)) = true := by simp; omega
       have HNX := Lib.hid (HGS.out j); obtain ⟨cu, hcu⟩ : ∃ cu, D.goR s j = cu := ⟨_, rfl⟩; rw [hcu] at HNX; rw [hcu]; clear hcu
       go_wp2_with fail
       refine xzaf 6 24 (fun u => Hid (Below w.heap.size w u ∧ DfB u w.heap.size D.of D.n (.slice An D.next.length cn) (.slice At D.tag.length ct))) (fun _ u u' => Below u.heap.size u u')
         (fun i v u => match i with
           | 0 => v = .agg dc
           | 1 => v = .int .i64 cu
           | 2 => v = .string s
           | 3 => v = .int .i64 (j : Nat)
           | 4 => v = .int .u8 (b8 s j : Nat)
           | 5 => v = .int .i64 (D.stepR cu (b8 s j))
           | _ => True) (by kernel_rfl) (by kernel_rfl) rfl (Lib.hid ⟨HH.out.1.drew, HH.out.2⟩) ?_ ?_ ?_ ?_
       · intro i u u' hix hC hr
         exact Lib.hid ⟨hC.out.1.trans (hr.mono hC.out.1.size), hC.out.2.step hr⟩
       · intro i j v u u' hix hj hne hv hr
         match i, hix, hne, hv with
         | 0, _, _, hv => exact hv
         | 1, _, _, hv => exact hv
         | 2, _, _, hv => exact hv
         | 3, _, _, hv => exact hv
         | 4, _, _, hv => exact hv
         | 5, _, _, hv => exact hv
         | i + 6, hix, _, _ => omega
       · intro i hix vs u hC hw oq ho
         match i, hix, hw, ho with
         | 0, _, hw, ho =>
           simp only [zqa, zqb, zqh] at ho; subst ho; refine ⟨rfl, ?_⟩; clear hw; simp only [xzaa, tmpsTo]; rw [xzao 28 (.tmp 2) _ rfl rfl (HLD.out u hC.out.2)]; exact zqi
         | 1, _, hw, ho =>
           simp only [zqa, zqb, zqc, zqh] at ho; subst ho; refine ⟨rfl, ?_⟩; clear hw; simp only [xzaa, tmpsTo, putT, zqa, zqb, zqd, zqe, zqf, zqg]; go_simp; exact zqi
         | 2, _, hw, ho =>
           simp only [zqa, zqb, zqc, zqh] at ho; subst ho; refine ⟨rfl, ?_⟩; clear hw; simp only [xzaa, tmpsTo, putT, zqa, zqb, zqc, zqd, zqe, zqf, zqg]; go_simp; exact zqi
         | 3, _, hw, ho =>
           simp only [zqa, zqb, zqc, zqh] at ho; subst ho; refine ⟨rfl, ?_⟩; clear hw; simp only [xzaa, tmpsTo, putT, zqa, zqb, zqc, zqd, zqe, zqf, zqg]; go_simp; exact zqi
         | 4, _, hw, ho =>
           have e2 : vs 2 = .string s := hw 2 (by omega) (by kernel_rfl); have e3 : vs 3 = .int .i64 (j : Nat) := hw 3 (by omega) (by kernel_rfl); simp only [zqa, zqb, zqc, zqh] at ho; subst ho; refine ⟨rfl, ?_⟩; have hix := HIX.out j hp u; clear hw; simp only [xzaa, tmpsTo, putT, zqa, zqb, zqc, zqd, zqe, zqf, zqg]; rw [e2, e3]; clear e2 e3; go_simp; exact zqi
         | 5, _, hw, ho =>
           have e0 : vs 0 = .agg dc := hw 0 (by omega) (by kernel_rfl); have e1 : vs 1 = .int .i64 cu := hw 1 (by omega) (by kernel_rfl); have e4 : vs 4 = .int .u8 (b8 s j : Nat) := hw 4 (by omega) (by kernel_rfl); simp only [zqa, zqb, zqc, zqh] at ho; subst ho; refine ⟨rfl, ?_⟩; clear hw; simp only [xzaa, tmpsTo, putT, zqa, zqb, zqc, zqd, zqe, zqf, zqg]; rw [e0, e1, e4]; clear e0 e1 e4; go_simp; refine xzas ((HST.out cu (b8 s j) u hC.out.1 (xzzg s j)).mono ?_); rintro e u' ⟨rfl, hbu⟩; exact ⟨_, rfl, hbu, rfl⟩
         | i + 6, hix, _, _ => omega
       intro vs1 u hC hV; have h5 : vs1 5 = .int .i64 (D.stepR cu (b8 s j)) := hV 5 (by omega); clear hV; simp only [xzaa, tmpsTo, putT, zqa, zqb, zqc, zqd, zqe, zqf, zqg, List.drop_succ_cons, List.drop_zero]; rw [h5]; clear h5; generalize vs1 0 = q0; generalize vs1 1 = q1; generalize vs1 2 = q2; generalize vs1 3 = q3; generalize vs1 4 = q4; go_wp2; exact ⟨⟨j + 1, rfl, by rw [HNX.out], hp, hC⟩, by simp [intOf]; omega⟩
     · have hdl : decide ((j : Int) < (s.size : Int)) = false := by simp; omega
       obtain rfl : j = s.size := by omega
       have HR2 := Lib.hid HRN.out; go_wp2; go_ret; exact ⟨by rw [← HR2.out]; rfl, HH.out.1⟩
set_option maxRecDepth 20000 in
set_option maxHeartbeats 8000000 in
theorem xzqd (D : Df) (s : ByteArray) (hs : s.size ≤ 1073741824) (v : Value) (w : World) (h : DfAt w D v) (hm : D.may = true) (hf : ∀ b, b < 256 → D.of b < 256) :
   Calls Tryz.prog 18 #[v, .string s] w fun e w' => e = .returned (.int .i64 (D.tagOf s)) ∧ Below w.heap.size w w' := by
 have HAT := Lib.hid h; obtain ⟨vn, vt, rfl, hrn, hrt⟩ := h; obtain ⟨An, cn, rfl, hcn, _⟩ := hrn; obtain ⟨At, ct, rfl, hct, hgt⟩ := hrt; obtain ⟨W1, hbx, hsz, hb1, hx1⟩ := xzce D.of D.n (.slice An D.next.length cn) (.slice At D.tag.length ct) w; have HD := Lib.hid (And.intro (DfB.of hx1) (And.intro hb1 (show w.heap.size < W1.heap.size by omega))); obtain ⟨dc, hdc⟩ : ∃ dc, dfC D.of D.n (.slice An D.next.length cn) (.slice At D.tag.length ct) = dc := ⟨_, rfl⟩; rw [hdc] at hbx HAT
 have hds : dc.size = 259 := by rw [← hdc]; exact xzad _ _ _ _
 rw [hdc]; have HDC := Lib.hid hdc; have HRN := Lib.hid (xzih D s hs _ W1 (HAT.out.step hb1) hm hf); obtain ⟨R, hR⟩ : ∃ R, D.tagOf s = R := ⟨_, rfl⟩; rw [hR]; unfold Df.tagOf at hR
 have hrr : D.run s = -1 ∨ (∃ a : Nat, D.run s = (a : Nat) ∧ a < D.tag.length) := by
   have h := yzae hm; rw [← xzyg hm s]; unfold Df.goR
   by_cases hz : D.next.length = 0
   · rw [if_pos hz]; exact .inl rfl
   · rw [if_neg hz]
     have := h.goTo_in (fun e => hz (by rw [e]; rfl)) s s.size
     by_cases e : D.goTo s s.size = -1
     · exact .inl e
     · exact .inr ⟨(D.goTo s s.size).toNat, by omega, by rw [h.tags]; omega⟩
 have HGT := Lib.hid hgt; clear hb1 hx1 hdc hf hgt hm
 rcases hrr with hr | ⟨a, hr, hal⟩
 · rw [hr] at HRN hR
   have HN := Lib.hid (show R = -1 by rw [← hR]; rfl)
   have e1 : decide ((-1 : Int) < 0) = true := by decide
   clear hR hr
   go_enter Tryz.func18, Tryz.ntmps18
   go_wp2_with (first
     | ((with_reducible refine xzbl (.tmp 2) ?_ ?_ HD.out.1 ?_ ?_); exact rfl; exact rfl; kernel_rfl; rw [HDC.out])
     | (go_at_call 17; refine HRN.out.mono ?_; rintro e u1 ⟨rfl, hbu⟩; have HB := Lib.hid (HD.out.2.1.trans (hbu.mono HD.out.2.1.size)); clear hbu))
   go_ret; exact ⟨by rw [HN.out]; rfl, HB.out⟩
 · rw [hr] at HRN hR
   rw [if_neg (by omega), Int.toNat_natCast, List.getD_eq_getElem?_getD, List.getElem?_eq_getElem hal] at hR; have HN := Lib.hid (show R = D.tag[a] from hR.symm); obtain ⟨bt, ot, rfl, hlt, hg⟩ := HGT.out (by intro e; rw [e] at hal; simp at hal); have hga := hg a hal
   have i1 : decide ((a : Int) < (D.tag.length : Int)) = true := by simp; omega
   have e1 : decide ((a : Int) < 0) = false := by rw [decide_eq_false_iff_not]; omega
   have HC := Lib.hid hga; clear hR hr hg; generalize D.tag[a] = tx at *
   go_enter Tryz.func18, Tryz.ntmps18
   go_wp2_with (first
     | ((with_reducible refine xzbl (.tmp 2) ?_ ?_ HD.out.1 ?_ ?_); exact rfl; exact rfl; kernel_rfl; rw [HDC.out])
     | (go_at_call 17; refine HRN.out.mono ?_; rintro e u1 ⟨rfl, hbu⟩; have HB := Lib.hid (HD.out.2.1.trans (hbu.mono HD.out.2.1.size)); have k258 := (hbu.cell (p := ⟨w.heap.size, 258, none⟩) HD.out.2.2).trans HD.out.1.cells.2.2; have kt := (HB.out.cell (p := ⟨bt, ot + a, none⟩) hlt).trans HC.out; clear hbu))
   go_ret; exact ⟨by rw [HN.out]; rfl, HB.out⟩
end Go.Proofs.YtgngaaemkmdfaaaGreatDoor

