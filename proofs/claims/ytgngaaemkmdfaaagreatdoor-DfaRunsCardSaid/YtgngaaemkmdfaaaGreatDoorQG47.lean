/-
 WHAT hacklelaw09.DfaRuns ANSWERS: true, at every automaton, every state's number and every text. Conditions: the automaton's classes are bytes; the table of math/bits lies as it is laid.
-/
import Derived.Test.YtgngaaemkmdfaaaGreatDoorQG44
import Derived.Test.YtgngaaemkmdfaaaGreatDoorQG45
import Derived.Test.YtgngaaemkmdfaaaGreatDoorQG46
namespace Go.Proofs.YtgngaaemkmdfaaaGreatDoor
open Go.RowKit

attribute [local irreducible] FreeW textFrame

theorem xzjl {ops : Array Oper} {rest : List Oper} {o : Oper} {a : Act} {w : World} {Q : Exit → Act → World → Prop} (t : TypeId) (parts : Array (Nat × Operand)) (ho : o.op = .build t parts) {cells : Array Value} (hw : Region.wanted o (yielded ops a.tmps) = true)
   (hc : Tryz.prog.built t (parts.map fun (i, x) => (i, a.eval x)).toList = some cells) (h : wpList Tryz.prog ops Q rest (a.put o.dst (.agg cells)) w) : wpList Tryz.prog ops Q (o :: rest) a w :=
 xzdb hw fun _ hk => wp_build t parts ho (by rw [hc]; rfl) (by rw [hc]; exact hk _ _ h)
theorem xzuf (f : Nat → Nat) (n : Int) : sameB f f n n = true := by unfold sameB; simp
theorem xzhi (D : Df) : sameD D D = true := by unfold sameD; simp [xzuf]
set_option maxRecDepth 20000 in
set_option maxHeartbeats 64000000 in
theorem xzqf (D : Df) (at' : Int) (s : ByteArray) (v : Value) (w : World) (h : DfAt w D v) (hf : ∀ b, b < 256 → D.of b < 256) (hT : Tab w) :
   Calls Tryz.prog 3 #[v, .int .i64 at', .string s] w fun e w' => e = .returned (.bool true) ∧ Below w.heap.size w w' := by
 have HAT := Lib.hid h; have HFF := Lib.hid hf; obtain ⟨vn, vt, rfl, hrn, hrt⟩ := h; obtain ⟨An, cn, rfl, hcn, _⟩ := hrn; obtain ⟨At, ct, rfl, hct, _⟩ := hrt; obtain ⟨W1, hbx, hsz, hb1, hx1⟩ := xzce D.of D.n (.slice An D.next.length cn) (.slice At D.tag.length ct) w; have HAL := Lib.hid (xzua W1 (hT.step hb1)); have H1 := Lib.hid (And.intro hb1 (And.intro (DfB.of hx1) (show w.heap.size < W1.heap.size by omega))); have HOF := Lib.hid (fun (u : World) => of9_any D.of D.n An D.next.length cn At D.tag.length ct u); have HLD0 := Lib.hid (fun (u : World) (hu : DfB u w.heap.size D.of D.n (.slice An D.next.length cn) (.slice At D.tag.length ct)) => loadDr hu); have HLP0 := Lib.hid (fun (u : World) (g : Nat) (hu : DfB u g D.of D.n (.slice An D.next.length cn) (.slice At D.tag.length ct)) => loadDf hu); have hds : (dfC D.of D.n (.slice An D.next.length cn) (.slice At D.tag.length ct)).size = 259 := xzad _ _ _ _; have HST := Lib.hid (fun (U : World) (gx : Nat) (hx : BlkIs U gx 33 df0) => xzbb (P := Tryz.prog) hx (new := dfC D.of D.n (.slice An D.next.length cn) (.slice At D.tag.length ct)) (by rw [xzad]; exact (xzad _ _ _ _).symm) (xzcd _ _ _ _ rfl rfl)); obtain ⟨dc, hdc⟩ : ∃ dc, dfC D.of D.n (.slice An D.next.length cn) (.slice At D.tag.length ct) = dc := ⟨_, rfl⟩; rw [hdc] at hbx HAT HOF HLD0 HLP0 hds; rw [hdc]; have HDC := Lib.hid hdc; clear hb1 hx1 hdc hf hT hsz
 go_enter Tryz.func3, Tryz.ntmps3
 go_wp2_with fail
 go_at_call 4
 refine HAL.out.mono ?_; rintro e u1 ⟨rfl, hbu⟩
 have HU := Lib.hid (show Below w.heap.size w u1 ∧ DfB u1 w.heap.size D.of D.n (.slice An D.next.length cn) (.slice At D.tag.length ct) ∧ w.heap.size < u1.heap.size from
   ⟨H1.out.1.trans (hbu.mono H1.out.1.size), H1.out.2.1.step hbu, by have := hbu.size; have := H1.out.2.2; omega⟩)
 have HGR := Lib.hid (xzud D _ u1 (HAT.out.step HU.out.1)); clear hbu HAL hbx
 go_wp2_with ((with_reducible refine xzbl (.tmp 3) ?_ ?_ HU.out.2.1 ?_ ?_); exact rfl; exact rfl; kernel_rfl; rw [HDC.out])
 go_at_call 5
 refine HGR.out.mono ?_; rintro e u2 ⟨gb, rfl, hbu⟩
 have HV := Lib.hid (show Below w.heap.size w u2 ∧ DfB u2 w.heap.size D.of D.n (.slice An D.next.length cn) (.slice At D.tag.length ct) ∧ w.heap.size < u2.heap.size from
   ⟨HU.out.1.trans (hbu.mono HU.out.1.size), HU.out.2.1.step hbu, by have := hbu.size; have := HU.out.2.2; omega⟩)
 clear hbu HGR
 cases gb with
 | true =>
   go_wp2; go_ret; exact ⟨rfl, HV.out.1⟩
 | false =>
 by_cases k1 : 100 < s.size
 · have e1 : decide ((s.size : Int) > 100) = true := by simp; omega
   have e1b : decide ((100 : Int) < (s.size : Int)) = true := by simp; omega
   clear k1; go_wp2; go_ret; exact ⟨rfl, HV.out.1⟩
 have e1 : decide ((s.size : Int) > 100) = false := by simp; omega
 have e1b : decide ((100 : Int) < (s.size : Int)) = false := by simp; omega
 have HKS := Lib.hid (show s.size ≤ 1073741824 by omega); clear k1
 go_wp2_with (first
   | ((with_reducible refine xzbl (.tmp 3) ?_ ?_ HV.out.2.1 ?_ ?_); exact rfl; exact rfl; kernel_rfl; rw [HDC.out])
   | (go_at_call 6; refine (HOF.out _).mono ?_; rintro e u4 ⟨rfl, hbu⟩
      have HY := Lib.hid (show Below w.heap.size w u4 ∧ DfB u4 w.heap.size D.of D.n (.slice An D.next.length cn) (.slice At D.tag.length ct) from
        ⟨HV.out.1.trans (hbu.mono HV.out.1.size), HV.out.2.1.step hbu⟩)
      obtain ⟨U6, hU6⟩ : ∃ U6, u4.alloc (.cells df0 33) = U6 := ⟨_, rfl⟩
      have hb6 : Below u4.heap.size u4 U6 := by rw [← hU6]; exact (Below.refl _ _).alloc (Nat.le_refl _) _
      obtain ⟨W9, hsc, hb9, hw9⟩ := HST.out U6 u4.heap.size (by rw [← hU6]; exact BlkIs.new _ _ _); have hb49 : Below u4.heap.size u4 W9 := hw9.2.1 _ _ (Nat.le_refl _) hb6
      have HZ := Lib.hid (show Below w.heap.size w W9 ∧ DfB W9 w.heap.size D.of D.n (.slice An D.next.length cn) (.slice At D.tag.length ct) ∧ DfB W9 u4.heap.size D.of D.n (.slice An D.next.length cn) (.slice At D.tag.length ct) from
        ⟨HY.out.1.trans (hb49.mono HY.out.1.size), HY.out.2.step hb49, DfB.of hb9⟩)
      obtain ⟨d0, hd0⟩ : ∃ d0, df0 = d0 := ⟨_, rfl⟩; have z := zeroDf; rw [hd0] at z hU6; rw [HDC.out] at hsc; have HD00 := Lib.hid hd0
      clear hbu hb6 hb9 hw9 hb49 hd0))
 clear z hU6 hsc hds; obtain ⟨wn, hwn⟩ : ∃ wn, W9 = wn := ⟨_, rfl⟩; rw [hwn] at HZ; rw [hwn]; clear hwn; obtain ⟨gx, hgx⟩ : ∃ gx, u4.heap.size = gx := ⟨_, rfl⟩; rw [hgx] at HZ; rw [hgx]; clear hgx; obtain ⟨dm, hdm⟩ : ∃ dm, D.may = dm := ⟨_, rfl⟩; have HDM := Lib.hid hdm; have HBU := Lib.hid (fun (u : World) (hu : Below wn.heap.size wn u) => HZ.out.1.trans (hu.mono HZ.out.1.size)); have HLP := Lib.hid (fun (u : World) (hu : Below wn.heap.size wn u) => HLP0.out u gx (HZ.out.2.2.step hu)); have HLR := Lib.hid (fun (u : World) (hu : Below wn.heap.size wn u) => HLD0.out u (HZ.out.2.1.step hu))
 have HMP := Lib.hid (fun (u : World) (hu : Below wn.heap.size wn u) => show Calls Tryz.prog 7 #[.agg dc] u (fun e w' => e = .returned (.bool dm) ∧ Below u.heap.size u w') by
   rw [← hdm]; exact xziv D _ u (HAT.out.step (HBU.out u hu)) HFF.out)
 have HMR := Lib.hid (fun (u : World) (hu : Below wn.heap.size wn u) => show Calls Tryz.prog 8 #[.agg dc] u (fun e w' => e = .returned (.bool dm) ∧ Below u.heap.size u w') by
   rw [← hdm]; exact xzig D _ u (HAT.out.step (HBU.out u hu)) HFF.out)
 have HSA := Lib.hid (fun (u : World) (hu : Below wn.heap.size wn u) => xzxo D D (.agg dc) (.agg dc) u (HAT.out.step (HBU.out u hu)) (HAT.out.step (HBU.out u hu)) (xzhi D)); clear hdm
 refine xzdy 11 98 (fun u => Hid (Below wn.heap.size wn u)) (fun _ u u' => Below u.heap.size u u')
   (fun i v u => match i with
     | 0 => v = .agg dc
     | 1 => v = .bool dm
     | 2 => v = .agg dc
     | 3 => v = .bool dm
     | 4 => v = .bool false
     | 5 => v = .bool false
     | 6 => v = .agg dc
     | 7 => v = .agg dc
     | 8 => v = .bool true
     | 9 => v = .bool false
     | 10 => v = .bool false
     | _ => True) (by kernel_rfl) (by kernel_rfl) rfl (Lib.hid (Below.refl _ _).drew) ?_ ?_ ?_ ?_
 · intro i u u' hix hC hr
   exact Lib.hid (hC.out.trans (hr.mono hC.out.size))
 · intro i j v u u' hix hj hne hv hr
   match i, hix, hne, hv with
   | 0, _, _, hv => exact hv
   | 1, _, _, hv => exact hv
   | 2, _, _, hv => exact hv
   | 3, _, _, hv => exact hv
   | 4, _, _, hv => exact hv
   | 5, _, _, hv => exact hv
   | 6, _, _, hv => exact hv
   | 7, _, _, hv => exact hv
   | 8, _, _, hv => exact hv
   | 9, _, _, hv => exact hv
   | 10, _, _, hv => exact hv
   | i + 11, hix, _, _ => omega
 · intro i hix vs u hC hw oq ho
   match i, hix, hw, ho with
   | 0, _, hw, ho =>
     simp only [zqa, zqb, zqh] at ho; subst ho; refine ⟨rfl, ?_⟩; clear hw; simp only [xzaa, tmpsTo]; rw [xzao 33 (.tmp 7) _ rfl rfl (HLP.out u hC.out)]; exact zqi
   | 1, _, hw, ho =>
     have e0 : vs 0 = .agg dc := hw 0 (by omega) (by kernel_rfl); simp only [zqa, zqb, zqc, zqh] at ho; subst ho; refine ⟨rfl, ?_⟩; clear hw; simp only [xzaa, tmpsTo, putT, zqa, zqb, zqd, zqe, zqf, zqg]; rw [e0]; clear e0; go_simp; refine xzas ((HMP.out u hC.out).mono ?_); rintro e u' ⟨rfl, hbu⟩; exact ⟨_, rfl, hbu, rfl⟩
   | 2, _, hw, ho =>
     simp only [zqa, zqb, zqc, zqh] at ho; subst ho; refine ⟨rfl, ?_⟩; clear hw; simp only [xzaa, tmpsTo, putT, zqa, zqb, zqc, zqd, zqe, zqf, zqg]; rw [xzao 28 (.tmp 3) _ rfl rfl (HLR.out u hC.out)]; exact zqi
   | 3, _, hw, ho =>
     have e2 : vs 2 = .agg dc := hw 2 (by omega) (by kernel_rfl); simp only [zqa, zqb, zqc, zqh] at ho; subst ho; refine ⟨rfl, ?_⟩; clear hw; simp only [xzaa, tmpsTo, putT, zqa, zqb, zqc, zqd, zqe, zqf, zqg]; rw [e2]; clear e2; go_simp; refine xzas ((HMR.out u hC.out).mono ?_); rintro e u' ⟨rfl, hbu⟩; exact ⟨_, rfl, hbu, rfl⟩
   | 4, _, hw, ho =>
     have e1 : vs 1 = .bool dm := hw 1 (by omega) (by kernel_rfl); have e3 : vs 3 = .bool dm := hw 3 (by omega) (by kernel_rfl); simp only [zqa, zqb, zqc, zqh] at ho; subst ho; refine ⟨rfl, ?_⟩
     have qe : (dm != dm) = false := by simp
     clear hw; simp only [xzaa, tmpsTo, putT, zqa, zqb, zqc, zqd, zqe, zqf, zqg]; rw [e1, e3]; clear e1 e3; go_simp; exact zqi
   | 5, _, hw, ho =>
     have e4 : vs 4 = .bool false := hw 4 (by omega) (by kernel_rfl); simp only [zqa, zqb, zqc, zqh] at ho; subst ho; refine ⟨rfl, ?_⟩; clear hw; simp only [xzaa, tmpsTo, putT, zqa, zqb, zqc, zqd, zqe, zqf, zqg]; rw [e4]; clear e4; go_simp; exact zqi
   | 6, _, hw, ho =>
     simp only [zqa, zqb, zqc, zqh] at ho; subst ho; have eg : vs 5 = .bool false := hw 5 (by omega) (by kernel_rfl); refine ⟨(xzae (i := 5) (d := 25) (b := false) (b' := false) rfl rfl ?_).trans rfl, ?_⟩
     · simp only [xzaa, tmpsTo, putT, zqa, zqb, zqc, zqd, zqe, zqf, zqg]
       exact eg
     clear eg; clear hw; simp only [xzaa, tmpsTo, putT, zqa, zqb, zqc, zqd, zqe, zqf, zqg]; rw [xzao 33 (.tmp 7) _ rfl rfl (HLP.out u hC.out)]; exact zqi
   | 7, _, hw, ho =>
     simp only [zqa, zqb, zqc, zqh] at ho; subst ho; have eg : vs 5 = .bool false := hw 5 (by omega) (by kernel_rfl); refine ⟨(xzae (i := 5) (d := 25) (b := false) (b' := false) rfl rfl ?_).trans rfl, ?_⟩
     · simp only [xzaa, tmpsTo, putT, zqa, zqb, zqc, zqd, zqe, zqf, zqg]
       exact eg
     clear eg; clear hw; simp only [xzaa, tmpsTo, putT, zqa, zqb, zqc, zqd, zqe, zqf, zqg]; rw [xzao 33 (.tmp 7) _ rfl rfl (HLP.out u hC.out)]; exact zqi
   | 8, _, hw, ho =>
     have e6 : vs 6 = .agg dc := hw 6 (by omega) (by kernel_rfl); have e7 : vs 7 = .agg dc := hw 7 (by omega) (by kernel_rfl); simp only [zqa, zqb, zqc, zqh] at ho; subst ho; have eg : vs 5 = .bool false := hw 5 (by omega) (by kernel_rfl); refine ⟨(xzae (i := 5) (d := 25) (b := false) (b' := false) rfl rfl ?_).trans rfl, ?_⟩
     · simp only [xzaa, tmpsTo, putT, zqa, zqb, zqc, zqd, zqe, zqf, zqg]
       exact eg
     clear eg; clear hw; simp only [xzaa, tmpsTo, putT, zqa, zqb, zqc, zqd, zqe, zqf, zqg]; rw [e6, e7]; clear e6 e7; go_simp; refine xzas ((HSA.out u hC.out).mono ?_); rintro e u' ⟨rfl, hbu⟩; exact ⟨_, rfl, hbu, rfl⟩
   | 9, _, hw, ho =>
     have e8 : vs 8 = .bool true := hw 8 (by omega) (by kernel_rfl); simp only [zqa, zqb, zqc, zqh] at ho; subst ho; have eg : vs 5 = .bool false := hw 5 (by omega) (by kernel_rfl); refine ⟨(xzae (i := 5) (d := 25) (b := false) (b' := false) rfl rfl ?_).trans rfl, ?_⟩
     · simp only [xzaa, tmpsTo, putT, zqa, zqb, zqc, zqd, zqe, zqf, zqg]
       exact eg
     clear eg; clear hw; simp only [xzaa, tmpsTo, putT, zqa, zqb, zqc, zqd, zqe, zqf, zqg]; rw [e8]; clear e8; go_simp; exact zqi
   | 10, _, hw, ho =>
     have e5 : vs 5 = .bool false := hw 5 (by omega) (by kernel_rfl); have e9 : vs 9 = .bool false := hw 9 (by omega) (by kernel_rfl); simp only [zqa, zqb, zqc, zqh] at ho; subst ho; refine ⟨rfl, ?_⟩; clear hw; simp only [xzaa, tmpsTo, putT, zqa, zqb, zqc, zqd, zqe, zqf, zqg]; rw [e5, e9]; clear e5 e9; go_simp; exact zqi
   | i + 11, hix, _, _ => omega
 intro vs1 un hC hV; have h10 : vs1 10 = .bool false := hV 10 (by omega); clear hV; simp only [xzaa, tmpsTo, putT, zqa, zqb, zqc, zqd, zqe, zqf, zqg, List.drop_succ_cons, List.drop_zero]; rw [h10]; clear h10; generalize vs1 0 = p0; generalize vs1 1 = p1; generalize vs1 2 = p2; generalize vs1 3 = p3; generalize vs1 4 = p4; generalize vs1 5 = p5; generalize vs1 6 = p6; generalize vs1 7 = p7; generalize vs1 8 = p8; generalize vs1 9 = p9
 have HWN := Lib.hid (show Below w.heap.size w un ∧ DfB un w.heap.size D.of D.n (.slice An D.next.length cn) (.slice At D.tag.length ct) ∧ DfB un gx D.of D.n (.slice An D.next.length cn) (.slice At D.tag.length ct) from
   ⟨HBU.out un hC.out, HZ.out.2.1.step hC.out, HZ.out.2.2.step hC.out⟩)
 have HIX := Lib.hid (show ∀ (j : Nat), j < s.size → ∀ u : World, (Instr.index 9 (.string s) (.int .i64 (j : Nat))).run Tryz.prog u = .ok (.int .u8 (b8 s j : Nat)) u from fun j hj u => by
   have := xzit 9 Tryz.underlying9 s j hj u (P := Tryz.prog)
   rw [this]; unfold b8; rw [dif_pos hj])
 clear hC HLP HLR HMP HMR HSA HZ HBU e1 e1b
 by_cases hs0 : 0 < s.size
 case' pos =>
   have e2 : decide ((s.size : Int) > 0) = true := decide_eq_true (by omega); have e2b : decide ((0 : Int) < (s.size : Int)) = true := decide_eq_true (by omega); have e2n : decide (0 < s.size) = true := decide_eq_true (by omega); have hix : ∀ u : World, (Instr.index 9 (.string s) (.int .i64 0)).run Tryz.prog u = .ok (.int .u8 (b8 s 0 : Nat)) u := HIX.out 0 hs0; obtain ⟨bb, hbb⟩ : ∃ bb, b8 s 0 = bb := ⟨_, rfl⟩; have HBB := Lib.hid (show bb < 256 by rw [← hbb]; exact xzzg s 0); rw [hbb] at hix; clear hbb hs0
   go_wp2_with ((with_reducible refine xzbl (.tmp 3) ?_ ?_ HWN.out.2.1 ?_ ?_); exact rfl; exact rfl; kernel_rfl; rw [HDC.out])
   clear hix
 case' neg =>
   have e2 : decide ((s.size : Int) > 0) = false := decide_eq_false (by omega); have e2b : decide ((0 : Int) < (s.size : Int)) = false := decide_eq_false (by omega); have e2n : decide (0 < s.size) = false := decide_eq_false (by omega); clear hs0
   go_wp2_with ((with_reducible refine xzbl (.tmp 3) ?_ ?_ HWN.out.2.1 ?_ ?_); exact rfl; exact rfl; kernel_rfl; rw [HDC.out])
   obtain ⟨bb, hbb⟩ : ∃ bb : Nat, (97 : Int) = (bb : Int) ∧ bb < 256 := ⟨97, rfl, by decide⟩; have HBB := Lib.hid hbb.2; rw [hbb.1]; clear hbb
 all_goals
   go_at_call 8
   refine (xzig D _ un (HAT.out.step HWN.out.1) HFF.out).mono ?_; rintro e wm ⟨rfl, hbu⟩
   have HM := Lib.hid (show Below w.heap.size w wm ∧ DfB wm w.heap.size D.of D.n (.slice An D.next.length cn) (.slice At D.tag.length ct) ∧ DfB wm gx D.of D.n (.slice An D.next.length cn) (.slice At D.tag.length ct) from
     ⟨HWN.out.1.trans (hbu.mono HWN.out.1.size), HWN.out.2.1.step hbu, HWN.out.2.2.step hbu⟩)
   rw [HDM.out]; clear hbu HWN e2 e2b e2n; have HBU := Lib.hid (fun (u : World) (hu : Below wm.heap.size wm u) => HM.out.1.trans (hu.mono HM.out.1.size)); have HXP := Lib.hid (fun (u : World) (hu : Below wm.heap.size wm u) => HM.out.2.2.step hu)
   cases dm with
   | false =>
     have HS1 := Lib.hid (fun (u : World) (hu : Below wm.heap.size wm u) => show Calls Tryz.prog 10 #[.agg dc, .int .i64 at', .int .u8 (bb : Nat)] u (fun e w' => e = .returned (.int .i64 (-1)) ∧ Below u.heap.size u w') by
       have := xzox D at' bb _ u (HAT.out.step (HBU.out u hu)) HFF.out HBB.out; unfold Df.stepP at this
       rwa [HDM.out] at this)
     have HS2 := Lib.hid (fun (u : World) (hu : Below wm.heap.size wm u) => show Calls Tryz.prog 11 #[.agg dc, .string s] u (fun e w' => e = .returned (.int .i64 (-1)) ∧ Below u.heap.size u w') by
       have := xzgq D s HKS.out _ u (HAT.out.step (HBU.out u hu)) HFF.out; unfold Df.run at this
       rwa [HDM.out] at this)
     have HS3 := Lib.hid (fun (u : World) (hu : Below wm.heap.size wm u) => show Calls Tryz.prog 12 #[.agg dc, .string s] u (fun e w' => e = .returned (.int .i64 (-1)) ∧ Below u.heap.size u w') by
       have := xzub D s HKS.out _ u (HAT.out.step (HBU.out u hu)) HFF.out; unfold Df.tagOf Df.run at this; rw [HDM.out] at this
       exact this)
     have HS4 := Lib.hid (fun (u : World) (hu : Below wm.heap.size wm u) => show Calls Tryz.prog 15 #[.agg dc] u (fun e w' => ∃ v', e = .returned v' ∧ DfAt w' dfNone v' ∧ Below u.heap.size u w') by
       have := xzow D _ u (HAT.out.step (HBU.out u hu)) HFF.out; unfold Df.trim at this; rw [HDM.out] at this
       exact this)
     have hbz := xzvx; rw [HD00.out] at hbz
     go_wp2_with (first
       | ((with_reducible refine xzan (.tmp 7) ?_ ?_ (HXP.out wm (Below.refl _ _)) ?_ ?_); exact rfl; exact rfl; kernel_rfl; rw [HDC.out])
       | (go_at_call 10; refine (HS1.out wm (Below.refl _ _)).mono ?_; rintro e x1 ⟨rfl, hbu⟩; have HX1 := Lib.hid hbu; clear hbu)
       | ((with_reducible refine xzan (.tmp 7) ?_ ?_ (HXP.out x1 HX1.out) ?_ ?_); exact rfl; exact rfl; kernel_rfl; rw [HDC.out])
       | (go_at_call 11; refine (HS2.out x1 HX1.out).mono ?_; rintro e x2 ⟨rfl, hbu⟩; have HX2 := Lib.hid (HX1.out.trans (hbu.mono HX1.out.size)); clear hbu)
       | ((with_reducible refine xzan (.tmp 7) ?_ ?_ (HXP.out x2 HX2.out) ?_ ?_); exact rfl; exact rfl; kernel_rfl; rw [HDC.out])
       | (go_at_call 12; refine (HS3.out x2 HX2.out).mono ?_; rintro e x3 ⟨rfl, hbu⟩; have HX3 := Lib.hid (HX2.out.trans (hbu.mono HX2.out.size)); clear hbu)
       | ((with_reducible refine xzan (.tmp 7) ?_ ?_ (HXP.out x3 HX3.out) ?_ ?_); exact rfl; exact rfl; kernel_rfl; rw [HDC.out])
       | (go_at_call 15; refine (HS4.out x3 HX3.out).mono ?_; rintro e x4 ⟨vt4, rfl, hat4, hbu⟩
          obtain ⟨A7, c7, B7, c7', rfl⟩ := xzjj hat4; have HX4 := Lib.hid (HX3.out.trans (hbu.mono HX3.out.size)); have HPL := Lib.hid (xzkk dfNone.of dfNone.n A7 dfNone.next.length c7 B7 dfNone.tag.length c7' x4); obtain ⟨tc, htc⟩ : ∃ tc, dfC dfNone.of dfNone.n (.slice A7 dfNone.next.length c7) (.slice B7 dfNone.tag.length c7') = tc := ⟨_, rfl⟩; rw [htc] at hat4 HPL; rw [htc]; have HA4 := Lib.hid hat4
          clear hbu hat4 htc)
       | (go_at_call 14; refine HPL.out.mono ?_; rintro e x5 ⟨rfl, hbu⟩; have HX5 := Lib.hid hbu; clear hbu)
       | (refine xzjl 28 _ rfl (cells := d0) (by kernel_rfl) (by refine (congrArg (Tryz.prog.built 28) ?_).trans hbz; kernel_rfl) ?_)
       | (go_at_call 13
          have HSM := Lib.hid (xzoy dfNone dfNone (.agg tc) (.agg d0) x5 (HA4.out.step HX5.out) (by rw [← HD00.out]; exact xzfn x5)); rw [xzhi] at HSM; refine HSM.out.mono ?_; rintro e x6 ⟨rfl, hbu⟩; have HX6 := Lib.hid (HM.out.1.trans ((HX4.out.trans ((HX5.out.trans (hbu.mono HX5.out.size)).mono HX4.out.size)).mono HM.out.1.size))
          clear hbu))
     go_ret; exact ⟨rfl, HX6.out⟩
   | true =>
     have hmd := yzae HDM.out; obtain ⟨st, hst⟩ : ∃ st, D.stepR at' bb = st := ⟨_, rfl⟩; obtain ⟨ru, hru⟩ : ∃ ru, D.run s = ru := ⟨_, rfl⟩; obtain ⟨tg, htg⟩ : ∃ tg, D.tagOf s = tg := ⟨_, rfl⟩; have HLP := Lib.hid (fun (u : World) (hu : Below wm.heap.size wm u) => HLP0.out u gx (HM.out.2.2.step hu)); have HLR := Lib.hid (fun (u : World) (hu : Below wm.heap.size wm u) => HLD0.out u (HM.out.2.1.step hu))
     have HST := Lib.hid (fun (u : World) (hu : Below wm.heap.size wm u) => show Calls Tryz.prog 10 #[.agg dc, .int .i64 at', .int .u8 (bb : Nat)] u (fun e w' => e = .returned (.int .i64 st) ∧ Below u.heap.size u w') by
       have := xzox D at' bb _ u (HAT.out.step (HBU.out u hu)) HFF.out HBB.out; unfold Df.stepP at this; rw [HDM.out, if_pos rfl, hst] at this
       exact this)
     have HSR := Lib.hid (fun (u : World) (hu : Below wm.heap.size wm u) => show Calls Tryz.prog 16 #[.agg dc, .int .i64 at', .int .u8 (bb : Nat)] u (fun e w' => e = .returned (.int .i64 st) ∧ Below u.heap.size u w') by
       rw [← hst]; exact xzhh D at' bb _ u (HAT.out.step (HBU.out u hu)) hmd HFF.out HBB.out)
     have HRU := Lib.hid (fun (u : World) (hu : Below wm.heap.size wm u) => show Calls Tryz.prog 11 #[.agg dc, .string s] u (fun e w' => e = .returned (.int .i64 ru) ∧ Below u.heap.size u w') by
       rw [← hru]; exact xzgq D s HKS.out _ u (HAT.out.step (HBU.out u hu)) HFF.out)
     have HRR := Lib.hid (fun (u : World) (hu : Below wm.heap.size wm u) => show Calls Tryz.prog 17 #[.agg dc, .string s] u (fun e w' => e = .returned (.int .i64 ru) ∧ Below u.heap.size u w') by
       rw [← hru]; exact xzih D s HKS.out _ u (HAT.out.step (HBU.out u hu)) HDM.out HFF.out)
     have HTG := Lib.hid (fun (u : World) (hu : Below wm.heap.size wm u) => show Calls Tryz.prog 12 #[.agg dc, .string s] u (fun e w' => e = .returned (.int .i64 tg) ∧ Below u.heap.size u w') by
       rw [← htg]; exact xzub D s HKS.out _ u (HAT.out.step (HBU.out u hu)) HFF.out)
     have HTR := Lib.hid (fun (u : World) (hu : Below wm.heap.size wm u) => show Calls Tryz.prog 18 #[.agg dc, .string s] u (fun e w' => e = .returned (.int .i64 tg) ∧ Below u.heap.size u w') by
       rw [← htg]; exact xzqd D s HKS.out _ u (HAT.out.step (HBU.out u hu)) HDM.out HFF.out)
     have HTM := Lib.hid (fun (u : World) (hu : Below wm.heap.size wm u) => show Calls Tryz.prog 15 #[.agg dc] u (fun e w' => ∃ v', e = .returned v' ∧ DfAt w' (trimP D) v' ∧ Below u.heap.size u w') by
       have := xzow D _ u (HAT.out.step (HBU.out u hu)) HFF.out; unfold Df.trim at this; rw [HDM.out, if_pos rfl] at this
       exact this)
     have HRT := Lib.hid (fun (u : World) (hu : Below wm.heap.size wm u) => xzmv D _ u (HAT.out.step (HBU.out u hu)) hmd); clear hst hru htg hmd
     go_wp2_with fail
     refine xzdy 35 98 (fun u => Hid (Below wm.heap.size wm u)) (fun _ u u' => Below u.heap.size u u')
       (fun i v u => match i with
         | 0 => v = .agg dc
         | 1 => v = .int .i64 at'
         | 2 => v = .int .u8 (bb : Nat)
         | 3 => v = .int .i64 st
         | 4 => v = .agg dc
         | 5 => v = .int .i64 at'
         | 6 => v = .int .u8 (bb : Nat)
         | 7 => v = .int .i64 st
         | 8 => v = .bool true
         | 9 => v = .bool true
         | 10 => v = .agg dc
         | 11 => v = .string s
         | 12 => v = .int .i64 ru
         | 13 => v = .agg dc
         | 14 => v = .string s
         | 15 => v = .int .i64 ru
         | 16 => v = .bool true
         | 17 => v = .bool true
         | 18 => v = .bool true
         | 19 => v = .agg dc
         | 20 => v = .string s
         | 21 => v = .int .i64 tg
         | 22 => v = .agg dc
         | 23 => v = .string s
         | 24 => v = .int .i64 tg
         | 25 => v = .bool true
         | 26 => v = .bool true
         | 27 => v = .bool true
         | 28 => v = .agg dc
         | 29 => DfAt u (trimP D) v
         | 30 => DfAt u (trimP D) v
         | 31 => v = .agg dc
         | 32 => DfAt u (trimP D) v
         | 33 => v = .bool true
         | 34 => v = .bool true
         | _ => True) (by kernel_rfl) (by kernel_rfl) rfl (Lib.hid (Below.refl _ _).drew) ?_ ?_ ?_ ?_
     · intro i u u' hix hC hr
       exact Lib.hid (hC.out.trans (hr.mono hC.out.size))
     · intro i j v u u' hix hj hne hv hr
       match i, hix, hne, hv with
       | 0, _, _, hv => exact hv
       | 1, _, _, hv => exact hv
       | 2, _, _, hv => exact hv
       | 3, _, _, hv => exact hv
       | 4, _, _, hv => exact hv
       | 5, _, _, hv => exact hv
       | 6, _, _, hv => exact hv
       | 7, _, _, hv => exact hv
       | 8, _, _, hv => exact hv
       | 9, _, _, hv => exact hv
       | 10, _, _, hv => exact hv
       | 11, _, _, hv => exact hv
       | 12, _, _, hv => exact hv
       | 13, _, _, hv => exact hv
       | 14, _, _, hv => exact hv
       | 15, _, _, hv => exact hv
       | 16, _, _, hv => exact hv
       | 17, _, _, hv => exact hv
       | 18, _, _, hv => exact hv
       | 19, _, _, hv => exact hv
       | 20, _, _, hv => exact hv
       | 21, _, _, hv => exact hv
       | 22, _, _, hv => exact hv
       | 23, _, _, hv => exact hv
       | 24, _, _, hv => exact hv
       | 25, _, _, hv => exact hv
       | 26, _, _, hv => exact hv
       | 27, _, _, hv => exact hv
       | 28, _, _, hv => exact hv
       | 29, _, hne, hv =>
         exact hv.step hr
       | 30, _, hne, hv =>
         exact hv.step hr
       | 31, _, _, hv => exact hv
       | 32, _, hne, hv =>
         exact hv.step hr
       | 33, _, _, hv => exact hv
       | 34, _, _, hv => exact hv
       | i + 35, hix, _, _ => omega
     · intro i hix vs u hC hw oq ho
       match i, hix, hw, ho with
       | 0, _, hw, ho =>
         simp only [zqa, zqb, zqh] at ho; subst ho; refine ⟨rfl, ?_⟩; clear hw; simp only [xzaa, tmpsTo]; rw [xzao 33 (.tmp 7) _ rfl rfl (HLP.out u hC.out)]; exact zqi
       | 1, _, hw, ho =>
         simp only [zqa, zqb, zqc, zqh] at ho; subst ho; refine ⟨rfl, ?_⟩; clear hw; simp only [xzaa, tmpsTo, putT, zqa, zqb, zqd, zqe, zqf, zqg]; go_simp; exact zqi
       | 2, _, hw, ho =>
         simp only [zqa, zqb, zqc, zqh] at ho; subst ho; refine ⟨rfl, ?_⟩; clear hw; simp only [xzaa, tmpsTo, putT, zqa, zqb, zqc, zqd, zqe, zqf, zqg]; go_simp; exact zqi
       | 3, _, hw, ho =>
         have e0 : vs 0 = .agg dc := hw 0 (by omega) (by kernel_rfl); have e1 : vs 1 = .int .i64 at' := hw 1 (by omega) (by kernel_rfl); have e2 : vs 2 = .int .u8 (bb : Nat) := hw 2 (by omega) (by kernel_rfl); simp only [zqa, zqb, zqc, zqh] at ho; subst ho; refine ⟨rfl, ?_⟩; clear hw; simp only [xzaa, tmpsTo, putT, zqa, zqb, zqc, zqd, zqe, zqf, zqg]; rw [e0, e1, e2]; clear e0 e1 e2; go_simp; refine xzas ((HST.out u hC.out).mono ?_); rintro e u' ⟨rfl, hbu⟩; exact ⟨_, rfl, hbu, rfl⟩
       | 4, _, hw, ho =>
         simp only [zqa, zqb, zqc, zqh] at ho; subst ho; refine ⟨rfl, ?_⟩; clear hw; simp only [xzaa, tmpsTo, putT, zqa, zqb, zqc, zqd, zqe, zqf, zqg]; rw [xzao 28 (.tmp 3) _ rfl rfl (HLR.out u hC.out)]; exact zqi
       | 5, _, hw, ho =>
         simp only [zqa, zqb, zqc, zqh] at ho; subst ho; refine ⟨rfl, ?_⟩; clear hw; simp only [xzaa, tmpsTo, putT, zqa, zqb, zqc, zqd, zqe, zqf, zqg]; go_simp; exact zqi
       | 6, _, hw, ho =>
         simp only [zqa, zqb, zqc, zqh] at ho; subst ho; refine ⟨rfl, ?_⟩; clear hw; simp only [xzaa, tmpsTo, putT, zqa, zqb, zqc, zqd, zqe, zqf, zqg]; go_simp; exact zqi
       | 7, _, hw, ho =>
         have e4 : vs 4 = .agg dc := hw 4 (by omega) (by kernel_rfl); have e5 : vs 5 = .int .i64 at' := hw 5 (by omega) (by kernel_rfl); have e6 : vs 6 = .int .u8 (bb : Nat) := hw 6 (by omega) (by kernel_rfl); simp only [zqa, zqb, zqc, zqh] at ho; subst ho; refine ⟨rfl, ?_⟩; clear hw; simp only [xzaa, tmpsTo, putT, zqa, zqb, zqc, zqd, zqe, zqf, zqg]; rw [e4, e5, e6]; clear e4 e5 e6; go_simp; refine xzas ((HSR.out u hC.out).mono ?_); rintro e u' ⟨rfl, hbu⟩; exact ⟨_, rfl, hbu, rfl⟩
       | 8, _, hw, ho =>
         have e3 : vs 3 = .int .i64 st := hw 3 (by omega) (by kernel_rfl); have e7 : vs 7 = .int .i64 st := hw 7 (by omega) (by kernel_rfl); simp only [zqa, zqb, zqc, zqh] at ho; subst ho; refine ⟨rfl, ?_⟩
         have qe : (st == st) = true := by simp
         clear hw; simp only [xzaa, tmpsTo, putT, zqa, zqb, zqc, zqd, zqe, zqf, zqg]; rw [e3, e7]; clear e3 e7; go_simp; exact zqi
       | 9, _, hw, ho =>
         have e8 : vs 8 = .bool true := hw 8 (by omega) (by kernel_rfl); simp only [zqa, zqb, zqc, zqh] at ho; subst ho; refine ⟨rfl, ?_⟩; clear hw; simp only [xzaa, tmpsTo, putT, zqa, zqb, zqc, zqd, zqe, zqf, zqg]; rw [e8]; clear e8; go_simp; exact zqi
       | 10, _, hw, ho =>
         simp only [zqa, zqb, zqc, zqh] at ho; subst ho; have eg : vs 9 = .bool true := hw 9 (by omega) (by kernel_rfl); refine ⟨(xzae (i := 9) (d := 72) (b := true) (b' := true) rfl rfl ?_).trans rfl, ?_⟩
         · simp only [xzaa, tmpsTo, putT, zqa, zqb, zqc, zqd, zqe, zqf, zqg]
           exact eg
         clear eg; clear hw; simp only [xzaa, tmpsTo, putT, zqa, zqb, zqc, zqd, zqe, zqf, zqg]; rw [xzao 33 (.tmp 7) _ rfl rfl (HLP.out u hC.out)]; exact zqi
       | 11, _, hw, ho =>
         simp only [zqa, zqb, zqc, zqh] at ho; subst ho; have eg : vs 9 = .bool true := hw 9 (by omega) (by kernel_rfl); refine ⟨(xzae (i := 9) (d := 72) (b := true) (b' := true) rfl rfl ?_).trans rfl, ?_⟩
         · simp only [xzaa, tmpsTo, putT, zqa, zqb, zqc, zqd, zqe, zqf, zqg]
           exact eg
         clear eg; clear hw; simp only [xzaa, tmpsTo, putT, zqa, zqb, zqc, zqd, zqe, zqf, zqg]; go_simp; exact zqi
       | 12, _, hw, ho =>
         have e10 : vs 10 = .agg dc := hw 10 (by omega) (by kernel_rfl); have e11 : vs 11 = .string s := hw 11 (by omega) (by kernel_rfl); simp only [zqa, zqb, zqc, zqh] at ho; subst ho; have eg : vs 9 = .bool true := hw 9 (by omega) (by kernel_rfl); refine ⟨(xzae (i := 9) (d := 72) (b := true) (b' := true) rfl rfl ?_).trans rfl, ?_⟩
         · simp only [xzaa, tmpsTo, putT, zqa, zqb, zqc, zqd, zqe, zqf, zqg]
           exact eg
         clear eg; clear hw; simp only [xzaa, tmpsTo, putT, zqa, zqb, zqc, zqd, zqe, zqf, zqg]; rw [e10, e11]; clear e10 e11; go_simp; refine xzas ((HRU.out u hC.out).mono ?_); rintro e u' ⟨rfl, hbu⟩; exact ⟨_, rfl, hbu, rfl⟩
       | 13, _, hw, ho =>
         simp only [zqa, zqb, zqc, zqh] at ho; subst ho; have eg : vs 9 = .bool true := hw 9 (by omega) (by kernel_rfl); refine ⟨(xzae (i := 9) (d := 72) (b := true) (b' := true) rfl rfl ?_).trans rfl, ?_⟩
         · simp only [xzaa, tmpsTo, putT, zqa, zqb, zqc, zqd, zqe, zqf, zqg]
           exact eg
         clear eg; clear hw; simp only [xzaa, tmpsTo, putT, zqa, zqb, zqc, zqd, zqe, zqf, zqg]; rw [xzao 28 (.tmp 3) _ rfl rfl (HLR.out u hC.out)]; exact zqi
       | 14, _, hw, ho =>
         simp only [zqa, zqb, zqc, zqh] at ho; subst ho; have eg : vs 9 = .bool true := hw 9 (by omega) (by kernel_rfl); refine ⟨(xzae (i := 9) (d := 72) (b := true) (b' := true) rfl rfl ?_).trans rfl, ?_⟩
         · simp only [xzaa, tmpsTo, putT, zqa, zqb, zqc, zqd, zqe, zqf, zqg]
           exact eg
         clear eg; clear hw; simp only [xzaa, tmpsTo, putT, zqa, zqb, zqc, zqd, zqe, zqf, zqg]; go_simp; exact zqi
       | 15, _, hw, ho =>
         have e13 : vs 13 = .agg dc := hw 13 (by omega) (by kernel_rfl); have e14 : vs 14 = .string s := hw 14 (by omega) (by kernel_rfl); simp only [zqa, zqb, zqc, zqh] at ho; subst ho; have eg : vs 9 = .bool true := hw 9 (by omega) (by kernel_rfl); refine ⟨(xzae (i := 9) (d := 72) (b := true) (b' := true) rfl rfl ?_).trans rfl, ?_⟩
         · simp only [xzaa, tmpsTo, putT, zqa, zqb, zqc, zqd, zqe, zqf, zqg]
           exact eg
         clear eg; clear hw; simp only [xzaa, tmpsTo, putT, zqa, zqb, zqc, zqd, zqe, zqf, zqg]; rw [e13, e14]; clear e13 e14; go_simp; refine xzas ((HRR.out u hC.out).mono ?_); rintro e u' ⟨rfl, hbu⟩; exact ⟨_, rfl, hbu, rfl⟩
       | 16, _, hw, ho =>
         have e12 : vs 12 = .int .i64 ru := hw 12 (by omega) (by kernel_rfl); have e15 : vs 15 = .int .i64 ru := hw 15 (by omega) (by kernel_rfl); simp only [zqa, zqb, zqc, zqh] at ho; subst ho; have eg : vs 9 = .bool true := hw 9 (by omega) (by kernel_rfl); refine ⟨(xzae (i := 9) (d := 72) (b := true) (b' := true) rfl rfl ?_).trans rfl, ?_⟩
         · simp only [xzaa, tmpsTo, putT, zqa, zqb, zqc, zqd, zqe, zqf, zqg]
           exact eg
         clear eg
         have qe : (ru == ru) = true := by simp
         clear hw; simp only [xzaa, tmpsTo, putT, zqa, zqb, zqc, zqd, zqe, zqf, zqg]; rw [e12, e15]; clear e12 e15; go_simp; exact zqi
       | 17, _, hw, ho =>
         have e9 : vs 9 = .bool true := hw 9 (by omega) (by kernel_rfl); have e16 : vs 16 = .bool true := hw 16 (by omega) (by kernel_rfl); simp only [zqa, zqb, zqc, zqh] at ho; subst ho; refine ⟨rfl, ?_⟩; clear hw; simp only [xzaa, tmpsTo, putT, zqa, zqb, zqc, zqd, zqe, zqf, zqg]; rw [e9, e16]; clear e9 e16; go_simp; exact zqi
       | 18, _, hw, ho =>
         have e17 : vs 17 = .bool true := hw 17 (by omega) (by kernel_rfl); simp only [zqa, zqb, zqc, zqh] at ho; subst ho; refine ⟨rfl, ?_⟩; clear hw; simp only [xzaa, tmpsTo, putT, zqa, zqb, zqc, zqd, zqe, zqf, zqg]; rw [e17]; clear e17; go_simp; exact zqi
       | 19, _, hw, ho =>
         simp only [zqa, zqb, zqc, zqh] at ho; subst ho; have eg : vs 18 = .bool true := hw 18 (by omega) (by kernel_rfl); refine ⟨(xzae (i := 18) (d := 81) (b := true) (b' := true) rfl rfl ?_).trans rfl, ?_⟩
         · simp only [xzaa, tmpsTo, putT, zqa, zqb, zqc, zqd, zqe, zqf, zqg]
           exact eg
         clear eg; clear hw; simp only [xzaa, tmpsTo, putT, zqa, zqb, zqc, zqd, zqe, zqf, zqg]; rw [xzao 33 (.tmp 7) _ rfl rfl (HLP.out u hC.out)]; exact zqi
       | 20, _, hw, ho =>
         simp only [zqa, zqb, zqc, zqh] at ho; subst ho; have eg : vs 18 = .bool true := hw 18 (by omega) (by kernel_rfl); refine ⟨(xzae (i := 18) (d := 81) (b := true) (b' := true) rfl rfl ?_).trans rfl, ?_⟩
         · simp only [xzaa, tmpsTo, putT, zqa, zqb, zqc, zqd, zqe, zqf, zqg]
           exact eg
         clear eg; clear hw; simp only [xzaa, tmpsTo, putT, zqa, zqb, zqc, zqd, zqe, zqf, zqg]; go_simp; exact zqi
       | 21, _, hw, ho =>
         have e19 : vs 19 = .agg dc := hw 19 (by omega) (by kernel_rfl); have e20 : vs 20 = .string s := hw 20 (by omega) (by kernel_rfl); simp only [zqa, zqb, zqc, zqh] at ho; subst ho; have eg : vs 18 = .bool true := hw 18 (by omega) (by kernel_rfl); refine ⟨(xzae (i := 18) (d := 81) (b := true) (b' := true) rfl rfl ?_).trans rfl, ?_⟩
         · simp only [xzaa, tmpsTo, putT, zqa, zqb, zqc, zqd, zqe, zqf, zqg]
           exact eg
         clear eg; clear hw; simp only [xzaa, tmpsTo, putT, zqa, zqb, zqc, zqd, zqe, zqf, zqg]; rw [e19, e20]; clear e19 e20; go_simp; refine xzas ((HTG.out u hC.out).mono ?_); rintro e u' ⟨rfl, hbu⟩; exact ⟨_, rfl, hbu, rfl⟩
       | 22, _, hw, ho =>
         simp only [zqa, zqb, zqc, zqh] at ho; subst ho; have eg : vs 18 = .bool true := hw 18 (by omega) (by kernel_rfl); refine ⟨(xzae (i := 18) (d := 81) (b := true) (b' := true) rfl rfl ?_).trans rfl, ?_⟩
         · simp only [xzaa, tmpsTo, putT, zqa, zqb, zqc, zqd, zqe, zqf, zqg]
           exact eg
         clear eg; clear hw; simp only [xzaa, tmpsTo, putT, zqa, zqb, zqc, zqd, zqe, zqf, zqg]; rw [xzao 28 (.tmp 3) _ rfl rfl (HLR.out u hC.out)]; exact zqi
       | 23, _, hw, ho =>
         simp only [zqa, zqb, zqc, zqh] at ho; subst ho; have eg : vs 18 = .bool true := hw 18 (by omega) (by kernel_rfl); refine ⟨(xzae (i := 18) (d := 81) (b := true) (b' := true) rfl rfl ?_).trans rfl, ?_⟩
         · simp only [xzaa, tmpsTo, putT, zqa, zqb, zqc, zqd, zqe, zqf, zqg]
           exact eg
         clear eg; clear hw; simp only [xzaa, tmpsTo, putT, zqa, zqb, zqc, zqd, zqe, zqf, zqg]; go_simp; exact zqi
       | 24, _, hw, ho =>
         have e22 : vs 22 = .agg dc := hw 22 (by omega) (by kernel_rfl); have e23 : vs 23 = .string s := hw 23 (by omega) (by kernel_rfl); simp only [zqa, zqb, zqc, zqh] at ho; subst ho; have eg : vs 18 = .bool true := hw 18 (by omega) (by kernel_rfl); refine ⟨(xzae (i := 18) (d := 81) (b := true) (b' := true) rfl rfl ?_).trans rfl, ?_⟩
         · simp only [xzaa, tmpsTo, putT, zqa, zqb, zqc, zqd, zqe, zqf, zqg]
           exact eg
         clear eg; clear hw; simp only [xzaa, tmpsTo, putT, zqa, zqb, zqc, zqd, zqe, zqf, zqg]; rw [e22, e23]; clear e22 e23; go_simp; refine xzas ((HTR.out u hC.out).mono ?_); rintro e u' ⟨rfl, hbu⟩; exact ⟨_, rfl, hbu, rfl⟩
       | 25, _, hw, ho =>
         have e21 : vs 21 = .int .i64 tg := hw 21 (by omega) (by kernel_rfl); have e24 : vs 24 = .int .i64 tg := hw 24 (by omega) (by kernel_rfl); simp only [zqa, zqb, zqc, zqh] at ho; subst ho; have eg : vs 18 = .bool true := hw 18 (by omega) (by kernel_rfl); refine ⟨(xzae (i := 18) (d := 81) (b := true) (b' := true) rfl rfl ?_).trans rfl, ?_⟩
         · simp only [xzaa, tmpsTo, putT, zqa, zqb, zqc, zqd, zqe, zqf, zqg]
           exact eg
         clear eg
         have qe : (tg == tg) = true := by simp
         clear hw; simp only [xzaa, tmpsTo, putT, zqa, zqb, zqc, zqd, zqe, zqf, zqg]; rw [e21, e24]; clear e21 e24; go_simp; exact zqi
       | 26, _, hw, ho =>
         have e18 : vs 18 = .bool true := hw 18 (by omega) (by kernel_rfl); have e25 : vs 25 = .bool true := hw 25 (by omega) (by kernel_rfl); simp only [zqa, zqb, zqc, zqh] at ho; subst ho; refine ⟨rfl, ?_⟩; clear hw; simp only [xzaa, tmpsTo, putT, zqa, zqb, zqc, zqd, zqe, zqf, zqg]; rw [e18, e25]; clear e18 e25; go_simp; exact zqi
       | 27, _, hw, ho =>
         have e26 : vs 26 = .bool true := hw 26 (by omega) (by kernel_rfl); simp only [zqa, zqb, zqc, zqh] at ho; subst ho; refine ⟨rfl, ?_⟩; clear hw; simp only [xzaa, tmpsTo, putT, zqa, zqb, zqc, zqd, zqe, zqf, zqg]; rw [e26]; clear e26; go_simp; exact zqi
       | 28, _, hw, ho =>
         simp only [zqa, zqb, zqc, zqh] at ho; subst ho; have eg : vs 27 = .bool true := hw 27 (by omega) (by kernel_rfl); refine ⟨(xzae (i := 27) (d := 90) (b := true) (b' := true) rfl rfl ?_).trans rfl, ?_⟩
         · simp only [xzaa, tmpsTo, putT, zqa, zqb, zqc, zqd, zqe, zqf, zqg]
           exact eg
         clear eg; clear hw; simp only [xzaa, tmpsTo, putT, zqa, zqb, zqc, zqd, zqe, zqf, zqg]; rw [xzao 33 (.tmp 7) _ rfl rfl (HLP.out u hC.out)]; exact zqi
       | 29, _, hw, ho =>
         have e28 : vs 28 = .agg dc := hw 28 (by omega) (by kernel_rfl); simp only [zqa, zqb, zqc, zqh] at ho; subst ho; have eg : vs 27 = .bool true := hw 27 (by omega) (by kernel_rfl); refine ⟨(xzae (i := 27) (d := 90) (b := true) (b' := true) rfl rfl ?_).trans rfl, ?_⟩
         · simp only [xzaa, tmpsTo, putT, zqa, zqb, zqc, zqd, zqe, zqf, zqg]
           exact eg
         clear eg; clear hw; simp only [xzaa, tmpsTo, putT, zqa, zqb, zqc, zqd, zqe, zqf, zqg]; rw [e28]; clear e28; go_simp; refine xzas ((HTM.out u hC.out).mono ?_); rintro e u' ⟨v', rfl, h1, h2⟩; exact ⟨_, rfl, h2, h1⟩
       | 30, _, hw, ho =>
         have h29 : DfAt u (trimP D) (vs 29) := hw 29 (by omega) (by kernel_rfl); simp only [zqa, zqb, zqc, zqh] at ho; subst ho; have eg : vs 27 = .bool true := hw 27 (by omega) (by kernel_rfl); refine ⟨(xzae (i := 27) (d := 90) (b := true) (b' := true) rfl rfl ?_).trans rfl, ?_⟩
         · simp only [xzaa, tmpsTo, putT, zqa, zqb, zqc, zqd, zqe, zqf, zqg]
           exact eg
         clear eg; clear hw; simp only [xzaa, tmpsTo, putT, zqa, zqb, zqc, zqd, zqe, zqf, zqg]; obtain ⟨A7, c7, B7, c7', e7⟩ := xzjj h29; rw [e7] at h29 ⊢; have HPL := Lib.hid (xzkk (trimP D).of (trimP D).n A7 (trimP D).next.length c7 B7 (trimP D).tag.length c7' u); obtain ⟨tc, htc⟩ : ∃ tc, dfC (trimP D).of (trimP D).n (.slice A7 (trimP D).next.length c7) (.slice B7 (trimP D).tag.length c7') = tc := ⟨_, rfl⟩; rw [htc] at h29 HPL ⊢; have H29 := Lib.hid h29; clear e7 h29 htc; go_simp; refine xzas (HPL.out.mono ?_); rintro e u' ⟨rfl, hbu⟩; exact ⟨_, rfl, hbu, H29.out.step hbu⟩
       | 31, _, hw, ho =>
         simp only [zqa, zqb, zqc, zqh] at ho; subst ho; have eg : vs 27 = .bool true := hw 27 (by omega) (by kernel_rfl); refine ⟨(xzae (i := 27) (d := 90) (b := true) (b' := true) rfl rfl ?_).trans rfl, ?_⟩
         · simp only [xzaa, tmpsTo, putT, zqa, zqb, zqc, zqd, zqe, zqf, zqg]
           exact eg
         clear eg; clear hw; simp only [xzaa, tmpsTo, putT, zqa, zqb, zqc, zqd, zqe, zqf, zqg]; rw [xzao 28 (.tmp 3) _ rfl rfl (HLR.out u hC.out)]; exact zqi
       | 32, _, hw, ho =>
         have e31 : vs 31 = .agg dc := hw 31 (by omega) (by kernel_rfl); simp only [zqa, zqb, zqc, zqh] at ho; subst ho; have eg : vs 27 = .bool true := hw 27 (by omega) (by kernel_rfl); refine ⟨(xzae (i := 27) (d := 90) (b := true) (b' := true) rfl rfl ?_).trans rfl, ?_⟩
         · simp only [xzaa, tmpsTo, putT, zqa, zqb, zqc, zqd, zqe, zqf, zqg]
           exact eg
         clear eg; clear hw; simp only [xzaa, tmpsTo, putT, zqa, zqb, zqc, zqd, zqe, zqf, zqg]; rw [e31]; clear e31; go_simp; refine xzas ((HRT.out u hC.out).mono ?_); rintro e u' ⟨v', rfl, h1, h2⟩; exact ⟨_, rfl, h2, h1⟩
       | 33, _, hw, ho =>
         have h30 : DfAt u (trimP D) (vs 30) := hw 30 (by omega) (by kernel_rfl); have h32 : DfAt u (trimP D) (vs 32) := hw 32 (by omega) (by kernel_rfl); simp only [zqa, zqb, zqc, zqh] at ho; subst ho; have eg : vs 27 = .bool true := hw 27 (by omega) (by kernel_rfl); refine ⟨(xzae (i := 27) (d := 90) (b := true) (b' := true) rfl rfl ?_).trans rfl, ?_⟩
         · simp only [xzaa, tmpsTo, putT, zqa, zqb, zqc, zqd, zqe, zqf, zqg]
           exact eg
         clear eg; clear hw; simp only [xzaa, tmpsTo, putT, zqa, zqb, zqc, zqd, zqe, zqf, zqg]; have HSM := Lib.hid (xzoy (trimP D) (trimP D) (vs 30) (vs 32) u h30 h32); rw [xzhi] at HSM; generalize vs 30 = v30 at *; generalize vs 32 = v32 at *; clear h30 h32; go_simp; refine xzas (HSM.out.mono ?_); rintro e u' ⟨rfl, hbu⟩; exact ⟨_, rfl, hbu, rfl⟩
       | 34, _, hw, ho =>
         have e27 : vs 27 = .bool true := hw 27 (by omega) (by kernel_rfl); have e33 : vs 33 = .bool true := hw 33 (by omega) (by kernel_rfl); simp only [zqa, zqb, zqc, zqh] at ho; subst ho; refine ⟨rfl, ?_⟩; clear hw; simp only [xzaa, tmpsTo, putT, zqa, zqb, zqc, zqd, zqe, zqf, zqg]; rw [e27, e33]; clear e27 e33; go_simp; exact zqi
       | i + 35, hix, _, _ => omega
     intro vs2 uz hC hV; have h34 : vs2 34 = .bool true := hV 34 (by omega); clear hV; simp only [xzaa, tmpsTo, putT, zqa, zqb, zqc, zqd, zqe, zqf, zqg, List.drop_succ_cons, List.drop_zero]; rw [h34]; clear h34; generalize vs2 0 = q0; generalize vs2 1 = q1; generalize vs2 2 = q2; generalize vs2 3 = q3; generalize vs2 4 = q4; generalize vs2 5 = q5; generalize vs2 6 = q6; generalize vs2 7 = q7; generalize vs2 8 = q8; generalize vs2 9 = q9; generalize vs2 10 = q10; generalize vs2 11 = q11; generalize vs2 12 = q12; generalize vs2 13 = q13; generalize vs2 14 = q14; generalize vs2 15 = q15; generalize vs2 16 = q16; generalize vs2 17 = q17; generalize vs2 18 = q18; generalize vs2 19 = q19; generalize vs2 20 = q20; generalize vs2 21 = q21; generalize vs2 22 = q22; generalize vs2 23 = q23; generalize vs2 24 = q24; generalize vs2 25 = q25; generalize vs2 26 = q26; generalize vs2 27 = q27; generalize vs2 28 = q28; generalize vs2 29 = q29; generalize vs2 30 = q30; generalize vs2 31 = q31; generalize vs2 32 = q32; generalize vs2 33 = q33; have HFIN := Lib.hid (HBU.out uz hC.out); clear hC; go_wp2; go_ret; exact ⟨rfl, HFIN.out⟩
end Go.Proofs.YtgngaaemkmdfaaaGreatDoor
