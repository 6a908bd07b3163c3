/-
  WHAT hacklelaw09.DfaTrims ANSWERS: true, at every automaton and every text. Conditions: the automaton's classes are bytes; the table of math/bits lies as it is laid.
-/
import Derived.Test.YtgngaaemkmdfaaaDoorQG48
namespace Go.Proofs.YtgngaaemkmdfaaaDoor
open Go.RowKit

attribute [local irreducible] FreeW textFrame

theorem trim_of_trim {D : Df} (hm : D.may = true) : (trimP D).trim = trimP D := by
  have h := may_d hm
  unfold Df.trim
  rw [d_may (trim_mayD h), if_pos rfl, trim_again h.wf]
theorem sameB_self (f : Nat → Nat) (n : Int) : sameB f f n n = true := by unfold sameB; simp
theorem sameD_self (D : Df) : sameD D D = true := by unfold sameD; simp [sameB_self]
set_option maxRecDepth 20000 in
set_option maxHeartbeats 32000000 in
theorem dfaTrims_any (D : Df) (s : ByteArray) (v : Value) (w : World) (h : DfAt w D v) (hf : ∀ b, b < 256 → D.of b < 256) (hT : Tab w) :
    Calls Tryd.prog 3 #[v, .string s] w fun e w' => e = .returned (.bool true) ∧ Below w.heap.size w w' := by
  have HAT := Lib.hid h
  have HFF := Lib.hid hf
  obtain ⟨vn, vt, rfl, hrn, hrt⟩ := h
  obtain ⟨An, cn, rfl, hcn, _⟩ := hrn
  obtain ⟨At, ct, rfl, hct, _⟩ := hrt
  obtain ⟨W1, hbx, hsz, hb1, hx1⟩ := boxed_dr D.of D.n (.slice An D.next.length cn) (.slice At D.tag.length ct) w
  have HAL := Lib.hid (alive9_any W1 (hT.step hb1))
  have H1 := Lib.hid (And.intro hb1 (And.intro (DfB.of hx1) (show w.heap.size < W1.heap.size by omega)))
  have HOF := Lib.hid (fun (u : World) => of9_any D.of D.n An D.next.length cn At D.tag.length ct u)
  have HLD0 := Lib.hid (fun (u : World) (hu : DfB u w.heap.size D.of D.n (.slice An D.next.length cn) (.slice At D.tag.length ct)) => loadDr hu)
  obtain ⟨dc, hdc⟩ : ∃ dc, dfC D.of D.n (.slice An D.next.length cn) (.slice At D.tag.length ct) = dc := ⟨_, rfl⟩
  rw [hdc] at hbx HAT HOF HLD0
  have hds : dc.size = 259 := by rw [← hdc]; exact dfC_size _ _ _ _
  rw [hdc]
  have HDC := Lib.hid hdc
  clear hb1 hx1 hdc hf hT hsz
  go_enter Tryd.func3, Tryd.ntmps3
  go_wp2_with fail
  go_at_call 4
  refine HAL.out.mono ?_
  rintro e u1 ⟨rfl, hbu⟩
  have HU := Lib.hid (show Below w.heap.size w u1 ∧ DfB u1 w.heap.size D.of D.n (.slice An D.next.length cn) (.slice At D.tag.length ct) ∧ w.heap.size < u1.heap.size from
    ⟨H1.out.1.trans (hbu.mono H1.out.1.size), H1.out.2.1.step hbu, by have := hbu.size; have := H1.out.2.2; omega⟩)
  have HGR := Lib.hid (great9_any D _ u1 (HAT.out.step HU.out.1))
  clear hbu HAL hbx hds
  go_wp2_with ((with_reducible refine wpList_gDr (.tmp 2) ?_ ?_ HU.out.2.1 ?_ ?_); exact rfl; exact rfl; kernel_rfl; rw [HDC.out])
  go_at_call 5
  refine HGR.out.mono ?_
  rintro e u2 ⟨gb, rfl, hbu⟩
  have HV := Lib.hid (show Below w.heap.size w u2 ∧ DfB u2 w.heap.size D.of D.n (.slice An D.next.length cn) (.slice At D.tag.length ct) ∧ w.heap.size < u2.heap.size from
    ⟨HU.out.1.trans (hbu.mono HU.out.1.size), HU.out.2.1.step hbu, by have := hbu.size; have := HU.out.2.2; omega⟩)
  clear hbu HGR
  cases gb with
  | true =>
    go_wp2
    go_ret
    exact ⟨rfl, HV.out.1⟩
  | false =>
    by_cases k1 : 100 < s.size
    · have e1 : decide ((s.size : Int) > 100) = true := by simp; omega
      have e1b : decide ((100 : Int) < (s.size : Int)) = true := by simp; omega
      clear k1
      go_wp2
      go_ret
      exact ⟨rfl, HV.out.1⟩
    have e1 : decide ((s.size : Int) > 100) = false := by simp; omega
    have e1b : decide ((100 : Int) < (s.size : Int)) = false := by simp; omega
    have HMA := Lib.hid (refMayD_any D _ u2 (HAT.out.step HV.out.1) HFF.out)
    have HKS := Lib.hid (show s.size ≤ 1073741824 by omega)
    clear k1
    cases hm : D.may with
    | false =>
      rw [hm] at HMA
      clear hm
      go_wp2_with (first
        | ((with_reducible refine wpList_gDr (.tmp 2) ?_ ?_ HV.out.2.1 ?_ ?_); exact rfl; exact rfl; kernel_rfl; rw [HDC.out])
        | (go_at_call 6; refine HMA.out.mono ?_; rintro e u3 ⟨rfl, hbu⟩; have HB := Lib.hid (HV.out.1.trans (hbu.mono HV.out.1.size)); clear hbu))
      go_ret
      exact ⟨rfl, HB.out⟩
    | true =>
      rw [hm] at HMA
      have HM := Lib.hid hm
      clear hm
      go_wp2_with (first
        | ((with_reducible refine wpList_gDr (.tmp 2) ?_ ?_ HV.out.2.1 ?_ ?_); exact rfl; exact rfl; kernel_rfl; rw [HDC.out])
        | (go_at_call 6; refine HMA.out.mono ?_; rintro e u3 ⟨rfl, hbu⟩
           have HX := Lib.hid (show Below w.heap.size w u3 ∧ DfB u3 w.heap.size D.of D.n (.slice An D.next.length cn) (.slice At D.tag.length ct) ∧ w.heap.size < u3.heap.size from
             ⟨HV.out.1.trans (hbu.mono HV.out.1.size), HV.out.2.1.step hbu, by have := hbu.size; have := HV.out.2.2; omega⟩)
           clear hbu HMA)
        | ((with_reducible refine wpList_gDr (.tmp 2) ?_ ?_ HX.out.2.1 ?_ ?_); exact rfl; exact rfl; kernel_rfl; rw [HDC.out])
        | (go_at_call 8; refine (HOF.out _).mono ?_; rintro e u4 ⟨rfl, hbu⟩
           have HY := Lib.hid (show Below w.heap.size w u4 ∧ DfB u4 w.heap.size D.of D.n (.slice An D.next.length cn) (.slice At D.tag.length ct) ∧ w.heap.size < u4.heap.size from
             ⟨HX.out.1.trans (hbu.mono HX.out.1.size), HX.out.2.1.step hbu, by have := hbu.size; have := HX.out.2.2; omega⟩)
           clear hbu)
        | (go_at_call 7; refine (trimD_any D _ u4 (HAT.out.step HY.out.1) HFF.out).mono ?_
           rintro e u5 ⟨vt, rfl, hat, hbu⟩
           have htr : D.trim = trimP D := by unfold Df.trim; rw [HM.out]; rfl
           rw [htr] at hat
           obtain ⟨A5, c5, B5, c5', rfl⟩ := df_shape hat
           obtain ⟨U6, hU6⟩ : ∃ U6, u5.alloc (.cells df0 33) = U6 := ⟨_, rfl⟩
           have hb6 : Below u5.heap.size u5 U6 := by rw [← hU6]; exact (Below.refl _ _).alloc (Nat.le_refl _) _
           have hx6 : BlkIs U6 u5.heap.size 33 df0 := by rw [← hU6]; exact BlkIs.new _ _ _
           obtain ⟨W9, hsc, hb9, hw9⟩ := store_blk (P := Tryd.prog) hx6 (new := dfC (trimP D).of (trimP D).n (.slice A5 (trimP D).next.length c5) (.slice B5 (trimP D).tag.length c5')) (by rw [dfC_size]; exact (dfC_size _ _ _ _).symm) (dfC_one _ _ _ _ rfl rfl)
           have hds9 : (dfC (trimP D).of (trimP D).n (.slice A5 (trimP D).next.length c5) (.slice B5 (trimP D).tag.length c5')).size = 259 := dfC_size _ _ _ _
           have hb59 : Below u5.heap.size u5 W9 := hw9.2.1 _ _ (Nat.le_refl _) hb6
           have HLT0 := Lib.hid (fun (u : World) (hu : DfB u u5.heap.size (trimP D).of (trimP D).n (.slice A5 (trimP D).next.length c5) (.slice B5 (trimP D).tag.length c5')) => loadDf hu)
           have HPL := Lib.hid (fun (u : World) => plain9_any (trimP D).of (trimP D).n A5 (trimP D).next.length c5 B5 (trimP D).tag.length c5' u)
           have HZ := Lib.hid (show Below w.heap.size w W9 ∧ DfB W9 w.heap.size D.of D.n (.slice An D.next.length cn) (.slice At D.tag.length ct) ∧ DfB W9 u5.heap.size (trimP D).of (trimP D).n (.slice A5 (trimP D).next.length c5) (.slice B5 (trimP D).tag.length c5') ∧ DfAt W9 (trimP D) (.agg (dfC (trimP D).of (trimP D).n (.slice A5 (trimP D).next.length c5) (.slice B5 (trimP D).tag.length c5'))) from
             ⟨(HY.out.1.trans (hbu.mono HY.out.1.size)).trans (hb59.mono (by have := hbu.size; have := HY.out.1.size; omega)), (HY.out.2.1.step hbu).step hb59, DfB.of hb9, hat.step hb59⟩)
           obtain ⟨tc, htc⟩ : ∃ tc, dfC (trimP D).of (trimP D).n (.slice A5 (trimP D).next.length c5) (.slice B5 (trimP D).tag.length c5') = tc := ⟨_, rfl⟩
           obtain ⟨d0, hd0⟩ : ∃ d0, df0 = d0 := ⟨_, rfl⟩
           have z := zeroDf
           rw [hd0] at z hU6
           rw [htc] at hsc hds9 HLT0 HPL HZ
           rw [htc]
           have HTC := Lib.hid htc
           clear hbu hat hb6 hx6 hb9 hw9 hb59 htr hd0 htc))
      clear z hU6 hsc hds9
      obtain ⟨wn, hwn⟩ : ∃ wn, W9 = wn := ⟨_, rfl⟩
      rw [hwn] at HZ
      rw [hwn]
      clear hwn
      obtain ⟨gt, hgt⟩ : ∃ gt, u5.heap.size = gt := ⟨_, rfl⟩
      rw [hgt] at HZ HLT0
      rw [hgt]
      clear hgt
      obtain ⟨tg, htg⟩ : ∃ tg, (trimP D).tagOf s = tg := ⟨_, rfl⟩
      have HMT0 := Lib.hid (trim_mayD (may_d HM.out))
      have HTG := Lib.hid (fun (u : World) (hu : Below wn.heap.size wn u) => show Calls Tryd.prog 9 #[.agg tc, .string s] u (fun e w' => e = .returned (.int .i64 tg) ∧ Below u.heap.size u w') by
        rw [← htg]; exact tagD_any (trimP D) s HKS.out _ u (HZ.out.2.2.2.step hu) HFF.out)
      have HRG := Lib.hid (fun (u : World) (hu : Below wn.heap.size wn u) => show Calls Tryd.prog 10 #[.agg dc, .string s] u (fun e w' => e = .returned (.int .i64 tg) ∧ Below u.heap.size u w') by
        rw [← htg, trim_tagOf HM.out]; exact refTagD_any D s HKS.out _ u (HAT.out.step (HZ.out.1.trans (hu.mono HZ.out.1.size))) HM.out HFF.out)
      have HTT := Lib.hid (fun (u : World) (hu : Below wn.heap.size wn u) => trimD_any (trimP D) (.agg tc) u (HZ.out.2.2.2.step hu) HFF.out)
      have HSM := Lib.hid (fun (u : World) (hu : Below wn.heap.size wn u) (v9 : Value) (h9 : DfAt u (trimP D).trim v9) => sameP_any (trimP D).trim (trimP D) v9 (.agg tc) u h9 (HZ.out.2.2.2.step hu) (by rw [trim_of_trim HM.out]; exact sameD_self _))
      have HMT := Lib.hid (fun (u : World) (hu : Below wn.heap.size wn u) => show Calls Tryd.prog 6 #[.agg tc] u (fun e w' => e = .returned (.bool true) ∧ Below u.heap.size u w') by
        have := refMayD_any (trimP D) (.agg tc) u (HZ.out.2.2.2.step hu) HFF.out
        rwa [d_may HMT0.out] at this)
      have HLT := Lib.hid (fun (u : World) (hu : Below wn.heap.size wn u) => HLT0.out u (HZ.out.2.2.1.step hu))
      have HLD := Lib.hid (fun (u : World) (hu : Below wn.heap.size wn u) => HLD0.out u (HZ.out.2.1.step hu))
      have HLC := Lib.hid (fun (u : World) (hu : Below wn.heap.size wn u) => And.intro (HZ.out.2.2.1.step hu).cells.2.1 (HZ.out.2.1.step hu).cells.2.1)
      have HLE := Lib.hid (show decide (((trimP D).next.length : Int) > (D.next.length : Int)) = false ∧ decide ((D.next.length : Int) < ((trimP D).next.length : Int)) = false ∧ decide (D.next.length < (trimP D).next.length) = false by
        have h1 := nodup_len _ _ (kept_nodup (may_d HM.out).wf)
        rw [← trim_len] at h1
        refine ⟨?_, ?_, ?_⟩ <;> (simp; omega))
      have HTE := Lib.hid htg
      clear htg
      refine wp_region_actsG 29 68 (fun u => Hid (Below wn.heap.size wn u)) (fun _ u u' => Below u.heap.size u u')
        (fun i v u => match i with
          | 0 => v = .agg tc
          | 1 => v = .string s
          | 2 => v = .int .i64 tg
          | 3 => v = .agg dc
          | 4 => v = .string s
          | 5 => v = .int .i64 tg
          | 6 => v = .bool false
          | 7 => v = .bool false
          | 8 => v = .agg tc
          | 9 => DfAt u (trimP D).trim v
          | 10 => v = .agg tc
          | 11 => v = .bool true
          | 12 => v = .bool false
          | 13 => v = .bool false
          | 14 => v = .bool false
          | 15 => v = .pointer (some ⟨gt, 257, none⟩)
          | 16 => v = .slice A5 (trimP D).next.length c5
          | 17 => v = .int .i64 (trimP D).next.length
          | 18 => v = .pointer (some ⟨w.heap.size, 257, none⟩)
          | 19 => v = .slice An D.next.length cn
          | 20 => v = .int .i64 D.next.length
          | 21 => v = .bool false
          | 22 => v = .bool false
          | 23 => v = .bool false
          | 24 => v = .agg tc
          | 25 => v = .agg tc
          | 26 => v = .bool true
          | 27 => v = .bool false
          | 28 => v = .bool false
          | _ => True) (by kernel_rfl) (by kernel_rfl) rfl (Lib.hid (Below.refl _ _).drew) ?_ ?_ ?_ ?_
      · intro i u u' hix hC hr
        exact Lib.hid (hC.out.trans (hr.mono hC.out.size))
      · intro i j v u u' hix hj hne hv hr
        match i, hix, hne, hv with
        | 0, _, _, hv => exact hv
        | 1, _, _, hv => exact hv
        | 2, _, _, hv => exact hv
        | 3, _, _, hv => exact hv
        | 4, _, _, hv => exact hv
        | 5, _, _, hv => exact hv
        | 6, _, _, hv => exact hv
        | 7, _, _, hv => exact hv
        | 8, _, _, hv => exact hv
        | 9, _, hne, hv =>
          exact hv.step hr
        | 10, _, _, hv => exact hv
        | 11, _, _, hv => exact hv
        | 12, _, _, hv => exact hv
        | 13, _, _, hv => exact hv
        | 14, _, _, hv => exact hv
        | 15, _, _, hv => exact hv
        | 16, _, _, hv => exact hv
        | 17, _, _, hv => exact hv
        | 18, _, _, hv => exact hv
        | 19, _, _, hv => exact hv
        | 20, _, _, hv => exact hv
        | 21, _, _, hv => exact hv
        | 22, _, _, hv => exact hv
        | 23, _, _, hv => exact hv
        | 24, _, _, hv => exact hv
        | 25, _, _, hv => exact hv
        | 26, _, _, hv => exact hv
        | 27, _, _, hv => exact hv
        | 28, _, _, hv => exact hv
        | i + 29, hix, _, _ => omega
      · intro i hix vs u hC hw oq ho
        match i, hix, hw, ho with
        | 0, _, hw, ho =>
          simp only [zqa, zqb, zqh] at ho
          subst ho
          refine ⟨rfl, ?_⟩
          clear hw
          simp only [textFrame_eq, tmpsTo]
          rw [exec_loadDf9 33 (.tmp 5) _ rfl rfl (HLT.out u hC.out)]
          exact zqi
        | 1, _, hw, ho =>
          simp only [zqa, zqb, zqc, zqh] at ho
          subst ho
          refine ⟨rfl, ?_⟩
          clear hw
          simp only [textFrame_eq, tmpsTo, putT, zqa, zqb, zqd, zqe, zqf, zqg]
          go_simp
          exact zqi
        | 2, _, hw, ho =>
          have e0 : vs 0 = .agg tc := hw 0 (by omega) (by kernel_rfl)
          have e1 : vs 1 = .string s := hw 1 (by omega) (by kernel_rfl)
          simp only [zqa, zqb, zqc, zqh] at ho
          subst ho
          refine ⟨rfl, ?_⟩
          clear hw
          simp only [textFrame_eq, tmpsTo, putT, zqa, zqb, zqc, zqd, zqe, zqf, zqg]
          rw [e0, e1]
          clear e0 e1
          go_simp
          refine act_call ((HTG.out u hC.out).mono ?_)
          rintro e u' ⟨rfl, hbu⟩
          exact ⟨_, rfl, hbu, rfl⟩
        | 3, _, hw, ho =>
          simp only [zqa, zqb, zqc, zqh] at ho
          subst ho
          refine ⟨rfl, ?_⟩
          clear hw
          simp only [textFrame_eq, tmpsTo, putT, zqa, zqb, zqc, zqd, zqe, zqf, zqg]
          rw [exec_loadDf9 28 (.tmp 2) _ rfl rfl (HLD.out u hC.out)]
          exact zqi
        | 4, _, hw, ho =>
          simp only [zqa, zqb, zqc, zqh] at ho
          subst ho
          refine ⟨rfl, ?_⟩
          clear hw
          simp only [textFrame_eq, tmpsTo, putT, zqa, zqb, zqc, zqd, zqe, zqf, zqg]
          go_simp
          exact zqi
        | 5, _, hw, ho =>
          have e3 : vs 3 = .agg dc := hw 3 (by omega) (by kernel_rfl)
          have e4 : vs 4 = .string s := hw 4 (by omega) (by kernel_rfl)
          simp only [zqa, zqb, zqc, zqh] at ho
          subst ho
          refine ⟨rfl, ?_⟩
          clear hw
          simp only [textFrame_eq, tmpsTo, putT, zqa, zqb, zqc, zqd, zqe, zqf, zqg]
          rw [e3, e4]
          clear e3 e4
          go_simp
          refine act_call ((HRG.out u hC.out).mono ?_)
          rintro e u' ⟨rfl, hbu⟩
          exact ⟨_, rfl, hbu, rfl⟩
        | 6, _, hw, ho =>
          have e2 : vs 2 = .int .i64 tg := hw 2 (by omega) (by kernel_rfl)
          have e5 : vs 5 = .int .i64 tg := hw 5 (by omega) (by kernel_rfl)
          simp only [zqa, zqb, zqc, zqh] at ho
          subst ho
          refine ⟨rfl, ?_⟩
          have qe : (tg != tg) = false := by simp
          clear hw
          simp only [textFrame_eq, tmpsTo, putT, zqa, zqb, zqc, zqd, zqe, zqf, zqg]
          rw [e2, e5]
          clear e2 e5
          go_simp
          exact zqi
        | 7, _, hw, ho =>
          have e6 : vs 6 = .bool false := hw 6 (by omega) (by kernel_rfl)
          simp only [zqa, zqb, zqc, zqh] at ho
          subst ho
          refine ⟨rfl, ?_⟩
          clear hw
          simp only [textFrame_eq, tmpsTo, putT, zqa, zqb, zqc, zqd, zqe, zqf, zqg]
          rw [e6]
          clear e6
          go_simp
          exact zqi
        | 8, _, hw, ho =>
          simp only [zqa, zqb, zqc, zqh] at ho
          subst ho
          have eg : vs 7 = .bool false := hw 7 (by omega) (by kernel_rfl)
          refine ⟨(wanted_guard (i := 7) (d := 32) (b := false) (b' := false) rfl rfl ?_).trans rfl, ?_⟩
          · simp only [textFrame_eq, tmpsTo, putT, zqa, zqb, zqc, zqd, zqe, zqf, zqg]
            exact eg
          clear eg
          clear hw
          simp only [textFrame_eq, tmpsTo, putT, zqa, zqb, zqc, zqd, zqe, zqf, zqg]
          rw [exec_loadDf9 33 (.tmp 5) _ rfl rfl (HLT.out u hC.out)]
          exact zqi
        | 9, _, hw, ho =>
          have e8 : vs 8 = .agg tc := hw 8 (by omega) (by kernel_rfl)
          simp only [zqa, zqb, zqc, zqh] at ho
          subst ho
          have eg : vs 7 = .bool false := hw 7 (by omega) (by kernel_rfl)
          refine ⟨(wanted_guard (i := 7) (d := 32) (b := false) (b' := false) rfl rfl ?_).trans rfl, ?_⟩
          · simp only [textFrame_eq, tmpsTo, putT, zqa, zqb, zqc, zqd, zqe, zqf, zqg]
            exact eg
          clear eg
          clear hw
          simp only [textFrame_eq, tmpsTo, putT, zqa, zqb, zqc, zqd, zqe, zqf, zqg]
          rw [e8]
          clear e8
          go_simp
          refine act_call ((HTT.out u hC.out).mono ?_)
          rintro e u' ⟨v', rfl, h1, h2⟩
          exact ⟨_, rfl, h2, h1⟩
        | 10, _, hw, ho =>
          simp only [zqa, zqb, zqc, zqh] at ho
          subst ho
          have eg : vs 7 = .bool false := hw 7 (by omega) (by kernel_rfl)
          refine ⟨(wanted_guard (i := 7) (d := 32) (b := false) (b' := false) rfl rfl ?_).trans rfl, ?_⟩
          · simp only [textFrame_eq, tmpsTo, putT, zqa, zqb, zqc, zqd, zqe, zqf, zqg]
            exact eg
          clear eg
          clear hw
          simp only [textFrame_eq, tmpsTo, putT, zqa, zqb, zqc, zqd, zqe, zqf, zqg]
          rw [exec_loadDf9 33 (.tmp 5) _ rfl rfl (HLT.out u hC.out)]
          exact zqi
        | 11, _, hw, ho =>
          have h9 : DfAt u (trimP D).trim (vs 9) := hw 9 (by omega) (by kernel_rfl)
          have e10 : vs 10 = .agg tc := hw 10 (by omega) (by kernel_rfl)
          simp only [zqa, zqb, zqc, zqh] at ho
          subst ho
          have eg : vs 7 = .bool false := hw 7 (by omega) (by kernel_rfl)
          refine ⟨(wanted_guard (i := 7) (d := 32) (b := false) (b' := false) rfl rfl ?_).trans rfl, ?_⟩
          · simp only [textFrame_eq, tmpsTo, putT, zqa, zqb, zqc, zqd, zqe, zqf, zqg]
            exact eg
          clear eg
          clear hw
          simp only [textFrame_eq, tmpsTo, putT, zqa, zqb, zqc, zqd, zqe, zqf, zqg]
          rw [e10]
          clear e10
          generalize vs 9 = v9 at *
          go_simp
          refine act_call ((HSM.out u hC.out v9 h9).mono ?_)
          rintro e u' ⟨rfl, hbu⟩
          exact ⟨_, rfl, hbu, rfl⟩
        | 12, _, hw, ho =>
          have e11 : vs 11 = .bool true := hw 11 (by omega) (by kernel_rfl)
          simp only [zqa, zqb, zqc, zqh] at ho
          subst ho
          have eg : vs 7 = .bool false := hw 7 (by omega) (by kernel_rfl)
          refine ⟨(wanted_guard (i := 7) (d := 32) (b := false) (b' := false) rfl rfl ?_).trans rfl, ?_⟩
          · simp only [textFrame_eq, tmpsTo, putT, zqa, zqb, zqc, zqd, zqe, zqf, zqg]
            exact eg
          clear eg
          clear hw
          simp only [textFrame_eq, tmpsTo, putT, zqa, zqb, zqc, zqd, zqe, zqf, zqg]
          rw [e11]
          clear e11
          go_simp
          exact zqi
        | 13, _, hw, ho =>
          have e7 : vs 7 = .bool false := hw 7 (by omega) (by kernel_rfl)
          have e12 : vs 12 = .bool false := hw 12 (by omega) (by kernel_rfl)
          simp only [zqa, zqb, zqc, zqh] at ho
          subst ho
          refine ⟨rfl, ?_⟩
          clear hw
          simp only [textFrame_eq, tmpsTo, putT, zqa, zqb, zqc, zqd, zqe, zqf, zqg]
          rw [e7, e12]
          clear e7 e12
          go_simp
          exact zqi
        | 14, _, hw, ho =>
          have e13 : vs 13 = .bool false := hw 13 (by omega) (by kernel_rfl)
          simp only [zqa, zqb, zqc, zqh] at ho
          subst ho
          refine ⟨rfl, ?_⟩
          clear hw
          simp only [textFrame_eq, tmpsTo, putT, zqa, zqb, zqc, zqd, zqe, zqf, zqg]
          rw [e13]
          clear e13
          go_simp
          exact zqi
        | 15, _, hw, ho =>
          simp only [zqa, zqb, zqc, zqh] at ho
          subst ho
          have eg : vs 14 = .bool false := hw 14 (by omega) (by kernel_rfl)
          refine ⟨(wanted_guard (i := 14) (d := 39) (b := false) (b' := false) rfl rfl ?_).trans rfl, ?_⟩
          · simp only [textFrame_eq, tmpsTo, putT, zqa, zqb, zqc, zqd, zqe, zqf, zqg]
            exact eg
          clear eg
          clear hw
          simp only [textFrame_eq, tmpsTo, putT, zqa, zqb, zqc, zqd, zqe, zqf, zqg]
          go_simp
          exact zqi
        | 16, _, hw, ho =>
          have e15 : vs 15 = .pointer (some ⟨gt, 257, none⟩) := hw 15 (by omega) (by kernel_rfl)
          simp only [zqa, zqb, zqc, zqh] at ho
          subst ho
          have eg : vs 14 = .bool false := hw 14 (by omega) (by kernel_rfl)
          refine ⟨(wanted_guard (i := 14) (d := 39) (b := false) (b' := false) rfl rfl ?_).trans rfl, ?_⟩
          · simp only [textFrame_eq, tmpsTo, putT, zqa, zqb, zqc, zqd, zqe, zqf, zqg]
            exact eg
          clear eg
          have k1 := (HLC.out u hC.out).1
          clear hw
          simp only [textFrame_eq, tmpsTo, putT, zqa, zqb, zqc, zqd, zqe, zqf, zqg]
          rw [e15]
          clear e15
          go_simp
          exact zqi
        | 17, _, hw, ho =>
          have e16 : vs 16 = .slice A5 (trimP D).next.length c5 := hw 16 (by omega) (by kernel_rfl)
          simp only [zqa, zqb, zqc, zqh] at ho
          subst ho
          have eg : vs 14 = .bool false := hw 14 (by omega) (by kernel_rfl)
          refine ⟨(wanted_guard (i := 14) (d := 39) (b := false) (b' := false) rfl rfl ?_).trans rfl, ?_⟩
          · simp only [textFrame_eq, tmpsTo, putT, zqa, zqb, zqc, zqd, zqe, zqf, zqg]
            exact eg
          clear eg
          clear hw
          simp only [textFrame_eq, tmpsTo, putT, zqa, zqb, zqc, zqd, zqe, zqf, zqg]
          rw [e16]
          clear e16
          go_simp
          exact zqi
        | 18, _, hw, ho =>
          simp only [zqa, zqb, zqc, zqh] at ho
          subst ho
          have eg : vs 14 = .bool false := hw 14 (by omega) (by kernel_rfl)
          refine ⟨(wanted_guard (i := 14) (d := 39) (b := false) (b' := false) rfl rfl ?_).trans rfl, ?_⟩
          · simp only [textFrame_eq, tmpsTo, putT, zqa, zqb, zqc, zqd, zqe, zqf, zqg]
            exact eg
          clear eg
          clear hw
          simp only [textFrame_eq, tmpsTo, putT, zqa, zqb, zqc, zqd, zqe, zqf, zqg]
          go_simp
          exact zqi
        | 19, _, hw, ho =>
          have e18 : vs 18 = .pointer (some ⟨w.heap.size, 257, none⟩) := hw 18 (by omega) (by kernel_rfl)
          simp only [zqa, zqb, zqc, zqh] at ho
          subst ho
          have eg : vs 14 = .bool false := hw 14 (by omega) (by kernel_rfl)
          refine ⟨(wanted_guard (i := 14) (d := 39) (b := false) (b' := false) rfl rfl ?_).trans rfl, ?_⟩
          · simp only [textFrame_eq, tmpsTo, putT, zqa, zqb, zqc, zqd, zqe, zqf, zqg]
            exact eg
          clear eg
          have k1 := (HLC.out u hC.out).2
          clear hw
          simp only [textFrame_eq, tmpsTo, putT, zqa, zqb, zqc, zqd, zqe, zqf, zqg]
          rw [e18]
          clear e18
          go_simp
          exact zqi
        | 20, _, hw, ho =>
          have e19 : vs 19 = .slice An D.next.length cn := hw 19 (by omega) (by kernel_rfl)
          simp only [zqa, zqb, zqc, zqh] at ho
          subst ho
          have eg : vs 14 = .bool false := hw 14 (by omega) (by kernel_rfl)
          refine ⟨(wanted_guard (i := 14) (d := 39) (b := false) (b' := false) rfl rfl ?_).trans rfl, ?_⟩
          · simp only [textFrame_eq, tmpsTo, putT, zqa, zqb, zqc, zqd, zqe, zqf, zqg]
            exact eg
          clear eg
          clear hw
          simp only [textFrame_eq, tmpsTo, putT, zqa, zqb, zqc, zqd, zqe, zqf, zqg]
          rw [e19]
          clear e19
          go_simp
          exact zqi
        | 21, _, hw, ho =>
          have e17 : vs 17 = .int .i64 (trimP D).next.length := hw 17 (by omega) (by kernel_rfl)
          have e20 : vs 20 = .int .i64 D.next.length := hw 20 (by omega) (by kernel_rfl)
          simp only [zqa, zqb, zqc, zqh] at ho
          subst ho
          have eg : vs 14 = .bool false := hw 14 (by omega) (by kernel_rfl)
          refine ⟨(wanted_guard (i := 14) (d := 39) (b := false) (b' := false) rfl rfl ?_).trans rfl, ?_⟩
          · simp only [textFrame_eq, tmpsTo, putT, zqa, zqb, zqc, zqd, zqe, zqf, zqg]
            exact eg
          clear eg
          have q1 := HLE.out.1
          have q2 := HLE.out.2.1
          have q3 := HLE.out.2.2
          clear hw
          simp only [textFrame_eq, tmpsTo, putT, zqa, zqb, zqc, zqd, zqe, zqf, zqg]
          rw [e17, e20]
          clear e17 e20
          go_simp
          exact zqi
        | 22, _, hw, ho =>
          have e14 : vs 14 = .bool false := hw 14 (by omega) (by kernel_rfl)
          have e21 : vs 21 = .bool false := hw 21 (by omega) (by kernel_rfl)
          simp only [zqa, zqb, zqc, zqh] at ho
          subst ho
          refine ⟨rfl, ?_⟩
          clear hw
          simp only [textFrame_eq, tmpsTo, putT, zqa, zqb, zqc, zqd, zqe, zqf, zqg]
          rw [e14, e21]
          clear e14 e21
          go_simp
          exact zqi
        | 23, _, hw, ho =>
          have e22 : vs 22 = .bool false := hw 22 (by omega) (by kernel_rfl)
          simp only [zqa, zqb, zqc, zqh] at ho
          subst ho
          refine ⟨rfl, ?_⟩
          clear hw
          simp only [textFrame_eq, tmpsTo, putT, zqa, zqb, zqc, zqd, zqe, zqf, zqg]
          rw [e22]
          clear e22
          go_simp
          exact zqi
        | 24, _, hw, ho =>
          simp only [zqa, zqb, zqc, zqh] at ho
          subst ho
          have eg : vs 23 = .bool false := hw 23 (by omega) (by kernel_rfl)
          refine ⟨(wanted_guard (i := 23) (d := 48) (b := false) (b' := false) rfl rfl ?_).trans rfl, ?_⟩
          · simp only [textFrame_eq, tmpsTo, putT, zqa, zqb, zqc, zqd, zqe, zqf, zqg]
            exact eg
          clear eg
          clear hw
          simp only [textFrame_eq, tmpsTo, putT, zqa, zqb, zqc, zqd, zqe, zqf, zqg]
          rw [exec_loadDf9 33 (.tmp 5) _ rfl rfl (HLT.out u hC.out)]
          exact zqi
        | 25, _, hw, ho =>
          have e24 : vs 24 = .agg tc := hw 24 (by omega) (by kernel_rfl)
          simp only [zqa, zqb, zqc, zqh] at ho
          subst ho
          have eg : vs 23 = .bool false := hw 23 (by omega) (by kernel_rfl)
          refine ⟨(wanted_guard (i := 23) (d := 48) (b := false) (b' := false) rfl rfl ?_).trans rfl, ?_⟩
          · simp only [textFrame_eq, tmpsTo, putT, zqa, zqb, zqc, zqd, zqe, zqf, zqg]
            exact eg
          clear eg
          clear hw
          simp only [textFrame_eq, tmpsTo, putT, zqa, zqb, zqc, zqd, zqe, zqf, zqg]
          rw [e24]
          clear e24
          go_simp
          refine act_call ((HPL.out u).mono ?_)
          rintro e u' ⟨rfl, hbu⟩
          exact ⟨_, rfl, hbu, rfl⟩
        | 26, _, hw, ho =>
          have e25 : vs 25 = .agg tc := hw 25 (by omega) (by kernel_rfl)
          simp only [zqa, zqb, zqc, zqh] at ho
          subst ho
          have eg : vs 23 = .bool false := hw 23 (by omega) (by kernel_rfl)
          refine ⟨(wanted_guard (i := 23) (d := 48) (b := false) (b' := false) rfl rfl ?_).trans rfl, ?_⟩
          · simp only [textFrame_eq, tmpsTo, putT, zqa, zqb, zqc, zqd, zqe, zqf, zqg]
            exact eg
          clear eg
          clear hw
          simp only [textFrame_eq, tmpsTo, putT, zqa, zqb, zqc, zqd, zqe, zqf, zqg]
          rw [e25]
          clear e25
          go_simp
          refine act_call ((HMT.out u hC.out).mono ?_)
          rintro e u' ⟨rfl, hbu⟩
          exact ⟨_, rfl, hbu, rfl⟩
        | 27, _, hw, ho =>
          have e26 : vs 26 = .bool true := hw 26 (by omega) (by kernel_rfl)
          simp only [zqa, zqb, zqc, zqh] at ho
          subst ho
          have eg : vs 23 = .bool false := hw 23 (by omega) (by kernel_rfl)
          refine ⟨(wanted_guard (i := 23) (d := 48) (b := false) (b' := false) rfl rfl ?_).trans rfl, ?_⟩
          · simp only [textFrame_eq, tmpsTo, putT, zqa, zqb, zqc, zqd, zqe, zqf, zqg]
            exact eg
          clear eg
          clear hw
          simp only [textFrame_eq, tmpsTo, putT, zqa, zqb, zqc, zqd, zqe, zqf, zqg]
          rw [e26]
          clear e26
          go_simp
          exact zqi
        | 28, _, hw, ho =>
          have e23 : vs 23 = .bool false := hw 23 (by omega) (by kernel_rfl)
          have e27 : vs 27 = .bool false := hw 27 (by omega) (by kernel_rfl)
          simp only [zqa, zqb, zqc, zqh] at ho
          subst ho
          refine ⟨rfl, ?_⟩
          clear hw
          simp only [textFrame_eq, tmpsTo, putT, zqa, zqb, zqc, zqd, zqe, zqf, zqg]
          rw [e23, e27]
          clear e23 e27
          go_simp
          exact zqi
        | i + 29, hix, _, _ => omega
      intro vs1 un hC hV
      have h28 : vs1 28 = .bool false := hV 28 (by omega)
      clear hV
      simp only [textFrame_eq, tmpsTo, putT, zqa, zqb, zqc, zqd, zqe, zqf, zqg, List.drop_succ_cons, List.drop_zero]
      rw [h28]
      clear h28
      generalize vs1 0 = p0
      generalize vs1 1 = p1
      generalize vs1 2 = p2
      generalize vs1 3 = p3
      generalize vs1 4 = p4
      generalize vs1 5 = p5
      generalize vs1 6 = p6
      generalize vs1 7 = p7
      generalize vs1 8 = p8
      generalize vs1 9 = p9
      generalize vs1 10 = p10
      generalize vs1 11 = p11
      generalize vs1 12 = p12
      generalize vs1 13 = p13
      generalize vs1 14 = p14
      generalize vs1 15 = p15
      generalize vs1 16 = p16
      generalize vs1 17 = p17
      generalize vs1 18 = p18
      generalize vs1 19 = p19
      generalize vs1 20 = p20
      generalize vs1 21 = p21
      generalize vs1 22 = p22
      generalize vs1 23 = p23
      generalize vs1 24 = p24
      generalize vs1 25 = p25
      generalize vs1 26 = p26
      generalize vs1 27 = p27
      have HLV := Lib.hid (refLiveD_any (trimP D) (.agg tc))
      go_wp2_with (first
        | ((with_reducible refine wpList_gDf (.tmp 5) ?_ ?_ (HZ.out.2.2.1.step hC.out) ?_ ?_); exact rfl; exact rfl; kernel_rfl; rw [HTC.out])
        | (go_at_call 12; refine (HPL.out _).mono ?_; rintro e u7 ⟨rfl, hbu⟩; have HP := Lib.hid (hC.out.trans (hbu.mono hC.out.size)); clear hbu)
        | (go_at_call 13
           refine (HLV.out u7 (HZ.out.2.2.2.step HP.out) HMT0.out).mono ?_
           rintro e u8 ⟨gl, rfl, hgl, hbl, hbu⟩
           have HB8 := Lib.hid (show Below w.heap.size w u8 ∧ BlkF u8 gl 4 (trimP D).next.length (fun i => .bool (lvB (trimP D) i)) from
             ⟨(HZ.out.1.trans (HP.out.mono HZ.out.1.size)).trans (hbu.mono (by have := HZ.out.1.size; have := HP.out.size; omega)), hbl⟩)
           clear hgl hbl hbu))
      have HAL2 := Lib.hid (show ∀ j, j < (trimP D).next.length → u8.cell? ⟨gl, j, none⟩ = some (.bool true) from fun j hj => by
        rw [BlkF.cell HB8.out.2 hj, lvB_iff.2 (trim_all (may_d HM.out).wf (by omega) (by omega))])
      have HFW := Lib.hid (show (trimP D).next.length ≤ 600 from HMT0.out.few)
      go_loopw [7] (fun i wr => ∃ j : Nat, i = .int .i64 j ∧ j ≤ (trimP D).next.length ∧ Hid (wr = u8)) (fun i _ => (trimP D).next.length - (intOf i).toNat)
      case atStart => exact ⟨0, rfl, Nat.zero_le _, Lib.hid (by trivial)⟩
      case round =>
        obtain ⟨j, rfl, hj, HH⟩ := hrel
        obtain rfl := HH.out
        have hfw := HFW.out
        by_cases hp : j < (trimP D).next.length
        · have hk1 : IntKind.i64.wrap ((j : Int) + 1) = ((j + 1 : Nat) : Int) := by rw [IntKind.wrap_i64]; omega
          have hdl : decide ((j : Int) < ((trimP D).next.length : Int)) = true := by simp; omega
          have hcell := HAL2.out j hp
          clear hfw
          go_wp2
          exact ⟨⟨j + 1, rfl, hp, Lib.hid (by trivial)⟩, by simp [intOf]; omega⟩
        · have hdl : decide ((j : Int) < ((trimP D).next.length : Int)) = false := by simp; omega
          clear hfw
          go_wp2
          go_ret
          exact ⟨rfl, HB8.out.1⟩
end Go.Proofs.YtgngaaemkmdfaaaDoor

