/-
 hacklelaw09.alive ANSWERS true: a contract. Condition: the table of math/bits lies as it is laid.
-/
import Derived.Deep.QuietTactic
import Derived.BigQuiet
import Derived.Test.YtgngaaemkmdfaaaGreatDoorQG40
import Derived.Test.YtgngaaemkmdfaaaGreatDoorQG07
import Derived.Test.YtgngaaemkmdfaaaGreatDoorQG30
namespace Go.Proofs.YtgngaaemkmdfaaaGreatDoor
section
open Go.RowKit

attribute [local irreducible] FreeW

theorem yzbh {W : World} {v : Value} (h : la9.At W v) : ∃ A c, v = reV 1 (sRange 97 97) A 0 c 0 0 := by
 unfold la9 ltr8 Tree.At at h; obtain ⟨A, c, e, _⟩ := h; exact ⟨A, c, e⟩
theorem xzxm {W : World} {v : Value} (h : lab9.At W v) : ∃ A c, v = reV 2 (fun _ => false) A 2 c 0 0 := by
 unfold lab9 Tree.At at h; obtain ⟨A, c, e, _⟩ := h; exact ⟨A, c, e⟩
set_option maxRecDepth 20000 in
set_option maxHeartbeats 8000000 in
theorem xzua (w : World) (hT : Tab w) : Calls Tryz.prog 4 #[] w fun e w' => e = .returned (.bool true) ∧ Below w.heap.size w w' := by
 have HLA := Lib.hid (fun u => xzif ⟨#[97]⟩ (by decide) u); have HLB := Lib.hid (fun u => xzif ⟨#[97, 98]⟩ (by decide) u); rw [la9_is] at HLA; rw [lab9_is] at HLB; have HT := Lib.hid hT; clear hT
 go_enter Tryz.func4, Tryz.ntmps4
 go_wp2_with fail
 go_at_call 21
 refine (HLA.out _).mono ?_; rintro e u1 ⟨v1, rfl, hat1, hb1⟩; obtain ⟨A1, c1, rfl⟩ := yzbh hat1; have H1 := Lib.hid (And.intro hat1 hb1); clear hat1 hb1; unfold reV reL
 go_wp2_with fail
 go_at_call 21
 refine (HLB.out _).mono ?_; rintro e u2 ⟨v2, rfl, hat2, hb2⟩; obtain ⟨A2, c2, rfl⟩ := xzxm hat2; have hrows := rows28 (H1.out.1.step hb2) hat2; have HB2 := Lib.hid (H1.out.2.trans (hb2.mono H1.out.2.size)); clear hb2 hat2; generalize hU1 : u2.alloc (Obj.cells (reL 1 (sRange 97 97) A1 0 c1 0 0 ++ reL 2 (fun _ => false) A2 2 c2 0 0).toArray 58) = U1 at hrows
 have hbU : Below w.heap.size w U1 := by rw [← hU1]; exact HB2.out.alloc HB2.out.size _
 have hsU : U1.heap.size = u2.heap.size + 1 := by rw [← hU1]; simp
 unfold reL at hU1; simp only [List.cons_append, List.nil_append] at hU1; have HBD := Lib.hid (xzqb (some ⟨u2.heap.size, 0, none⟩) 2 U1 ⟨_, _, rfl, hrows⟩); have HBU := Lib.hid hbU; clear hrows hbU H1; unfold reV reL
 go_wp2_with fail
 go_at_call 20
 refine HBD.out.mono ?_; rintro e u3 ⟨v3, rfl, hn3, hb3⟩; obtain ⟨A0, A1', A2', A3, A4, c0, c1', c2', c3, c4, rfl⟩ := hn3.form; have HN3 := Lib.hid (And.intro hn3 (HBU.out.trans (hb3.mono HBU.out.size))); clear hn3 hb3 HBD hU1 HLA HLB
 go_wp2_with fail
 have hbA := HN3.out.2.alloc HN3.out.2.size (.cells #[.slice A0 N9.sets.length c0, .slice A1' N9.rules.length c1', .slice A2' N9.first.length c2', .slice A3 N9.follow.length c3, .slice A4 N9.ends.length c4, .int .i64 N9.empty] 49); have HSU := Lib.hid (xzse N9 _ _ (HN3.out.1.step ((Below.refl _ _).alloc (Nat.le_refl _) (.cells #[.slice A0 N9.sets.length c0, .slice A1' N9.rules.length c1', .slice A2' N9.first.length c2', .slice A3 N9.follow.length c3, .slice A4 N9.ends.length c4, .int .i64 N9.empty] 49))) (by rw [N9_small.1]; decide) (HT.out.step hbA)); rw [N9_ans] at HSU; have HBA := Lib.hid hbA; clear hbA
 go_at_call 22
 refine HSU.out.mono ?_; rintro e u5 ⟨vd, rfl, hd5, hb5⟩; have HB5 := Lib.hid (HBA.out.trans (hb5.mono HBA.out.size)); obtain ⟨vn, vt, rfl, hrn, hrt⟩ := hd5; clear hb5 HSU HN3 HBA; obtain ⟨d0, hd0⟩ : ∃ d0, df0 = d0 := ⟨_, rfl⟩; obtain ⟨U6, hU6⟩ : ∃ U6, u5.alloc (.cells df0 33) = U6 := ⟨_, rfl⟩
 have hs6 : U6.heap.size = u5.heap.size + 1 := by rw [← hU6]; simp
 have hb6 : Below u5.heap.size u5 U6 := by rw [← hU6]; exact (Below.refl _ _).alloc (Nat.le_refl _) _
 have hx6 : BlkIs U6 u5.heap.size 33 df0 := by rw [← hU6]; exact BlkIs.new _ _ _
 obtain ⟨An, cn, rfl, hcn, hgn⟩ := hrn; obtain ⟨At, ct, rfl, hct, hgt⟩ := hrt; have hat9 : DfAt u5 D9 (.agg (dfC D9.of D9.n (.slice An D9.next.length cn) (.slice At D9.tag.length ct))) := ⟨_, _, rfl, ⟨An, cn, rfl, hcn, hgn⟩, ⟨At, ct, rfl, hct, hgt⟩⟩; obtain ⟨d9, hd9⟩ : ∃ d9, dfC D9.of D9.n (.slice An D9.next.length cn) (.slice At D9.tag.length ct) = d9 := ⟨_, rfl⟩; obtain ⟨W9, hsc, hb9, hw9⟩ := xzbb (P := Tryz.prog) hx6 (new := dfC D9.of D9.n (.slice An D9.next.length cn) (.slice At D9.tag.length ct)) (by rw [xzad]; exact (xzad _ _ _ _).symm) (xzcd _ _ _ _ rfl rfl); have hds : (dfC D9.of D9.n (.slice An D9.next.length cn) (.slice At D9.tag.length ct)).size = 259 := xzad _ _ _ _; have hb59 : Below u5.heap.size u5 W9 := hw9.2.1 _ _ (Nat.le_refl _) hb6; have HB9 := Lib.hid (HB5.out.trans (hb59.mono HB5.out.size)); have hdf9 := DfB.of hb9; obtain ⟨k256, k257, k258⟩ := hdf9.cells; have HDF := Lib.hid (And.intro hdf9 (hat9.step hb59)); have z := zeroDf; rw [hd9] at hds hsc; rw [hd0] at z hU6; rw [hd9]; have hl3 : D9.next.length = 3 := rfl; have hl4 : D9.tag.length = 3 := rfl; rw [hl3] at k257; rw [hl4] at k258
 have HIT := Lib.hid (show IntsV W9 D9.tag (.slice At 3 ct) by
   obtain ⟨vn, vt, e, _, h2⟩ := HDF.out.2; have e2 := congrArg (fun v : Value => match v with | .agg cs => cs[258]? | _ => none) e; simp only at e2; rw [xzkd _ _ _ _ (by decide), xzkd _ _ _ _ (by decide)] at e2; have e3 : Value.slice At D9.tag.length ct = vt := Option.some.inj e2; rw [← e3] at h2
   exact h2)
 clear hb59 hb9 hw9 hdf9 hat9 hx6 hb6
 go_wp2_with fail
 obtain ⟨Wa, hWa⟩ : ∃ Wa, W9.alloc (.cells #[.int .i64 (-1), .int .i64 0, .int .i64 1] 3) = Wa := ⟨_, rfl⟩
 have hba : Below W9.heap.size W9 Wa := by rw [← hWa]; exact (Below.refl _ _).alloc (Nat.le_refl _) _
 have hxa : BlkIs Wa W9.heap.size 3 #[.int .i64 (-1), .int .i64 0, .int .i64 1] := by rw [← hWa]; exact BlkIs.new _ _ _
 have hlit : IntsV Wa [-1, 0, 1] (.slice (some ⟨W9.heap.size, 0, none⟩) 3 3) := ⟨_, 3, rfl, by decide, fun _ => ⟨_, 0, rfl, BlkIs.lt hxa, fun i hi => by
   match i, hi with
   | 0, _ => exact hxa.cell 0
   | 1, _ => exact hxa.cell 1
   | 2, _ => exact hxa.cell 2⟩⟩
 have HIN := Lib.hid (xzln [-1, 0, 1] [-1, 0, 1] _ _ Wa (HIT.out.step hba) hlit); have HDA := Lib.hid (And.intro (HDF.out.1.step hba) (And.intro (HDF.out.2.step hba) (HB9.out.trans (hba.mono HB9.out.size)))); have HLT := Lib.hid (show u5.heap.size < W9.heap.size from World.block_lt_of_cell? W9 ⟨u5.heap.size, 256, none⟩ k256); rw [hWa]; clear hba hxa hlit HIT HDF hWa; rw [hd9] at HDA
 go_at_call 23
 refine HIN.out.mono ?_; rintro e u7 ⟨rfl, hb7⟩; have HD7 := Lib.hid (And.intro (HDA.out.1.step hb7) (And.intro (HDA.out.2.1.step hb7) (HDA.out.2.2.trans (hb7.mono HDA.out.2.2.size)))); have HR1 := Lib.hid (xzgq D9 ⟨#[97, 98]⟩ (by decide) _ u7 HD7.out.2.1 (yzac N9)); rw [D9_runs.1] at HR1
 have hdec : decide (([-1, 0, 1] : List Int) = [-1, 0, 1]) = true := by decide
 rw [hdec]; clear hb7 HDA HIN k256 k257 k258 hdec
 go_wp2_with (first
   | ((with_reducible refine xzan (.tmp 3) ?_ ?_ HD7.out.1 ?_ ?_); exact rfl; exact rfl; kernel_rfl; rw [hd9])
   | (go_at_call 11; refine HR1.out.mono ?_; rintro e u8 ⟨rfl, hb8⟩; have HD8 := Lib.hid (And.intro (HD7.out.1.step hb8) (And.intro (HD7.out.2.1.step hb8) (HD7.out.2.2.trans (hb8.mono HD7.out.2.2.size)))); have HR2 := Lib.hid (xzgq D9 ⟨#[98]⟩ (by decide) _ u8 HD8.out.2.1 (yzac N9)); rw [D9_runs.2] at HR2; clear HR1 HD7 hb8)
   | ((with_reducible refine xzan (.tmp 3) ?_ ?_ HD8.out.1 ?_ ?_); exact rfl; exact rfl; kernel_rfl; rw [hd9])
   | (go_at_call 11; refine HR2.out.mono ?_; rintro e u9 ⟨rfl, hb9⟩; have HB10 := Lib.hid (HD8.out.2.2.trans (hb9.mono HD8.out.2.2.size)); clear HR2 HD8 hb9))
 go_ret; exact ⟨rfl, HB10.out⟩
end

section
open Go.RowKit

attribute [local irreducible] FreeW textFrame

theorem xzjj {W : World} {D : Df} {v : Value} (h : DfAt W D v) : ∃ A c B c', v = .agg (dfC D.of D.n (.slice A D.next.length c) (.slice B D.tag.length c')) := by
 obtain ⟨vn, vt, rfl, ⟨A, c, rfl, _⟩, ⟨B, c', rfl, _⟩⟩ := h; exact ⟨A, c, B, c', rfl⟩
noncomputable def Df.trim (D : Df) : Df := if D.may then trimP D else dfNone
set_option maxRecDepth 20000 in
set_option maxHeartbeats 8000000 in
theorem xzow (D : Df) (v : Value) (w : World) (h : DfAt w D v) (hf : ∀ b, b < 256 → D.of b < 256) :
   Calls Tryz.prog 15 #[v] w fun e w' => ∃ v', e = .returned v' ∧ DfAt w' D.trim v' ∧ Below w.heap.size w w' := by
 have HAT := Lib.hid h; obtain ⟨A, c, B, c', rfl⟩ := xzjj h; obtain ⟨W1, hbx, hsz, hb1, hx1⟩ := xzbs D.of D.n (.slice A D.next.length c) (.slice B D.tag.length c') w; obtain ⟨W2, hW2⟩ : ∃ W2, W1.alloc (.cells df0 33) = W2 := ⟨_, rfl⟩
 have hb12 : Below W1.heap.size W1 W2 := by rw [← hW2]; exact (Below.refl _ _).alloc (Nat.le_refl _) _
 have hs2 : W2.heap.size = w.heap.size + 2 := by rw [← hW2]; simp [hsz]
 have H2 := Lib.hid (show Below w.heap.size w W2 ∧ DfB W2 w.heap.size D.of D.n (.slice A D.next.length c) (.slice B D.tag.length c') ∧ BlkIs W2 (w.heap.size + 1) 33 df0 ∧ w.heap.size + 1 < W2.heap.size from
   ⟨hb1.trans (hb12.mono (by omega)), (DfB.of hx1).step hb12, by rw [← hW2, ← hsz]; exact BlkIs.new _ _ _, by omega⟩)
 obtain ⟨dc, hdc⟩ : ∃ dc, dfC D.of D.n (.slice A D.next.length c) (.slice B D.tag.length c') = dc := ⟨_, rfl⟩; rw [hdc] at hbx HAT
 have hds : dc.size = 259 := by rw [← hdc]; exact xzad _ _ _ _
 obtain ⟨d0, hd0⟩ : ∃ d0, df0 = d0 := ⟨_, rfl⟩; have z := zeroDf; rw [hd0] at z hW2; have HZ := Lib.hid hd0; rw [hdc]; have HDC := Lib.hid hdc; have HMA := Lib.hid (xziv D _ W2 (HAT.out.step H2.out.1) hf); clear h hb1 hx1 hb12 hdc hd0 hf hs2
 cases hm : D.may with
 | false =>
   rw [hm] at HMA; have HTR := Lib.hid (show D.trim = dfNone by unfold Df.trim; rw [hm]; rfl); have hbz := xzvw; rw [HZ.out] at hbz
   have hz0 : d0.size = 259 := by rw [← HZ.out]; exact xzad _ _ _ _
   go_enter Tryz.func15, Tryz.ntmps15
   go_wp2_with (first
     | ((with_reducible refine xzan (.tmp 1) ?_ ?_ H2.out.2.1 ?_ ?_); exact rfl; exact rfl; kernel_rfl; rw [HDC.out])
     | (go_at_call 7
        refine HMA.out.mono ?_; rintro e u1 ⟨rfl, hbu⟩; obtain ⟨W9, hsc, hb9, hw9⟩ := xzbb (P := Tryz.prog) ((hbu.block _ H2.out.2.2.2).trans H2.out.2.2.1) (new := df0) rfl (xzcd _ _ _ _ rfl rfl); have hl9 := loadVarDf (DfB.of hb9); have HB9 := Lib.hid (hw9.2.1 _ _ (by omega) (H2.out.1.trans (hbu.mono H2.out.1.size))); rw [HZ.out] at hsc
        clear hbu hb9 hw9)
     | (refine xzaz rfl 33 _ rfl (cells := d0) (by refine (congrArg (Tryz.prog.built 33) ?_).trans hbz; kernel_rfl) ?_))
   exact bodyPost_ret (xzab rfl rfl hl9) rfl ⟨_, rfl, by rw [HTR.out]; exact xzfn _, HB9.out⟩
 | true =>
   rw [hm] at HMA; have HTR := Lib.hid (show D.trim = trimP D by unfold Df.trim; rw [hm]; rfl); have HMD := Lib.hid (yzae hm)
   go_enter Tryz.func15, Tryz.ntmps15
   go_wp2_with (first
     | ((with_reducible refine xzan (.tmp 1) ?_ ?_ H2.out.2.1 ?_ ?_); exact rfl; exact rfl; kernel_rfl; rw [HDC.out])
     | (go_at_call 7
        refine HMA.out.mono ?_; rintro e u1 ⟨rfl, hbu⟩
        have H3 := Lib.hid (show Below w.heap.size w u1 ∧ DfB u1 w.heap.size D.of D.n (.slice A D.next.length c) (.slice B D.tag.length c') ∧ BlkIs u1 (w.heap.size + 1) 33 df0 ∧ w.heap.size + 1 < u1.heap.size from
          ⟨H2.out.1.trans (hbu.mono H2.out.1.size), H2.out.2.1.step hbu, (hbu.block _ H2.out.2.2.2).trans H2.out.2.2.1, by have := hbu.size; have := H2.out.2.2.2; omega⟩)
        clear hbu HMA)
     | ((with_reducible refine xzan (.tmp 1) ?_ ?_ H3.out.2.1 ?_ ?_); exact rfl; exact rfl; kernel_rfl; rw [HDC.out])
     | (go_at_call 30
        refine (xzqc D _ u1 (HAT.out.step H3.out.1) HMD.out).mono ?_; rintro e u2 ⟨vt, rfl, hat, hatw, hb2⟩; obtain ⟨A5, c5, B5, c5', rfl⟩ := xzjj hat; obtain ⟨W9, hsc, hb9, hw9⟩ := xzbb (P := Tryz.prog) ((hb2.block _ H3.out.2.2.2).trans H3.out.2.2.1) (new := dfC (trimP D).of (trimP D).n (.slice A5 (trimP D).next.length c5) (.slice B5 (trimP D).tag.length c5')) (by rw [xzad]; exact (xzad _ _ _ _).symm) (xzcd _ _ _ _ rfl rfl); have hl9 := loadVarDf (DfB.of hb9); have hds9 : (dfC (trimP D).of (trimP D).n (.slice A5 (trimP D).next.length c5) (.slice B5 (trimP D).tag.length c5')).size = 259 := xzad _ _ _ _
        have HB9 := Lib.hid (show DfAt W9 (trimP D) (.agg (dfC (trimP D).of (trimP D).n (.slice A5 (trimP D).next.length c5) (.slice B5 (trimP D).tag.length c5'))) ∧ Below w.heap.size w W9 from
          ⟨hatw _ _ H3.out.2.2.2 hw9, hw9.2.1 _ _ (by omega) (H3.out.1.trans (hb2.mono (by have := H3.out.1.size; omega)))⟩)
        obtain ⟨d9, hd9⟩ : ∃ d9, dfC (trimP D).of (trimP D).n (.slice A5 (trimP D).next.length c5) (.slice B5 (trimP D).tag.length c5') = d9 := ⟨_, rfl⟩; rw [hd9] at hsc hl9 HB9 hds9; rw [hd9]
        clear hb2 hb9 hw9 hat hatw hd9))
   exact bodyPost_ret (xzab rfl rfl hl9) rfl ⟨_, rfl, by rw [HTR.out]; exact HB9.out.1, HB9.out.2⟩
set_option maxRecDepth 20000 in
set_option maxHeartbeats 8000000 in
theorem xzub (D : Df) (s : ByteArray) (hs : s.size ≤ 1073741824) (v : Value) (w : World) (h : DfAt w D v) (hf : ∀ b, b < 256 → D.of b < 256) :
   Calls Tryz.prog 12 #[v, .string s] w fun e w' => e = .returned (.int .i64 (D.tagOf s)) ∧ Below w.heap.size w w' := by
 have HAT := Lib.hid h; obtain ⟨vn, vt, rfl, hrn, hrt⟩ := h; obtain ⟨An, cn, rfl, hcn, _⟩ := hrn; obtain ⟨At, ct, rfl, hct, hgt⟩ := hrt; obtain ⟨W1, hbx, hsz, hb1, hx1⟩ := xzbs D.of D.n (.slice An D.next.length cn) (.slice At D.tag.length ct) w; have HD := Lib.hid (And.intro (DfB.of hx1) (And.intro hb1 (show w.heap.size < W1.heap.size by omega))); obtain ⟨dc, hdc⟩ : ∃ dc, dfC D.of D.n (.slice An D.next.length cn) (.slice At D.tag.length ct) = dc := ⟨_, rfl⟩; rw [hdc] at hbx HAT
 have hds : dc.size = 259 := by rw [← hdc]; exact xzad _ _ _ _
 rw [hdc]; have HDC := Lib.hid hdc; have HRN := Lib.hid (xzgq D s hs _ W1 (HAT.out.step hb1) hf); obtain ⟨R, hR⟩ : ∃ R, D.tagOf s = R := ⟨_, rfl⟩; rw [hR]; unfold Df.tagOf at hR
 have hrr : D.run s = -1 ∨ (∃ a : Nat, D.run s = (a : Nat) ∧ a < D.tag.length) := by
   unfold Df.run
   cases hm : D.may with
   | false => exact .inl (by simp)
   | true =>
     have h := yzae hm
     by_cases hne : D.next = []
     · rw [hne]; exact .inl (by simp)
     · have hie : D.next.isEmpty = false := by cases e : D.next with | nil => exact absurd e hne | cons a r => rfl
       rw [hie]; simp only [Bool.not_false, Bool.and_self, if_true]; have := h.goTo_in hne s s.size
       by_cases e : D.goTo s s.size = -1
       · exact .inl e
       · exact .inr ⟨(D.goTo s s.size).toNat, by omega, by rw [h.tags]; omega⟩
 have HGT := Lib.hid hgt; clear hb1 hx1 hdc hf hgt
 rcases hrr with hr | ⟨a, hr, hal⟩
 · rw [hr] at HRN hR
   have HN := Lib.hid (show R = -1 by rw [← hR]; rfl); clear hR hr
   go_enter Tryz.func12, Tryz.ntmps12
   go_wp2_with (first
     | ((with_reducible refine xzan (.tmp 2) ?_ ?_ HD.out.1 ?_ ?_); exact rfl; exact rfl; kernel_rfl; rw [HDC.out])
     | (go_at_call 11; refine HRN.out.mono ?_; rintro e u1 ⟨rfl, hbu⟩; have HB := Lib.hid (HD.out.2.1.trans (hbu.mono HD.out.2.1.size)); clear hbu))
   go_ret; exact ⟨by rw [HN.out]; rfl, HB.out⟩
 · rw [hr] at HRN hR
   rw [if_neg (by omega), Int.toNat_natCast, List.getD_eq_getElem?_getD, List.getElem?_eq_getElem hal] at hR; have HN := Lib.hid (show R = D.tag[a] from hR.symm); obtain ⟨bt, ot, rfl, hlt, hg⟩ := HGT.out (by intro e; rw [e] at hal; simp at hal); have hga := hg a hal
   have i1 : decide ((a : Int) < (D.tag.length : Int)) = true := by simp; omega
   have e1 : ((a : Int) == -1) = false := by rw [beq_eq_false_iff_ne]; omega
   have e1b : decide ((a : Int) = -1) = false := by rw [decide_eq_false_iff_not]; omega
   have HC := Lib.hid hga; clear hR hr hg; generalize D.tag[a] = tx at *
   go_enter Tryz.func12, Tryz.ntmps12
   go_wp2_with (first
     | ((with_reducible refine xzan (.tmp 2) ?_ ?_ HD.out.1 ?_ ?_); exact rfl; exact rfl; kernel_rfl; rw [HDC.out])
     | (go_at_call 11; refine HRN.out.mono ?_; rintro e u1 ⟨rfl, hbu⟩; have HB := Lib.hid (HD.out.2.1.trans (hbu.mono HD.out.2.1.size)); have k258 := (hbu.cell (p := ⟨w.heap.size, 258, none⟩) HD.out.2.2).trans HD.out.1.cells.2.2; have kt := (HB.out.cell (p := ⟨bt, ot + a, none⟩) hlt).trans HC.out; clear hbu))
   go_ret; exact ⟨by rw [HN.out]; rfl, HB.out⟩
end

section
open Go.RowKit

attribute [local irreducible] FreeW textFrame

theorem yzbi (D : Df) (i : Nat) (h1 : i < D.next.length) (h2 : i < D.tag.length) : ((D.next.drop i).all (rowOk D.n D.next.length) && inB 40 (D.tag.drop i)) = (rowOk D.n D.next.length D.next[i] && (decide (-1 ≤ D.tag[i]) && decide (D.tag[i] < 40)) && ((D.next.drop (i + 1)).all (rowOk D.n D.next.length) && inB 40 (D.tag.drop (i + 1)))) := by
 rw [List.drop_eq_getElem_cons h1, List.drop_eq_getElem_cons h2]; unfold inB; rw [List.all_cons, List.all_cons]; generalize rowOk D.n D.next.length D.next[i] = a; generalize (decide (-1 ≤ D.tag[i]) && decide (D.tag[i] < 40)) = b; generalize (List.drop (i + 1) D.next).all (rowOk D.n D.next.length) = c; generalize ((List.drop (i + 1) D.tag).all _) = d
 cases a <;> cases b <;> cases c <;> cases d <;> rfl
set_option maxRecDepth 20000 in
set_option maxHeartbeats 8000000 in
theorem xzig (D : Df) (v : Value) (w : World) (h : DfAt w D v) (hf : ∀ b, b < 256 → D.of b < 256) :
   Calls Tryz.prog 8 #[v] w fun e w' => e = .returned (.bool D.may) ∧ Below w.heap.size w w' := by
 obtain ⟨vn, vt, rfl, hrn, hrt⟩ := h; obtain ⟨A, c, rfl, hcn, hgn⟩ := hrn; obtain ⟨B, c', rfl, hct, hgt⟩ := hrt; obtain ⟨W1, hbx, hsz, hb1, hx1⟩ := xzce D.of D.n (.slice A D.next.length c) (.slice B D.tag.length c') w; have HD := Lib.hid (And.intro (DfB.of hx1) (And.intro hb1 (show w.heap.size < W1.heap.size by omega))); have HN := Lib.hid hgn; have HT := Lib.hid hgt; obtain ⟨dc, hdc⟩ : ∃ dc, dfC D.of D.n (.slice A D.next.length c) (.slice B D.tag.length c') = dc := ⟨_, rfl⟩; rw [hdc] at hbx
 have hds : dc.size = 259 := by rw [← hdc]; exact xzad _ _ _ _
 rw [hdc]; have HMC := Lib.hid (xzrd D.of D.n hf W1); obtain ⟨R, hR⟩ : ∃ R, R = D.may := ⟨_, rfl⟩; rw [← hR]; unfold Df.may Df.sized at hR; clear hgn hgt hb1 hx1 hdc hf; obtain ⟨cl, hcl⟩ : ∃ cl, clsC D.of D.n = cl := ⟨_, rfl⟩; rw [hcl] at HMC
 have hcs : cl.size = 257 := by rw [← hcl]; exact xzag _ _
 have HCL := Lib.hid hcl; clear hcl
 cases hmc : mayB D.of D.n with
 | false =>
   have HF := Lib.hid (show R = false by rw [hR, hmc]; simp); clear hR
   go_enter Tryz.func8, Tryz.ntmps8
   go_wp2_with (first
     | ((with_reducible refine xzam rfl (.tmp 5) ?_ ?_ HD.out.1 ?_); exact rfl; exact rfl; rw [HCL.out])
     | (go_at_call 26; refine HMC.out.mono ?_; rintro e u1 ⟨rfl, hbu⟩; rw [hmc]; have HU := Lib.hid (show DfB u1 w.heap.size D.of D.n (.slice A D.next.length c) (.slice B D.tag.length c') ∧ Below w.heap.size w u1 ∧ w.heap.size < u1.heap.size from ⟨HD.out.1.step hbu, HD.out.2.1.trans (hbu.mono HD.out.2.1.size), by have := hbu.size; have := HD.out.2.2; omega⟩); have k257 := HU.out.1.cells.2.1; have k258 := HU.out.1.cells.2.2; clear hbu))
   go_ret; exact ⟨by rw [HF.out]; rfl, HU.out.2.1⟩
 | true =>
   rw [hmc, Bool.true_and] at hR
   by_cases k1 : 600 < D.next.length
   · have e1 : decide ((D.next.length : Int) > 600) = true := by simp; omega
     have e1b : decide ((600 : Int) < (D.next.length : Int)) = true := by simp; omega
     have HF := Lib.hid (show R = false by rw [hR]; simp; intro h; omega); clear hR k1
     go_enter Tryz.func8, Tryz.ntmps8
     go_wp2_with (first
     | ((with_reducible refine xzam rfl (.tmp 5) ?_ ?_ HD.out.1 ?_); exact rfl; exact rfl; rw [HCL.out])
     | (go_at_call 26; refine HMC.out.mono ?_; rintro e u1 ⟨rfl, hbu⟩; rw [hmc]; have HU := Lib.hid (show DfB u1 w.heap.size D.of D.n (.slice A D.next.length c) (.slice B D.tag.length c') ∧ Below w.heap.size w u1 ∧ w.heap.size < u1.heap.size from ⟨HD.out.1.step hbu, HD.out.2.1.trans (hbu.mono HD.out.2.1.size), by have := hbu.size; have := HD.out.2.2; omega⟩); have k257 := HU.out.1.cells.2.1; have k258 := HU.out.1.cells.2.2; clear hbu))
     go_ret; exact ⟨by rw [HF.out]; rfl, HU.out.2.1⟩
   have e1 : decide ((D.next.length : Int) > 600) = false := by simp; omega
   have e1b : decide ((600 : Int) < (D.next.length : Int)) = false := by simp; omega
   by_cases k2 : D.tag.length = D.next.length
   case neg =>
     have e2 : ((D.tag.length : Int) != (D.next.length : Int)) = true := by simp; omega
     have HF := Lib.hid (show R = false by rw [hR]; simp; intro h1 h2; exact absurd h2 k2); clear hR k1 k2
     go_enter Tryz.func8, Tryz.ntmps8
     go_wp2_with (first
     | ((with_reducible refine xzam rfl (.tmp 5) ?_ ?_ HD.out.1 ?_); exact rfl; exact rfl; rw [HCL.out])
     | (go_at_call 26; refine HMC.out.mono ?_; rintro e u1 ⟨rfl, hbu⟩; rw [hmc]; have HU := Lib.hid (show DfB u1 w.heap.size D.of D.n (.slice A D.next.length c) (.slice B D.tag.length c') ∧ Below w.heap.size w u1 ∧ w.heap.size < u1.heap.size from ⟨HD.out.1.step hbu, HD.out.2.1.trans (hbu.mono HD.out.2.1.size), by have := hbu.size; have := HD.out.2.2; omega⟩); have k257 := HU.out.1.cells.2.1; have k258 := HU.out.1.cells.2.2; clear hbu))
     go_ret; exact ⟨by rw [HF.out]; rfl, HU.out.2.1⟩
   have e2 : ((D.tag.length : Int) != (D.next.length : Int)) = false := by simp; omega
   have HR0 := Lib.hid (show R = ((D.next.drop 0).all (rowOk D.n D.next.length) && inB 40 (D.tag.drop 0)) by rw [hR, decide_eq_true (show D.next.length ≤ 600 by omega)]; simp [k2]); have HMD := Lib.hid (yzbi D); have K2 := Lib.hid k2; clear hR k2
   go_enter Tryz.func8, Tryz.ntmps8
   go_wp2_with (first
     | ((with_reducible refine xzam rfl (.tmp 5) ?_ ?_ HD.out.1 ?_); exact rfl; exact rfl; rw [HCL.out])
     | (go_at_call 26; refine HMC.out.mono ?_; rintro e u1 ⟨rfl, hbu⟩; rw [hmc]; have HU := Lib.hid (show DfB u1 w.heap.size D.of D.n (.slice A D.next.length c) (.slice B D.tag.length c') ∧ Below w.heap.size w u1 ∧ w.heap.size < u1.heap.size from ⟨HD.out.1.step hbu, HD.out.2.1.trans (hbu.mono HD.out.2.1.size), by have := hbu.size; have := HD.out.2.2; omega⟩); have k257 := HU.out.1.cells.2.1; have k258 := HU.out.1.cells.2.2; clear hbu))
   clear hbx hds hcs HMC HCL HD k257 k258
   go_loopw [3, 4] (fun i _ wr => ∃ j : Nat, i = .int .i64 j ∧ j ≤ D.next.length ∧ Hid (Below u1.heap.size u1 wr ∧ R = ((D.next.drop j).all (rowOk D.n D.next.length) && inB 40 (D.tag.drop j)))) (fun i _ _ => D.next.length - (intOf i).toNat)
   case atStart => exact ⟨0, rfl, Nat.zero_le _, Lib.hid ⟨Below.refl _ _, HR0.out⟩⟩
   case round =>
     obtain ⟨j, rfl, hj, HH⟩ := hrel; obtain ⟨w1, rfl⟩ : ∃ w1, w1 = wr := ⟨_, rfl⟩; have hd1 := HU.out.1.step HH.out.1; have hbw := HU.out.2.1.trans (HH.out.1.mono HU.out.2.1.size); obtain ⟨k256, k257, k258⟩ := hd1.cells
     by_cases hp : j < D.next.length
     · have hk1 : IntKind.i64.wrap ((j : Int) + 1) = ((j + 1 : Nat) : Int) := by rw [IntKind.wrap_i64]; omega
       have hdl : decide ((j : Int) < (D.next.length : Int)) = true := by simp; omega
       have hpt : j < D.tag.length := by rw [K2.out]; exact hp
       have i1 : (j : Int) < (D.next.length : Int) := by omega
       have i2 : (j : Int) < (D.tag.length : Int) := by omega
       have i2b : decide ((j : Int) < (D.tag.length : Int)) = true := by simp; omega
       obtain ⟨bn, on, rfl, hltn, hgr⟩ := HN.out (by intro e; rw [e] at hp; simp at hp); obtain ⟨bt, ot, rfl, hltt, hgg⟩ := HT.out (by intro e; rw [e] at hpt; simp at hpt); obtain ⟨vr, hcr, hvr⟩ := hgr j hp; have hcell := (hbw.cell (p := ⟨bn, on + j, none⟩) hltn).trans hcr; have hcellt := (hbw.cell (p := ⟨bt, ot + j, none⟩) hltt).trans (hgg j hpt); obtain ⟨Ar, cr, rfl, hcr2, hgrr⟩ := hvr; have HGR := Lib.hid hgrr; have HDR := Lib.hid (HMD.out j hp hpt); have hcr' := hcr; clear hgr hgg hcr hgrr; generalize D.next[j] = r at *; generalize D.tag[j] = t at *
       by_cases g1 : (r.length : Int) = D.n
       case neg =>
         have q1 : ((r.length : Int) != D.n) = true := by rw [bne_iff_ne]; exact g1
         have HF := Lib.hid (show R = false by rw [HH.out.2, HDR.out]; unfold rowOk; simp [g1]); clear g1
         go_wp2_with fail
         go_quiet (fail)
         go_wp2; go_ret; exact ⟨by rw [HF.out]; rfl, xzbc hbw _⟩
       have q1 : ((r.length : Int) != D.n) = false := by rw [bne_eq_false_iff_eq]; exact g1
       by_cases g2 : t < -1
       · have q2 : decide (t < -1) = true := by simp; omega
         have HF := Lib.hid (show R = false by rw [HH.out.2, HDR.out, decide_eq_false (show ¬ -1 ≤ t by omega)]; simp); clear g1 g2
         go_wp2_with fail
         go_quiet (fail)
         go_wp2; go_ret; exact ⟨by rw [HF.out]; rfl, xzbc hbw _⟩
       have q2 : decide (t < -1) = false := by simp; omega
       by_cases g3 : 39 < t
       · have q3 : decide (t > 39) = true := by simp; omega
         have q3b : decide (39 < t) = true := by simp; omega
         have HF := Lib.hid (show R = false by rw [HH.out.2, HDR.out, decide_eq_false (show ¬ t < 40 by omega)]; simp); clear g1 g2 g3
         go_wp2_with fail
         go_quiet (fail)
         go_wp2; go_ret; exact ⟨by rw [HF.out]; rfl, xzbc hbw _⟩
       have q3 : decide (t > 39) = false := by simp; omega
       have q3b : decide (39 < t) = false := by simp; omega
       obtain ⟨Z, hZ⟩ : ∃ Z, ((D.next.drop (j + 1)).all (rowOk D.n D.next.length) && inB 40 (D.tag.drop (j + 1))) = Z := ⟨_, rfl⟩
       have HI0 := Lib.hid (show R = (inB D.next.length (r.drop 0) && Z) by
         rw [HH.out.2, HDR.out, hZ, decide_eq_true (show -1 ≤ t by omega), decide_eq_true (show t < 40 by omega)]; unfold rowOk
         simp [g1])
       have HZ := Lib.hid hZ; clear g1 g2 g3 hZ
       go_wp2_with fail
       go_quiet (fail)
       go_wp2
       go_loopw [4] (fun i wr => ∃ c : Nat, i = .int .i64 c ∧ c ≤ r.length ∧ Hid (Below u1.heap.size u1 wr ∧ R = (inB D.next.length (r.drop c) && Z))) (fun i _ => r.length - (intOf i).toNat)
       case atStart => exact ⟨0, rfl, Nat.zero_le _, Lib.hid ⟨xzbc HH.out.1 _, HI0.out⟩⟩
       case round =>
         obtain ⟨c2, rfl, hc2, HI⟩ := hrel; obtain ⟨w2, rfl⟩ : ∃ w2, w2 = wr := ⟨_, rfl⟩; have hd2 := HU.out.1.step HI.out.1; have hbw2 := HU.out.2.1.trans (HI.out.1.mono HU.out.2.1.size); clear k256 k257 k258 hcell hcellt hbw hd1 q1 q2 q3 q3b; obtain ⟨k256, k257, k258⟩ := hd2.cells; have hcell := (hbw2.cell (p := ⟨bn, on + j, none⟩) hltn).trans hcr'
         by_cases hq : c2 < r.length
         · have hk2 : IntKind.i64.wrap ((c2 : Int) + 1) = ((c2 + 1 : Nat) : Int) := by rw [IntKind.wrap_i64]; omega
           have hdl2 : decide ((c2 : Int) < (r.length : Int)) = true := by simp; omega
           have i3 : (c2 : Int) < (r.length : Int) := by omega
           obtain ⟨br, or, rfl, hltr, hgx⟩ := HGR.out (by intro e; rw [e] at hq; simp at hq); have hcx := (hbw2.cell (p := ⟨br, or + c2, none⟩) hltr).trans (hgx c2 hq); have hdd := HI.out.2; rw [List.drop_eq_getElem_cons hq] at hdd; unfold inB at hdd; rw [List.all_cons] at hdd; clear hgx; generalize r[c2] = x at *; have HX := Lib.hid hdd; clear hdd
           by_cases g1 : x < -1
           · have q1 : decide (x < -1) = true := by simp; omega
             have HF := Lib.hid (show R = false by rw [HX.out, decide_eq_false (show ¬ -1 ≤ x by omega)]; simp); clear g1
             go_wp2_with fail
             go_quiet (fail)
             go_wp2; go_ret; exact ⟨by rw [HF.out]; rfl, xzbc hbw2 _⟩
           have q1 : decide (x < -1) = false := by simp; omega
           by_cases g2 : x < (D.next.length : Int)
           · have q2 : decide (x ≥ (D.next.length : Int)) = false := by simp; omega
             have q2b : decide ((D.next.length : Int) ≤ x) = false := by simp; omega
             have HN2 := Lib.hid (show R = (inB D.next.length (r.drop (c2 + 1)) && Z) by
               rw [HX.out, decide_eq_true (show -1 ≤ x by omega), decide_eq_true g2]; rfl)
             clear g1 g2
             go_wp2_with fail
             go_quiet (fail)
             go_wp2; exact ⟨⟨c2 + 1, rfl, hq, Lib.hid ⟨xzbc HI.out.1 _, HN2.out⟩⟩, by simp [intOf]; omega⟩
           · have q2 : decide (x ≥ (D.next.length : Int)) = true := by simp; omega
             have q2b : decide ((D.next.length : Int) ≤ x) = true := by simp; omega
             have HF := Lib.hid (show R = false by rw [HX.out, decide_eq_false g2]; simp); clear g1 g2
             go_wp2_with fail
             go_quiet (fail)
             go_wp2; go_ret; exact ⟨by rw [HF.out]; rfl, xzbc hbw2 _⟩
         · have hdl2 : decide ((c2 : Int) < (r.length : Int)) = false := by simp; omega
           obtain rfl : c2 = r.length := by omega
           have HN2 := Lib.hid (show R = ((D.next.drop (j + 1)).all (rowOk D.n D.next.length) && inB 40 (D.tag.drop (j + 1))) by rw [HI.out.2, List.drop_length, HZ.out]; rfl); go_wp2; exact ⟨⟨j + 1, rfl, hp, Lib.hid ⟨HI.out.1, HN2.out⟩⟩, by simp [intOf]; omega⟩
     · have hdl : decide ((j : Int) < (D.next.length : Int)) = false := by simp; omega
       obtain rfl : j = D.next.length := by omega
       have HF := Lib.hid (show R = true by rw [HH.out.2, List.drop_length, ← K2.out, List.drop_length]; rfl); go_wp2; go_ret; exact ⟨by rw [HF.out]; rfl, hbw⟩
end
end Go.Proofs.YtgngaaemkmdfaaaGreatDoor
