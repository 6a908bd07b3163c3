/-
 WHAT step AND Run OF AN AUTOMATON WITHOUT CHOICES ANSWER: contracts. No condition but that it lies there, its classes being bytes.
-/
import Derived.Deep.Strs
import Derived.ChangeMaps5
import Derived.Test.YtgngaaemkmdfaaaGreatDoorQG19
import Derived.Test.YtgngaaemkmdfaaaGreatDoorQG08
import Derived.Test.YtgngaaemkmdfaaaGreatDoorQG10
import Derived.Test.YtgngaaemkmdfaaaGreatDoorQG05
import Derived.Test.YtgngaaemkmdfaaaGreatDoorQG09
namespace Go.Proofs.YtgngaaemkmdfaaaGreatDoor
section
open Go.RowKit

attribute [local irreducible] FreeW textFrame

set_option maxRecDepth 20000 in
set_option maxHeartbeats 8000000 in
theorem xzob (D : Df) (v : Value) (w : World) (h : DfAt w D v) (hf : ∀ b, b < 256 → D.of b < 256) (a b : Nat) (ha : a < D.next.length) (hb : b < 256) (hc : D.of b < D.next[a].length) :
   Calls Tryz.prog 29 #[v, .int .i64 (a : Nat), .int .u8 (b : Nat)] w fun e w' => e = .returned (.int .i64 (D.next[a][D.of b])) ∧ Below w.heap.size w w' := by
 obtain ⟨vn, vt, rfl, hrn, hrt⟩ := h; obtain ⟨W1, hbx, hsz, hb1, hx1⟩ := xzbs D.of D.n vn vt w; have hd1 := DfB.of hx1; obtain ⟨c256, c257, c258⟩ := hd1.cells; have c0 := hd1.ofAt hb; have hfz := BlkIs.frozen hx1 b; obtain ⟨An, cn, rfl, hcn, hgn⟩ := hrn.step hb1; obtain ⟨bn, on, rfl, hlt, hg⟩ := hgn (by intro e; rw [e] at ha; simp at ha); obtain ⟨vr, hcell, hvr⟩ := hg a ha; obtain ⟨Ar, cr, rfl, hcr, hgr⟩ := hvr; obtain ⟨br, or, rfl, hltr, hgr2⟩ := hgr (by intro e; rw [e] at hc; simp at hc); have hcell2 := hgr2 (D.of b) hc; have HB := Lib.hid hb1; obtain ⟨dc, hdc⟩ : ∃ dc, dfC D.of D.n (.slice (some ⟨bn, on, none⟩) D.next.length cn) vt = dc := ⟨_, rfl⟩; rw [hdc] at hbx
 have hds : dc.size = 259 := by rw [← hdc]; exact xzad _ _ _ _
 rw [hdc]
 have i1 : decide ((a : Int) < (D.next.length : Int)) = true := by simp; omega
 have i2 : decide ((b : Int) < 256) = true := by simp; omega
 have i3 : decide ((D.of b : Int) < (D.next[a].length : Int)) = true := by simp; omega
 have HF := Lib.hid (hf b hb); clear hrn hrt hb1 hx1 hd1 hgn hg hgr hgr2 hdc hf; generalize D.next[a][D.of b] = x at *; generalize D.next[a].length = nr at *; generalize D.next.length = nn at *; generalize D.of b = c at *; generalize D.n = n at *
 go_enter Tryz.func29, Tryz.ntmps29
 go_wp2_with fail
 go_region
 go_wp2; go_ret; exact ⟨rfl, HB.out.drew⟩
theorem xzao {P : Program} {o : Oper} {a : Act} {w : World} {v : Value} (t : TypeId) (x : Operand) (p : Value) (ho : o.op = .load t x) (hx : a.eval x = p) (h : (Instr.loadAt t p).run P w = .ok v w) : (execOp a.eval o).run P w = .ok (.value v) w := by
 unfold execOp; simp only [ho, hx, Sem.run_bind, Sem.run_pure, h, Result.andThen_ok]
structure MayD (D : Df) : Prop where
 few : D.next.length ≤ 600
 tags : D.tag.length = D.next.length
 cls : mayB D.of D.n = true
 rows : ∀ r ∈ D.next, (r.length : Int) = D.n ∧ ∀ x ∈ r, -1 ≤ x ∧ x < (D.next.length : Int)
 tag : ∀ t ∈ D.tag, -1 ≤ t ∧ t < 40
theorem inB_iff {all : Int} {l : List Int} : inB all l = true ↔ ∀ x ∈ l, -1 ≤ x ∧ x < all := by
 unfold inB
 simp [List.all_eq_true]
theorem yzae {D : Df} (h : D.may = true) : MayD D := by
 unfold Df.may Df.sized at h; simp only [Bool.and_eq_true, decide_eq_true_eq, beq_iff_eq, List.all_eq_true] at h; obtain ⟨⟨h1, h2⟩, h3, h4, h5⟩ := h; refine ⟨h1, h2, h3, fun r hr => ?_, inB_iff.1 h5⟩; have := h4 r hr; unfold rowOk at this; simp only [Bool.and_eq_true, beq_iff_eq] at this; exact ⟨this.1, inB_iff.1 this.2⟩
theorem MayD.cl {D : Df} (h : MayD D) (b : Nat) (hb : b < 256) : (D.of b : Int) < D.n := by
 obtain ⟨h1, h2⟩ := mayB_iff.1 h.cls; rw [h2, h1 b hb]; have := xzyx D.of b; have := xzfy D.of (show b + 1 ≤ 256 by omega); omega
def Df.nxt (D : Df) (a : Int) (b : Nat) : Int := (D.next.getD a.toNat []).getD (D.of b) (-1)
def Df.goTo (D : Df) (s : ByteArray) : Nat → Int
 | 0 => 0
 | j + 1 => if D.goTo s j = -1 then -1 else D.nxt (D.goTo s j) (b8 s j)
def Df.run (D : Df) (s : ByteArray) : Int := if D.may && !D.next.isEmpty then D.goTo s s.size else -1
theorem MayD.nxt_in {D : Df} (h : MayD D) (a : Int) (b : Nat) : -1 ≤ D.nxt a b ∧ D.nxt a b < (D.next.length : Int) := by
 unfold Df.nxt; rw [List.getD_eq_getElem?_getD, List.getD_eq_getElem?_getD]
 by_cases h1 : a.toNat < D.next.length
 · rw [List.getElem?_eq_getElem h1]
   by_cases h2 : D.of b < (D.next[a.toNat]).length
   · rw [Option.getD_some, List.getElem?_eq_getElem h2]
     exact (h.rows _ (List.getElem_mem h1)).2 _ (List.getElem_mem h2)
   · rw [Option.getD_some, List.getElem?_eq_none (by omega)]; simp; omega
 · rw [List.getElem?_eq_none (l := D.next) (i := a.toNat) (by omega), Option.getD_none, List.getElem?_nil, Option.getD_none]; omega
theorem MayD.goTo_in {D : Df} (h : MayD D) (hne : D.next ≠ []) (s : ByteArray) : ∀ j, -1 ≤ D.goTo s j ∧ D.goTo s j < (D.next.length : Int)
 | 0 => by have := List.length_pos_iff.2 hne; show -1 ≤ (0 : Int) ∧ (0 : Int) < (D.next.length : Int); omega
 | j + 1 => by
   unfold Df.goTo
   split
   · omega
   · exact h.nxt_in _ _
theorem xzoc {D : Df} {s : ByteArray} {j : Nat} (h : D.goTo s j = -1) : ∀ n, D.goTo s (j + n) = -1
 | 0 => h
 | n + 1 => by rw [show j + (n + 1) = (j + n) + 1 by omega]; unfold Df.goTo; rw [if_pos (xzoc h n)]

set_option maxRecDepth 20000 in
set_option maxHeartbeats 8000000 in
theorem xzgq (D : Df) (s : ByteArray) (hs : s.size ≤ 1073741824) (v : Value) (w : World) (h : DfAt w D v) (hf : ∀ b, b < 256 → D.of b < 256) :
   Calls Tryz.prog 11 #[v, .string s] w fun e w' => e = .returned (.int .i64 (D.run s)) ∧ Below w.heap.size w w' := by
 have HAT := Lib.hid h; obtain ⟨vn, vt, rfl, hrn, hrt⟩ := h; obtain ⟨W1, hbx, hsz, hb1, hx1⟩ := xzbs D.of D.n vn vt w; have hd1 := DfB.of hx1; obtain ⟨c256, c257, c258⟩ := hd1.cells; obtain ⟨An, cn, rfl, hcn, _⟩ := hrn; have HMA := Lib.hid (fun (u : World) (hu : Below w.heap.size w u) => xziv D _ u (HAT.out.step hu) hf); obtain ⟨R, hR⟩ : ∃ R, R = D.run s := ⟨_, rfl⟩; rw [← hR]; unfold Df.run at hR; have HDF := Lib.hid hd1; have HB := Lib.hid hb1; obtain ⟨dc, hdc⟩ : ∃ dc, dfC D.of D.n (.slice An D.next.length cn) vt = dc := ⟨_, rfl⟩; have HLD := Lib.hid (fun (u : World) (hu : DfB u w.heap.size D.of D.n (.slice An D.next.length cn) vt) => loadDf hu); have HSD := Lib.hid (fun (hm : MayD D) (a b : Nat) (u : World) (hu : Below w.heap.size w u) (ha : a < D.next.length) (hb : b < 256) => xzob D _ u (HAT.out.step hu) hf a b ha hb (by have h1 := hm.cl b hb; have h2 := (hm.rows _ (List.getElem_mem ha)).1; omega)); rw [hdc] at hbx HLD HSD HMA
 have hds : dc.size = 259 := by rw [← hdc]; exact xzad _ _ _ _
 rw [hdc]; have HDC := Lib.hid hdc; clear hrt hb1 hx1 hd1 hdc hf HAT
 cases hm : D.may with
 | false =>
   rw [hm] at HMA hR; have HN := Lib.hid (show R = -1 by rw [hR]; rfl); clear hR
   go_enter Tryz.func11, Tryz.ntmps11
   go_wp2_with (first
     | ((with_reducible refine xzan (.tmp 2) ?_ ?_ HDF.out ?_ ?_); exact rfl; exact rfl; kernel_rfl; rw [HDC.out])
     | (go_at_call 7; refine (HMA.out _ HB.out).mono ?_; rintro e u1 ⟨rfl, hbu⟩; have HB2 := Lib.hid (HB.out.trans (hbu.mono HB.out.size)); clear hbu))
   go_ret; exact ⟨by rw [HN.out]; rfl, HB2.out⟩
 | true =>
   rw [hm] at HMA hR; have HMD := Lib.hid (yzae hm); have HSD := Lib.hid (HSD.out HMD.out)
   by_cases hne : D.next = []
   · have hl0 : D.next.length = 0 := by rw [hne]; rfl
     have e1 : decide ((D.next.length : Int) = 0) = true := by simp; exact hne
     have e1' : ((D.next.length : Int) == 0) = true := by simp; exact hne
     have HN := Lib.hid (show R = -1 by rw [hR, hne]; rfl); clear hR hne
     go_enter Tryz.func11, Tryz.ntmps11
     go_wp2_with (first
       | ((with_reducible refine xzan (.tmp 2) ?_ ?_ HDF.out ?_ ?_); exact rfl; exact rfl; kernel_rfl; rw [HDC.out])
       | (go_at_call 7; refine (HMA.out _ HB.out).mono ?_; rintro e u1 ⟨rfl, hbu⟩; have HB2 := Lib.hid (HB.out.trans (hbu.mono HB.out.size)); have c257' := (hbu.cell (p := ⟨w.heap.size, 257, none⟩) (by show w.heap.size < _; omega)).trans c257; clear hbu))
     go_ret; exact ⟨by rw [HN.out]; rfl, HB2.out⟩
   · have hpos := List.length_pos_iff.2 hne
     have e1 : decide ((D.next.length : Int) = 0) = false := by simp; exact hne
     have e1' : ((D.next.length : Int) == 0) = false := by simp; exact hne
     have hie : D.next.isEmpty = false := by cases hq : D.next with | nil => exact absurd hq hne | cons a r => rfl
     have HN := Lib.hid (show R = D.goTo s s.size by rw [hR, hie]; rfl); have HGI := Lib.hid (HMD.out.goTo_in hne s)
     have HIX := Lib.hid (show ∀ (j : Nat), j < s.size → ∀ u : World, (Instr.index 9 (.string s) (.int .i64 (j : Nat))).run Tryz.prog u = .ok (.int .u8 (b8 s j : Nat)) u from fun j hj u => by
       have := xzit 9 Tryz.underlying9 s j hj u (P := Tryz.prog)
       rw [this]; unfold b8; rw [dif_pos hj])
     have HFEW := Lib.hid (show D.next.length ≤ 600 from HMD.out.few); clear hR hne hie
     go_enter Tryz.func11, Tryz.ntmps11
     go_wp2_with (first
       | ((with_reducible refine xzan (.tmp 2) ?_ ?_ HDF.out ?_ ?_); exact rfl; exact rfl; kernel_rfl; rw [HDC.out])
       | (go_at_call 7; refine (HMA.out _ HB.out).mono ?_; rintro e u1 ⟨rfl, hbu⟩; have HU1 := Lib.hid (show Below w.heap.size w u1 ∧ DfB u1 w.heap.size D.of D.n (.slice An D.next.length cn) vt from ⟨HB.out.trans (hbu.mono HB.out.size), HDF.out.step hbu⟩); have c257' := (hbu.cell (p := ⟨w.heap.size, 257, none⟩) (by show w.heap.size < _; omega)).trans c257; clear hbu))
     clear hbx hds c256 c257 c258 c257' HMA
     go_loopw [5, 6] (fun x i wr => ∃ j : Nat, i = .int .i64 j ∧ x = .int .i64 (D.goTo s j) ∧ j ≤ s.size ∧ Hid (Below w.heap.size w wr ∧ DfB wr w.heap.size D.of D.n (.slice An D.next.length cn) vt)) (fun _ i _ => s.size - (intOf i).toNat)
     case atStart => exact ⟨0, rfl, rfl, Nat.zero_le _, HU1⟩
     case round =>
       obtain ⟨j, rfl, rfl, hj, HH⟩ := hrel; obtain ⟨w2, rfl⟩ : ∃ w2, w2 = wr := ⟨_, rfl⟩
       by_cases hp : j < s.size
       · have hk1 : IntKind.i64.wrap ((j : Int) + 1) = ((j + 1 : Nat) : Int) := by rw [IntKind.wrap_i64]; omega
         have hdl : decide ((j : Int) < (s.size : Int)) = true := by simp; omega
         by_cases hg : D.goTo s j = -1
         · have e2 : (D.goTo s j != -1) = false := by simp [hg]
           have e2' : decide (D.goTo s j = -1) = true := by simp [hg]
           have HR2 := Lib.hid (show R = D.goTo s j by rw [HN.out, hg]; have := xzoc hg (s.size - j); rwa [show j + (s.size - j) = s.size by omega] at this); clear hg; go_wp2; go_ret; exact ⟨by rw [HR2.out]; rfl, HH.out.1⟩
         · have e2 : (D.goTo s j != -1) = true := by simp [hg]
           have e2' : decide (D.goTo s j = -1) = false := by simp [hg]
           have hgi := HGI.out j; obtain ⟨a, hga⟩ : ∃ a : Nat, D.goTo s j = (a : Nat) := ⟨(D.goTo s j).toNat, by omega⟩
           have hgs : D.goTo s (j + 1) = D.nxt (a : Nat) (b8 s j) := by
             show (if D.goTo s j = -1 then -1 else D.nxt (D.goTo s j) (b8 s j)) = _
             rw [if_neg hg, hga]
           have hal : a < D.next.length := by omega
           have HST := Lib.hid (fun (u : World) (hu : Below w.heap.size w u) => show Calls Tryz.prog 29 #[.agg dc, .int .i64 (a : Nat), .int .u8 (b8 s j : Nat)] u (fun e w' => e = .returned (.int .i64 (D.nxt a (b8 s j))) ∧ Below u.heap.size u w') by
             have h1 := HSD.out a (b8 s j) u hu hal (xzzg s j); have h2 := HMD.out.cl (b8 s j) (xzzg s j); have h3 := (HMD.out.rows _ (List.getElem_mem hal)).1
             have h4 : D.of (b8 s j) < D.next[a].length := by omega
             have e : D.nxt (a : Nat) (b8 s j) = D.next[a][D.of (b8 s j)] := by
               unfold Df.nxt; rw [List.getD_eq_getElem?_getD, List.getD_eq_getElem?_getD, Int.toNat_natCast, List.getElem?_eq_getElem hal, Option.getD_some, List.getElem?_eq_getElem h4]; rfl
             rw [e]; exact h1)
           rw [hga] at e2 e2'; rw [hga]; have HGS := Lib.hid hgs; clear hg hgi hga hgs
           go_wp2_with fail
           refine xzaf 6 33 (fun u => Hid (Below w.heap.size w u ∧ DfB u w.heap.size D.of D.n (.slice An D.next.length cn) vt)) (fun _ u u' => Below u.heap.size u u')
             (fun i v u => match i with
               | 0 => v = .agg dc
               | 1 => v = .int .i64 (a : Nat)
               | 2 => v = .string s
               | 3 => v = .int .i64 (j : Nat)
               | 4 => v = .int .u8 (b8 s j : Nat)
               | 5 => v = .int .i64 (D.nxt a (b8 s j))
               | _ => True) (by kernel_rfl) (by kernel_rfl) rfl (Lib.hid ⟨HH.out.1.drew, HH.out.2⟩) ?_ ?_ ?_ ?_
           · intro i u u' hix hC hr
             exact Lib.hid ⟨hC.out.1.trans (hr.mono hC.out.1.size), hC.out.2.step hr⟩
           · intro i j v u u' hix hj hne hv hr
             match i, hix, hne, hv with
             | 0, _, _, hv => exact hv
             | 1, _, _, hv => exact hv
             | 2, _, _, hv => exact hv
             | 3, _, _, hv => exact hv
             | 4, _, _, hv => exact hv
             | 5, _, _, hv => exact hv
             | i + 6, hix, _, _ => omega
           · intro i hix vs u hC hw oq ho
             match i, hix, hw, ho with
             | 0, _, hw, ho =>
               simp only [zqa, zqb, zqh] at ho; subst ho; refine ⟨rfl, ?_⟩; clear hw; simp only [xzaa, tmpsTo]; rw [xzao 33 (.tmp 2) _ rfl rfl (HLD.out u hC.out.2)]; exact zqi
             | 1, _, hw, ho =>
               simp only [zqa, zqb, zqc, zqh] at ho; subst ho; refine ⟨rfl, ?_⟩; clear hw; simp only [xzaa, tmpsTo, putT, zqa, zqb, zqd, zqe, zqf, zqg]; go_simp; exact zqi
             | 2, _, hw, ho =>
               simp only [zqa, zqb, zqc, zqh] at ho; subst ho; refine ⟨rfl, ?_⟩; clear hw; simp only [xzaa, tmpsTo, putT, zqa, zqb, zqc, zqd, zqe, zqf, zqg]; go_simp; exact zqi
             | 3, _, hw, ho =>
               simp only [zqa, zqb, zqc, zqh] at ho; subst ho; refine ⟨rfl, ?_⟩; clear hw; simp only [xzaa, tmpsTo, putT, zqa, zqb, zqc, zqd, zqe, zqf, zqg]; go_simp; exact zqi
             | 4, _, hw, ho =>
               have e2 : vs 2 = .string s := hw 2 (by omega) (by kernel_rfl); have e3 : vs 3 = .int .i64 (j : Nat) := hw 3 (by omega) (by kernel_rfl); simp only [zqa, zqb, zqc, zqh] at ho; subst ho; refine ⟨rfl, ?_⟩; clear hw; simp only [xzaa, tmpsTo, putT, zqa, zqb, zqc, zqd, zqe, zqf, zqg]; rw [e2, e3]; clear e2 e3; have hix := HIX.out j hp u; go_simp; exact zqi
             | 5, _, hw, ho =>
               have e0 : vs 0 = .agg dc := hw 0 (by omega) (by kernel_rfl); have e1 : vs 1 = .int .i64 (a : Nat) := hw 1 (by omega) (by kernel_rfl); have e4 : vs 4 = .int .u8 (b8 s j : Nat) := hw 4 (by omega) (by kernel_rfl); simp only [zqa, zqb, zqc, zqh] at ho; subst ho; refine ⟨rfl, ?_⟩; clear hw; simp only [xzaa, tmpsTo, putT, zqa, zqb, zqc, zqd, zqe, zqf, zqg]; rw [e0, e1, e4]; clear e0 e1 e4; go_simp; refine xzas ((HST.out u hC.out.1).mono ?_); rintro e u' ⟨rfl, hbu⟩; exact ⟨_, rfl, hbu, rfl⟩
             | i + 6, hix, _, _ => omega
           intro vs1 u hC hV; have h5 : vs1 5 = .int .i64 (D.nxt a (b8 s j)) := hV 5 (by omega); clear hV; simp only [xzaa, tmpsTo, putT, zqa, zqb, zqc, zqd, zqe, zqf, zqg, List.drop_succ_cons, List.drop_zero]; rw [h5]; clear h5; generalize vs1 0 = q0; generalize vs1 1 = q1; generalize vs1 2 = q2; generalize vs1 3 = q3; generalize vs1 4 = q4; go_wp2; exact ⟨⟨j + 1, rfl, by rw [HGS.out], hp, hC⟩, by simp [intOf]; omega⟩
       · have hdl : decide ((j : Int) < (s.size : Int)) = false := by simp; omega
         obtain rfl : j = s.size := by omega
         have HR2 := Lib.hid (show R = D.goTo s s.size from HN.out); go_wp2; go_ret; exact ⟨by rw [HR2.out]; rfl, HH.out.1⟩
end

section
open Go.RowKit

attribute [local irreducible] FreeW

theorem put_dn (f : Nat → Nat) (n n' : Int) (vn vt : Value) : putV (dfF f n vn vt) 256 (.int .i64 n') = dfF f n' vn vt := by
 funext i; unfold putV; by_cases h : i = 256
 · subst h; rfl
 · rw [if_neg h]; unfold dfF; simp only [if_neg h]
theorem put_dx (f : Nat → Nat) (n : Int) (vn vt v : Value) : putV (dfF f n vn vt) 257 v = dfF f n v vt := by
 funext i; unfold putV; by_cases h : i = 257
 · subst h; rfl
 · rw [if_neg h]; unfold dfF; simp only [if_neg h]
theorem put_dt (f : Nat → Nat) (n : Int) (vn vt v : Value) : ∀ i, i < 259 → putV (dfF f n vn vt) 258 v i = dfF f n vn v i := by
 intro i hi; unfold putV; by_cases h : i = 258
 · subst h; rfl
 · rw [if_neg h]; unfold dfF
   by_cases h1 : i < 256
   · simp only [if_pos h1]
   · by_cases h2 : i = 256
     · simp only [if_neg h1, if_pos h2]
     · have h3 : i = 257 := by omega
       simp only [if_neg h1, if_neg h2, if_pos h3]
section
variable {W : World} {g : Nat} {t : TypeId} {f : Nat → Nat} {n : Int} {vn vt : Value}
theorem blk_dn (h : BlkIs W g t (dfC f n vn vt)) (n' : Int) : BlkIs (W.setCell ⟨g, 256, none⟩ (.int .i64 n')) g t (dfC f n' vn vt) := by
 have := BlkF.put (h : BlkF W g t 259 (dfF f n vn vt)) 256 (.int .i64 n'); rw [put_dn] at this; exact this
theorem yzaf (h : BlkIs W g t (dfC f n vn vt)) (v : Value) : BlkIs (W.setCell ⟨g, 257, none⟩ v) g t (dfC f n v vt) := by
 have := BlkF.put (h : BlkF W g t 259 (dfF f n vn vt)) 257 v; rw [put_dx] at this; exact this
theorem yzag (h : BlkIs W g t (dfC f n vn vt)) (v : Value) : BlkIs (W.setCell ⟨g, 258, none⟩ v) g t (dfC f n vn v) := by
 have := BlkF.put (h : BlkF W g t 259 (dfF f n vn vt)) 258 v; unfold BlkF at this; rw [xzak (put_dt f n vn vt v)] at this; exact this
theorem yzah {P : Program} (h : BlkIs W g t (dfC f n vn vt)) (f' : Nat → Nat) : ∃ W9, (storeCells ⟨g, 0, none⟩ (ofC f').toList).run P W = .ok () W9 ∧ BlkIs W9 g t (dfC f' n vn vt) ∧ Wrote g W W9 := by
 refine ⟨_, xzcz (fun j hj => BlkIs.there h j (by rw [xzcx] at hj; rw [xzad]; omega)) (by unfold ofC; exact xzdm fun _ => rfl), ?_, Wrote.cells g _ 0 W⟩; have h1 := BlkF.putsL (ofC f').toList 0 W (dfF f n vn vt) h
 have e : cellsN 259 (fun i => if 0 ≤ i ∧ i < 0 + (ofC f').toList.length then (ofC f').toList.getD (i - 0) undef else dfF f n vn vt i) = dfC f' n vn vt := xzak fun i hi => by
   rw [Array.length_toList, xzcx]
   by_cases h2 : i < 256
   · rw [if_pos (by omega), Nat.sub_zero, List.getD_eq_getElem?_getD, Array.getElem?_toList, xzga f' h2]
     unfold dfF; rw [if_pos h2]; rfl
   · rw [if_neg (by omega)]
     unfold dfF; simp only [if_neg h2]
 unfold BlkF at h1; rw [e] at h1; exact h1
end
set_option maxRecDepth 20000 in
set_option maxHeartbeats 8000000 in
theorem xzkk (f : Nat → Nat) (n : Int) (A : Option Addr) (na ca : Nat) (B : Option Addr) (nb cb : Nat) (w : World) : Calls Tryz.prog 14 #[.agg (dfC f n (.slice A na ca) (.slice B nb cb))] w fun e w' => e = .returned (.agg (dfC f n (.slice A na ca) (.slice B nb cb))) ∧ Below w.heap.size w w' := by
 obtain ⟨W1, hW1, hs1, hb1, hx1⟩ := xzbs f n (.slice A na ca) (.slice B nb cb) w; obtain ⟨W2, hW2⟩ : ∃ W2, W1.alloc (.cells df0 28) = W2 := ⟨_, rfl⟩; obtain ⟨W3, hW3⟩ : ∃ W3, W2.alloc (.cells df0 28) = W3 := ⟨_, rfl⟩
 have hs2 : W2.heap.size = w.heap.size + 2 := by rw [← hW2]; simp [hs1]
 have hs3 : W3.heap.size = w.heap.size + 3 := by rw [← hW3]; simp [hs2]
 have hb2 : Below w.heap.size w W2 := by rw [← hW2]; exact hb1.alloc (by omega) _
 have hb3 : Below w.heap.size w W3 := by rw [← hW3]; exact hb2.alloc (by omega) _
 have hx3 : BlkIs W3 w.heap.size 33 (dfC f n (.slice A na ca) (.slice B nb cb)) := by rw [← hW3, ← hW2]; exact (hx1.alloc _).alloc _
 have hy3 : BlkIs W3 (w.heap.size + 1) 28 df0 := by rw [← hW3, ← hW2, ← hs1]; exact (BlkIs.new W1 _ _).alloc _
 have hz3 : BlkIs W3 (w.heap.size + 2) 28 df0 := by rw [← hW3, ← hs2]; exact BlkIs.new W2 _ _
 -- the classes, the others
 obtain ⟨W4, hsc4, hz4, hw4⟩ := yzah (P := Tryz.prog) (show BlkIs W3 (w.heap.size + 2) 28 (dfC (fun _ => 0) 0 (.slice none 0 0) (.slice none 0 0)) from hz3) f; have hx4 := hw4.blk (show w.heap.size ≠ w.heap.size + 2 by omega) hx3; have hy4 := hw4.blk (show w.heap.size + 1 ≠ w.heap.size + 2 by omega) hy3; have hb4 := hw4.2.1 _ _ (show w.heap.size ≤ w.heap.size + 2 by omega) hb3; have hz5 := yzag (yzaf (blk_dn hz4 n) (.slice A na ca)) (.slice B nb cb); have hd4 := (DfB.of hx4).cells; have hd4z := (DfB.of hz4).cells; have fz1 := BlkIs.frozen hz4 256; have fz2 := BlkIs.frozen hz4 257; have fz3 := BlkIs.frozen hz4 258
 have hb5 : Below w.heap.size w (((W4.setCell ⟨w.heap.size + 2, 256, none⟩ (.int .i64 n)).setCell ⟨w.heap.size + 2, 257, none⟩ (.slice A na ca)).setCell ⟨w.heap.size + 2, 258, none⟩ (.slice B nb cb)) :=
   ((hb4.setCell (p := ⟨w.heap.size + 2, 256, none⟩) (by show w.heap.size ≤ w.heap.size + 2; omega) _).setCell (p := ⟨w.heap.size + 2, 257, none⟩) (by show w.heap.size ≤ w.heap.size + 2; omega) _).setCell (p := ⟨w.heap.size + 2, 258, none⟩) (by show w.heap.size ≤ w.heap.size + 2; omega) _
 have hy5 : BlkIs (((W4.setCell ⟨w.heap.size + 2, 256, none⟩ (.int .i64 n)).setCell ⟨w.heap.size + 2, 257, none⟩ (.slice A na ca)).setCell ⟨w.heap.size + 2, 258, none⟩ (.slice B nb cb)) (w.heap.size + 1) 28 df0 :=
   (Below.heap_setCell _ _ _ _ (by show w.heap.size + 1 ≠ w.heap.size + 2; omega)).trans ((Below.heap_setCell _ _ _ _ (by show w.heap.size + 1 ≠ w.heap.size + 2; omega)).trans ((Below.heap_setCell _ _ _ _ (by show w.heap.size + 1 ≠ w.heap.size + 2; omega)).trans hy4))
 generalize hW5 : ((W4.setCell ⟨w.heap.size + 2, 256, none⟩ (.int .i64 n)).setCell ⟨w.heap.size + 2, 257, none⟩ (.slice A na ca)).setCell ⟨w.heap.size + 2, 258, none⟩ (.slice B nb cb) = W5 at *; obtain ⟨W9, hsc, hb9, hw9⟩ := xzbb (P := Tryz.prog) hy5 (new := dfC f n (.slice A na ca) (.slice B nb cb)) (by rw [xzad]; exact (xzad _ _ _ _).symm) (xzcd _ _ _ _ rfl rfl); have hl9 := loadVarDr (DfB.of hb9); have HB9 := Lib.hid (hw9.2.1 _ _ (show w.heap.size ≤ w.heap.size + 1 by omega) hb5); have HX := Lib.hid (DfB.of hx3); have HZ := Lib.hid (DfB.of hz5); have hds : (dfC f n (.slice A na ca) (.slice B nb cb)).size = 259 := xzad _ _ _ _; have hos : (ofC f).size = 256 := xzcx f; obtain ⟨d9, hd9⟩ : ∃ d9, dfC f n (.slice A na ca) (.slice B nb cb) = d9 := ⟨_, rfl⟩; obtain ⟨d0, hd0⟩ : ∃ d0, df0 = d0 := ⟨_, rfl⟩; obtain ⟨o9, ho9⟩ : ∃ o9, ofC f = o9 := ⟨_, rfl⟩; have z := zeroDr; rw [hd0] at z hW2 hW3; rw [hd9] at hW1 hsc hl9 hds; rw [ho9] at hsc4 hos; rw [hd9]; obtain ⟨k256, k257, k258⟩ := hd4; obtain ⟨m256, m257, m258⟩ := hd4z; clear hb1 hx1 hb2 hb3 hx3 hy3 hz3 hz4 hw4 hx4 hy4 hb4 hz5 hb5 hy5 hb9 hw9
 go_enter Tryz.func14, Tryz.ntmps14
 go_wp2_with (first
   | ((with_reducible refine xzfg rfl (.tmp 5) ?_ ?_ HX.out ?_); exact rfl; exact rfl; rw [ho9])
   | ((with_reducible refine xzkf rfl (.tmp 3) ?_ ?_ HZ.out ?_); exact rfl; exact rfl; rw [hd9]))
 exact bodyPost_ret (xzab rfl rfl hl9) rfl ⟨rfl, HB9.out⟩
end

section
open Go.ChangeShapes Go.WideShapes Go.ChangeAt Go.RowKit Go.Deep

section
variable {H : Type} {enc : TypeId × Value → H} {W : World} {base : Nat} {spare : Nat → Bool} {held : Bool}
theorem xziw {α β : Type} {f : α → Option β} : ∀ {l : List α} {ys : List β}, l.mapM f = some ys → ∀ a ∈ l, ∃ y, f a = some y
 | [], _, _, _, ha => by cases ha
 | x :: l, ys, h, a, ha => by
   rw [List.mapM_cons] at h
   cases hx : f x with
   | none => rw [hx] at h; simp at h
   | some y =>
     rw [hx] at h
     cases hl : l.mapM f with
     | none => rw [hl] at h; simp at h
     | some zs =>
       rcases List.mem_cons.1 ha with rfl | ha
       · exact ⟨y, hx⟩
       · exact xziw hl a ha
theorem xzwg : Tryz.prog.cellsOf 5 = 1 := by kernel_rfl
theorem xzkl : Tryz.prog.cellsOf 22 = 256 := by kernel_rfl
theorem xzsf : Tryz.prog.cellsOf 24 = 257 := by kernel_rfl
theorem xzwh : Tryz.prog.cellsOf 28 = 259 := by kernel_rfl
theorem xzpm : Tryz.prog.cellsOf 25 = 1 := by kernel_rfl
set_option maxRecDepth 100000 in
theorem xzpn {fuel : Nat} {cs : List Value} {x : DataW H × List MemPlace} (h : DataW.trod enc Tryz.prog W base spare held fuel 22 cs = some x) :
   ∃ f : Nat → Nat, (∀ i, i < 256 → f i < 256) ∧ ∀ i, i < 256 → cs[i]? = some (.int .u8 (f i : Nat)) := by
 cases fuel with
 | zero => simp [DataW.trod] at h
 | succ k =>
   unfold DataW.trod at h; rw [Tryz.underlying22] at h; simp only [xzkl, xzwg, Nat.mul_one] at h
   split at h
   · obtain ⟨xs, hxs, _⟩ := Option.map_eq_some_iff.1 h
     have each := xziw hxs
     have hone : ∀ i, i < 256 → ∃ y : Nat, y < 256 ∧ cs[i]? = some (.int .u8 (y : Nat)) := fun i hi => by
       obtain ⟨y, hy⟩ := each i (List.mem_range.2 hi); obtain ⟨z, e, _, hw⟩ := DataW.trod_int Tryz.underlying5 hy
       have h2 : 0 ≤ z ∧ z < 256 := by
         simp [Lit.wf, IntKind.min, IntKind.max, IntKind.signed, IntKind.bits] at hw
         omega
       refine ⟨z.toNat, by omega, ?_⟩
       have e0 : ((cs.drop i).take 1)[0]? = some (.int .u8 z) := by rw [e]; rfl
       rw [List.getElem?_take, if_pos (by omega), List.getElem?_drop, Nat.add_zero] at e0; rw [e0, show ((z.toNat : Nat) : Int) = z by omega]
     obtain ⟨f, hf⟩ := choose_lt hone; exact ⟨f, fun i hi => (hf i hi).1, fun i hi => (hf i hi).2⟩
   · cases h
set_option maxRecDepth 100000 in
theorem xzwi {fuel : Nat} {cs : List Value} {x : DataW H × List MemPlace} (h : DataW.trod enc Tryz.prog W base spare held fuel 24 cs = some x) :
   ∃ (f : Nat → Nat) (n : Int), (∀ i, i < 256 → f i < 256) ∧ (∀ i, i < 256 → cs[i]? = some (.int .u8 (f i : Nat))) ∧ cs[256]? = some (.int .i64 n) := by
 cases fuel with
 | zero => simp [DataW.trod] at h
 | succ k =>
   unfold DataW.trod at h; rw [Tryz.underlying24] at h; simp only at h
   split at h
   · obtain ⟨xs, hxs, _⟩ := Option.map_eq_some_iff.1 h
     have each := xziw hxs; obtain ⟨y0, hy0⟩ := each _ (List.mem_cons_self ..); obtain ⟨y1, hy1⟩ := each _ (List.mem_cons_of_mem _ (List.mem_cons_self ..)); simp only [xzkl, xzng, List.drop_zero] at hy0 hy1; obtain ⟨f, hf1, hf2⟩ := xzpn hy0; obtain ⟨n, e, _, _⟩ := DataW.trod_int Tryz.underlying3 hy1; refine ⟨f, n, hf1, fun i hi => ?_, ?_⟩
     · rw [← hf2 i hi, List.getElem?_take, if_pos hi]
     · have e0 : ((cs.drop 256).take 1)[0]? = some (.int .i64 n) := by rw [e]; rfl
       rwa [List.getElem?_take, if_pos (by omega), List.getElem?_drop, Nat.add_zero] at e0
   · cases h
theorem one_at {cs : List Value} {k : Nat} (h : k < cs.length) : (cs.drop k).take 1 = [cs[k]] := by
 rw [List.drop_eq_getElem_cons h]; rfl
set_option maxRecDepth 100000 in
theorem yzai {fuel : Nat} {cs : List Value} {x : DataW H × List MemPlace} (h : DataW.trod enc Tryz.prog W base spare held fuel 28 cs = some x) : ∃ D : Df, (∀ b, b < 256 → D.of b < 256) ∧ DfAt W D (.agg cs.toArray) := by
 obtain ⟨y0, y1, y2, n, _, hlen, f0, f1, f2⟩ := trod_struct3 Tryz.underlying28 h; rw [xzwh] at hlen; simp only [xzsf, xzpm, xzjs, List.drop_zero] at f0 f1 f2; obtain ⟨f, m, hf, hof, hn⟩ := xzwi f0; rw [one_at (by omega)] at f1 f2; obtain ⟨l1, g1⟩ := xzqp f1; obtain ⟨l2, g2⟩ := xzni f2; refine ⟨⟨f, m, l1, l2⟩, hf, cs[257], cs[258], ?_, g1, g2⟩
 congr 1
 apply Array.ext_getElem?
 intro i; rw [List.getElem?_toArray]
 by_cases hi : i < 259
 · rw [xzkd _ _ _ _ hi]
   unfold dfF
   by_cases h1 : i < 256
   · rw [if_pos h1, ← hof i h1, List.getElem?_take, if_pos (by omega)]
   · rw [if_neg h1]
     by_cases h2 : i = 256
     · subst h2
       rw [if_pos rfl, ← hn, List.getElem?_take, if_pos (by omega)]
     · rw [if_neg h2]
       by_cases h3 : i = 257
       · subst h3; rw [if_pos rfl, List.getElem?_eq_getElem]
       · have : i = 258 := by omega
         subst this; rw [if_neg h3, List.getElem?_eq_getElem]
 · rw [List.getElem?_eq_none (by omega), Array.getElem?_eq_none (by rw [xzad]; omega)]
set_option maxRecDepth 100000 in
theorem arg_df {r : Reach} {b0 : Nat} {v : Value} {d : DataW H} {ps : List MemPlace} (hval : Value.okWide Tryz.prog W r b0 28 v) (hd : DataW.Trod enc Tryz.prog W base spare held 28 v d ps) : ∃ D : Df, (∀ b, b < 256 → D.of b < 256) ∧ DfAt W D v := by
 obtain ⟨cs, rfl, _, _⟩ : ∃ cs, v = .agg cs ∧ cs.size = Tryz.prog.cellsOf 28 ∧ Row.okWide Tryz.prog W r b0 28 cs := by
   simpa [Value.okWide, Tryz.underlying28] using hval
 obtain ⟨fuel, hf⟩ := hd; obtain ⟨D, h1, h2⟩ := yzai hf; exact ⟨D, h1, by simpa [Value.cells] using h2⟩
set_option maxRecDepth 100000 in
theorem yzaj {r : Reach} {b0 : Nat} {v : Value} {d : DataW H} {ps : List MemPlace} (hval : Value.okWide Tryz.prog W r b0 9 v) (hd : DataW.Trod enc Tryz.prog W base spare held 9 v d ps) : ∃ s : ByteArray, v = .string s := by
 obtain ⟨s, rfl, _, _, _⟩ := Go.ChangeMaps.open_string Tryz.underlying9 hval hd; exact ⟨s, rfl⟩
end
end

section
open Go.RowKit

theorem IntsV.keep {W W' : World} {l : List Int} {v : Value} (h : IntsV W l v) (hk : ∀ b, v.ownBlock = some b → l ≠ [] → W'.heap[b]? = W.heap[b]?) : IntsV W' l v := by
 obtain ⟨A, c, rfl, hc, hs⟩ := h; refine ⟨A, c, rfl, hc, fun hne => ?_⟩; obtain ⟨b, o, rfl, hlt, hg⟩ := hs hne; have e := hk b rfl hne
 have hg' : ∀ (i : Nat) (h : i < l.length), W'.cell? ⟨b, o + i, none⟩ = some (.int .i64 l[i]) := fun i hi => (xzbf e).trans (hg i hi)
 exact ⟨b, o, rfl, World.block_lt_of_cell? W' ⟨b, o + 0, none⟩ (hg' 0 (List.length_pos_iff.2 hne)), hg'⟩
def Rows0 (ρ : Nat → Nat) (W : World) (L : List (List Int)) (hs : List Value) : Prop :=
 hs.length = L.length ∧ ∀ (i : Nat) (h : i < L.length), ∃ v, hs[i]? = some v ∧ v.oneCell' = true ∧ IntsV W L[i] v ∧ ∀ b, v.ownBlock = some b → L[i] ≠ [] → ρ b = 0 ∧ b < W.heap.size
theorem Rows0.keep {ρ : Nat → Nat} {W W' : World} {L : List (List Int)} {hs : List Value} (h : Rows0 ρ W L hs) (hz : W.heap.size ≤ W'.heap.size) (hk : ∀ b, b < W.heap.size → ρ b = 0 → W'.heap[b]? = W.heap[b]?) : Rows0 ρ W' L hs :=
 ⟨h.1, fun i hi => by
   obtain ⟨v, h1, h2, h3, h4⟩ := h.2 i hi
   exact ⟨v, h1, h2, h3.keep fun b hb hne => hk b (h4 b hb hne).2 (h4 b hb hne).1, fun b hb hne => ⟨(h4 b hb hne).1, by have := (h4 b hb hne).2; omega⟩⟩⟩
theorem Rows0.role {ρ ρ' : Nat → Nat} {W : World} {L : List (List Int)} {hs : List Value} (h : Rows0 ρ W L hs) (hr : ∀ b, b < W.heap.size → ρ b = 0 → ρ' b = 0) : Rows0 ρ' W L hs :=
 ⟨h.1, fun i hi => by
   obtain ⟨v, h1, h2, h3, h4⟩ := h.2 i hi
   exact ⟨v, h1, h2, h3, fun b hb hne => ⟨hr b (h4 b hb hne).2 (h4 b hb hne).1, (h4 b hb hne).2⟩⟩⟩
theorem Rows0.push {ρ : Nat → Nat} {W : World} {L : List (List Int)} {hs : List Value} (h : Rows0 ρ W L hs) {x : List Int} {v : Value} (h1 : v.oneCell' = true) (h2 : IntsV W x v) (h3 : ∀ b, v.ownBlock = some b → x ≠ [] → ρ b = 0 ∧ b < W.heap.size) : Rows0 ρ W (L ++ [x]) (hs ++ [v]) := by
 refine ⟨by simp [h.1], fun i hi => ?_⟩
 by_cases e : i < L.length
 · rw [List.getElem_append_left e, List.getElem?_append_left (by rw [h.1]; exact e)]
   exact h.2 i e
 · have : i = L.length := by simp at hi; omega
   subst this; rw [List.getElem_concat_length rfl]; exact ⟨v, by rw [← h.1, List.getElem?_concat_length], h1, h2, h3⟩
theorem xzsg {W : World} {B b : Nat} {t : TypeId} {x : Value} (h : BlkIs W b t #[x]) (hB : B ≤ b) : W.ownsRow B t 1 (.slice (some ⟨b, 0, none⟩) 1 1) 1 [x] :=
 ⟨rfl, .inr ⟨b, 1, #[x], rfl, hB, h, Nat.le_refl _, by unfold maxLen; decide, rfl, rfl⟩⟩
theorem xzmb {W : World} {B : Nat} {ρ : Nat → Nat} {v : Value} {L : List (List Int)} {hs : List Value} (h : W.ownsRow B 26 1 v L.length hs) (hr : Rows0 ρ W L hs) : RowsI W L v := by
 rcases h.2 with ⟨rfl, h0⟩ | ⟨g, cap, cur, rfl, h1, h2, h3, h4, _⟩
 · obtain rfl := List.eq_nil_of_length_eq_zero h0
   exact ⟨none, 0, rfl, ⟨by simp, by simp⟩, fun hne => absurd rfl hne⟩
 · refine ⟨_, cap, rfl, ⟨h3, by unfold maxLen at h4; omega⟩, fun _ => ⟨g, 0, rfl, (Array.getElem?_eq_some_iff.1 h2).1, fun i hi => ?_⟩⟩
   obtain ⟨v, e1, _, e3, _⟩ := hr.2 i hi; refine ⟨v, ?_, e3⟩; have := World.ownsRow.cells (g := g) h rfl i v e1; rw [Addr.add_lit] at this; exact this
theorem xzca {B : Nat} {W : World} {v : Value} {l : List Int} (hown : RowI B W v l) {b c : Nat} {x : Int} (hnew : W.cell? ⟨b, 0, none⟩ = some (.int .i64 x)) (hl : l.length + 1 ≤ 1073741824) (hB : B ≤ W.heap.size) :
   ∃ v' W', (Builtin.append_ #[26, 26] 26 #[v, .slice (some ⟨b, 0, none⟩) 1 c]).run Tryz.prog W = .ok v' W' ∧ RowI B W' v' (l ++ [x]) ∧ W.grownBy W' v.ownBlock ∧ RowI B W' v l ∧ (v'.ownBlock = v.ownBlock ∨ v'.ownBlock = some W.heap.size) := by
 obtain ⟨i0, hi0, hz0, hz1, hz2⟩ := info_parts xzcy
 have hnw : ∀ j u, [Value.int .i64 x][j]? = some u → W.cell? ((⟨b, 0, none⟩ : Addr).add j) = some u := fun j u hu => by
   cases j with
   | zero =>
     simp only [List.getElem?_cons_zero, Option.some.injEq] at hu; subst hu; rw [Addr.add_lit]; exact hnew
   | succ j => simp at hu
 have h1 : ∀ u ∈ [Value.int .i64 x], u.oneCell' = true := fun u hu => by rw [List.mem_singleton.1 hu]; rfl
 obtain ⟨v', W', hr, h2, h3, _, h4⟩ := run_append_own_at (P := Tryz.prog) (w := W) B 26 26 3 i0 _ 1 8 Tryz.underlying26 hi0 hz0 hz1 hz2 rfl (by decide) v l.length _ hown
   ⟨b, 0, none⟩ 1 c [.int .i64 x] rfl hnw h1 (by unfold maxLen; omega) (by omega) hB
 refine ⟨v', W', hr, ?_, h3, xzcj (P := Tryz.prog) Tryz.underlying26 hi0 hz0 hz1 hz2 hown rfl hnw h1 (by unfold maxLen; omega) (by omega) hr, h4⟩; unfold RowI; rw [List.map_append, List.length_append]; exact h2
end
end Go.Proofs.YtgngaaemkmdfaaaGreatDoor
