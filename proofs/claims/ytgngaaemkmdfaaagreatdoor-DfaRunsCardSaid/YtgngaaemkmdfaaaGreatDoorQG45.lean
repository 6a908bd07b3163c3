/-
 WHAT hackleref09.Trim ANSWERS: a contract. Condition: an automaton that may be.
-/
import Derived.Test.YtgngaaemkmdfaaaGreatDoorQG44
namespace Go.Proofs.YtgngaaemkmdfaaaGreatDoor
open Go.RowKit

attribute [local irreducible] FreeW textFrame

theorem xzxs (f : Nat → Nat) (n : Int) : Tryz.prog.built 28 [(0, .agg (clsC f n))] = some (dfC f n (.slice none 0 0) (.slice none 0 0)) := by kernel_rfl
theorem xzlf (f : Nat → Nat) (n : Int) (W : World) : DfAt W ⟨f, n, [], []⟩ (.agg (dfC f n (.slice none 0 0) (.slice none 0 0))) := ⟨.slice none 0 0, .slice none 0 0, rfl, ⟨none, 0, rfl, ⟨Nat.le_refl _, by decide⟩, fun h => absurd rfl h⟩, IntsV.nil W⟩
set_option maxRecDepth 20000 in
set_option maxHeartbeats 32000000 in
theorem xzmv (D : Df) (v : Value) (w : World) (h : DfAt w D v) (hm : MayD D) :
   Calls Tryz.prog 19 #[v] w fun e w' => ∃ v', e = .returned v' ∧ DfAt w' (trimP D) v' ∧ Below w.heap.size w w' := by
 have HAT := Lib.hid h; obtain ⟨vn, vt, rfl, hrn, hrt⟩ := h; obtain ⟨An, cn, rfl, hcn, hgn⟩ := hrn; obtain ⟨At, ct, rfl, hct, hgt⟩ := hrt; obtain ⟨W1, hbx, hsz, hb1, hx1⟩ := xzce D.of D.n (.slice An D.next.length cn) (.slice At D.tag.length ct) w; obtain ⟨w0, hw0⟩ : ∃ w0, W1.alloc (.cells df0 28) = w0 := ⟨_, rfl⟩
 have hs0 : w0.heap.size = w.heap.size + 2 := by rw [← hw0]; simp [hsz]
 have hb10 : Below W1.heap.size W1 w0 := by rw [← hw0]; exact (Below.refl _ _).alloc (Nat.le_refl _) _
 have hb0 : Below w.heap.size w w0 := hb1.trans (hb10.mono (by omega)); have hd0 := (DfB.of hx1).step hb10
 have hr0 : BlkIs w0 (w.heap.size + 1) 28 df0 := by rw [← hw0, ← hsz]; exact BlkIs.new _ _ _
 obtain ⟨W3, hW3⟩ : ∃ W3, w0.alloc (.cells df0 28) = W3 := ⟨_, rfl⟩
 have hb3 : Below w0.heap.size w0 W3 := by rw [← hW3]; exact (Below.refl _ _).alloc (Nat.le_refl _) _
 have hx3 : BlkIs W3 w0.heap.size 28 df0 := by rw [← hW3]; exact BlkIs.new _ _ _
 obtain ⟨W4, hsc, hx4, hw4⟩ := xzbb (P := Tryz.prog) hx3 (new := dfC D.of D.n (.slice none 0 0) (.slice none 0 0)) (by rw [xzad]; exact (xzad _ _ _ _).symm) (xzcd _ _ _ _ rfl rfl); have hb4 : Below w0.heap.size w0 W4 := hw4.2.1 _ _ (Nat.le_refl _) hb3
 have hs4 : W4.heap.size = w.heap.size + 3 := by rw [hw4.2.2, ← hW3]; simp [hs0]
 obtain ⟨dc, hdc⟩ : ∃ dc, dfC D.of D.n (.slice An D.next.length cn) (.slice At D.tag.length ct) = dc := ⟨_, rfl⟩; rw [hdc] at hbx HAT
 have hds : dc.size = 259 := by rw [← hdc]; exact xzad _ _ _ _
 rw [hdc]; have HDC := Lib.hid hdc; have hbd := xzxs D.of D.n; have hcs : (clsC D.of D.n).size = 257 := xzag _ _; have hd1s : (dfC D.of D.n (.slice none 0 0) (.slice none 0 0)).size = 259 := xzad _ _ _ _; obtain ⟨cl9, hcl⟩ : ∃ cl, clsC D.of D.n = cl := ⟨_, rfl⟩; obtain ⟨d1, hd1⟩ : ∃ d1, dfC D.of D.n (.slice none 0 0) (.slice none 0 0) = d1 := ⟨_, rfl⟩; obtain ⟨e0, he0⟩ : ∃ e0, df0 = e0 := ⟨_, rfl⟩; have z := zeroDr; rw [hcl, hd1] at hbd; rw [hd1] at hsc hd1s; rw [hcl] at hcs; rw [he0] at z hw0 hW3; have HCL := Lib.hid hcl; have HD1 := Lib.hid hd1; have HM := Lib.hid hm; have hfew := hm.few; have htl := hm.tags; have HG := Lib.hid (And.intro hgn hgt); have H0 := Lib.hid (And.intro hb0 (And.intro hd0 hr0)); have H4 := Lib.hid (And.intro hb4 (And.intro hx4 (And.intro hs0 hs4))); have H4D := Lib.hid (hd0.step hb4); have HLV := Lib.hid (xzms D _ W4 (HAT.out.step (hb0.trans (hb4.mono (by omega)))) hm); clear hb1 hx1 hb10 hb0 hd0 hr0 hb3 hx3 hx4 hw4 hb4 hgn hgt hdc hcl hd1 he0 hm hs4 hs0
 go_enter Tryz.func19, Tryz.ntmps19
 go_wp2_with (first
   | ((with_reducible refine xzam rfl (.tmp 12) ?_ ?_ H0.out.2.1 ?_); exact rfl; exact rfl; rw [HCL.out])
   | (refine xzaz rfl 28 _ rfl (cells := d1) (by refine (congrArg (Tryz.prog.built 28) ?_).trans hbd; kernel_rfl) ?_)
   | ((with_reducible refine xzbl (.tmp 1) ?_ ?_ H4D.out ?_ ?_); exact rfl; exact rfl; kernel_rfl; rw [HDC.out]))
 go_at_call 31
 refine HLV.out.mono ?_; rintro e u ⟨gl, rfl, hgl, hbl, hbu⟩; have hs04 := H4.out.2.2.1; have hs44 := H4.out.2.2.2; have hll := BlkIs.lt hbl
 have HU := Lib.hid (show Below w0.heap.size w0 u ∧ BlkIs u w0.heap.size 28 (dfC D.of D.n (.slice none 0 0) (.slice none 0 0)) ∧ BlkF u gl 4 D.next.length (fun i => .bool (lvB D i)) ∧ w0.heap.size + 1 ≤ gl ∧ gl < u.heap.size from
   ⟨H4.out.1.trans (hbu.mono (by omega)), (hbu.block _ (by omega)).trans H4.out.2.1, hbl, by omega, hll⟩)
 have husz : w.heap.size + 3 ≤ u.heap.size := by have := hbu.size; omega
 clear hbu hbl hgl hll HLV hs04 hs44 hbx hds hbd hcs hd1s hsc hW3 hw0 hsz
 by_cases hz : D.next.length = 0
 · have e1 : ((D.next.length : Int) == 0) = true := by simp [hz]
   have e1b : decide ((D.next.length : Int) = 0) = true := by simp [hz]
   have HE := Lib.hid (show trimP D = ⟨D.of, D.n, [], []⟩ by
     unfold trimP; rw [xzof fun h => by have := h.in; omega]; rfl)
   clear hz; obtain ⟨W9, hsc, hb9, hw9⟩ := xzbb (P := Tryz.prog) ((HU.out.1.block _ (by have := H4.out.2.2.1; omega)).trans H0.out.2.2) (new := dfC D.of D.n (.slice none 0 0) (.slice none 0 0)) (by rw [xzad]; exact (xzad _ _ _ _).symm) (xzcd _ _ _ _ rfl rfl); have hl9 := loadVarDr (DfB.of hb9); have hds : (dfC D.of D.n (.slice none 0 0) (.slice none 0 0)).size = 259 := xzad _ _ _ _
   have HB9 := Lib.hid (show DfAt W9 (trimP D) (.agg (dfC D.of D.n (.slice none 0 0) (.slice none 0 0))) ∧ Below w.heap.size w W9 from
     ⟨by rw [HE.out]; exact xzlf _ _ _, hw9.2.1 _ _ (by omega) (H0.out.1.trans (HU.out.1.mono (by have := H4.out.2.2.1; omega)))⟩)
   rw [HD1.out] at hsc hl9 hds HB9; have HX := Lib.hid (DfB.of HU.out.2.1); clear hb9 hw9
   go_wp2_with ((with_reducible refine xzbl (.tmp 3) ?_ ?_ HX.out ?_ ?_); exact rfl; exact rfl; kernel_rfl; rw [HD1.out])
   exact bodyPost_ret (xzab rfl rfl hl9) rfl ⟨_, rfl, HB9.out⟩
 have e1 : ((D.next.length : Int) == 0) = false := by simp; intro e; rw [e] at hz; exact hz rfl
 have e1b : decide ((D.next.length : Int) = 0) = false := by simp; intro e; rw [e] at hz; exact hz rfl
 have hpos : 0 < D.next.length := by omega
 have i0 : decide ((0 : Int) < (D.next.length : Int)) = true := by simp; omega
 have i0n : decide (0 < D.next.length) = true := by simp; omega
 have i0p : (0 : Int) < (D.next.length : Int) := by omega
 have hc0 := BlkF.cell HU.out.2.2.1 hpos; clear hz
 cases hl : lvB D 0 with
 | false =>
   have hl' : lvB D ((0 : Nat) : Int) = false := hl; rw [hl'] at hc0
   have HE := Lib.hid (show trimP D = ⟨D.of, D.n, [], []⟩ by
     unfold trimP; rw [xzof fun h => by rw [lvB_iff.2 h] at hl; cases hl]; rfl)
   clear hl hl'; obtain ⟨W9, hsc, hb9, hw9⟩ := xzbb (P := Tryz.prog) ((HU.out.1.block _ (by have := H4.out.2.2.1; omega)).trans H0.out.2.2) (new := dfC D.of D.n (.slice none 0 0) (.slice none 0 0)) (by rw [xzad]; exact (xzad _ _ _ _).symm) (xzcd _ _ _ _ rfl rfl); have hl9 := loadVarDr (DfB.of hb9); have hds : (dfC D.of D.n (.slice none 0 0) (.slice none 0 0)).size = 259 := xzad _ _ _ _
   have HB9 := Lib.hid (show DfAt W9 (trimP D) (.agg (dfC D.of D.n (.slice none 0 0) (.slice none 0 0))) ∧ Below w.heap.size w W9 from
     ⟨by rw [HE.out]; exact xzlf _ _ _, hw9.2.1 _ _ (by omega) (H0.out.1.trans (HU.out.1.mono (by have := H4.out.2.2.1; omega)))⟩)
   rw [HD1.out] at hsc hl9 hds HB9; have HX := Lib.hid (DfB.of HU.out.2.1); clear hb9 hw9
   go_wp2_with ((with_reducible refine xzbl (.tmp 3) ?_ ?_ HX.out ?_ ?_); exact rfl; exact rfl; kernel_rfl; rw [HD1.out])
   exact bodyPost_ret (xzab rfl rfl hl9) rfl ⟨_, rfl, HB9.out⟩
 | true =>
   have hl' : lvB D ((0 : Nat) : Int) = true := hl; rw [hl'] at hc0; have hL0 : Lv D 0 := lvB_iff.1 hl
   have hf0 : firstL D = [0] := by unfold firstL; rw [if_neg (by omega)]
   have HKF := Lib.hid (show keptL D = foundL (liveN D) [0] by rw [xzsk HM.out.wf hL0, hf0]); have HKI := Lib.hid (xzkp HM.out.wf); have HWL := Lib.hid (xzsi HM.out.wf)
   have hlen : (liveN D).length = D.next.length := by unfold liveN; rw [List.length_map]
   have HIN := Lib.hid (show InR (liveN D).length [0] from ⟨by simp, fun x hx => by simp at hx; omega⟩); obtain ⟨K, hK⟩ : ∃ K, keptL D = K := ⟨_, rfl⟩; rw [hK] at HKF HKI; have HKK := Lib.hid hK; have HLEN := Lib.hid hlen; obtain ⟨U5, hU5⟩ : ∃ U5, u.alloc (.cells #[.int .i64 0] 3) = U5 := ⟨_, rfl⟩
   have hs5 : U5.heap.size = u.heap.size + 1 := by rw [← hU5]; simp
   have hb5 : Below u.heap.size u U5 := by rw [← hU5]; exact (Below.refl _ _).alloc (Nat.le_refl _) _
   have HS0 := Lib.hid (show ∃ ρ S V, TqS w0 gl (cellsN D.next.length fun i => .bool (lvB D i)) w0.heap.size D.of D.n ρ S V U5 ∧ S.L = qTo (liveN D) [0] 0 ∧ S.R = (K.take 0).map (rowTk D K) ∧ S.T = (K.take 0).map (tagTk D) ∧ S.r = [] ∧ V.vr = .slice none 0 0 ∧ (.slice (some ⟨u.heap.size, 0, none⟩) 1 1 : Value) = V.vl from
     ⟨fun k => if k < w0.heap.size then 9 else if k = w0.heap.size then 1 else if k = gl then 7 else if k = u.heap.size then 2 else 0, ⟨[0], [], [], [], []⟩, ⟨.slice (some ⟨u.heap.size, 0, none⟩) 1 1, .slice none 0 0, .slice none 0 0, .slice none 0 0⟩,
       ⟨HU.out.1.trans (hb5.mono HU.out.1.size), Nat.le_refl _, fun _ => (hb5.block _ (by have := HU.out.2.2.2; omega)).trans HU.out.2.1, fun _ => by rw [← hU5]; exact xzsg (BlkIs.new u _ _) HU.out.1.size, fun _ => RowI.nil _ _, fun _ => World.ownsRow_nil _ _ _ _, fun _ => RowI.nil _ _, ⟨rfl, fun i h => absurd h (by simp)⟩,
         (hb5.block gl HU.out.2.2.2.2).trans HU.out.2.2.1, by have := HU.out.2.2.2; simp [show ¬ gl < w0.heap.size by omega, show gl ≠ w0.heap.size by omega], by simp, fun k hk => by simp [hk],
         ⟨fun k e => by
           have e' : u.heap.size = k := by injection e
           subst e'; have := HU.out.2.2.2
           simp [show ¬ u.heap.size < w0.heap.size by omega, show u.heap.size ≠ w0.heap.size by omega, show u.heap.size ≠ gl by omega], fun k e => by (cases e), fun k e => by (cases e), fun k e => by (cases e)⟩⟩,
       rfl, rfl, rfl, rfl, rfl, rfl⟩)
   have HD0 := Lib.hid (And.intro (show w.heap.size < w0.heap.size by have := H4.out.2.2.1; omega) H0.out.2.1.cells.2); have HDB := Lib.hid H0.out.2.1; have HBW := Lib.hid H0.out.1; clear hl hl' hL0 hf0 hK hlen hb5 hs5; obtain ⟨CL, hCL⟩ : ∃ CL, (cellsN D.next.length fun i => Value.bool (lvB D i)) = CL := ⟨_, rfl⟩; have HCB := Lib.hid (show ∀ W : World, BlkIs W gl 4 CL → ∀ x : Nat, x < D.next.length → W.cell? ⟨gl, x, none⟩ = some (.bool (lvB D x)) from fun W hW x hx => BlkF.cell (F := fun i => .bool (lvB D i)) (by rw [← hCL] at hW; exact hW) hx); rw [hCL] at HS0; clear hCL; go_wp2; clear hU5 hc0 i0 i0n i0p
   go_loopw [5, 6, 7, 8, 9, 10, 11] (fun sl si _ _ _ _ _ wr => ∃ ix : Nat, si = .int .i64 ix ∧ ix ≤ (qTo (liveN D) [0] ix).length ∧ Hid (∃ ρ S V, TqS w0 gl CL w0.heap.size D.of D.n ρ S V wr ∧ S.L = qTo (liveN D) [0] ix ∧ S.R = (K.take ix).map (rowTk D K) ∧ S.T = (K.take ix).map (tagTk D) ∧ S.r = [] ∧ V.vr = .slice none 0 0 ∧ sl = V.vl)) (fun _ si _ _ _ _ _ _ => D.next.length + 1 - (intOf si).toNat)
   case atStart => exact ⟨0, rfl, Nat.zero_le _, HS0⟩
   case round =>
     obtain ⟨ix, rfl, hi, HH⟩ := hrel; obtain ⟨w1, rfl⟩ : ∃ w1, w1 = wr := ⟨_, rfl⟩; obtain ⟨ρ, S, V, htq, hSL, hSR, hST, hSr, hVr, hsl⟩ := HH.out; obtain ⟨Al, cl1, el, _⟩ := xzar (htq.l fun h => h); rw [el] at hsl; subst hsl
     have hqn : S.L.length ≤ D.next.length := by rw [hSL, ← HLEN.out]; exact xzkn HWL.out HIN.out ix
     rw [← hSL] at hi
     by_cases hp : ix < S.L.length
     · have hk1 : IntKind.i64.wrap ((ix : Int) + 1) = ((ix + 1 : Nat) : Int) := by rw [IntKind.wrap_i64]; omega
       have hdl : decide ((ix : Int) < (S.L.length : Int)) = true := by simp; omega
       have hin := xzmd HWL.out HIN.out ix; rw [← hSL, HLEN.out] at hin; have hx0i := hin.2 _ (List.getElem_mem hp); obtain ⟨x0, hx0⟩ : ∃ x0 : Nat, S.L[ix] = (x0 : Nat) := ⟨S.L[ix].toNat, by omega⟩
       have hxn : x0 < D.next.length := by omega
       have hpq : ix < (qTo (liveN D) [0] ix).length := by rw [← hSL]; exact hp
       have hx0q : (qTo (liveN D) [0] ix)[ix] = (x0 : Nat) := by rw [← hx0]; simp only [hSL]
       have HKP := Lib.hid (show ∀ c, refQ D ix c <+: K from fun c => by
         rw [HKF.out]
         exact (yzbm hpq).trans (xzkm (liveN D) [0] (by rw [HLEN.out]; omega)))
       have HQ0 := Lib.hid (show refQ D ix 0 = S.L by rw [xzxq, hSL])
       have HIL := Lib.hid (show ∀ (c : Nat) (h : ix < (refQ D ix c).length), (refQ D ix c)[ix] = (x0 : Nat) from fun c h => by
         have hpp : qTo (liveN D) [0] ix <+: refQ D ix c := xzcs _ _; obtain ⟨z9, hz9⟩ := hpp; simp only [← hz9]
         rw [List.getElem_append_left hpq]; exact hx0q)
       have HLE := Lib.hid (show ∀ c, ix < (refQ D ix c).length from fun c => by
         have hpp : qTo (liveN D) [0] ix <+: refQ D ix c := xzcs _ _
         exact Nat.lt_of_lt_of_le hpq hpp.length_le)
       have hgd : D.next.getD x0 [] = D.next[x0] := by rw [List.getD_eq_getElem?_getD, List.getElem?_eq_getElem hxn]; rfl
       have hgn0 : D.next.getD ((qTo (liveN D) [0] ix)[ix]).toNat [] = D.next[x0] := by rw [hx0q, Int.toNat_natCast, hgd]
       have HQR := Lib.hid (show refQ D ix (D.next[x0]).length = qTo (liveN D) [0] (ix + 1) by
         have := yzbl hpq
         rwa [hgn0] at this)
       have HQS := Lib.hid (show ∀ (c : Nat) (hc : c < (D.next[x0]).length), refQ D ix (c + 1) = addQ (refQ D ix c) (if lvB D (D.next[x0])[c] then (D.next[x0])[c] else -1) from fun c hc => by
         have := xzxr (c := c) hpq (by rw [hgn0]; exact hc)
         simpa only [hgn0] using this)
       have hKi : K[ix]? = some (x0 : Int) := by
         have h1 := HKP.out 0; rw [HQ0.out] at h1; obtain ⟨z9, hz9⟩ := h1; rw [← hz9, List.getElem?_append_left hp, List.getElem?_eq_getElem hp, hx0]
       have HTK := Lib.hid (show K.take (ix + 1) = K.take ix ++ [(x0 : Int)] by
         obtain ⟨h9, e9⟩ := List.getElem?_eq_some_iff.1 hKi
         rw [List.take_succ_eq_append_getElem h9, e9])
       have HKL := Lib.hid (show ix + 1 ≤ (qTo (liveN D) [0] (ix + 1)).length by have := (xzix (liveN D) [0] ix).length_le; omega)
       have hxt : x0 < D.tag.length := by omega
       have i1 : decide ((x0 : Int) < (D.next.length : Int)) = true := by simp; omega
       have i2 : decide ((x0 : Int) < (D.tag.length : Int)) = true := by simp; omega
       obtain ⟨bn, on, rfl, hltn, hgr⟩ := HG.out.1 (by intro e; rw [e] at hxn; simp at hxn); obtain ⟨bt, ot, rfl, hltt, hgg⟩ := HG.out.2 (by intro e; rw [e] at hxt; simp at hxt); obtain ⟨vr, hrc, hrr⟩ := hgr x0 hxn; have hw0 : w.heap.size < w0.heap.size := HD0.out.1; have HTC := Lib.hid (show bt < w0.heap.size ∧ w0.cell? ⟨bt, ot + x0, none⟩ = some (.int .i64 D.tag[x0]) from ⟨by omega, (HBW.out.cell (p := ⟨bt, ot + x0, none⟩) hltt).trans (hgg x0 hxt)⟩); have hrin := (HM.out.rows _ (List.getElem_mem hxn)).2; have hrs := HM.out.short _ (List.getElem_mem hxn); have HRW := Lib.hid (show rowTk D K (x0 : Nat) = (D.next[x0]).map (numL K) by unfold rowTk; rw [Int.toNat_natCast, hgd]); have HTW := Lib.hid (show tagTk D (x0 : Nat) = D.tag[x0] by unfold tagTk; rw [Int.toNat_natCast, List.getD_eq_getElem?_getD, List.getElem?_eq_getElem hxt]; rfl); have HII := Lib.hid (And.intro i1 i2)
       have HLN := Lib.hid (show ∀ c, (refQ D ix c).length ≤ 600 from fun c => by
         have h1 := (HKP.out c).length_le; have h2 := xzbz _ _ HKI.out
         omega)
       have hi6 : ix < 600 := by omega
       have hixn : ix < D.next.length := by omega
       clear hgd hgn0 hKi hgr hgg hltt hx0 hx0q hpq hin hx0i; generalize D.next[x0] = r at *; generalize D.tag[x0] = tx at *
       obtain ⟨Ar, cr, rfl, hcr, hgrr⟩ : ∃ A c, vr = .slice A r.length c ∧ (r.length ≤ c ∧ c ≤ 9223372036854775807) ∧ (r ≠ [] → ∃ b o, A = some ⟨b, o, none⟩ ∧ b < w.heap.size ∧ ∀ (k : Nat) (h : k < r.length), w.cell? ⟨b, o + k, none⟩ = some (.int .i64 r[k])) := by
         obtain ⟨A, c, e, h8, h9⟩ := hrr; exact ⟨A, c, e, h8, h9⟩
       have HRC := Lib.hid (show bn < w0.heap.size ∧ w0.cell? ⟨bn, on + x0, none⟩ = some (.slice Ar r.length cr) from ⟨by omega, (HBW.out.cell (p := ⟨bn, on + x0, none⟩) hltn).trans hrc⟩); have HGRR := Lib.hid hgrr; have HRIN := Lib.hid hrin; have hrlen : r.length ≤ 256 := hrs
       have HJ0 := Lib.hid (show ∃ ρ9 S9 V9, TqS w0 gl CL w0.heap.size D.of D.n ρ9 S9 V9 w1 ∧ S9.L = refQ D ix 0 ∧ S9.R = (K.take ix).map (rowTk D K) ∧ S9.T = (K.take ix).map (tagTk D) ∧ S9.r = (r.take 0).map (numL K) ∧ (.slice Al S.L.length cl1 : Value) = V9.vl ∧ (.slice none 0 0 : Value) = V9.vr from
         ⟨ρ, S, V, htq, HQ0.out.symm, hSR, hST, by rw [hSr]; rfl, el.symm, hVr.symm⟩)
       clear htq hSR hST hSr hVr el hrr hrc hgrr hrin hrs hcr HH hSL hqn hltn; go_wp2; clear hdl i1 i2 hi hp
       go_loopw [5, 7, 8, 9, 10, 11] (fun sl sr sc _ _ _ wr => ∃ c : Nat, sc = .int .i64 c ∧ c ≤ r.length ∧ Hid (∃ ρ S V, TqS w0 gl CL w0.heap.size D.of D.n ρ S V wr ∧ S.L = refQ D ix c ∧ S.R = (K.take ix).map (rowTk D K) ∧ S.T = (K.take ix).map (tagTk D) ∧ S.r = (r.take c).map (numL K) ∧ sl = V.vl ∧ sr = V.vr)) (fun _ _ sc _ _ _ _ => r.length - (intOf sc).toNat)
       case atStart =>
         exact ⟨0, rfl, Nat.zero_le _, HJ0⟩
       case round =>
         obtain ⟨c, rfl, hc, HI⟩ := hrel; obtain ⟨w2, rfl⟩ : ∃ w2, w2 = wr := ⟨_, rfl⟩; obtain ⟨ρ2, S2, V2, htq2, hL2, hR2, hT2, hr2, hsl2, hsr2⟩ := HI.out; obtain ⟨bl, cl2, el2, eb2, hbl2, hlc2⟩ := RowI.spot (htq2.l fun h => h) (i := ix) (by rw [hL2]; exact HLE.out c); obtain ⟨Ar2, cr2, er2, _⟩ := xzar (htq2.r fun h => h); rw [el2] at hsl2; rw [er2] at hsr2; subst hsl2; subst hsr2; have hd2 := HDB.out.step htq2.below; obtain ⟨k256, k257, k258⟩ := hd2.cells; have hrowc := (htq2.below.cell (p := ⟨bn, on + x0, none⟩) HRC.out.1).trans HRC.out.2
         have hiL : ix < S2.L.length := by rw [hL2]; exact HLE.out c
         have hil : decide ((ix : Int) < (S2.L.length : Int)) = true := by simp; omega
         have hlx := hlc2 ix hiL
         have hlx2 : S2.L[ix] = (x0 : Nat) := by simp only [hL2]; exact HIL.out c _
         rw [hlx2] at hlx; have i1 := HII.out.1
         have hl600 : S2.L.length ≤ 600 := by rw [hL2]; exact HLN.out c
         have HRLN := Lib.hid (show S2.r.length = c by rw [hr2, List.length_map, List.length_take]; omega); have HTQ2 := Lib.hid htq2; have HE2 := Lib.hid (And.intro hL2 (And.intro hR2 (And.intro hT2 (And.intro hr2 (And.intro el2 er2))))); have HLC2 := Lib.hid hlc2
         have hk2 : IntKind.i64.wrap ((c : Int) + 1) = ((c + 1 : Nat) : Int) := by rw [IntKind.wrap_i64]; omega
         clear htq2 hL2 hR2 hT2 hr2 el2 er2 hlc2 hlx2 hd2 k256 k258 HI HJ0
         by_cases hq : c < r.length
         · have hdl2 : decide ((c : Int) < (r.length : Int)) = true := by simp; omega
           obtain ⟨br, or, rfl, hltr, hgx⟩ := HGRR.out (by intro e; rw [e] at hq; simp at hq); have hcx := (HTQ2.out.below.cell (p := ⟨br, or + c, none⟩) (by have := HD0.out.1; show br < _; omega)).trans ((HBW.out.cell (p := ⟨br, or + c, none⟩) hltr).trans (hgx c hq)); have hxin := HRIN.out _ (List.getElem_mem hq); have HQC := Lib.hid (HQS.out c hq); have HTC1 := Lib.hid (show (r.take (c + 1)).map (numL K) = (r.take c).map (numL K) ++ [numL K r[c]] by rw [List.take_succ_eq_append_getElem hq, List.map_append]; rfl); clear hgx; generalize r[c] = x at *; have HXI := Lib.hid hxin
           by_cases hlv : lvB D x = true
           · -- live
             have hlv0 := lvB_iff.1 hlv; obtain ⟨xn, rfl⟩ : ∃ xn : Nat, x = (xn : Nat) := ⟨x.toNat, by have := hlv0.in; omega⟩
             have hxnn : xn < D.next.length := by omega
             have q1 : decide ((xn : Int) ≥ 0) = true := by simp
             have q1b : decide ((0 : Int) ≤ (xn : Int)) = true := by simp
             have q2 : decide ((xn : Int) < (D.next.length : Int)) = true := by simp; omega
             have hbc := HCB.out w2 HTQ2.out.lv xn hxnn; rw [hlv] at hbc; rw [if_pos hlv] at HQC; have HLV1 := Lib.hid hlv0; clear hlv hlv0 hxin
             go_wp2_with fail
             go_region
             go_wp2_with fail
             go_region
             go_wp2; clear k257 hrowc hlx hcx hbc q1 q1b q2 hdl2 i1 hil; obtain ⟨w3, hw3⟩ : ∃ w3, w2.drew.drew = w3 := ⟨_, rfl⟩; have HTQ3 := Lib.hid (show TqS w0 gl CL w0.heap.size D.of D.n ρ2 S2 V2 w3 by rw [← hw3]; exact (HTQ2.out.step (Below.refl _ _).drew).step (Below.refl _ _).drew); have HLC3 := Lib.hid (show ∀ (j : Nat) (hj : j < S2.L.length), w3.cell? ⟨bl, j, none⟩ = some (.int .i64 S2.L[j]) from fun j hj => by rw [← hw3]; exact HLC2.out j hj); rw [hw3]; clear hw3
             have HND := Lib.hid (show S2.L.Nodup by
               rw [HE2.out.1]; have h1 := HKP.out c; obtain ⟨z9, hz9⟩ := h1; have h2 := HKI.out.1; rw [← hz9] at h2
               exact (List.nodup_append.1 h2).1)
             go_loopw [10, 11] (fun sk sj wr => ∃ j : Nat, sj = .int .i64 j ∧ sk = .int .i64 (numL (S2.L.take j) (xn : Nat)) ∧ j ≤ S2.L.length ∧ Hid (w3 = wr)) (fun _ sj _ => S2.L.length - (intOf sj).toNat)
             case atStart => exact ⟨0, rfl, by rw [List.take_zero, xziy (by simp)], Nat.zero_le _, Lib.hid rfl⟩
             case round =>
               obtain ⟨j, rfl, rfl, hj, HW⟩ := hrel; obtain rfl := HW.out
               by_cases hjj : j < S2.L.length
               · have hk3 : IntKind.i64.wrap ((j : Int) + 1) = ((j + 1 : Nat) : Int) := by rw [IntKind.wrap_i64]; omega
                 have hdl3 : decide ((j : Int) < (S2.L.length : Int)) = true := by simp; omega
                 have hcj := HLC3.out j hjj; have hnt := xzxp HND.out (xn : Int) hjj; generalize S2.L[j] = y at *
                 by_cases hy : y = (xn : Int)
                 · have q3 : (y == (xn : Int)) = true := by rw [beq_iff_eq]; exact hy
                   have q3b : decide (y = (xn : Int)) = true := decide_eq_true hy; rw [if_pos hy] at hnt; have HNT := Lib.hid hnt; clear hnt hy; go_wp2; exact ⟨⟨j + 1, rfl, by rw [HNT.out], hjj, Lib.hid (by trivial)⟩, by simp [intOf]; omega⟩
                 · have q3 : (y == (xn : Int)) = false := by rw [beq_eq_false_iff_ne]; exact hy
                   have q3b : decide (y = (xn : Int)) = false := decide_eq_false hy; rw [if_neg hy] at hnt; have HNT := Lib.hid hnt; clear hnt hy; go_wp2; exact ⟨⟨j + 1, rfl, by rw [HNT.out], hjj, Lib.hid (by trivial)⟩, by simp [intOf]; omega⟩
               · have hdl3 : decide ((j : Int) < (S2.L.length : Int)) = false := by simp; omega
                 obtain rfl : j = S2.L.length := by omega
                 rw [List.take_length]
                 by_cases hmem : (xn : Int) ∈ S2.L
                 · have hpre : S2.L <+: K := by rw [HE2.out.1]; exact HKP.out c
                   have hnum : numL S2.L (xn : Int) = numL K (xn : Int) := by
                     obtain ⟨z9, hz9⟩ := hpre; unfold numL; rw [if_pos hmem, if_pos (by rw [← hz9]; exact List.mem_append.2 (.inl hmem)), ← hz9, List.idxOf_append, if_pos hmem]
                   have hnn := (numL_at hmem).1
                   have q4 : decide (numL S2.L (xn : Int) < 0) = false := by rw [decide_eq_false_iff_not]; omega
                   rw [hnum] at q4 ⊢
                   have HLQ := Lib.hid (show S2.L = refQ D ix (c + 1) by
                     rw [HQC.out, ← HE2.out.1]; unfold addQ
                     rw [if_pos (.inr hmem)])
                   obtain ⟨kk, hkk⟩ : ∃ kk, numL K (xn : Int) = kk := ⟨_, rfl⟩; rw [hkk] at q4 HTC1 ⊢; clear hpre hnum hnn hmem hkk; have hrr9 := (HTQ3.out).addR (kk) (by have := HRLN.out; omega); obtain ⟨Ar9, cr9, Wr9, hrunR, ρr9, hr9⟩ := hrr9; rw [HE2.out.2.2.2.2.2] at hrunR
                   have HFIN := Lib.hid (show ∃ ρ S V, TqS w0 gl CL w0.heap.size D.of D.n ρ S V Wr9 ∧ S.L = refQ D ix (c + 1) ∧ S.R = (K.take ix).map (rowTk D K) ∧ S.T = (K.take ix).map (tagTk D) ∧ S.r = (r.take (c + 1)).map (numL K) ∧ .slice (some ⟨bl, 0, none⟩) S2.L.length cl2 = V.vl ∧ .slice Ar9 (S2.r.length + 1) cr9 = V.vr from
                     ⟨ρr9, _, _, hr9, HLQ.out, HE2.out.2.1, HE2.out.2.2.1, by rw [HTC1.out, ← HE2.out.2.2.2.1], HE2.out.2.2.2.2.1.symm, rfl⟩)
                   clear hr9
                   go_wp2_with (refine xzaj rfl _ _ 26 26 rfl rfl rfl hrunR ?_)
                   exact ⟨⟨c + 1, rfl, hq, HFIN⟩, by simp [intOf]; omega⟩
                 · have hnum : numL S2.L (xn : Int) = -1 := xziy hmem
                   rw [hnum]
                   have q4 : decide ((-1 : Int) < 0) = true := by decide
                   have HLQ := Lib.hid (show S2.L ++ [(xn : Int)] = refQ D ix (c + 1) by
                     rw [HQC.out, ← HE2.out.1]; unfold addQ
                     rw [if_neg (by simp [hmem])])
                   have hkk : numL K (xn : Int) = (S2.L.length : Nat) := xzwj HKI.out.1 (by rw [HLQ.out]; exact HKP.out (c + 1)); rw [hkk] at HTC1; clear hnum hmem hkk; obtain ⟨Aa9, ca9, Wa9, hrunA, ρa9, ha9⟩ := HTQ3.out.addL (xn : Nat) (by omega); rw [HE2.out.2.2.2.2.1] at hrunA; have HA9 := Lib.hid ha9; clear ha9; have hrr9 := (HA9.out).addR ((S2.L.length : Nat)) (by show S2.r.length + 1 ≤ _; have := HRLN.out; omega); obtain ⟨Ar9, cr9, Wr9, hrunR, ρr9, hr9⟩ := hrr9; rw [show ({ V2 with vl := .slice Aa9 (S2.L.length + 1) ca9 } : TqV).vr = .slice Ar2 S2.r.length cr2 from HE2.out.2.2.2.2.2] at hrunR
                   have HFIN := Lib.hid (show ∃ ρ S V, TqS w0 gl CL w0.heap.size D.of D.n ρ S V Wr9 ∧ S.L = refQ D ix (c + 1) ∧ S.R = (K.take ix).map (rowTk D K) ∧ S.T = (K.take ix).map (tagTk D) ∧ S.r = (r.take (c + 1)).map (numL K) ∧ .slice Aa9 (S2.L.length + 1) ca9 = V.vl ∧ .slice Ar9 (S2.r.length + 1) cr9 = V.vr from
                     ⟨ρr9, _, _, hr9, HLQ.out, HE2.out.2.1, HE2.out.2.2.1, by rw [HTC1.out, ← HE2.out.2.2.2.1], rfl, rfl⟩)
                   clear hr9
                   go_wp2_with (first
                     | (refine xzaj rfl _ _ 26 26 rfl rfl rfl hrunA ?_; clear hrunA)
                     | refine xzaj rfl _ _ 26 26 rfl rfl rfl hrunR ?_)
                   exact ⟨⟨c + 1, rfl, hq, HFIN⟩, by simp [intOf]; omega⟩
           · -- not live
             have hlf : lvB D x = false := by cases h : lvB D x with | true => exact absurd h hlv | false => rfl
             rw [if_neg hlv] at HQC
             have HLQ := Lib.hid (show S2.L = refQ D ix (c + 1) by
               rw [HQC.out, ← HE2.out.1]; unfold addQ
               rw [if_pos (.inl rfl)])
             have hkk : numL K x = -1 := xziy fun hm => by
               rw [← HKK.out] at hm; rw [lvB_iff.2 (kept_mem.1 hm).2] at hlf; cases hlf
             rw [hkk] at HTC1; have HTQ3 := Lib.hid (show TqS w0 gl CL w0.heap.size D.of D.n ρ2 S2 V2 w2.drew.drew from (HTQ2.out.step (Below.refl _ _).drew).step (Below.refl _ _).drew); have hrr9 := (HTQ3.out).addR (-1) (by have := HRLN.out; omega); obtain ⟨Ar9, cr9, Wr9, hrunR, ρr9, hr9⟩ := hrr9; rw [HE2.out.2.2.2.2.2] at hrunR
             have HFIN := Lib.hid (show ∃ ρ S V, TqS w0 gl CL w0.heap.size D.of D.n ρ S V Wr9 ∧ S.L = refQ D ix (c + 1) ∧ S.R = (K.take ix).map (rowTk D K) ∧ S.T = (K.take ix).map (tagTk D) ∧ S.r = (r.take (c + 1)).map (numL K) ∧ .slice (some ⟨bl, 0, none⟩) S2.L.length cl2 = V.vl ∧ .slice Ar9 (S2.r.length + 1) cr9 = V.vr from
               ⟨ρr9, _, _, hr9, HLQ.out, HE2.out.2.1, HE2.out.2.2.1, by rw [HTC1.out, ← HE2.out.2.2.2.1], HE2.out.2.2.2.2.1.symm, rfl⟩)
             clear hr9 hkk hlv
             by_cases hx0 : 0 ≤ x
             · obtain ⟨xn, rfl⟩ : ∃ xn : Nat, x = (xn : Nat) := ⟨x.toNat, by omega⟩
               have hxnn : xn < D.next.length := by omega
               have q1 : decide ((xn : Int) ≥ 0) = true := by simp
               have q1b : decide ((0 : Int) ≤ (xn : Int)) = true := by simp
               have q2 : decide ((xn : Int) < (D.next.length : Int)) = true := by simp; omega
               have hbc := HCB.out w2 HTQ2.out.lv xn hxnn; rw [hlf] at hbc; clear hlf hxin hx0
               go_wp2_with fail
               go_region
               go_wp2_with fail
               go_region
               go_wp2_with (refine xzaj rfl _ _ 26 26 rfl rfl rfl hrunR ?_)
               exact ⟨⟨c + 1, rfl, hq, HFIN⟩, by simp [intOf]; omega⟩
             · have q1 : decide (x ≥ 0) = false := by simp; omega
               have q1b : decide (0 ≤ x) = false := by simp; omega
               clear hlf hxin hx0
               go_wp2_with fail
               go_region
               go_wp2_with fail
               go_region
               go_wp2_with (refine xzaj rfl _ _ 26 26 rfl rfl rfl hrunR ?_)
               exact ⟨⟨c + 1, rfl, hq, HFIN⟩, by simp [intOf]; omega⟩
         · have hdl2 : decide ((c : Int) < (r.length : Int)) = false := by simp; omega
           obtain rfl : c = r.length := by omega
           have HTQ3 := Lib.hid (show TqS w0 gl CL w0.heap.size D.of D.n ρ2 S2 V2 w2.drew from HTQ2.out.step (Below.refl _ _).drew)
           have hRl : S2.R.length = ix ∧ S2.T.length = ix := by
             rw [HE2.out.2.1, HE2.out.2.2.1, List.length_map, List.length_map, List.length_take]; have h1 := (HKP.out r.length).length_le; have h2 := HLE.out r.length; omega
           obtain ⟨An9, cn9, Wn9, hrunN, ⟨ρn9, hn9⟩, ⟨yn9, hyn9⟩, hzn9⟩ := HTQ3.out.rowed (by omega); rw [HE2.out.2.2.2.2.2] at hrunN; obtain ⟨wk, hwk⟩ : ∃ wk, Wn9.setCell ⟨w0.heap.size, 257, none⟩ (.slice An9 (S2.R.length + 1) cn9) = wk := ⟨_, rfl⟩; rw [hwk] at hn9; obtain ⟨vn3, hvn3⟩ : ∃ v, V2.vn = v := ⟨_, rfl⟩; have k257b := (DfB.of (HTQ3.out.blk fun h => h)).cells.2.1; obtain ⟨S3, hS3⟩ : ∃ S3 : TqD, ({ S2 with R := S2.R ++ [S2.r], hn := S2.hn ++ [V2.vr], r := [] } : TqD) = S3 := ⟨_, rfl⟩; obtain ⟨V3, hV3⟩ : ∃ V3 : TqV, ({ V2 with vn := .slice An9 (S2.R.length + 1) cn9, vr := .slice none 0 0 } : TqV) = V3 := ⟨_, rfl⟩; rw [hS3, hV3] at hn9
           have HE3 := Lib.hid (show S3.L = refQ D ix r.length ∧ S3.R = (K.take (ix + 1)).map (rowTk D K) ∧ S3.T = (K.take ix).map (tagTk D) ∧ S3.r = [] ∧ V3.vr = .slice none 0 0 ∧ V3.vl = .slice (some ⟨bl, 0, none⟩) S2.L.length cl2 from by
             rw [← hS3, ← hV3]; refine ⟨HE2.out.1, ?_, HE2.out.2.2.1, rfl, rfl, HE2.out.2.2.2.2.1⟩
             show S2.R ++ [S2.r] = _
             rw [HTK.out, List.map_append, HE2.out.2.1, HE2.out.2.2.2.1, List.take_length, List.map_singleton, HRW.out])
           have HTQ := Lib.hid hn9
           have HNE := Lib.hid (show V3.vt.ownBlock ≠ some w0.heap.size from fun e => by
             have h1 := HTQ.out.ro.2.1 _ e; have h2 := HTQ.out.r0
             rw [h1] at h2; cases h2)
           have HOW := Lib.hid (show ∀ k, V3.vt.ownBlock = some k → k < wk.heap.size from fun k hk => (World.ownsRow.lt (HTQ.out.t fun h => h) k hk).2); have HSL := Lib.hid (show S3.T.length + 1 ≤ 1073741824 by rw [← hS3]; show S2.T.length + 1 ≤ _; omega)
           have HLC := Lib.hid (show ∀ u : World, Tn V3.vt.ownBlock wk u → u.cell? ⟨bl, ix, none⟩ = some (.int .i64 (x0 : Nat)) from fun u hu => by
             obtain ⟨b9, c9, e9, eb9, hlt9, hc9⟩ := RowI.spot (HTQ.out.l fun h => h) (i := ix) (by rw [HE3.out.1]; exact HLE.out _)
             have hbb : b9 = bl := by
               rw [HE3.out.2.2.2.2.2] at e9
               injection e9 with e9
               injection e9 with e9
               injection e9 with e9
               exact e9.symm
             subst hbb
             have hne9 : V3.vt.ownBlock ≠ some b9 := fun e => by
               have h1 := HTQ.out.ro.2.1 _ e; have h2 := HTQ.out.ro.1 _ eb9; rw [h1] at h2; cases h2
             have h5 : ix < S3.L.length := by rw [HE3.out.1]; exact HLE.out _
             have h4 := hc9 ix h5
             have h6 : S3.L[ix] = (x0 : Nat) := by
               have h7 := HIL.out r.length (HLE.out _); simp only [HE3.out.1]; exact h7
             rw [h6] at h4
             exact (xzbf (hu.2.1 b9 hlt9 hne9)).trans h4)
           have HSZ2 := Lib.hid (show S3.L.length = S2.L.length ∧ S2.L.length = S3.L.length by rw [← hS3]; exact ⟨rfl, rfl⟩); have HI3 := Lib.hid (And.intro hil (show decide ((x0 : Int) < (D.tag.length : Int)) = true from HII.out.2)); clear hn9 hS3 hV3 hRl hvn3
           go_wp2_with fail
           go_region
           go_wp2_with (refine xzaj rfl _ _ 25 25 rfl rfl rfl hrunN ?_)
           clear hrunN hyn9 hzn9 hwk k257 k257b hrowc hlx hdl2 i1
           refine xzaf 13 111 (fun u => Hid (Tn V3.vt.ownBlock wk u ∧ RowI w0.heap.size u V3.vt S3.T ∧ u.cell? ⟨w0.heap.size, 258, none⟩ = some V3.vt ∧ Below w0.heap.size w0 u)) (fun i u u' => (i = 11 → u.grownBy u' V3.vt.ownBlock ∧ RowI w0.heap.size u' V3.vt S3.T) ∧ (i ≠ 11 → Below u.heap.size u u'))
             (fun i v u => match i with
               | 0 => v = .pointer (some ⟨w0.heap.size, 258, none⟩)
               | 1 => v = V3.vt
               | 2 => v = .pointer (some ⟨w.heap.size, 258, none⟩)
               | 3 => v = .slice (some ⟨bt, ot, none⟩) D.tag.length ct
               | 4 => v = .slice (some ⟨bl, 0, none⟩) S2.L.length cl2
               | 5 => v = .int .i64 (ix : Nat)
               | 6 => v = .pointer (some ⟨bl, ix, none⟩)
               | 7 => v = .int .i64 (x0 : Nat)
               | 8 => v = .pointer (some ⟨bt, ot + x0, none⟩)
               | 9 => v = .int .i64 tx
               | 10 => ∃ b, v = .slice (some ⟨b, 0, none⟩) 1 1 ∧ u.cell? ⟨b, 0, none⟩ = some (.int .i64 tx) ∧ wk.heap.size ≤ b
               | 11 => RowI w0.heap.size u v (S3.T ++ [tx]) ∧ (v.ownBlock = V3.vt.ownBlock ∨ ∃ b, v.ownBlock = some b ∧ wk.heap.size ≤ b)
               | 12 => v = .pointer (some ⟨w0.heap.size, 258, none⟩)
               | _ => True) (by kernel_rfl) (by kernel_rfl) rfl (Lib.hid ⟨Tn.below (Below.refl _ _).drew, xzat (HTQ.out.t fun h => h) (fun _ _ => rfl), (DfB.of (HTQ.out.blk fun h => h)).cells.2.2, HTQ.out.below.drew⟩) ?_ ?_ ?_ ?_
           · intro i u u' hix hC hr
             by_cases hi8 : i = 11
             · obtain ⟨g1, g2⟩ := hr.1 hi8
               exact Lib.hid ⟨hC.out.1.trans (Tn.grown g1), g2, (xzbf ((Tn.grown g1).2.1 _ (World.block_lt_of_cell? u ⟨w0.heap.size, 258, none⟩ hC.out.2.2.1) HNE.out)).trans hC.out.2.2.1, (Tn.grown g1).2.2 _ _ hC.out.2.2.2.size (fun k hk => (World.ownsRow.lt hC.out.2.1 k hk).1) hC.out.2.2.2⟩
             · have hb := hr.2 hi8
               exact Lib.hid ⟨hC.out.1.trans (Tn.below hb), xzat hC.out.2.1 (fun k hk => hb.block k (World.ownsRow.lt hC.out.2.1 k hk).2), (hb.cell (p := ⟨w0.heap.size, 258, none⟩) (World.block_lt_of_cell? u ⟨w0.heap.size, 258, none⟩ hC.out.2.2.1)).trans hC.out.2.2.1, hC.out.2.2.2.trans (hb.mono hC.out.2.2.2.size)⟩
           · intro i j v u u' hix hj hne hv hr
             match i, hix, hne, hv with
             | 0, _, _, hv => exact hv
             | 1, _, _, hv => exact hv
             | 2, _, _, hv => exact hv
             | 3, _, _, hv => exact hv
             | 4, _, _, hv => exact hv
             | 5, _, _, hv => exact hv
             | 6, _, _, hv => exact hv
             | 7, _, _, hv => exact hv
             | 8, _, _, hv => exact hv
             | 9, _, _, hv => exact hv
             | 10, _, hne, hv =>
               obtain ⟨b, e1, e2, e3⟩ := hv; refine ⟨b, e1, ?_, e3⟩
               by_cases hj8 : j = 11
               · exact (xzbf ((hr.1 hj8).1.block b (World.block_lt_of_cell? u ⟨b, 0, none⟩ e2) (fun e => by have := HOW.out b e.symm; omega))).trans e2
               · exact ((hr.2 hj8).cell (p := ⟨b, 0, none⟩) (World.block_lt_of_cell? u ⟨b, 0, none⟩ e2)).trans e2
             | 11, _, hne, hv =>
               exact ⟨xzat hv.1 fun k hk => (hr.2 (Ne.symm hne)).block k (World.ownsRow.lt hv.1 k hk).2, hv.2⟩
             | 12, _, _, hv => exact hv
             | i + 13, hix, _, _ => omega
           · intro i hix vs u hC hw oq ho
             match i, hix, hw, ho with
             | 0, _, hw, ho =>
               simp only [zqa, zqb, zqh] at ho; subst ho; refine ⟨rfl, ?_⟩; have k258 := hC.out.2.2.1; have d258 := (hC.out.2.2.2.cell (p := ⟨w.heap.size, 258, none⟩) HD0.out.1).trans HD0.out.2.2; have tcl := (hC.out.2.2.2.cell (p := ⟨bt, ot + x0, none⟩) HTC.out.1).trans HTC.out.2; have ii1 := HI3.out.1; have ii2 := HI3.out.2; clear hw; simp only [xzaa, tmpsTo]; go_simp; exact zqi
             | 1, _, hw, ho =>
               have e0 : vs 0 = .pointer (some ⟨w0.heap.size, 258, none⟩) := hw 0 (by omega) (by kernel_rfl); simp only [zqa, zqb, zqc, zqh] at ho; subst ho; refine ⟨rfl, ?_⟩; have k258 := hC.out.2.2.1; have d258 := (hC.out.2.2.2.cell (p := ⟨w.heap.size, 258, none⟩) HD0.out.1).trans HD0.out.2.2; have tcl := (hC.out.2.2.2.cell (p := ⟨bt, ot + x0, none⟩) HTC.out.1).trans HTC.out.2; have ii1 := HI3.out.1; have ii2 := HI3.out.2; clear hw; simp only [xzaa, tmpsTo, putT, zqa, zqb, zqd, zqe, zqf, zqg]; rw [e0]; clear e0; go_simp; exact zqi
             | 2, _, hw, ho =>
               simp only [zqa, zqb, zqc, zqh] at ho; subst ho; refine ⟨rfl, ?_⟩; have k258 := hC.out.2.2.1; have d258 := (hC.out.2.2.2.cell (p := ⟨w.heap.size, 258, none⟩) HD0.out.1).trans HD0.out.2.2; have tcl := (hC.out.2.2.2.cell (p := ⟨bt, ot + x0, none⟩) HTC.out.1).trans HTC.out.2; have ii1 := HI3.out.1; have ii2 := HI3.out.2; clear hw; simp only [xzaa, tmpsTo, putT, zqa, zqb, zqc, zqd, zqe, zqf, zqg]; go_simp; exact zqi
             | 3, _, hw, ho =>
               have e2 : vs 2 = .pointer (some ⟨w.heap.size, 258, none⟩) := hw 2 (by omega) (by kernel_rfl); simp only [zqa, zqb, zqc, zqh] at ho; subst ho; refine ⟨rfl, ?_⟩; have k258 := hC.out.2.2.1; have d258 := (hC.out.2.2.2.cell (p := ⟨w.heap.size, 258, none⟩) HD0.out.1).trans HD0.out.2.2; have tcl := (hC.out.2.2.2.cell (p := ⟨bt, ot + x0, none⟩) HTC.out.1).trans HTC.out.2; have ii1 := HI3.out.1; have ii2 := HI3.out.2; clear hw; simp only [xzaa, tmpsTo, putT, zqa, zqb, zqc, zqd, zqe, zqf, zqg]; rw [e2]; clear e2; go_simp; exact zqi
             | 4, _, hw, ho =>
               simp only [zqa, zqb, zqc, zqh] at ho; subst ho; refine ⟨rfl, ?_⟩; have k258 := hC.out.2.2.1; have d258 := (hC.out.2.2.2.cell (p := ⟨w.heap.size, 258, none⟩) HD0.out.1).trans HD0.out.2.2; have tcl := (hC.out.2.2.2.cell (p := ⟨bt, ot + x0, none⟩) HTC.out.1).trans HTC.out.2; have ii1 := HI3.out.1; have ii2 := HI3.out.2; clear hw; simp only [xzaa, tmpsTo, putT, zqa, zqb, zqc, zqd, zqe, zqf, zqg]; go_simp; exact zqi
             | 5, _, hw, ho =>
               simp only [zqa, zqb, zqc, zqh] at ho; subst ho; refine ⟨rfl, ?_⟩; have k258 := hC.out.2.2.1; have d258 := (hC.out.2.2.2.cell (p := ⟨w.heap.size, 258, none⟩) HD0.out.1).trans HD0.out.2.2; have tcl := (hC.out.2.2.2.cell (p := ⟨bt, ot + x0, none⟩) HTC.out.1).trans HTC.out.2; have ii1 := HI3.out.1; have ii2 := HI3.out.2; clear hw; simp only [xzaa, tmpsTo, putT, zqa, zqb, zqc, zqd, zqe, zqf, zqg]; go_simp; exact zqi
             | 6, _, hw, ho =>
               have e4 : vs 4 = .slice (some ⟨bl, 0, none⟩) S2.L.length cl2 := hw 4 (by omega) (by kernel_rfl); have e5 : vs 5 = .int .i64 (ix : Nat) := hw 5 (by omega) (by kernel_rfl); simp only [zqa, zqb, zqc, zqh] at ho; subst ho; refine ⟨rfl, ?_⟩; have k258 := hC.out.2.2.1; have d258 := (hC.out.2.2.2.cell (p := ⟨w.heap.size, 258, none⟩) HD0.out.1).trans HD0.out.2.2; have tcl := (hC.out.2.2.2.cell (p := ⟨bt, ot + x0, none⟩) HTC.out.1).trans HTC.out.2; have ii1 := HI3.out.1; have ii2 := HI3.out.2; clear hw; simp only [xzaa, tmpsTo, putT, zqa, zqb, zqc, zqd, zqe, zqf, zqg]; rw [e4, e5]; clear e4 e5; go_simp; exact zqi
             | 7, _, hw, ho =>
               have e6 : vs 6 = .pointer (some ⟨bl, ix, none⟩) := hw 6 (by omega) (by kernel_rfl); simp only [zqa, zqb, zqc, zqh] at ho; subst ho; refine ⟨rfl, ?_⟩; have k258 := hC.out.2.2.1; have d258 := (hC.out.2.2.2.cell (p := ⟨w.heap.size, 258, none⟩) HD0.out.1).trans HD0.out.2.2; have tcl := (hC.out.2.2.2.cell (p := ⟨bt, ot + x0, none⟩) HTC.out.1).trans HTC.out.2; have ii1 := HI3.out.1; have ii2 := HI3.out.2; have lcl := HLC.out u hC.out.1; clear hw; simp only [xzaa, tmpsTo, putT, zqa, zqb, zqc, zqd, zqe, zqf, zqg]; rw [e6]; clear e6; go_simp; exact zqi
             | 8, _, hw, ho =>
               have e3 : vs 3 = .slice (some ⟨bt, ot, none⟩) D.tag.length ct := hw 3 (by omega) (by kernel_rfl); have e7 : vs 7 = .int .i64 (x0 : Nat) := hw 7 (by omega) (by kernel_rfl); simp only [zqa, zqb, zqc, zqh] at ho; subst ho; refine ⟨rfl, ?_⟩; have k258 := hC.out.2.2.1; have d258 := (hC.out.2.2.2.cell (p := ⟨w.heap.size, 258, none⟩) HD0.out.1).trans HD0.out.2.2; have tcl := (hC.out.2.2.2.cell (p := ⟨bt, ot + x0, none⟩) HTC.out.1).trans HTC.out.2; have ii1 := HI3.out.1; have ii2 := HI3.out.2; clear hw; simp only [xzaa, tmpsTo, putT, zqa, zqb, zqc, zqd, zqe, zqf, zqg]; rw [e3, e7]; clear e3 e7; go_simp; exact zqi
             | 9, _, hw, ho =>
               have e8 : vs 8 = .pointer (some ⟨bt, ot + x0, none⟩) := hw 8 (by omega) (by kernel_rfl); simp only [zqa, zqb, zqc, zqh] at ho; subst ho; refine ⟨rfl, ?_⟩; have k258 := hC.out.2.2.1; have d258 := (hC.out.2.2.2.cell (p := ⟨w.heap.size, 258, none⟩) HD0.out.1).trans HD0.out.2.2; have tcl := (hC.out.2.2.2.cell (p := ⟨bt, ot + x0, none⟩) HTC.out.1).trans HTC.out.2; have ii1 := HI3.out.1; have ii2 := HI3.out.2; clear hw; simp only [xzaa, tmpsTo, putT, zqa, zqb, zqc, zqd, zqe, zqf, zqg]; rw [e8]; clear e8; go_simp; exact zqi
             | 10, _, hw, ho =>
               have e9 : vs 9 = .int .i64 tx := hw 9 (by omega) (by kernel_rfl); simp only [zqa, zqb, zqc, zqh] at ho; subst ho; refine ⟨rfl, ?_⟩; have k258 := hC.out.2.2.1; have d258 := (hC.out.2.2.2.cell (p := ⟨w.heap.size, 258, none⟩) HD0.out.1).trans HD0.out.2.2; have tcl := (hC.out.2.2.2.cell (p := ⟨bt, ot + x0, none⟩) HTC.out.1).trans HTC.out.2; have ii1 := HI3.out.1; have ii2 := HI3.out.2; clear hw; simp only [xzaa, tmpsTo, putT, zqa, zqb, zqc, zqd, zqe, zqf, zqg]; rw [e9]; clear e9; go_simp; exact xzai ((Below.refl _ _).alloc (Nat.le_refl _) _) ⟨_, rfl, (BlkIs.new u 3 #[.int .i64 tx]).cell 0, hC.out.1.1⟩
             | 11, _, hw, ho =>
               have e1 : vs 1 = V3.vt := hw 1 (by omega) (by kernel_rfl); obtain ⟨b, e10, hb1, hb2⟩ : ∃ b, vs 10 = .slice (some ⟨b, 0, none⟩) 1 1 ∧ u.cell? ⟨b, 0, none⟩ = some (.int .i64 tx) ∧ wk.heap.size ≤ b := hw 10 (by omega) (by kernel_rfl); simp only [zqa, zqb, zqc, zqh] at ho; subst ho; refine ⟨rfl, ?_⟩; have k258 := hC.out.2.2.1; have d258 := (hC.out.2.2.2.cell (p := ⟨w.heap.size, 258, none⟩) HD0.out.1).trans HD0.out.2.2; have tcl := (hC.out.2.2.2.cell (p := ⟨bt, ot + x0, none⟩) HTC.out.1).trans HTC.out.2; have ii1 := HI3.out.1; have ii2 := HI3.out.2; clear hw; simp only [xzaa, tmpsTo, putT, zqa, zqb, zqc, zqd, zqe, zqf, zqg]; rw [e1]; clear e1; rw [e10]; obtain ⟨v', W', hrun, k1, k2, k3, k4⟩ := xzca hC.out.2.1 hb1 (c := 1) (by have := HSL.out; omega) (by have := hC.out.2.2.2.size; omega); rw [xzby (.tmp 98) (.tmp 107) 26 26 rfl rfl rfl hrun]; refine xzai ⟨fun _ => ⟨k2, k3⟩, fun h => absurd rfl h⟩ ⟨k1, ?_⟩
               rcases k4 with k4 | k4
               · exact .inl k4
               · exact .inr ⟨_, k4, hC.out.1.1⟩
             | 12, _, hw, ho =>
               simp only [zqa, zqb, zqc, zqh] at ho; subst ho; refine ⟨rfl, ?_⟩; have k258 := hC.out.2.2.1; have d258 := (hC.out.2.2.2.cell (p := ⟨w.heap.size, 258, none⟩) HD0.out.1).trans HD0.out.2.2; have tcl := (hC.out.2.2.2.cell (p := ⟨bt, ot + x0, none⟩) HTC.out.1).trans HTC.out.2; have ii1 := HI3.out.1; have ii2 := HI3.out.2; clear hw; simp only [xzaa, tmpsTo, putT, zqa, zqb, zqc, zqd, zqe, zqf, zqg]; go_simp; exact zqi
             | i + 13, hix, _, _ => omega
           intro vs2 u8 hC hV; obtain ⟨k1, k2⟩ : RowI w0.heap.size u8 (vs2 11) (S3.T ++ [tx]) ∧ ((vs2 11).ownBlock = V3.vt.ownBlock ∨ ∃ b, (vs2 11).ownBlock = some b ∧ wk.heap.size ≤ b) := hV 11 (by omega); have h12 : vs2 12 = .pointer (some ⟨w0.heap.size, 258, none⟩) := hV 12 (by omega); clear hV; simp only [xzaa, tmpsTo, putT, zqa, zqb, zqc, zqd, zqe, zqf, zqg, List.drop_succ_cons, List.drop_zero]; rw [h12]; clear h12; generalize vs2 11 = v11 at *; generalize vs2 0 = r0; generalize vs2 1 = r1; generalize vs2 2 = r2; generalize vs2 3 = r3; generalize vs2 4 = r4; generalize vs2 5 = r5; generalize vs2 6 = r6; generalize vs2 7 = r7; generalize vs2 8 = r8; generalize vs2 9 = r9; generalize vs2 10 = r10; generalize vs2 12 = r12; obtain ⟨⟨ρ3, htr3⟩, ⟨y8, hc8⟩, fz8⟩ := HTQ.out.pushT hC.out.1 k1 k2; obtain ⟨A8, c8, e8, _⟩ := xzar k1; rw [List.length_append, List.length_singleton] at e8; subst e8
           have HN := Lib.hid (show ∃ ρ S V, TqS w0 gl CL w0.heap.size D.of D.n ρ S V (u8.setCell ⟨w0.heap.size, 258, none⟩ (.slice A8 (S3.T.length + 1) c8)) ∧ S.L = qTo (liveN D) [0] (ix + 1) ∧ S.R = (K.take (ix + 1)).map (rowTk D K) ∧ S.T = (K.take (ix + 1)).map (tagTk D) ∧ S.r = [] ∧ V.vr = .slice none 0 0 ∧ (.slice (some ⟨bl, 0, none⟩) S2.L.length cl2 : Value) = V.vl from
             ⟨ρ3, _, _, htr3, by rw [← HQR.out]; exact HE3.out.1, HE3.out.2.1, by
               show S3.T ++ [tx] = _
               rw [HTK.out, List.map_append, HE3.out.2.2.1, List.map_singleton, HTW.out], HE3.out.2.2.2.1, HE3.out.2.2.2.2.1, HE3.out.2.2.2.2.2.symm⟩)
           clear htr3 k1 k2 hC; go_wp2; exact ⟨⟨ix + 1, rfl, HKL.out, HN⟩, by simp [intOf]; omega⟩
     · have hdl : decide ((ix : Int) < (S.L.length : Int)) = false := by simp; omega
       have hend : qTo (liveN D) [0] ix = K := by rw [HKF.out]; exact xzko HWL.out HIN.out (by rw [← hSL]; omega)
       have hKt : K.take ix = K := List.take_of_length_le (by rw [← hend, ← hSL]; omega); rw [hKt] at hSR hST; obtain ⟨An2, cn2, en2, _⟩ := xzar (htq.n fun h => h); obtain ⟨At2, ct2, et2, _⟩ := xzar (htq.t fun h => h); have hw0s : w0.heap.size = w.heap.size + 2 := H4.out.2.2.1; obtain ⟨W9, hsc, hb9, hw9⟩ := xzbb (P := Tryz.prog) ((htq.below.block _ (by omega)).trans H0.out.2.2) (new := dfC D.of D.n V.vn V.vt) (by rw [xzad]; exact (xzad _ _ _ _).symm) (xzcd _ _ _ _ (by rw [en2]; rfl) (by rw [et2]; rfl))
       have HDT := Lib.hid (show DfAt W9 (trimP D) (.agg (dfC D.of D.n V.vn V.vt)) ∧ Below w.heap.size w W9 from by
         refine ⟨?_, hw9.2.1 _ _ (by omega) (HBW.out.trans (htq.below.mono (by omega)))⟩; have := TqX.wrote htq (W' := W9) (Nat.le_of_eq hw9.2.2.symm) (fun b hb => hw9.1 b (by omega)); rw [hSR, hST] at this; rw [xzov, HKK.out]
         exact this)
       have hl9 := loadVarDr (DfB.of hb9); have hds : (dfC D.of D.n V.vn V.vt).size = 259 := xzad _ _ _ _; have HB8 := Lib.hid (DfB.of (htq.blk fun h => h)); obtain ⟨d9, hd9⟩ : ∃ d9, dfC D.of D.n V.vn V.vt = d9 := ⟨_, rfl⟩; rw [hd9] at hsc hl9 hds HDT; have HD9 := Lib.hid hd9; clear htq hb9 hw9 hd9 hSL hSR hST hSr hVr el hend hKt hw0s en2 et2
       go_wp2_with ((with_reducible refine xzbl (.tmp 3) ?_ ?_ HB8.out ?_ ?_); exact rfl; exact rfl; kernel_rfl; rw [HD9.out])
       exact bodyPost_ret (xzab rfl rfl hl9) rfl ⟨_, rfl, HDT.out⟩
end Go.Proofs.YtgngaaemkmdfaaaGreatDoor

