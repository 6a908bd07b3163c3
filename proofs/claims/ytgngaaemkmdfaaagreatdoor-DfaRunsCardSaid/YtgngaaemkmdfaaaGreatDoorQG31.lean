/-
 WHAT nfa's either ANSWERS: a contract. Condition: the parts' rows rise, below 2^20.
-/
import Derived.Test.YtgngaaemkmdfaaaGreatDoorQG28
import Derived.Test.YtgngaaemkmdfaaaGreatDoorQG10
namespace Go.Proofs.YtgngaaemkmdfaaaGreatDoor
section
open Go.RowKit

attribute [local irreducible] FreeW

def KB (K : Nat → Bool) (B n k : Nat) : Bool := K k || (decide (B ≤ k) && decide (k < B + n))
theorem KB_no {K : Nat → Bool} {B n k : Nat} : KB K B n k = false ↔ K k = false ∧ (k < B ∨ B + n ≤ k) := by
 unfold KB; simp only [Bool.or_eq_false_iff, Bool.and_eq_false_iff, decide_eq_false_iff_not, Nat.not_le, Nat.not_lt]
theorem xzww {K : Nat → Bool} {B n k : Nat} (h1 : B ≤ k) (h2 : k < B + n) : KB K B n k = true := by unfold KB; simp [h1, h2]
theorem KB_lt {K : Nat → Bool} {B n s : Nat} (hK : ∀ k, K k = true → k < B) (hs : B + n ≤ s) : ∀ k, KB K B n k = true → k < s := fun k h => by
 by_cases hk : K k = true
 · have := hK k hk; omega
 · unfold KB at h
   simp only [Bool.or_eq_true, Bool.and_eq_true, decide_eq_true_eq] at h
   rcases h with h | h
   · exact absurd h hk
   · omega
theorem xzcg {K : Nat → Bool} {W : World} {p : Addr} (hp : K p.block = true) (u : Value) : Sub (hide W K) (hide (W.setCell p u) K) := xzbi fun k h1 _ => ⟨h1, Below.heap_setCell _ _ _ _ (by intro e; rw [e, hp] at h1; cases h1)⟩
theorem KB_sub {K : Nat → Bool} {W : World} {B n : Nat} : Sub (hide W (KB K B n)) (hide W K) := xzbi fun _ h1 _ => ⟨(KB_no.1 h1).1, rfl⟩
theorem KB_up {K : Nat → Bool} {W W' : World} {B n : Nat} (hB : W.heap.size ≤ B) (hb : Below W.heap.size W W') : Sub (hide W K) (hide W' (KB K B n)) := xzbi fun k h1 h2 => ⟨KB_no.2 ⟨h1, .inl (by omega)⟩, hb.block k h2⟩

def PrtsAt (V W : World) (l : List Prt) (v : Value) : Prop := ∃ A c, v = .slice A l.length c ∧ (l.length ≤ c ∧ c ≤ 9223372036854775807) ∧
 (l ≠ [] → ∃ b o, A = some ⟨b, o, none⟩ ∧ ∀ (i : Nat) (h : i < l.length), ∃ v1 v2, W.cell? ⟨b, o + i * 3, none⟩ = some v1 ∧ W.cell? ⟨b, o + i * 3 + 1, none⟩ = some v2 ∧ W.cell? ⟨b, o + i * 3 + 2, none⟩ = some (.bool l[i].empty) ∧ IntsV V l[i].first v1 ∧ IntsV V l[i].ends v2)
theorem three {w : World} {g : Nat} {t : TypeId} {a b c : Value} (h : BlkIs w g t #[a, b, c]) : w.cell? ⟨g, 0, none⟩ = some a ∧ w.cell? ⟨g, 1, none⟩ = some b ∧ w.cell? ⟨g, 2, none⟩ = some c ∧
   w.frozen? ⟨g, 0, none⟩ = false ∧ w.frozen? ⟨g, 1, none⟩ = false ∧ w.frozen? ⟨g, 2, none⟩ = false := ⟨h.cell 0, h.cell 1, h.cell 2, h.frozen 0, h.frozen 1, h.frozen 2⟩

theorem xzth : (Tryz.prog.info? 96).map (·.size) = some 3 := by kernel_rfl
theorem xzen {w : World} {g : Nat} {t : TypeId} {a b c : Value} (h : BlkIs w g t #[a, b, c]) : (loadVar 96 ⟨g, 0, none⟩).run Tryz.prog w = .ok (.agg #[a, b, c]) w :=
 run_loadVar_mid (P := Tryz.prog) w g 0 96 [a, b, c] _ h.range Tryz.underlying96 rfl xzth
theorem xzdv {w : World} {g : Nat} {t : TypeId} {a b c x y z : Value} (h : BlkIs w g t #[a, b, c]) : BlkIs (((w.setCell ⟨g, 0, none⟩ x).setCell ⟨g, 1, none⟩ y).setCell ⟨g, 2, none⟩ z) g t #[x, y, z] := ((h.put 0 x).put 1 y).put 2 z
set_option maxRecDepth 20000 in
set_option maxHeartbeats 8000000 in
theorem xzti (l : List Prt) (v : Value) (w : World) (K : Nat → Bool) (n : Nat) (hK : ∀ k, K k = true → k < w.heap.size) (hv : PrtsAt (hide w K) w l v) (hok : ∀ p ∈ l, p.Ok n) (hn : n ≤ 1048576) :
   Calls Tryz.prog 66 #[v] w fun e w' => ∃ v', e = .returned v' ∧ PrtV (hide w' K) (eitherP ⟨[], [], false⟩ l) v' ∧ Below w.heap.size w w' := by
 obtain ⟨A, c, rfl, hc, hs⟩ := hv; have HS := Lib.hid hs; have hb1 : Below w.heap.size w (w.alloc (.cells #[.slice none 0 0, .slice none 0 0, .bool false] 96)) := (Below.refl _ _).alloc (Nat.le_refl _) _; have hx1 := BlkIs.new w 96 #[.slice none 0 0, .slice none 0 0, .bool false]; have hb2 := hb1.alloc hb1.size (.cells #[.slice none 0 0, .slice none 0 0, .bool false] 96); have hx2 := BlkIs.new (w.alloc (.cells #[.slice none 0 0, .slice none 0 0, .bool false] 96)) 96 #[.slice none 0 0, .slice none 0 0, .bool false]; have hx1' := hx1.alloc (.cells #[.slice none 0 0, .slice none 0 0, .bool false] 96); rw [World.size_alloc] at hx2; have H0 := Lib.hid (And.intro hb2 (And.intro hx1' hx2)); have HOK := Lib.hid (fun j => (show (eitherP ⟨[], [], false⟩ (l.take j)).Ok n from xzgz _ (Prt.Ok.nil _ _) fun p hp => hok p (List.mem_of_mem_take hp))); have HOJ := Lib.hid (fun (j : Nat) (h : j < l.length) => hok _ (List.getElem_mem h)); have HK := Lib.hid hK; clear hs hb1 hx1 hb2 hx2 hx1' hok hK
 go_enter Tryz.func66, Tryz.ntmps66
 go_wp2
 go_loopw [8] (fun i wr => ∃ j : Nat, i = .int .i64 j ∧ j ≤ l.length ∧ Hid (∃ a1 a2, Below w.heap.size w wr ∧ BlkIs wr w.heap.size 96 #[.slice none 0 0, .slice none 0 0, .bool false] ∧
   BlkIs wr (w.heap.size + 1) 96 #[a1, a2, .bool (eitherP ⟨[], [], false⟩ (l.take j)).empty] ∧ IntsV (hide wr (KB K w.heap.size 2)) (eitherP ⟨[], [], false⟩ (l.take j)).first a1 ∧ IntsV (hide wr (KB K w.heap.size 2)) (eitherP ⟨[], [], false⟩ (l.take j)).ends a2)) (fun i _ => l.length - (intOf i).toNat)
 case atStart => exact ⟨0, rfl, Nat.zero_le _, Lib.hid ⟨_, _, H0.out.1, H0.out.2.1, H0.out.2.2, IntsV.nil _, IntsV.nil _⟩⟩
 case round =>
   obtain ⟨j, rfl, hj, HH⟩ := hrel; obtain ⟨a1, a2, hw, hx1, hx2, hr1, hr2⟩ := HH.out; obtain ⟨d0, d1, d2, f0, f1, f2⟩ := three hx2
   by_cases hp : j < l.length
   · have hk1 : IntKind.i64.wrap ((j : Int) + 1) = ((j + 1 : Nat) : Int) := by rw [IntKind.wrap_i64]; omega
     have hdl : decide ((j : Int) < (l.length : Int)) = true := by simp; omega
     obtain ⟨b, o, rfl, hg⟩ := HS.out (by intro e; subst e; simp at hp); obtain ⟨q1, q2, hq0, hq1, hq2, hi1, hi2⟩ := hg j hp
     have hcl := fun p u (hu : w.cell? p = some u) => (hw.cell (World.block_lt_of_cell? w p hu)).trans hu
     have c0 := hcl _ _ hq0; have c1 := hcl _ _ hq1; have c2 := hcl _ _ hq2; have hso := HOK.out j; have hs1 := HOK.out (j + 1); have hpo := HOJ.out j hp
     have hsn : eitherP ⟨[], [], false⟩ (l.take (j + 1)) = orP (eitherP ⟨[], [], false⟩ (l.take j)) l[j] := by rw [List.take_succ_eq_append_getElem hp, xzha]
     generalize eitherP ⟨[], [], false⟩ (l.take j) = E at *; generalize l[j] = P at *; have HR := Lib.hid (And.intro (And.intro hr1 hr2) (And.intro hi1 hi2)); obtain ⟨X1, z1, rfl, _⟩ := hi1; obtain ⟨X2, z2, rfl, _⟩ := hi2; obtain ⟨X3, z3, rfl, _⟩ := hr1; obtain ⟨X4, z4, rfl, _⟩ := hr2; obtain ⟨W9, hW9⟩ : ∃ W9, wr.alloc (.cells #[.slice X1 P.first.length z1, .slice X2 P.ends.length z2, .bool P.empty] 96) = W9 := ⟨_, rfl⟩
     have hx9 : Below wr.heap.size wr W9 := by rw [← hW9]; exact (Below.refl _ _).alloc (Nat.le_refl _) _
     have hp9 : BlkIs W9 wr.heap.size 96 #[.slice X1 P.first.length z1, .slice X2 P.ends.length z2, .bool P.empty] := by rw [← hW9]; exact BlkIs.new _ _ _
     have HX := Lib.hid (And.intro (hw.trans (hx9.mono hw.size)) (And.intro (hx1.step hx9) (hx2.step hx9))); have HP9 := Lib.hid (And.intro hp9 hx9); obtain ⟨e0, e1, e2, g0, g1, g2⟩ := three hp9; clear d0 d1 d2 f0 f1 f2; obtain ⟨d0, d1, d2, f0, f1, f2⟩ := three HX.out.2.2; have hsp : w.heap.size + 2 ≤ wr.heap.size := hx2.lt; clear hp9 hx9 hw hx1 hx2 hg hcl hq0 hq1 hq2 HH
     go_wp2_with fail
     have hsz : w.heap.size + 2 ≤ W9.heap.size := by have := HX.out.2.2.lt; omega
     have hK2 := KB_lt (n := 2) HK.out hsz; have hup : Sub (hide w K) (hide W9 (KB K w.heap.size 2)) := KB_up (Nat.le_refl _) HX.out.1; have hst : Sub (hide wr (KB K w.heap.size 2)) (hide W9 (KB K w.heap.size 2)) := xzah _ HP9.out.2; have HM := Lib.hid (xzcf E.first P.first _ _ W9 _ hK2 (HR.out.1.1.sub hst) (HR.out.2.1.sub hup) (by have := xzay hso.1; have := xzay hpo.1; omega)); refine HM.out.mono ?_; rintro e u1 ⟨v1, rfl, hv1, hu1⟩; obtain ⟨U1, hU1⟩ : ∃ U1, u1.setCell ⟨w.heap.size + 1, 0, none⟩ v1 = U1 := ⟨_, rfl⟩
     have hput : Sub (hide u1 (KB K w.heap.size 2)) (hide U1 (KB K w.heap.size 2)) := by rw [← hU1]; exact xzcg (xzww (by show w.heap.size ≤ w.heap.size + 1; omega) (by show w.heap.size + 1 < w.heap.size + 2; omega)) v1
     have hbU : Below w.heap.size w U1 := by rw [← hU1]; exact (HX.out.1.trans (hu1.mono HX.out.1.size)).setCell (p := ⟨_, _, none⟩) (by show w.heap.size ≤ w.heap.size + 1; omega) _
     have hxU : BlkIs U1 w.heap.size 96 #[.slice none 0 0, .slice none 0 0, .bool false] := by rw [← hU1]; exact (HX.out.2.1.step hu1).far (by show w.heap.size ≠ w.heap.size + 1; omega) _
     have hyU : BlkIs U1 (w.heap.size + 1) 96 #[v1, .slice X4 E.ends.length z4, .bool E.empty] := by rw [← hU1]; exact (HX.out.2.2.step hu1).put 0 v1
     have hpU : BlkIs U1 wr.heap.size 96 #[.slice X1 P.first.length z1, .slice X2 P.ends.length z2, .bool P.empty] := by rw [← hU1]; exact (HP9.out.1.step hu1).far (by show wr.heap.size ≠ w.heap.size + 1; omega) _
     have HU := Lib.hid (And.intro hbU (And.intro hxU hyU)); have HV1 := Lib.hid (hv1.sub hput); have h1U : Sub (hide W9 (KB K w.heap.size 2)) (hide U1 (KB K w.heap.size 2)) := (xzah _ hu1).trans hput; have HS2 := Lib.hid (And.intro ((HR.out.1.2.sub hst).sub h1U) ((HR.out.2.2.sub hup).sub h1U)); clear d0 d1 d2 f0 f1 f2 e0 e1 e2 g0 g1 g2; obtain ⟨k0, k1, k2, l0, l1, l2⟩ := three ((HX.out.2.2.step hu1)); obtain ⟨X5, z5, rfl, _⟩ := hv1; clear hput hbU hxU h1U hu1 hup hst; obtain ⟨e0, e1, e2, g0, g1, g2⟩ := three hpU; obtain ⟨d0, d1, d2, f0, f1, f2⟩ := three hyU; have HPU := Lib.hid hpU; clear hpU hyU
     go_wp2_with fail
     have hszU : w.heap.size + 2 ≤ U1.heap.size := by have := HU.out.2.2.lt; omega
     have HM2 := Lib.hid (xzcf E.ends P.ends _ _ U1 _ (KB_lt (n := 2) HK.out hszU) HS2.out.1 HS2.out.2 (by have := xzay hso.2; have := xzay hpo.2; omega)); refine HM2.out.mono ?_; rintro e u2 ⟨v2, rfl, hv2, hu2⟩; obtain ⟨U2, hU2⟩ : ∃ U2, u2.setCell ⟨w.heap.size + 1, 1, none⟩ v2 = U2 := ⟨_, rfl⟩
     have hput : Sub (hide u2 (KB K w.heap.size 2)) (hide U2 (KB K w.heap.size 2)) := by rw [← hU2]; exact xzcg (xzww (by show w.heap.size ≤ w.heap.size + 1; omega) (by show w.heap.size + 1 < w.heap.size + 2; omega)) v2
     have hbU : Below w.heap.size w U2 := by rw [← hU2]; exact (HU.out.1.trans (hu2.mono HU.out.1.size)).setCell (p := ⟨_, _, none⟩) (by show w.heap.size ≤ w.heap.size + 1; omega) _
     have hxU : BlkIs U2 w.heap.size 96 #[.slice none 0 0, .slice none 0 0, .bool false] := by rw [← hU2]; exact (HU.out.2.1.step hu2).far (by show w.heap.size ≠ w.heap.size + 1; omega) _
     have hyU : BlkIs U2 (w.heap.size + 1) 96 #[.slice X5 (mergedL E.first P.first).length z5, v2, .bool E.empty] := by rw [← hU2]; exact (HU.out.2.2.step hu2).put 1 v2
     have hpU : BlkIs U2 wr.heap.size 96 #[.slice X1 P.first.length z1, .slice X2 P.ends.length z2, .bool P.empty] := by rw [← hU2]; exact (HPU.out.step hu2).far (by show wr.heap.size ≠ w.heap.size + 1; omega) _
     have HX2 := Lib.hid (And.intro hbU (And.intro hxU hyU)); have HV2 := Lib.hid (And.intro ((HV1.out.sub (xzah _ hu2)).sub hput) (hv2.sub hput)); clear d0 d1 d2 f0 f1 f2 e0 e1 e2 g0 g1 g2 k0 k1 k2 l0 l1 l2; obtain ⟨k0, k1, k2, l0, l1, l2⟩ := three ((HU.out.2.2.step hu2)); obtain ⟨X6, z6, rfl, _⟩ := hv2; obtain ⟨e0, e1, e2, g0, g1, g2⟩ := three hpU; obtain ⟨d0, d1, d2, f0, f1, f2⟩ := three hyU; have HSN := Lib.hid hsn; clear hput hbU hxU hu2 hpU hyU hsn
     have hend : ∀ x : Bool, x = (E.empty || P.empty) → ∃ a1 a2, Below w.heap.size w (U2.setCell ⟨w.heap.size + 1, 2, none⟩ (.bool x)) ∧ BlkIs (U2.setCell ⟨w.heap.size + 1, 2, none⟩ (.bool x)) w.heap.size 96 #[.slice none 0 0, .slice none 0 0, .bool false] ∧
         BlkIs (U2.setCell ⟨w.heap.size + 1, 2, none⟩ (.bool x)) (w.heap.size + 1) 96 #[a1, a2, .bool (eitherP ⟨[], [], false⟩ (l.take (j + 1))).empty] ∧ IntsV (hide (U2.setCell ⟨w.heap.size + 1, 2, none⟩ (.bool x)) (KB K w.heap.size 2)) (eitherP ⟨[], [], false⟩ (l.take (j + 1))).first a1 ∧
         IntsV (hide (U2.setCell ⟨w.heap.size + 1, 2, none⟩ (.bool x)) (KB K w.heap.size 2)) (eitherP ⟨[], [], false⟩ (l.take (j + 1))).ends a2 := fun x hx => by
       rw [HSN.out]; have hps : Sub (hide U2 (KB K w.heap.size 2)) (hide (U2.setCell ⟨w.heap.size + 1, 2, none⟩ (.bool x)) (KB K w.heap.size 2)) := xzcg (xzww (by show w.heap.size ≤ w.heap.size + 1; omega) (by show w.heap.size + 1 < w.heap.size + 2; omega)) _; refine ⟨_, _, HX2.out.1.setCell (p := ⟨_, _, none⟩) (by show w.heap.size ≤ w.heap.size + 1; omega) _, HX2.out.2.1.far (by show w.heap.size ≠ w.heap.size + 1; omega) _, ?_, HV2.out.1.sub hps, HV2.out.2.sub hps⟩; have := HX2.out.2.2.put 2 (.bool x); rw [hx] at this ⊢; exact this
     have HE := Lib.hid hend; clear hend
     cases hee : E.empty with
     | true =>
       rw [hee] at HE d2 k2; go_wp2; exact ⟨⟨j + 1, rfl, hp, Lib.hid (HE.out true (by simp))⟩, by simp [intOf]; omega⟩
     | false =>
       rw [hee] at HE d2 k2; go_wp2; exact ⟨⟨j + 1, rfl, hp, Lib.hid (HE.out P.empty (by simp))⟩, by simp [intOf]; omega⟩
   · have hdl : decide ((j : Int) < (l.length : Int)) = false := by simp; omega
     obtain rfl : j = l.length := by omega
     rw [List.take_length] at HH d2 hr1 hr2 hx2; have HR := Lib.hid (And.intro hr1 hr2); obtain ⟨X3, z3, rfl, _⟩ := hr1; obtain ⟨X4, z4, rfl, _⟩ := hr2; obtain ⟨k0, k1, k2, l0, l1, l2⟩ := three hx1; have HW := Lib.hid (And.intro hw hx1); have hb : w.heap.size < wr.heap.size := hx1.lt; clear HH hw hx1 hx2
     have HSU := Lib.hid (show ∀ x y z, Sub (hide wr (KB K w.heap.size 2)) (hide (((wr.setCell ⟨w.heap.size, 0, none⟩ x).setCell ⟨w.heap.size, 1, none⟩ y).setCell ⟨w.heap.size, 2, none⟩ z) K) ∧ Below w.heap.size w (((wr.setCell ⟨w.heap.size, 0, none⟩ x).setCell ⟨w.heap.size, 1, none⟩ y).setCell ⟨w.heap.size, 2, none⟩ z) from fun x y z => by
       have hy : KB K w.heap.size 2 w.heap.size = true := xzww (Nat.le_refl _) (by omega)
       exact ⟨(((xzcg (p := ⟨_, _, none⟩) hy x).trans (xzcg (p := ⟨_, _, none⟩) hy y)).trans (xzcg (p := ⟨_, _, none⟩) hy z)).trans KB_sub, ((HW.out.1.setCell (p := ⟨_, _, none⟩) (Nat.le_refl _) x).setCell (p := ⟨_, _, none⟩) (Nat.le_refl _) y).setCell (p := ⟨_, _, none⟩) (Nat.le_refl _) z⟩)
     go_wp2; have hl := xzen (xzdv (x := .slice X3 (eitherP ⟨[], [], false⟩ l).first.length z3) (y := .slice X4 (eitherP ⟨[], [], false⟩ l).ends.length z4) (z := .bool (eitherP ⟨[], [], false⟩ l).empty) HW.out.2); refine ⟨rfl, _, xzab rfl rfl hl, _, rfl, ?_, (HSU.out _ _ _).2⟩; exact ⟨_, _, rfl, HR.out.1.sub (HSU.out _ _ _).1, HR.out.2.sub (HSU.out _ _ _).1⟩
end

section
open Go.RowKit

attribute [local irreducible] FreeW textFrame

theorem IntsV.form {W : World} {l : List Int} {v : Value} (h : IntsV W l v) : ∃ A c, v = .slice A l.length c ∧ (l.length ≤ c ∧ c ≤ 9223372036854775807) := by
 obtain ⟨A, c, rfl, hc, _⟩ := h; exact ⟨A, c, rfl, hc⟩

set_option maxRecDepth 20000 in
set_option maxHeartbeats 16000000 in
theorem xztj (M K : Nat → Bool) (S : Mk) (E row : List Int) (ve vr : Value) (pb : Nat) (r f e m : Value) (w : World) (hm : MkAt M K w pb S r f e m) (he : IntsV (hide w (MK M K)) E ve) (hr : IntsV (hide w (MK M K)) row vr)
   (hS : S.Ok) (hE : risesB S.sets.length (-1) E = true) (hrow : risesB S.sets.length (-1) row = true) (hn : S.sets.length ≤ 1048576) (hM : ∀ k, M k = true → k < w.heap.size) (hK : ∀ k, K k = true → k < w.heap.size) :
   Calls Tryz.prog 84 #[.pointer (some ⟨pb, 0, none⟩), ve, vr] w fun x w' => ∃ y, x = .returned y ∧ Nx M M w w' ∧ MkAt M K w' pb ⟨S.sets, linkF S.follow E row⟩ r f e m := by
 obtain ⟨Ae, ce, rfl, hce⟩ := he.form; obtain ⟨Ar, cr, rfl, hcr⟩ := hr.form; have HE := Lib.hid he; have HR := Lib.hid hr; have H0 := Lib.hid hm; have HI := Lib.hid (fun (j : Nat) (h : j < E.length) => xzgw hE _ (List.getElem_mem h)); have HO := Lib.hid (fun j => xzgy (n := S.sets.length) (E.take j) hS.2 hrow); have HL := Lib.hid (fun j => (xzem (E.take j) S.follow row).trans hS.1); have HS := Lib.hid (fun (j : Nat) (h : j < E.length) => (show linkF S.follow (E.take (j + 1)) row = (linkF S.follow (E.take j) row).set E[j].toNat (mergedL ((linkF S.follow (E.take j) row).getD E[j].toNat []) row) by rw [List.take_succ_eq_append_getElem h]; exact xzkw row E[j] (E.take j) S.follow)); have HRO := Lib.hid (xzay hrow); have HMK := Lib.hid (fun k (h : MK M K k = true) => (show k < w.heap.size by unfold MK at h; simp only [Bool.or_eq_true] at h; rcases h with h | h; exact hM k h; exact hK k h)); clear he hr hm hE hrow hS hM hK
 go_enter Tryz.func84, Tryz.ntmps84
 go_wp2
 go_loopw [10] (fun i wr => ∃ j : Nat, i = .int .i64 j ∧ j ≤ E.length ∧ Hid (MkAt M K wr pb ⟨S.sets, linkF S.follow (E.take j) row⟩ r f e m ∧ Nx M M w wr)) (fun i _ => E.length - (intOf i).toNat)
 case atStart => exact ⟨0, rfl, Nat.zero_le _, Lib.hid ⟨H0.out, Nx.refl _ _⟩⟩
 case round =>
   obtain ⟨j, rfl, hj, HH⟩ := hrel
   by_cases hp : j < E.length
   · have hk1 : IntKind.i64.wrap ((j : Int) + 1) = ((j + 1 : Nat) : Int) := by rw [IntKind.wrap_i64]; omega
     have hdl : decide ((j : Int) < (E.length : Int)) = true := by simp; omega
     have hx := HI.out j hp; have hs := HS.out j hp; have ho := HO.out j; have hl := HL.out j; have hhm := HH.out.1
     have hne : E ≠ [] := by intro e; rw [e] at hp; simp at hp
     obtain ⟨be, oe, ce', h1, hre⟩ := HE.out.run hne
     injection h1 with h1 _ h2
     subst h1 h2; have hcell := (xzba _ _ ((hre.sub (HH.out.2.sub K)).2 j hp)); have HNX := Lib.hid HH.out.2; clear hre HH; generalize linkF S.follow (E.take j) row = F at *; generalize E[j] = x at *; obtain ⟨xn, rfl⟩ := Int.eq_ofNat_of_zero_le (show 0 ≤ x by omega)
     have hxn : xn < F.length := by omega
     have hxi : (xn : Int) < (F.length : Int) := by omega
     rw [Int.toNat_natCast] at hs
     have hgd : F.getD xn [] = F[xn] := by simp [hxn]
     rw [hgd] at hs; obtain ⟨vs, vf, xs, hmi⟩ := hhm; obtain ⟨g, c, rfl, hc, hg1, hg2, hg3, hg4⟩ := hmi.place (by intro e; have e : F = [] := e; rw [e] at hxn; simp at hxn); obtain ⟨A1, n1, c1, hy0, hy1, hy2⟩ := hg4 xn hxn; obtain ⟨A1', c1', h1, hcc1⟩ := hy2.form
     injection h1 with h1 h2 h3
     subst h1 h2 h3; simp only at hc hy2 hy0 hcc1; have HMI := Lib.hid hmi; have HC := Lib.hid (fun u (hu : Below wr.heap.size wr u) => And.intro (six (hmi.blk.step hu)) (show u.cell? ⟨g, xn, none⟩ = some (.slice A1 F[xn].length c1) from (hu.cell (p := ⟨g, xn, none⟩) hg3).trans hy0))
     have hfr : ∀ u, Below wr.heap.size wr u → u.frozen? ⟨g, xn, none⟩ = false := fun u hu => (hu.frozen (p := ⟨g, xn, none⟩) hg3).trans hy1
     have HFR := Lib.hid hfr; have hlen1 : F[xn].length ≤ S.sets.length := xzay (ho _ (List.getElem_mem hxn)); have HM := Lib.hid (fun u (hu : Below wr.heap.size wr u) => xzcf F[xn] row _ _ u (MK M K) (fun k hk => Nat.lt_of_lt_of_le (HMK.out k hk) (Nat.le_trans HNX.out.size hu.size)) (hy2.sub (xzah _ hu)) ((HR.out.sub (HNX.out.sub K)).sub (xzah _ hu)) (by have := HRO.out; omega)); have HSS := Lib.hid hs; have HG := Lib.hid (And.intro hg1 hg3); clear hmi hy0 hy1 hy2 hg4 hfr ho hs hgd hx hl hlen1 hg1 hg2 hg3
     go_wp2_with fail
     refine xzaf 17 32 (fun u => Hid (Below wr.heap.size wr u)) (fun _ u u' => Below u.heap.size u u')
       (fun i v u => match i with
         | 0 => v = .pointer (some ⟨pb, 0, none⟩)
         | 1 => v = .pointer (some ⟨pb, 0, none⟩)
         | 2 => v = .pointer (some ⟨pb, 0, none⟩)
         | 3 => v = .pointer (some ⟨pb, 3, none⟩)
         | 4 => v = .slice (some ⟨g, 0, none⟩) F.length c
         | 5 => v = .int .i64 (xn : Int)
         | 6 => v = .pointer (some ⟨pb, 0, none⟩)
         | 7 => v = .pointer (some ⟨pb, 0, none⟩)
         | 8 => v = .pointer (some ⟨pb, 0, none⟩)
         | 9 => v = .pointer (some ⟨pb, 3, none⟩)
         | 10 => v = .slice (some ⟨g, 0, none⟩) F.length c
         | 11 => v = .int .i64 (xn : Int)
         | 12 => v = .pointer (some ⟨g, xn, none⟩)
         | 13 => v = .slice A1 F[xn].length c1
         | 14 => v = .slice Ar row.length cr
         | 15 => IntsV (hide u (MK M K)) (mergedL F[xn] row) v
         | 16 => v = .pointer (some ⟨g, xn, none⟩)
         | _ => True) (by kernel_rfl) (by kernel_rfl) rfl (Lib.hid (Below.refl _ _).drew) ?_ ?_ ?_ ?_
     · intro i u u' hi hC hr
       exact Lib.hid (hC.out.trans (hr.mono hC.out.size))
     · intro i j v u u' hi hj hne hv hr
       match i, hi, hne, hv with
       | 0, _, _, hv => exact hv
       | 1, _, _, hv => exact hv
       | 2, _, _, hv => exact hv
       | 3, _, _, hv => exact hv
       | 4, _, _, hv => exact hv
       | 5, _, _, hv => exact hv
       | 6, _, _, hv => exact hv
       | 7, _, _, hv => exact hv
       | 8, _, _, hv => exact hv
       | 9, _, _, hv => exact hv
       | 10, _, _, hv => exact hv
       | 11, _, _, hv => exact hv
       | 12, _, _, hv => exact hv
       | 13, _, _, hv => exact hv
       | 14, _, _, hv => exact hv
       | 15, _, hne, hv =>
         exact hv.sub (xzah _ hr)
       | 16, _, _, hv => exact hv
       | i + 17, hi, _, _ => omega
     · intro i hi vs u hC hw o ho
       match i, hi, hw, ho with
       | 0, _, hw, ho =>
         simp only [zqa, zqb, zqh] at ho; subst ho; refine ⟨rfl, ?_⟩; obtain ⟨⟨k0, k1, k2, k3, k4, k5⟩, y0⟩ := HC.out u hC.out; clear hw; simp only [xzaa, tmpsTo]; go_simp; exact zqi
       | 1, _, hw, ho =>
         have e0 : vs 0 = .pointer (some ⟨pb, 0, none⟩) := hw 0 (by omega) (by kernel_rfl); simp only [zqa, zqb, zqc, zqh] at ho; subst ho; refine ⟨rfl, ?_⟩; obtain ⟨⟨k0, k1, k2, k3, k4, k5⟩, y0⟩ := HC.out u hC.out; clear hw; simp only [xzaa, tmpsTo, putT, zqa, zqb, zqd, zqe, zqf, zqg]; rw [e0]; clear e0; go_simp; exact zqi
       | 2, _, hw, ho =>
         have e1 : vs 1 = .pointer (some ⟨pb, 0, none⟩) := hw 1 (by omega) (by kernel_rfl); simp only [zqa, zqb, zqc, zqh] at ho; subst ho; refine ⟨rfl, ?_⟩; obtain ⟨⟨k0, k1, k2, k3, k4, k5⟩, y0⟩ := HC.out u hC.out; clear hw; simp only [xzaa, tmpsTo, putT, zqa, zqb, zqc, zqd, zqe, zqf, zqg]; rw [e1]; clear e1; go_simp; exact zqi
       | 3, _, hw, ho =>
         have e2 : vs 2 = .pointer (some ⟨pb, 0, none⟩) := hw 2 (by omega) (by kernel_rfl); simp only [zqa, zqb, zqc, zqh] at ho; subst ho; refine ⟨rfl, ?_⟩; obtain ⟨⟨k0, k1, k2, k3, k4, k5⟩, y0⟩ := HC.out u hC.out; clear hw; simp only [xzaa, tmpsTo, putT, zqa, zqb, zqc, zqd, zqe, zqf, zqg]; rw [e2]; clear e2; go_simp; exact zqi
       | 4, _, hw, ho =>
         have e3 : vs 3 = .pointer (some ⟨pb, 3, none⟩) := hw 3 (by omega) (by kernel_rfl); simp only [zqa, zqb, zqc, zqh] at ho; subst ho; refine ⟨rfl, ?_⟩; obtain ⟨⟨k0, k1, k2, k3, k4, k5⟩, y0⟩ := HC.out u hC.out; clear hw; simp only [xzaa, tmpsTo, putT, zqa, zqb, zqc, zqd, zqe, zqf, zqg]; rw [e3]; clear e3; go_simp; exact zqi
       | 5, _, hw, ho =>
         simp only [zqa, zqb, zqc, zqh] at ho; subst ho; refine ⟨rfl, ?_⟩; obtain ⟨⟨k0, k1, k2, k3, k4, k5⟩, y0⟩ := HC.out u hC.out; clear hw; simp only [xzaa, tmpsTo, putT, zqa, zqb, zqc, zqd, zqe, zqf, zqg]; go_simp; exact zqi
       | 6, _, hw, ho =>
         simp only [zqa, zqb, zqc, zqh] at ho; subst ho; refine ⟨rfl, ?_⟩; obtain ⟨⟨k0, k1, k2, k3, k4, k5⟩, y0⟩ := HC.out u hC.out; clear hw; simp only [xzaa, tmpsTo, putT, zqa, zqb, zqc, zqd, zqe, zqf, zqg]; go_simp; exact zqi
       | 7, _, hw, ho =>
         have e6 : vs 6 = .pointer (some ⟨pb, 0, none⟩) := hw 6 (by omega) (by kernel_rfl); simp only [zqa, zqb, zqc, zqh] at ho; subst ho; refine ⟨rfl, ?_⟩; obtain ⟨⟨k0, k1, k2, k3, k4, k5⟩, y0⟩ := HC.out u hC.out; clear hw; simp only [xzaa, tmpsTo, putT, zqa, zqb, zqc, zqd, zqe, zqf, zqg]; rw [e6]; clear e6; go_simp; exact zqi
       | 8, _, hw, ho =>
         have e7 : vs 7 = .pointer (some ⟨pb, 0, none⟩) := hw 7 (by omega) (by kernel_rfl); simp only [zqa, zqb, zqc, zqh] at ho; subst ho; refine ⟨rfl, ?_⟩; obtain ⟨⟨k0, k1, k2, k3, k4, k5⟩, y0⟩ := HC.out u hC.out; clear hw; simp only [xzaa, tmpsTo, putT, zqa, zqb, zqc, zqd, zqe, zqf, zqg]; rw [e7]; clear e7; go_simp; exact zqi
       | 9, _, hw, ho =>
         have e8 : vs 8 = .pointer (some ⟨pb, 0, none⟩) := hw 8 (by omega) (by kernel_rfl); simp only [zqa, zqb, zqc, zqh] at ho; subst ho; refine ⟨rfl, ?_⟩; obtain ⟨⟨k0, k1, k2, k3, k4, k5⟩, y0⟩ := HC.out u hC.out; clear hw; simp only [xzaa, tmpsTo, putT, zqa, zqb, zqc, zqd, zqe, zqf, zqg]; rw [e8]; clear e8; go_simp; exact zqi
       | 10, _, hw, ho =>
         have e9 : vs 9 = .pointer (some ⟨pb, 3, none⟩) := hw 9 (by omega) (by kernel_rfl); simp only [zqa, zqb, zqc, zqh] at ho; subst ho; refine ⟨rfl, ?_⟩; obtain ⟨⟨k0, k1, k2, k3, k4, k5⟩, y0⟩ := HC.out u hC.out; clear hw; simp only [xzaa, tmpsTo, putT, zqa, zqb, zqc, zqd, zqe, zqf, zqg]; rw [e9]; clear e9; go_simp; exact zqi
       | 11, _, hw, ho =>
         simp only [zqa, zqb, zqc, zqh] at ho; subst ho; refine ⟨rfl, ?_⟩; obtain ⟨⟨k0, k1, k2, k3, k4, k5⟩, y0⟩ := HC.out u hC.out; clear hw; simp only [xzaa, tmpsTo, putT, zqa, zqb, zqc, zqd, zqe, zqf, zqg]; go_simp; exact zqi
       | 12, _, hw, ho =>
         have e10 : vs 10 = .slice (some ⟨g, 0, none⟩) F.length c := hw 10 (by omega) (by kernel_rfl); have e11 : vs 11 = .int .i64 (xn : Int) := hw 11 (by omega) (by kernel_rfl); simp only [zqa, zqb, zqc, zqh] at ho; subst ho; refine ⟨rfl, ?_⟩; obtain ⟨⟨k0, k1, k2, k3, k4, k5⟩, y0⟩ := HC.out u hC.out; clear hw; simp only [xzaa, tmpsTo, putT, zqa, zqb, zqc, zqd, zqe, zqf, zqg]; rw [e10, e11]; clear e10 e11; go_simp; exact zqi
       | 13, _, hw, ho =>
         have e12 : vs 12 = .pointer (some ⟨g, xn, none⟩) := hw 12 (by omega) (by kernel_rfl); simp only [zqa, zqb, zqc, zqh] at ho; subst ho; refine ⟨rfl, ?_⟩; obtain ⟨⟨k0, k1, k2, k3, k4, k5⟩, y0⟩ := HC.out u hC.out; clear hw; simp only [xzaa, tmpsTo, putT, zqa, zqb, zqc, zqd, zqe, zqf, zqg]; rw [e12]; clear e12; go_simp; exact zqi
       | 14, _, hw, ho =>
         simp only [zqa, zqb, zqc, zqh] at ho; subst ho; refine ⟨rfl, ?_⟩; obtain ⟨⟨k0, k1, k2, k3, k4, k5⟩, y0⟩ := HC.out u hC.out; clear hw; simp only [xzaa, tmpsTo, putT, zqa, zqb, zqc, zqd, zqe, zqf, zqg]; go_simp; exact zqi
       | 15, _, hw, ho =>
         have e13 : vs 13 = .slice A1 F[xn].length c1 := hw 13 (by omega) (by kernel_rfl); have e14 : vs 14 = .slice Ar row.length cr := hw 14 (by omega) (by kernel_rfl); simp only [zqa, zqb, zqc, zqh] at ho; subst ho; refine ⟨rfl, ?_⟩; obtain ⟨⟨k0, k1, k2, k3, k4, k5⟩, y0⟩ := HC.out u hC.out; clear hw; simp only [xzaa, tmpsTo, putT, zqa, zqb, zqc, zqd, zqe, zqf, zqg]; rw [e13, e14]; clear e13 e14; go_simp; refine xzas ((HM.out u hC.out).mono ?_); rintro e u' ⟨v', rfl, h1, h2⟩; exact ⟨v', rfl, h2, h1⟩
       | 16, _, hw, ho =>
         have e4 : vs 4 = .slice (some ⟨g, 0, none⟩) F.length c := hw 4 (by omega) (by kernel_rfl); have e5 : vs 5 = .int .i64 (xn : Int) := hw 5 (by omega) (by kernel_rfl); simp only [zqa, zqb, zqc, zqh] at ho; subst ho; refine ⟨rfl, ?_⟩; obtain ⟨⟨k0, k1, k2, k3, k4, k5⟩, y0⟩ := HC.out u hC.out; clear hw; simp only [xzaa, tmpsTo, putT, zqa, zqb, zqc, zqd, zqe, zqf, zqg]; rw [e4, e5]; clear e4 e5; go_simp; exact zqi
       | i + 17, hi, _, _ => omega
     intro vs1 u hC hV; obtain ⟨v15, h15⟩ : ∃ v, vs1 15 = v := ⟨_, rfl⟩; have hv : IntsV (hide u (MK M K)) (mergedL F[xn] row) (vs1 15) := hV 15 (by omega); have hv16 : vs1 16 = .pointer (some ⟨g, xn, none⟩) := hV 16 (by omega); rw [h15] at hv; have HV := Lib.hid hv; obtain ⟨A9, c9, rfl, _⟩ := hv.form; have HCO := Lib.hid hC.out; have hfz := HFR.out u hC.out; have hcl := (HC.out u hC.out).2; clear hV hv hC; simp only [xzaa, tmpsTo, putT, zqa, zqb, zqc, zqd, zqe, zqf, zqg, List.drop_succ_cons, List.drop_zero]; rw [h15, hv16]; clear h15 hv16; generalize vs1 0 = q0; go_wp2; refine ⟨⟨j + 1, rfl, hp, Lib.hid ⟨?_, ?_⟩⟩, by simp [intOf]; omega⟩
     · rw [HSS.out]
       exact ⟨_, _, _, (HMI.out.step HCO.out).put xn HV.out⟩
     · exact HNX.out.trans ((Nx.below HCO.out).trans (Nx.put (M := M) (p := ⟨g, xn, none⟩) HG.out.1 _))
   · have hdl : decide ((j : Int) < (E.length : Int)) = false := by simp; omega
     obtain rfl : j = E.length := by omega
     rw [List.take_length] at HH; go_wp2
     go_end0
     exact ⟨_, rfl, HH.out.2, HH.out.1⟩
end
end Go.Proofs.YtgngaaemkmdfaaaGreatDoor
