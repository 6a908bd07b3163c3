/-
  WHAT nfa's either ANSWERS: a contract. Condition: the parts' rows rise, below 2^20.
-/
import Derived.Test.YtojejnjjenmfaaaQBd2
namespace Go.Proofs.Ytojejnjjenmfaaa
open Go.RowKit

attribute [local irreducible] FreeW

/-- K, and n blocks more from B on -/
def KB (K : Nat → Bool) (B n k : Nat) : Bool := K k || (decide (B ≤ k) && decide (k < B + n))
theorem KB_no {K : Nat → Bool} {B n k : Nat} : KB K B n k = false ↔ K k = false ∧ (k < B ∨ B + n ≤ k) := by
  unfold KB
  simp only [Bool.or_eq_false_iff, Bool.and_eq_false_iff, decide_eq_false_iff_not, Nat.not_le, Nat.not_lt]
theorem KB_yes {K : Nat → Bool} {B n k : Nat} (h1 : B ≤ k) (h2 : k < B + n) : KB K B n k = true := by unfold KB; simp [h1, h2]
theorem KB_lt {K : Nat → Bool} {B n s : Nat} (hK : ∀ k, K k = true → k < B) (hs : B + n ≤ s) : ∀ k, KB K B n k = true → k < s := fun k h => by
  by_cases hk : K k = true
  · have := hK k hk; omega
  · unfold KB at h
    simp only [Bool.or_eq_true, Bool.and_eq_true, decide_eq_true_eq] at h
    rcases h with h | h
    · exact absurd h hk
    · omega
theorem put_sub {K : Nat → Bool} {W : World} {p : Addr} (hp : K p.block = true) (u : Value) : Sub (hide W K) (hide (W.setCell p u) K) := hide_sub fun k h1 _ => ⟨h1, Below.heap_setCell _ _ _ _ (by intro e; rw [e, hp] at h1; cases h1)⟩
theorem KB_sub {K : Nat → Bool} {W : World} {B n : Nat} : Sub (hide W (KB K B n)) (hide W K) := hide_sub fun _ h1 _ => ⟨(KB_no.1 h1).1, rfl⟩
/-- what lay there before the n blocks did -/
theorem KB_up {K : Nat → Bool} {W W' : World} {B n : Nat} (hB : W.heap.size ≤ B) (hb : Below W.heap.size W W') : Sub (hide W K) (hide W' (KB K B n)) := hide_sub fun k h1 h2 => ⟨KB_no.2 ⟨h1, .inl (by omega)⟩, hb.block k h2⟩

/-- the parts l in v, whose rows lie in V -/
def PrtsAt (V W : World) (l : List Prt) (v : Value) : Prop := ∃ A c, v = .slice A l.length c ∧ (l.length ≤ c ∧ c ≤ 9223372036854775807) ∧
  (l ≠ [] → ∃ b o, A = some ⟨b, o, none⟩ ∧ ∀ (i : Nat) (h : i < l.length), ∃ v1 v2, W.cell? ⟨b, o + i * 3, none⟩ = some v1 ∧ W.cell? ⟨b, o + i * 3 + 1, none⟩ = some v2 ∧ W.cell? ⟨b, o + i * 3 + 2, none⟩ = some (.bool l[i].empty) ∧ IntsV V l[i].first v1 ∧ IntsV V l[i].ends v2)
theorem three {w : World} {g : Nat} {t : TypeId} {a b c : Value} (h : BlkIs w g t #[a, b, c]) : w.cell? ⟨g, 0, none⟩ = some a ∧ w.cell? ⟨g, 1, none⟩ = some b ∧ w.cell? ⟨g, 2, none⟩ = some c ∧
    w.frozen? ⟨g, 0, none⟩ = false ∧ w.frozen? ⟨g, 1, none⟩ = false ∧ w.frozen? ⟨g, 2, none⟩ = false := ⟨h.cell 0, h.cell 1, h.cell 2, h.frozen 0, h.frozen 1, h.frozen 2⟩

theorem info_part3 : (Try.prog.info? 88).map (·.size) = some 3 := by kernel_rfl
theorem load_part {w : World} {g : Nat} {t : TypeId} {a b c : Value} (h : BlkIs w g t #[a, b, c]) : (loadVar 88 ⟨g, 0, none⟩).run Try.prog w = .ok (.agg #[a, b, c]) w :=
  run_loadVar_mid (P := Try.prog) w g 0 88 [a, b, c] _ h.range Try.underlying88 rfl info_part3
theorem put_three {w : World} {g : Nat} {t : TypeId} {a b c x y z : Value} (h : BlkIs w g t #[a, b, c]) : BlkIs (((w.setCell ⟨g, 0, none⟩ x).setCell ⟨g, 1, none⟩ y).setCell ⟨g, 2, none⟩ z) g t #[x, y, z] := ((h.put 0 x).put 1 y).put 2 z
set_option maxRecDepth 20000 in
set_option maxHeartbeats 8000000 in
theorem either_any (l : List Prt) (v : Value) (w : World) (K : Nat → Bool) (n : Nat) (hK : ∀ k, K k = true → k < w.heap.size) (hv : PrtsAt (hide w K) w l v) (hok : ∀ p ∈ l, p.Ok n) (hn : n ≤ 1048576) :
    Calls Try.prog 68 #[v] w fun e w' => ∃ v', e = .returned v' ∧ PrtV (hide w' K) (eitherP ⟨[], [], false⟩ l) v' ∧ Below w.heap.size w w' := by
  obtain ⟨A, c, rfl, hc, hs⟩ := hv
  have HS := Lib.hid hs
  have hb1 : Below w.heap.size w (w.alloc (.cells #[.slice none 0 0, .slice none 0 0, .bool false] 88)) := (Below.refl _ _).alloc (Nat.le_refl _) _
  have hx1 := BlkIs.new w 88 #[.slice none 0 0, .slice none 0 0, .bool false]
  have hb2 := hb1.alloc hb1.size (.cells #[.slice none 0 0, .slice none 0 0, .bool false] 88)
  have hx2 := BlkIs.new (w.alloc (.cells #[.slice none 0 0, .slice none 0 0, .bool false] 88)) 88 #[.slice none 0 0, .slice none 0 0, .bool false]
  have hx1' := hx1.alloc (.cells #[.slice none 0 0, .slice none 0 0, .bool false] 88)
  rw [World.size_alloc] at hx2
  have H0 := Lib.hid (And.intro hb2 (And.intro hx1' hx2))
  have HOK := Lib.hid (fun j => (show (eitherP ⟨[], [], false⟩ (l.take j)).Ok n from eitherP_ok _ (Prt.Ok.nil _ _) fun p hp => hok p (List.mem_of_mem_take hp)))
  have HOJ := Lib.hid (fun (j : Nat) (h : j < l.length) => hok _ (List.getElem_mem h))
  have HK := Lib.hid hK
  clear hs hb1 hx1 hb2 hx2 hx1' hok hK
  go_enter Try.func68, Try.ntmps68
  go_wp2
  go_loopw [8] (fun i wr => ∃ j : Nat, i = .int .i64 j ∧ j ≤ l.length ∧ Hid (∃ a1 a2, Below w.heap.size w wr ∧ BlkIs wr w.heap.size 88 #[.slice none 0 0, .slice none 0 0, .bool false] ∧
    BlkIs wr (w.heap.size + 1) 88 #[a1, a2, .bool (eitherP ⟨[], [], false⟩ (l.take j)).empty] ∧ IntsV (hide wr (KB K w.heap.size 2)) (eitherP ⟨[], [], false⟩ (l.take j)).first a1 ∧ IntsV (hide wr (KB K w.heap.size 2)) (eitherP ⟨[], [], false⟩ (l.take j)).ends a2)) (fun i _ => l.length - (intOf i).toNat)
  case atStart => exact ⟨0, rfl, Nat.zero_le _, Lib.hid ⟨_, _, H0.out.1, H0.out.2.1, H0.out.2.2, IntsV.nil _, IntsV.nil _⟩⟩
  case round =>
    obtain ⟨j, rfl, hj, HH⟩ := hrel
    obtain ⟨a1, a2, hw, hx1, hx2, hr1, hr2⟩ := HH.out
    obtain ⟨d0, d1, d2, f0, f1, f2⟩ := three hx2
    by_cases hp : j < l.length
    · have hk1 : IntKind.i64.wrap ((j : Int) + 1) = ((j + 1 : Nat) : Int) := by rw [IntKind.wrap_i64]; omega
      have hdl : decide ((j : Int) < (l.length : Int)) = true := by simp; omega
      obtain ⟨b, o, rfl, hg⟩ := HS.out (by intro e; subst e; simp at hp)
      obtain ⟨q1, q2, hq0, hq1, hq2, hi1, hi2⟩ := hg j hp
      have hcl := fun p u (hu : w.cell? p = some u) => (hw.cell (World.block_lt_of_cell? w p hu)).trans hu
      have c0 := hcl _ _ hq0
      have c1 := hcl _ _ hq1
      have c2 := hcl _ _ hq2
      have hso := HOK.out j
      have hs1 := HOK.out (j + 1)
      have hpo := HOJ.out j hp
      have hsn : eitherP ⟨[], [], false⟩ (l.take (j + 1)) = orP (eitherP ⟨[], [], false⟩ (l.take j)) l[j] := by rw [List.take_succ_eq_append_getElem hp, eitherP_snoc]
      generalize eitherP ⟨[], [], false⟩ (l.take j) = E at *
      generalize l[j] = P at *
      have HR := Lib.hid (And.intro (And.intro hr1 hr2) (And.intro hi1 hi2))
      obtain ⟨X1, z1, rfl, _⟩ := hi1
      obtain ⟨X2, z2, rfl, _⟩ := hi2
      obtain ⟨X3, z3, rfl, _⟩ := hr1
      obtain ⟨X4, z4, rfl, _⟩ := hr2
      obtain ⟨W9, hW9⟩ : ∃ W9, wr.alloc (.cells #[.slice X1 P.first.length z1, .slice X2 P.ends.length z2, .bool P.empty] 88) = W9 := ⟨_, rfl⟩
      have hx9 : Below wr.heap.size wr W9 := by rw [← hW9]; exact (Below.refl _ _).alloc (Nat.le_refl _) _
      have hp9 : BlkIs W9 wr.heap.size 88 #[.slice X1 P.first.length z1, .slice X2 P.ends.length z2, .bool P.empty] := by rw [← hW9]; exact BlkIs.new _ _ _
      have HX := Lib.hid (And.intro (hw.trans (hx9.mono hw.size)) (And.intro (hx1.step hx9) (hx2.step hx9)))
      have HP9 := Lib.hid (And.intro hp9 hx9)
      obtain ⟨e0, e1, e2, g0, g1, g2⟩ := three hp9
      clear d0 d1 d2 f0 f1 f2
      obtain ⟨d0, d1, d2, f0, f1, f2⟩ := three HX.out.2.2
      have hsp : w.heap.size + 2 ≤ wr.heap.size := hx2.lt
      clear hp9 hx9 hw hx1 hx2 hg hcl hq0 hq1 hq2 HH
      go_wp2_with fail
      have hsz : w.heap.size + 2 ≤ W9.heap.size := by have := HX.out.2.2.lt; omega
      have hK2 := KB_lt (n := 2) HK.out hsz
      have hup : Sub (hide w K) (hide W9 (KB K w.heap.size 2)) := KB_up (Nat.le_refl _) HX.out.1
      have hst : Sub (hide wr (KB K w.heap.size 2)) (hide W9 (KB K w.heap.size 2)) := below_sub _ HP9.out.2
      have HM := Lib.hid (merged_any E.first P.first _ _ W9 _ hK2 (HR.out.1.1.sub hst) (HR.out.2.1.sub hup) (by have := risesB_len0 hso.1; have := risesB_len0 hpo.1; omega))
      refine HM.out.mono ?_
      rintro e u1 ⟨v1, rfl, hv1, hu1⟩
      obtain ⟨U1, hU1⟩ : ∃ U1, u1.setCell ⟨w.heap.size + 1, 0, none⟩ v1 = U1 := ⟨_, rfl⟩
      have hput : Sub (hide u1 (KB K w.heap.size 2)) (hide U1 (KB K w.heap.size 2)) := by rw [← hU1]; exact put_sub (KB_yes (by show w.heap.size ≤ w.heap.size + 1; omega) (by show w.heap.size + 1 < w.heap.size + 2; omega)) v1
      have hbU : Below w.heap.size w U1 := by rw [← hU1]; exact (HX.out.1.trans (hu1.mono HX.out.1.size)).setCell (p := ⟨_, _, none⟩) (by show w.heap.size ≤ w.heap.size + 1; omega) _
      have hxU : BlkIs U1 w.heap.size 88 #[.slice none 0 0, .slice none 0 0, .bool false] := by rw [← hU1]; exact (HX.out.2.1.step hu1).far (by show w.heap.size ≠ w.heap.size + 1; omega) _
      have hyU : BlkIs U1 (w.heap.size + 1) 88 #[v1, .slice X4 E.ends.length z4, .bool E.empty] := by rw [← hU1]; exact (HX.out.2.2.step hu1).put 0 v1
      have hpU : BlkIs U1 wr.heap.size 88 #[.slice X1 P.first.length z1, .slice X2 P.ends.length z2, .bool P.empty] := by rw [← hU1]; exact (HP9.out.1.step hu1).far (by show wr.heap.size ≠ w.heap.size + 1; omega) _
      have HU := Lib.hid (And.intro hbU (And.intro hxU hyU))
      have HV1 := Lib.hid (hv1.sub hput)
      have h1U : Sub (hide W9 (KB K w.heap.size 2)) (hide U1 (KB K w.heap.size 2)) := (below_sub _ hu1).trans hput
      have HS2 := Lib.hid (And.intro ((HR.out.1.2.sub hst).sub h1U) ((HR.out.2.2.sub hup).sub h1U))
      clear d0 d1 d2 f0 f1 f2 e0 e1 e2 g0 g1 g2
      obtain ⟨k0, k1, k2, l0, l1, l2⟩ := three ((HX.out.2.2.step hu1))
      obtain ⟨X5, z5, rfl, _⟩ := hv1
      clear hput hbU hxU h1U hu1 hup hst
      obtain ⟨e0, e1, e2, g0, g1, g2⟩ := three hpU
      obtain ⟨d0, d1, d2, f0, f1, f2⟩ := three hyU
      have HPU := Lib.hid hpU
      clear hpU hyU
      go_wp2_with fail
      have hszU : w.heap.size + 2 ≤ U1.heap.size := by have := HU.out.2.2.lt; omega
      have HM2 := Lib.hid (merged_any E.ends P.ends _ _ U1 _ (KB_lt (n := 2) HK.out hszU) HS2.out.1 HS2.out.2 (by have := risesB_len0 hso.2; have := risesB_len0 hpo.2; omega))
      refine HM2.out.mono ?_
      rintro e u2 ⟨v2, rfl, hv2, hu2⟩
      obtain ⟨U2, hU2⟩ : ∃ U2, u2.setCell ⟨w.heap.size + 1, 1, none⟩ v2 = U2 := ⟨_, rfl⟩
      have hput : Sub (hide u2 (KB K w.heap.size 2)) (hide U2 (KB K w.heap.size 2)) := by rw [← hU2]; exact put_sub (KB_yes (by show w.heap.size ≤ w.heap.size + 1; omega) (by show w.heap.size + 1 < w.heap.size + 2; omega)) v2
      have hbU : Below w.heap.size w U2 := by rw [← hU2]; exact (HU.out.1.trans (hu2.mono HU.out.1.size)).setCell (p := ⟨_, _, none⟩) (by show w.heap.size ≤ w.heap.size + 1; omega) _
      have hxU : BlkIs U2 w.heap.size 88 #[.slice none 0 0, .slice none 0 0, .bool false] := by rw [← hU2]; exact (HU.out.2.1.step hu2).far (by show w.heap.size ≠ w.heap.size + 1; omega) _
      have hyU : BlkIs U2 (w.heap.size + 1) 88 #[.slice X5 (mergedL E.first P.first).length z5, v2, .bool E.empty] := by rw [← hU2]; exact (HU.out.2.2.step hu2).put 1 v2
      have hpU : BlkIs U2 wr.heap.size 88 #[.slice X1 P.first.length z1, .slice X2 P.ends.length z2, .bool P.empty] := by rw [← hU2]; exact (HPU.out.step hu2).far (by show wr.heap.size ≠ w.heap.size + 1; omega) _
      have HX2 := Lib.hid (And.intro hbU (And.intro hxU hyU))
      have HV2 := Lib.hid (And.intro ((HV1.out.sub (below_sub _ hu2)).sub hput) (hv2.sub hput))
      clear d0 d1 d2 f0 f1 f2 e0 e1 e2 g0 g1 g2 k0 k1 k2 l0 l1 l2
      obtain ⟨k0, k1, k2, l0, l1, l2⟩ := three ((HU.out.2.2.step hu2))
      obtain ⟨X6, z6, rfl, _⟩ := hv2
      obtain ⟨e0, e1, e2, g0, g1, g2⟩ := three hpU
      obtain ⟨d0, d1, d2, f0, f1, f2⟩ := three hyU
      have HSN := Lib.hid hsn
      clear hput hbU hxU hu2 hpU hyU hsn
      have hend : ∀ x : Bool, x = (E.empty || P.empty) → ∃ a1 a2, Below w.heap.size w (U2.setCell ⟨w.heap.size + 1, 2, none⟩ (.bool x)) ∧ BlkIs (U2.setCell ⟨w.heap.size + 1, 2, none⟩ (.bool x)) w.heap.size 88 #[.slice none 0 0, .slice none 0 0, .bool false] ∧
          BlkIs (U2.setCell ⟨w.heap.size + 1, 2, none⟩ (.bool x)) (w.heap.size + 1) 88 #[a1, a2, .bool (eitherP ⟨[], [], false⟩ (l.take (j + 1))).empty] ∧ IntsV (hide (U2.setCell ⟨w.heap.size + 1, 2, none⟩ (.bool x)) (KB K w.heap.size 2)) (eitherP ⟨[], [], false⟩ (l.take (j + 1))).first a1 ∧
          IntsV (hide (U2.setCell ⟨w.heap.size + 1, 2, none⟩ (.bool x)) (KB K w.heap.size 2)) (eitherP ⟨[], [], false⟩ (l.take (j + 1))).ends a2 := fun x hx => by
        rw [HSN.out]
        have hps : Sub (hide U2 (KB K w.heap.size 2)) (hide (U2.setCell ⟨w.heap.size + 1, 2, none⟩ (.bool x)) (KB K w.heap.size 2)) := put_sub (KB_yes (by show w.heap.size ≤ w.heap.size + 1; omega) (by show w.heap.size + 1 < w.heap.size + 2; omega)) _
        refine ⟨_, _, HX2.out.1.setCell (p := ⟨_, _, none⟩) (by show w.heap.size ≤ w.heap.size + 1; omega) _, HX2.out.2.1.far (by show w.heap.size ≠ w.heap.size + 1; omega) _, ?_, HV2.out.1.sub hps, HV2.out.2.sub hps⟩
        have := HX2.out.2.2.put 2 (.bool x)
        rw [hx] at this ⊢
        exact this
      have HE := Lib.hid hend
      clear hend
      cases hee : E.empty with
      | true =>
        rw [hee] at HE d2 k2
        go_wp2
        exact ⟨⟨j + 1, rfl, hp, Lib.hid (HE.out true (by simp))⟩, by simp [intOf]; omega⟩
      | false =>
        rw [hee] at HE d2 k2
        go_wp2
        exact ⟨⟨j + 1, rfl, hp, Lib.hid (HE.out P.empty (by simp))⟩, by simp [intOf]; omega⟩
    · have hdl : decide ((j : Int) < (l.length : Int)) = false := by simp; omega
      obtain rfl : j = l.length := by omega
      rw [List.take_length] at HH d2 hr1 hr2 hx2
      have HR := Lib.hid (And.intro hr1 hr2)
      obtain ⟨X3, z3, rfl, _⟩ := hr1
      obtain ⟨X4, z4, rfl, _⟩ := hr2
      obtain ⟨k0, k1, k2, l0, l1, l2⟩ := three hx1
      have HW := Lib.hid (And.intro hw hx1)
      have hb : w.heap.size < wr.heap.size := hx1.lt
      clear HH hw hx1 hx2
      have HSU := Lib.hid (show ∀ x y z, Sub (hide wr (KB K w.heap.size 2)) (hide (((wr.setCell ⟨w.heap.size, 0, none⟩ x).setCell ⟨w.heap.size, 1, none⟩ y).setCell ⟨w.heap.size, 2, none⟩ z) K) ∧ Below w.heap.size w (((wr.setCell ⟨w.heap.size, 0, none⟩ x).setCell ⟨w.heap.size, 1, none⟩ y).setCell ⟨w.heap.size, 2, none⟩ z) from fun x y z => by
        have hy : KB K w.heap.size 2 w.heap.size = true := KB_yes (Nat.le_refl _) (by omega)
        exact ⟨(((put_sub (p := ⟨_, _, none⟩) hy x).trans (put_sub (p := ⟨_, _, none⟩) hy y)).trans (put_sub (p := ⟨_, _, none⟩) hy z)).trans KB_sub, ((HW.out.1.setCell (p := ⟨_, _, none⟩) (Nat.le_refl _) x).setCell (p := ⟨_, _, none⟩) (Nat.le_refl _) y).setCell (p := ⟨_, _, none⟩) (Nat.le_refl _) z⟩)
      go_wp2
      have hl := load_part (put_three (x := .slice X3 (eitherP ⟨[], [], false⟩ l).first.length z3) (y := .slice X4 (eitherP ⟨[], [], false⟩ l).ends.length z4) (z := .bool (eitherP ⟨[], [], false⟩ l).empty) HW.out.2)
      refine ⟨rfl, _, results_cell1 rfl rfl hl, _, rfl, ?_, (HSU.out _ _ _).2⟩
      exact ⟨_, _, rfl, HR.out.1.sub (HSU.out _ _ _).1, HR.out.2.sub (HSU.out _ _ _).1⟩
end Go.Proofs.Ytojejnjjenmfaaa

