/-
  WHAT nfa's either ANSWERS: a contract. Condition: the parts' rows rise, below 2^20.
-/
import Derived.Test.YtgbljnnmhmlifaaQG17
import Derived.Test.YtgbljnnmhmlifaaQG05
namespace Go.Proofs.Ytgbljnnmhmlifaa
open Go.RowKit

attribute [local irreducible] FreeW

def KB (K : Nat → Bool) (B n k : Nat) : Bool := K k || (decide (B ≤ k) && decide (k < B + n))
theorem KB_no {K : Nat → Bool} {B n k : Nat} : KB K B n k = false ↔ K k = false ∧ (k < B ∨ B + n ≤ k) := by
  unfold KB
  simp only [Bool.or_eq_false_iff, Bool.and_eq_false_iff, decide_eq_false_iff_not, Nat.not_le, Nat.not_lt]
theorem KB_yes {K : Nat → Bool} {B n k : Nat} (h1 : B ≤ k) (h2 : k < B + n) : KB K B n k = true := by unfold KB; simp [h1, h2]
theorem KB_lt {K : Nat → Bool} {B n s : Nat} (hK : ∀ k, K k = true → k < B) (hs : B + n ≤ s) : ∀ k, KB K B n k = true → k < s := fun k h => by
  by_cases hk : K k = true
  · have := hK k hk; omega
  · unfold KB at h
    simp only [Bool.or_eq_true, Bool.and_eq_true, decide_eq_true_eq] at h
    rcases h with h | h
    · exact absurd h hk
    · omega
theorem put_sub {K : Nat → Bool} {W : World} {p : Addr} (hp : K p.block = true) (u : Value) : Sub (hide W K) (hide (W.setCell p u) K) := hide_sub fun k h1 _ => ⟨h1, Below.heap_setCell _ _ _ _ (by intro e; rw [e, hp] at h1; cases h1)⟩
theorem KB_sub {K : Nat → Bool} {W : World} {B n : Nat} : Sub (hide W (KB K B n)) (hide W K) := hide_sub fun _ h1 _ => ⟨(KB_no.1 h1).1, rfl⟩
theorem KB_up {K : Nat → Bool} {W W' : World} {B n : Nat} (hB : W.heap.size ≤ B) (hb : Below W.heap.size W W') : Sub (hide W K) (hide W' (KB K B n)) := hide_sub fun k h1 h2 => ⟨KB_no.2 ⟨h1, .inl (by omega)⟩, hb.block k h2⟩

def PrtsAt (V W : World) (l : List Prt) (v : Value) : Prop := ∃ A c, v = .slice A l.length c ∧ (l.length ≤ c ∧ c ≤ 9223372036854775807) ∧
  (l ≠ [] → ∃ b o, A = some ⟨b, o, none⟩ ∧ ∀ (i : Nat) (h : i < l.length), ∃ v1 v2, W.cell? ⟨b, o + i * 3, none⟩ = some v1 ∧ W.cell? ⟨b, o + i * 3 + 1, none⟩ = some v2 ∧ W.cell? ⟨b, o + i * 3 + 2, none⟩ = some (.bool l[i].empty) ∧ IntsV V l[i].first v1 ∧ IntsV V l[i].ends v2)
theorem three {w : World} {g : Nat} {t : TypeId} {a b c : Value} (h : BlkIs w g t #[a, b, c]) : w.cell? ⟨g, 0, none⟩ = some a ∧ w.cell? ⟨g, 1, none⟩ = some b ∧ w.cell? ⟨g, 2, none⟩ = some c ∧
    w.frozen? ⟨g, 0, none⟩ = false ∧ w.frozen? ⟨g, 1, none⟩ = false ∧ w.frozen? ⟨g, 2, none⟩ = false := ⟨h.cell 0, h.cell 1, h.cell 2, h.frozen 0, h.frozen 1, h.frozen 2⟩

theorem info_part3 : (Try.prog.info? 78).map (·.size) = some 3 := by kernel_rfl
theorem load_part {w : World} {g : Nat} {t : TypeId} {a b c : Value} (h : BlkIs w g t #[a, b, c]) : (loadVar 78 ⟨g, 0, none⟩).run Try.prog w = .ok (.agg #[a, b, c]) w :=
  run_loadVar_mid (P := Try.prog) w g 0 78 [a, b, c] _ h.range Try.underlying78 rfl info_part3
theorem put_three {w : World} {g : Nat} {t : TypeId} {a b c x y z : Value} (h : BlkIs w g t #[a, b, c]) : BlkIs (((w.setCell ⟨g, 0, none⟩ x).setCell ⟨g, 1, none⟩ y).setCell ⟨g, 2, none⟩ z) g t #[x, y, z] := ((h.put 0 x).put 1 y).put 2 z
set_option maxRecDepth 20000 in
set_option maxHeartbeats 8000000 in
theorem either_any (l : List Prt) (v : Value) (w : World) (K : Nat → Bool) (n : Nat) (hK : ∀ k, K k = true → k < w.heap.size) (hv : PrtsAt (hide w K) w l v) (hok : ∀ p ∈ l, p.Ok n) (hn : n ≤ 1048576) :
    Calls Try.prog 58 #[v] w fun e w' => ∃ v', e = .returned v' ∧ PrtV (hide w' K) (eitherP ⟨[], [], false⟩ l) v' ∧ Below w.heap.size w w' := by
  obtain ⟨A, c, rfl, hc, hs⟩ := hv
  have HS := Lib.hid hs
  have hb1 : Below w.heap.size w (w.alloc (.cells #[.slice none 0 0, .slice none 0 0, .bool false] 78)) := (Below.refl _ _).alloc (Nat.le_refl _) _
  have hx1 := BlkIs.new w 78 #[.slice none 0 0, .slice none 0 0, .bool false]
  have hb2 := hb1.alloc hb1.size (.cells #[.slice none 0 0, .slice none 0 0, .bool false] 78)
  have hx2 := BlkIs.new (w.alloc (.cells #[.slice none 0 0, .slice none 0 0, .bool false] 78)) 78 #[.slice none 0 0, .slice none 0 0, .bool false]
  have hx1' := hx1.alloc (.cells #[.slice none 0 0, .slice none 0 0, .bool false] 78)
  rw [World.size_alloc] at hx2
  have H0 := Lib.hid (And.intro hb2 (And.intro hx1' hx2))
  have HOK := Lib.hid (fun j => (show (eitherP ⟨[], [], false⟩ (l.take j)).Ok n from eitherP_ok _ (Prt.Ok.nil _ _) fun p hp => hok p (List.mem_of_mem_take hp)))
  have HOJ := Lib.hid (fun (j : Nat) (h : j < l.length) => hok _ (List.getElem_mem h))
  have HK := Lib.hid hK
  clear hs hb1 hx1 hb2 hx2 hx1' hok hK
  go_enter Try.func58, Try.ntmps58
  go_wp2
  go_loopw [8] (fun i wr => ∃ j : Nat, i = .int .i64 j ∧ j ≤ l.length ∧ Hid (∃ a1 a2, Below w.heap.size w wr ∧ BlkIs wr w.heap.size 78 #[.slice none 0 0, .slice none 0 0, .bool false] ∧
    BlkIs wr (w.heap.size + 1) 78 #[a1, a2, .bool (eitherP ⟨[], [], false⟩ (l.take j)).empty] ∧ IntsV (hide wr (KB K w.heap.size 2)) (eitherP ⟨[], [], false⟩ (l.take j)).first a1 ∧ IntsV (hide wr (KB K w.heap.size 2)) (eitherP ⟨[], [], false⟩ (l.take j)).ends a2)) (fun i _ => l.length - (intOf i).toNat)
  case atStart => exact ⟨0, rfl, Nat.zero_le _, Lib.hid ⟨_, _, H0.out.1, H0.out.2.1, H0.out.2.2, IntsV.nil _, IntsV.nil _⟩⟩
  case round =>
    obtain ⟨j, rfl, hj, HH⟩ := hrel
    obtain ⟨a1, a2, hw, hx1, hx2, hr1, hr2⟩ := HH.out
    obtain ⟨d0, d1, d2, f0, f1, f2⟩ := three hx2
    by_cases hp : j < l.length
    · have hk1 : IntKind.i64.wrap ((j : Int) + 1) = ((j + 1 : Nat) : Int) := by rw [IntKind.wrap_i64]; omega
      have hdl : decide ((j : Int) < (l.length : Int)) = true := by simp; omega
      obtain ⟨b, o, rfl, hg⟩ := HS.out (by intro e; subst e; simp at hp)
      obtain ⟨q1, q2, hq0, hq1, hq2, hi1, hi2⟩ := hg j hp
      have hcl := fun p u (hu : w.cell? p = some u) => (hw.cell (World.block_lt_of_cell? w p hu)).trans hu
      have c0 := hcl _ _ hq0
      have c1 := hcl _ _ hq1
      have c2 := hcl _ _ hq2
      have hso := HOK.out j
      have hs1 := HOK.out (j + 1)
      have hpo := HOJ.out j hp
      have hsn : eitherP ⟨[], [], false⟩ (l.take (j + 1)) = orP (eitherP ⟨[], [], false⟩ (l.take j)) l[j] := by rw [List.take_succ_eq_append_getElem hp, eitherP_snoc]
      generalize eitherP ⟨[], [], false⟩ (l.take j) = E at *
      generalize l[j] = P at *
      have HR := Lib.hid (And.intro (And.intro hr1 hr2) (And.intro hi1 hi2))
      obtain ⟨X1, z1, rfl, _⟩ := hi1
      obtain ⟨X2, z2, rfl, _⟩ := hi2
      obtain ⟨X3, z3, rfl, _⟩ := hr1
      obtain ⟨X4, z4, rfl, _⟩ := hr2
      obtain ⟨W9, hW9⟩ : ∃ W9, wr.alloc (.cells #[.slice X1 P.first.length z1, .slice X2 P.ends.length z2, .bool P.empty] 78) = W9 := ⟨_, rfl⟩
      have hx9 : Below wr.heap.size wr W9 := by rw [← hW9]; exact (Below.refl _ _).alloc (Nat.le_refl _) _
      have hp9 : BlkIs W9 wr.heap.size 78 #[.slice X1 P.first.length z1, .slice X2 P.ends.length z2, .bool P.empty] := by rw [← hW9]; exact BlkIs.new _ _ _
      have HX := Lib.hid (And.intro (hw.trans (hx9.mono hw.size)) (And.intro (hx1.step hx9) (hx2.step hx9)))
      have HP9 := Lib.hid (And.intro hp9 hx9)
      obtain ⟨e0, e1, e2, g0, g1, g2⟩ := three hp9
      clear d0 d1 d2 f0 f1 f2
      obtain ⟨d0, d1, d2, f0, f1, f2⟩ := three HX.out.2.2
      have hsp : w.heap.size + 2 ≤ wr.heap.size := hx2.lt
      clear hp9 hx9 hw hx1 hx2 hg hcl hq0 hq1 hq2 HH
      go_wp2_with fail
      have hsz : w.heap.size + 2 ≤ W9.heap.size := by have := HX.out.2.2.lt; omega
      have hK2 := KB_lt (n := 2) HK.out hsz
      have hup : Sub (hide w K) (hide W9 (KB K w.heap.size 2)) := KB_up (Nat.le_refl _) HX.out.1
      have hst : Sub (hide wr (KB K w.heap.size 2)) (hide W9 (KB K w.heap.size 2)) := below_sub _ HP9.out.2
      have HM := Lib.hid (merged_any E.first P.first _ _ W9 _ hK2 (HR.out.1.1.sub hst) (HR.out.2.1.sub hup) (by have := risesB_len0 hso.1; have := risesB_len0 hpo.1; omega))
      refine HM.out.mono ?_
      rintro e u1 ⟨v1, rfl, hv1, hu1⟩
      obtain ⟨U1, hU1⟩ : ∃ U1, u1.setCell ⟨w.heap.size + 1, 0, none⟩ v1 = U1 := ⟨_, rfl⟩
      have hput : Sub (hide u1 (KB K w.heap.size 2)) (hide U1 (KB K w.heap.size 2)) := by rw [← hU1]; exact put_sub (KB_yes (by show w.heap.size ≤ w.heap.size + 1; omega) (by show w.heap.size + 1 < w.heap.size + 2; omega)) v1
      have hbU : Below w.heap.size w U1 := by rw [← hU1]; exact (HX.out.1.trans (hu1.mono HX.out.1.size)).setCell (p := ⟨_, _, none⟩) (by show w.heap.size ≤ w.heap.size + 1; omega) _
      have hxU : BlkIs U1 w.heap.size 78 #[.slice none 0 0, .slice none 0 0, .bool false] := by rw [← hU1]; exact (HX.out.2.1.step hu1).far (by show w.heap.size ≠ w.heap.size + 1; omega) _
      have hyU : BlkIs U1 (w.heap.size + 1) 78 #[v1, .slice X4 E.ends.length z4, .bool E.empty] := by rw [← hU1]; exact (HX.out.2.2.step hu1).put 0 v1
      have hpU : BlkIs U1 wr.heap.size 78 #[.slice X1 P.first.length z1, .slice X2 P.ends.length z2, .bool P.empty] := by rw [← hU1]; exact (HP9.out.1.step hu1).far (by show wr.heap.size ≠ w.heap.size + 1; omega) _
      have HU := Lib.hid (And.intro hbU (And.intro hxU hyU))
      have HV1 := Lib.hid (hv1.sub hput)
      have h1U : Sub (hide W9 (KB K w.heap.size 2)) (hide U1 (KB K w.heap.size 2)) := (below_sub _ hu1).trans hput
      have HS2 := Lib.hid (And.intro ((HR.out.1.2.sub hst).sub h1U) ((HR.out.2.2.sub hup).sub h1U))
      clear d0 d1 d2 f0 f1 f2 e0 e1 e2 g0 g1 g2
      obtain ⟨k0, k1, k2, l0, l1, l2⟩ := three ((HX.out.2.2.step hu1))
      obtain ⟨X5, z5, rfl, _⟩ := hv1
      clear hput hbU hxU h1U hu1 hup hst
      obtain ⟨e0, e1, e2, g0, g1, g2⟩ := three hpU
      obtain ⟨d0, d1, d2, f0, f1, f2⟩ := three hyU
      have HPU := Lib.hid hpU
      clear hpU hyU
      go_wp2_with fail
      have hszU : w.heap.size + 2 ≤ U1.heap.size := by have := HU.out.2.2.lt; omega
      have HM2 := Lib.hid (merged_any E.ends P.ends _ _ U1 _ (KB_lt (n := 2) HK.out hszU) HS2.out.1 HS2.out.2 (by have := risesB_len0 hso.2; have := risesB_len0 hpo.2; omega))
      refine HM2.out.mono ?_
      rintro e u2 ⟨v2, rfl, hv2, hu2⟩
      obtain ⟨U2, hU2⟩ : ∃ U2, u2.setCell ⟨w.heap.size + 1, 1, none⟩ v2 = U2 := ⟨_, rfl⟩
      have hput : Sub (hide u2 (KB K w.heap.size 2)) (hide U2 (KB K w.heap.size 2)) := by rw [← hU2]; exact put_sub (KB_yes (by show w.heap.size ≤ w.heap.size + 1; omega) (by show w.heap.size + 1 < w.heap.size + 2; omega)) v2
      have hbU : Below w.heap.size w U2 := by rw [← hU2]; exact (HU.out.1.trans (hu2.mono HU.out.1.size)).setCell (p := ⟨_, _, none⟩) (by show w.heap.size ≤ w.heap.size + 1; omega) _
      have hxU : BlkIs U2 w.heap.size 78 #[.slice none 0 0, .slice none 0 0, .bool false] := by rw [← hU2]; exact (HU.out.2.1.step hu2).far (by show w.heap.size ≠ w.heap.size + 1; omega) _
      have hyU : BlkIs U2 (w.heap.size + 1) 78 #[.slice X5 (mergedL E.first P.first).length z5, v2, .bool E.empty] := by rw [← hU2]; exact (HU.out.2.2.step hu2).put 1 v2
      have hpU : BlkIs U2 wr.heap.size 78 #[.slice X1 P.first.length z1, .slice X2 P.ends.length z2, .bool P.empty] := by rw [← hU2]; exact (HPU.out.step hu2).far (by show wr.heap.size ≠ w.heap.size + 1; omega) _
      have HX2 := Lib.hid (And.intro hbU (And.intro hxU hyU))
      have HV2 := Lib.hid (And.intro ((HV1.out.sub (below_sub _ hu2)).sub hput) (hv2.sub hput))
      clear d0 d1 d2 f0 f1 f2 e0 e1 e2 g0 g1 g2 k0 k1 k2 l0 l1 l2
      obtain ⟨k0, k1, k2, l0, l1, l2⟩ := three ((HU.out.2.2.step hu2))
      obtain ⟨X6, z6, rfl, _⟩ := hv2
      obtain ⟨e0, e1, e2, g0, g1, g2⟩ := three hpU
      obtain ⟨d0, d1, d2, f0, f1, f2⟩ := three hyU
      have HSN := Lib.hid hsn
      clear hput hbU hxU hu2 hpU hyU hsn
      have hend : ∀ x : Bool, x = (E.empty || P.empty) → ∃ a1 a2, Below w.heap.size w (U2.setCell ⟨w.heap.size + 1, 2, none⟩ (.bool x)) ∧ BlkIs (U2.setCell ⟨w.heap.size + 1, 2, none⟩ (.bool x)) w.heap.size 78 #[.slice none 0 0, .slice none 0 0, .bool false] ∧
          BlkIs (U2.setCell ⟨w.heap.size + 1, 2, none⟩ (.bool x)) (w.heap.size + 1) 78 #[a1, a2, .bool (eitherP ⟨[], [], false⟩ (l.take (j + 1))).empty] ∧ IntsV (hide (U2.setCell ⟨w.heap.size + 1, 2, none⟩ (.bool x)) (KB K w.heap.size 2)) (eitherP ⟨[], [], false⟩ (l.take (j + 1))).first a1 ∧
          IntsV (hide (U2.setCell ⟨w.heap.size + 1, 2, none⟩ (.bool x)) (KB K w.heap.size 2)) (eitherP ⟨[], [], false⟩ (l.take (j + 1))).ends a2 := fun x hx => by
        rw [HSN.out]
        have hps : Sub (hide U2 (KB K w.heap.size 2)) (hide (U2.setCell ⟨w.heap.size + 1, 2, none⟩ (.bool x)) (KB K w.heap.size 2)) := put_sub (KB_yes (by show w.heap.size ≤ w.heap.size + 1; omega) (by show w.heap.size + 1 < w.heap.size + 2; omega)) _
        refine ⟨_, _, HX2.out.1.setCell (p := ⟨_, _, none⟩) (by show w.heap.size ≤ w.heap.size + 1; omega) _, HX2.out.2.1.far (by show w.heap.size ≠ w.heap.size + 1; omega) _, ?_, HV2.out.1.sub hps, HV2.out.2.sub hps⟩
        have := HX2.out.2.2.put 2 (.bool x)
        rw [hx] at this ⊢
        exact this
      have HE := Lib.hid hend
      clear hend
      cases hee : E.empty with
      | true =>
        rw [hee] at HE d2 k2
        go_wp2
        exact ⟨⟨j + 1, rfl, hp, Lib.hid (HE.out true (by simp))⟩, by simp [intOf]; omega⟩
      | false =>
        rw [hee] at HE d2 k2
        go_wp2
        exact ⟨⟨j + 1, rfl, hp, Lib.hid (HE.out P.empty (by simp))⟩, by simp [intOf]; omega⟩
    · have hdl : decide ((j : Int) < (l.length : Int)) = false := by simp; omega
      obtain rfl : j = l.length := by omega
      rw [List.take_length] at HH d2 hr1 hr2 hx2
      have HR := Lib.hid (And.intro hr1 hr2)
      obtain ⟨X3, z3, rfl, _⟩ := hr1
      obtain ⟨X4, z4, rfl, _⟩ := hr2
      obtain ⟨k0, k1, k2, l0, l1, l2⟩ := three hx1
      have HW := Lib.hid (And.intro hw hx1)
      have hb : w.heap.size < wr.heap.size := hx1.lt
      clear HH hw hx1 hx2
      have HSU := Lib.hid (show ∀ x y z, Sub (hide wr (KB K w.heap.size 2)) (hide (((wr.setCell ⟨w.heap.size, 0, none⟩ x).setCell ⟨w.heap.size, 1, none⟩ y).setCell ⟨w.heap.size, 2, none⟩ z) K) ∧ Below w.heap.size w (((wr.setCell ⟨w.heap.size, 0, none⟩ x).setCell ⟨w.heap.size, 1, none⟩ y).setCell ⟨w.heap.size, 2, none⟩ z) from fun x y z => by
        have hy : KB K w.heap.size 2 w.heap.size = true := KB_yes (Nat.le_refl _) (by omega)
        exact ⟨(((put_sub (p := ⟨_, _, none⟩) hy x).trans (put_sub (p := ⟨_, _, none⟩) hy y)).trans (put_sub (p := ⟨_, _, none⟩) hy z)).trans KB_sub, ((HW.out.1.setCell (p := ⟨_, _, none⟩) (Nat.le_refl _) x).setCell (p := ⟨_, _, none⟩) (Nat.le_refl _) y).setCell (p := ⟨_, _, none⟩) (Nat.le_refl _) z⟩)
      go_wp2
      have hl := load_part (put_three (x := .slice X3 (eitherP ⟨[], [], false⟩ l).first.length z3) (y := .slice X4 (eitherP ⟨[], [], false⟩ l).ends.length z4) (z := .bool (eitherP ⟨[], [], false⟩ l).empty) HW.out.2)
      refine ⟨rfl, _, results_cell1 rfl rfl hl, _, rfl, ?_, (HSU.out _ _ _).2⟩
      exact ⟨_, _, rfl, HR.out.1.sub (HSU.out _ _ _).1, HR.out.2.sub (HSU.out _ _ _).1⟩
end Go.Proofs.Ytgbljnnmhmlifaa

namespace Go.Proofs.Ytgbljnnmhmlifaa
open Go.RowKit

section grow
variable {P : Program} {ops : Array Oper} {C : World → Prop}

def growUpon (P : Program) (w : World) (V : Value → World → Prop) : Result Next → Prop
  | .ok (.value v) w' => Below w.heap.size w w' ∧ V v w'
  | .ok (.enter f args) w' => w' = w ∧ Calls P f args w (fun e w'' => ∃ v, e = .returned v ∧ Below w.heap.size w w'' ∧ V v w'')
  | _ => False
theorem grow_val {w : World} {V : Value → World → Prop} {x : Value} (h : V x w) : growUpon P w V (.ok (.value x) w) := ⟨Below.refl _ _, h⟩
theorem grow_call {w : World} {V : Value → World → Prop} {f : FuncId} {args : Array Value} (h : Calls P f args w (fun e w'' => ∃ v, e = .returned v ∧ Below w.heap.size w w'' ∧ V v w'')) : growUpon P w V (.ok (.enter f args) w) := ⟨rfl, h⟩
theorem grow_alloc {w : World} {V : Value → World → Prop} {x : Value} (o : Obj) (h : V x (w.alloc o)) : growUpon P w V (.ok (.value x) (w.alloc o)) := ⟨(Below.refl _ _).alloc (Nat.le_refl _) _, h⟩

def textFrame (ops : Array Oper) (vs : Nat → Value) (a0 : Act) : Nat → Act
  | 0 => a0
  | i + 1 => (textFrame ops vs a0 i).put ((ops[i]?).bind (·.dst)) (vs i)
theorem came_text {h N : Nat} {a0 : Act} (hD : distinctB ops h N = true) (hN : a0.tmps.size = N) (hh : h ≤ ops.size) (vs : Nat → Value) : ∀ k, k ≤ h → Came ops (fun j => decide (j < k)) vs a0 (textFrame ops vs a0 k)
  | 0, _ => ⟨rfl, rfl, fun i o t _ hi => by simp at hi, fun _ _ => rfl⟩
  | k + 1, hk => by
    have ih := came_text hD hN hh vs k (by omega)
    obtain ⟨o, ho⟩ : ∃ o, ops[k]? = some o := ⟨_, Array.getElem?_eq_getElem (by omega)⟩
    have := ih.put (L' := fun j => decide (j < k + 1)) (v' := vs) hD hN (fun i hi => by have := of_decide_eq_true hi; omega) (show k < h by omega) ho (by simp) (vs k)
      (fun j => by rw [Bool.eq_iff_iff]; simp; omega) (fun _ _ => rfl) rfl
    show Came ops _ vs a0 ((textFrame ops vs a0 k).put ((ops[k]?).bind (·.dst)) (vs k))
    rw [ho]
    exact this

def StandsG (ops : Array Oper) (C : World → Prop) (h : Nat) (V : Nat → Value → World → Prop) (a0 : Act) (w0 : World) (listed : Array Bool) (a : Act) (u : World) : Prop :=
  HeadInv .any ops h listed ∧ ∃ vs : Nat → Value, Came ops (fun i => listed.getD i false) vs a0 a ∧ C u ∧ Below w0.heap.size w0 u ∧ (∀ i, i < h → listed.getD i false = true → V i (vs i) u)

def StepG (P : Program) (ops : Array Oper) (C : World → Prop) (V : Nat → Value → World → Prop) (a0 : Act) (i : Nat) : Prop :=
  ∀ (vs : Nat → Value) (u : World), C u → (∀ j, j < i → Region.waitsFor .any ops i j = true → V j (vs j) u) → ∀ o, ops[i]? = some o → o.guard = none ∧ growUpon P u (V i) ((execOp (textFrame ops vs a0 i).eval o).run P u)

variable {h N : Nat} {V : Nat → Value → World → Prop} {a0 : Act} {w0 : World}
theorem stands_grow (hsel : Region.noSelect ops = true) (hh : h ≤ ops.size) (hD : distinctB ops h N = true) (hK : looksB ops h h = true) (hN : a0.tmps.size = N)
    (hCs : ∀ u u', C u → Below u.heap.size u u' → C u') (hVs : ∀ i v u u', i < h → V i v u → Below u.heap.size u u' → V i v u') {Q : Exit → Act → World → Prop} {listed : Array Bool} {a : Act} {u : World} (hst : StandsG ops C h V a0 w0 listed a u)
    {i : Nat} (hi : i < h) (hr : i ∈ Region.ready .any ops listed) (hv : StepG P ops C V a0 i) :
    wpOp P ops Q i (fun a' u' => StandsG ops C h V a0 w0 (listed.setIfInBounds i true) a' u') a u := by
  obtain ⟨inv, vs, hc, hC, hb, hV⟩ := hst
  have hcc := came_text hD hN hh vs i (by omega)
  obtain ⟨hun, o', ho', hall⟩ := mem_ready.1 hr
  have hunf := getD_both hun
  have hlt := fun j hj => came_lt inv j hj
  have hsz : a.tmps.size = (textFrame ops vs a0 i).tmps.size := hc.2.1.trans hcc.2.1.symm
  have hwait : ∀ j, j < i → Region.waitsFor .any ops i j = true → listed.getD j false = true := fun j _ h3 => by
    obtain ⟨oi, hoi, e, he, hbd, hon⟩ := Region.waitsFor_spec h3
    obtain rfl : oi = o' := Option.some.inj (hoi.symm.trans ho')
    have hl := hall e he hbd
    rw [hon] at hl
    exact hl
  have hlook : ∀ t ∈ o'.looksAt ops, a.tmps.getD t undef = (textFrame ops vs a0 i).tmps.getD t undef := fun t ht => by
    by_cases hwr : ∃ j oj, j < h ∧ ops[j]? = some oj ∧ oj.dst = some t ∧ j ≠ i
    · obtain ⟨j, oj, hj, hoj, hd, hne⟩ := hwr
      obtain ⟨h1, h2, h3⟩ := looksB_spec hK hi ho' ht hj hoj hd hne
      have hl := hwait j h1 h3
      rw [hc.2.2.1 j oj t hoj hl hd, hcc.2.2.1 j oj t hoj (by simpa using h1) hd]
    · have hn1 : ∀ j oj, ops[j]? = some oj → listed.getD j false = true → oj.dst ≠ some t := fun j oj hoj hl hd => by
        by_cases e : j = i
        · subst e; rw [hunf] at hl; cases hl
        · exact hwr ⟨j, oj, hlt j hl, hoj, hd, e⟩
      have hn2 : ∀ j oj, ops[j]? = some oj → decide (j < i) = true → oj.dst ≠ some t := fun j oj hoj hl hd =>
        hwr ⟨j, oj, by have := of_decide_eq_true hl; omega, hoj, hd, by have := of_decide_eq_true hl; omega⟩
      rw [hc.2.2.2 t hn1, hcc.2.2.2 t hn2]
  obtain ⟨hex, hwa⟩ := same_look (ops := ops) (Region.noSelect_spec hsel i o' · · ho') hsz hlook
  have hset : ∀ (x : Value) (u' : World), Below u.heap.size u u' → V i x u' → StandsG ops C h V a0 w0 (listed.setIfInBounds i true) (a.put o'.dst x) u' := fun x u' hbu hx => by
    refine ⟨inv.set hr (by omega), fun j => if j = i then x else vs j, ?_, hCs _ _ hC hbu, hb.trans (hbu.mono hb.size), fun j h1 h3 => ?_⟩
    · refine hc.put hD hN (fun j hj => hlt j hj) hi ho' hunf x (fun j => ?_) (fun j hj => ?_) (by simp)
      · by_cases e : j = i
        · subst e
          have : j < listed.size := by rw [inv.size]; omega
          simp [this]
        · rw [getD_set_ne false (Ne.symm e)]; simp [e]
      · have hne : j ≠ i := fun e => by subst e; rw [hunf] at hj; cases hj
        simp [hne]
    · by_cases e : j = i
      · subst e; simpa using hx
      · rw [getD_set_ne false (Ne.symm e)] at h3
        simp only [if_neg e]
        exact hVs j _ _ _ h1 (hV j h1 h3) hbu
  obtain ⟨hg, hf⟩ := hv vs u hC (fun j hj hw => hV j (by omega) (hwait j hj hw)) o' ho'
  unfold wpOp
  simp only [ho']
  have hw : Region.wanted o' (yielded ops a.tmps) = true := by unfold Region.wanted; rw [hg]
  rw [if_pos hw]
  refine .inl ?_
  rw [← hex] at hf
  unfold Oper.wp
  generalize (execOp a.eval o').run P u = r at hf
  cases r with
  | ok nx w' =>
    cases nx <;> simp only [growUpon] at hf <;> simp only [Oper.upon]
    case value x => exact hset x w' hf.1 hf.2
    case enter f args =>
      obtain ⟨rfl, hcall⟩ := hf
      exact hcall.mono fun e w'' ⟨v, he, hbw, hvw⟩ => by subst he; exact hset v w'' hbw hvw
  | halt x w' => simp only [growUpon] at hf

theorem grow_core {Q : Exit → Act → World → Prop} (hB : freeB ops h h N = true) (hN : a0.tmps.size = N) (hCs : ∀ u u', C u → Below u.heap.size u u' → C u') (hVs : ∀ i v u u', i < h → V i v u → Below u.heap.size u u' → V i v u')
    (hS : ∀ i, i < h → StepG P ops C V a0 i)
    (hend : ∀ a u, StandsG ops C h V a0 w0 (headArr ops.size h) a u → wpList P ops Q (ops.toList.drop h) a u) :
    ∀ (d : Nat) (listed : Array Bool) (a : Act) (u : World), toCome listed h = d → StandsG ops C h V a0 w0 listed a u → wpAny P .any ops Q (d + (ops.size - h)) listed a u := by
  simp only [freeB, Bool.and_eq_true, Bool.or_eq_true, decide_eq_true_eq] at hB
  obtain ⟨⟨⟨⟨⟨⟨⟨hsel, hnh⟩, hh⟩, hD⟩, hK⟩, hA⟩, hT⟩, hSq⟩ := hB
  intro d
  induction d with
  | zero =>
    intro listed a u hd hst
    have hl := listed_head hst.1 (toCome_zero hd)
    subst hl
    have := wpAny_of_seq (md := .any) (Q' := Q) (ops.toList.drop h) h (headArr ops.size h) a u (fun j => by simp) (by simpa using hSq) (hend a u hst)
    simpa using this
  | succ d ih =>
    intro listed a u hd hst
    have hex : ∃ i, i < h ∧ listed.getD i false = false := by
      have hpos : 0 < ((List.range h).filter fun i => !listed.getD i false).length := by unfold toCome at hd; omega
      obtain ⟨i, hi⟩ := List.exists_mem_of_length_pos hpos
      rw [List.mem_filter] at hi
      exact ⟨i, List.mem_range.1 hi.1, by simpa using hi.2⟩
    obtain ⟨i0, hi0, hu0⟩ := hex
    have hs := hst.1.size
    obtain ⟨j0, hj0⟩ := ready_least hh hA hs i0 i0 (Nat.le_refl _) hi0 hu0
    rw [show d + 1 + (ops.size - h) = (d + (ops.size - h)) + 1 by omega]
    refine ⟨fun he => (by rw [he] at hj0; cases hj0), fun i hi => ?_⟩
    have hil : i < ops.size := by
      obtain ⟨_, o, ho, _⟩ := mem_ready.1 hi
      exact (Array.getElem?_eq_some_iff.1 ho).1
    have hih : i < h := by
      rcases Nat.lt_or_ge i h with hlt | hge
      · exact hlt
      · rcases hT with hT | hT
        · omega
        · exact absurd hi (tail_waits hT.1 hT.2 (by omega) hst.1 (h - i0) i0 rfl hi0 (getD_in (by omega) hu0) i hge)
    have hun := getD_both (mem_ready.1 hi).1
    have hset := toCome_set hih (by omega) hun
    exact wpOp_mono (fun a' u' hst' => ih _ a' u' (by omega) hst') (stands_grow hsel hh hD hK hN hCs hVs hst hih hi (hS i hih))

theorem wp_region_grow {id : Nat} {l : List Oper} {Q : Exit → Act → World → Prop} {a : Act} {w : World} (h N : Nat) (C : World → Prop) (V : Nat → Value → World → Prop)
    (hm : P.follows .mixedOrders = true) (hB : freeB l.toArray h h N = true) (hN : a.tmps.size = N) (hC0 : C w.drew) (hCs : ∀ u u', C u → Below u.heap.size u u' → C u') (hVs : ∀ i v u u', i < h → V i v u → Below u.heap.size u u' → V i v u')
    (hS : ∀ i, i < h → StepG P l.toArray C V a i)
    (hE : ∀ (vs : Nat → Value) (u : World), C u → Below w.heap.size w u → (∀ i, i < h → V i (vs i) u) → wpList P l.toArray Q (l.drop h) (textFrame l.toArray vs a h) u) : (Code.region id l.toArray true).wp P Q a w := by
  have hB' := hB
  simp only [freeB, Bool.and_eq_true, Bool.or_eq_true, decide_eq_true_eq] at hB'
  obtain ⟨⟨⟨⟨⟨⟨⟨hsel, hnh⟩, hh⟩, hD⟩, hK⟩, hA⟩, hT⟩, hSq⟩ := hB'
  refine wp_region_any hm ?_
  have inv0 : HeadInv .any l.toArray h (Array.replicate l.toArray.size false) :=
    ⟨by simp, fun j oj _ hl => (by rw [getD_replicate_false] at hl; cases hl), fun t _ ht => getD_in (by simpa using ht) (getD_replicate_false _ _)⟩
  have hst0 : StandsG l.toArray C h V a w (Array.replicate l.toArray.size false) a w.drew := by
    refine ⟨inv0, fun _ => undef, ⟨rfl, rfl, fun i o t _ hi => ?_, fun _ _ => rfl⟩, hC0, (Below.refl _ _).drew, fun i _ hl => ?_⟩
    · have hi' : (Array.replicate l.toArray.size false).getD i false = true := hi
      rw [getD_replicate_false] at hi'; cases hi'
    · rw [getD_replicate_false] at hl; cases hl
  have hcome : toCome (Array.replicate l.toArray.size false) h = h := by
    unfold toCome
    rw [List.filter_eq_self.2 (fun i _ => by rw [getD_replicate_false]; rfl)]
    simp
  have := grow_core (P := P) (Q := Q) hB hN hCs hVs hS (fun a' u hst => ?_) h _ a w.drew hcome hst0
  · rw [show h + (l.toArray.size - h) = l.toArray.size by omega] at this
    exact this
  · obtain ⟨inv, vs, hc, hC, hb, hV⟩ := hst
    have hg : ∀ i, i < h → (headArr l.toArray.size h).getD i false = true := fun i hi => by rw [headArr_get, if_pos (by omega)]; simpa using hi
    have hcall : Came l.toArray (fun j => decide (j < h)) vs a a' := by
      refine ⟨hc.1, hc.2.1, fun i o t ho hi ht => hc.2.2.1 i o t ho (hg i (of_decide_eq_true hi)) ht, fun t ht => hc.2.2.2 t fun i o ho hi => ht i o ho ?_⟩
      have := came_lt inv i hi
      simpa using this
    have he := hcall.unique (came_text hD hN hh vs h (Nat.le_refl _)) (fun _ _ => rfl)
    subst he
    simpa using hE vs u hC hb (fun i hi => hV i hi (hg i hi))
end grow
end Go.Proofs.Ytgbljnnmhmlifaa

