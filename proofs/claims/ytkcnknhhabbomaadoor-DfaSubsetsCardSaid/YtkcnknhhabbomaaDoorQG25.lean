/-
  WHAT nfa's link ANSWERS: a contract. Condition: the places that end are places; the rows rise, below 2^20.
-/
import Derived.Test.YtkcnknhhabbomaaDoorQG24
import Derived.Test.YtkcnknhhabbomaaDoorQG11
namespace Go.Proofs.YtkcnknhhabbomaaDoor
open Go.RowKit

attribute [local irreducible] FreeW textFrame

theorem IntsV.form {W : World} {l : List Int} {v : Value} (h : IntsV W l v) : ∃ A c, v = .slice A l.length c ∧ (l.length ≤ c ∧ c ≤ 9223372036854775807) := by
  obtain ⟨A, c, rfl, hc, _⟩ := h
  exact ⟨A, c, rfl, hc⟩

set_option maxRecDepth 20000 in
set_option maxHeartbeats 16000000 in
theorem link_any (M K : Nat → Bool) (S : Mk) (E row : List Int) (ve vr : Value) (pb : Nat) (r f e m : Value) (w : World) (hm : MkAt M K w pb S r f e m) (he : IntsV (hide w (MK M K)) E ve) (hr : IntsV (hide w (MK M K)) row vr)
    (hS : S.Ok) (hE : risesB S.sets.length (-1) E = true) (hrow : risesB S.sets.length (-1) row = true) (hn : S.sets.length ≤ 1048576) (hM : ∀ k, M k = true → k < w.heap.size) (hK : ∀ k, K k = true → k < w.heap.size) :
    Calls Tryd.prog 102 #[.pointer (some ⟨pb, 0, none⟩), ve, vr] w fun x w' => ∃ y, x = .returned y ∧ Nx M M w w' ∧ MkAt M K w' pb ⟨S.sets, linkF S.follow E row⟩ r f e m := by
  obtain ⟨Ae, ce, rfl, hce⟩ := he.form
  obtain ⟨Ar, cr, rfl, hcr⟩ := hr.form
  have HE := Lib.hid he
  have HR := Lib.hid hr
  have H0 := Lib.hid hm
  have HI := Lib.hid (fun (j : Nat) (h : j < E.length) => risesB_mem hE _ (List.getElem_mem h))
  have HO := Lib.hid (fun j => linkF_ok (n := S.sets.length) (E.take j) hS.2 hrow)
  have HL := Lib.hid (fun j => (linkF_len (E.take j) S.follow row).trans hS.1)
  have HS := Lib.hid (fun (j : Nat) (h : j < E.length) => (show linkF S.follow (E.take (j + 1)) row = (linkF S.follow (E.take j) row).set E[j].toNat (mergedL ((linkF S.follow (E.take j) row).getD E[j].toNat []) row) by rw [List.take_succ_eq_append_getElem h]; exact linkF_snoc row E[j] (E.take j) S.follow))
  have HRO := Lib.hid (risesB_len0 hrow)
  have HMK := Lib.hid (fun k (h : MK M K k = true) => (show k < w.heap.size by unfold MK at h; simp only [Bool.or_eq_true] at h; rcases h with h | h; exact hM k h; exact hK k h))
  clear he hr hm hE hrow hS hM hK
  go_enter Tryd.func102, Tryd.ntmps102
  go_wp2
  go_loopw [10] (fun i wr => ∃ j : Nat, i = .int .i64 j ∧ j ≤ E.length ∧ Hid (MkAt M K wr pb ⟨S.sets, linkF S.follow (E.take j) row⟩ r f e m ∧ Nx M M w wr)) (fun i _ => E.length - (intOf i).toNat)
  case atStart => exact ⟨0, rfl, Nat.zero_le _, Lib.hid ⟨H0.out, Nx.refl _ _⟩⟩
  case round =>
    obtain ⟨j, rfl, hj, HH⟩ := hrel
    by_cases hp : j < E.length
    · have hk1 : IntKind.i64.wrap ((j : Int) + 1) = ((j + 1 : Nat) : Int) := by rw [IntKind.wrap_i64]; omega
      have hdl : decide ((j : Int) < (E.length : Int)) = true := by simp; omega
      have hx := HI.out j hp
      have hs := HS.out j hp
      have ho := HO.out j
      have hl := HL.out j
      have hhm := HH.out.1
      have hne : E ≠ [] := by intro e; rw [e] at hp; simp at hp
      obtain ⟨be, oe, ce', h1, hre⟩ := HE.out.run hne
      injection h1 with h1 _ h2
      subst h1 h2
      have hcell := (hide_less _ _ ((hre.sub (HH.out.2.sub K)).2 j hp))
      have HNX := Lib.hid HH.out.2
      clear hre HH
      generalize linkF S.follow (E.take j) row = F at *
      generalize E[j] = x at *
      obtain ⟨xn, rfl⟩ := Int.eq_ofNat_of_zero_le (show 0 ≤ x by omega)
      have hxn : xn < F.length := by omega
      have hxi : (xn : Int) < (F.length : Int) := by omega
      rw [Int.toNat_natCast] at hs
      have hgd : F.getD xn [] = F[xn] := by simp [hxn]
      rw [hgd] at hs
      obtain ⟨vs, vf, xs, hmi⟩ := hhm
      obtain ⟨g, c, rfl, hc, hg1, hg2, hg3, hg4⟩ := hmi.place (by intro e; have e : F = [] := e; rw [e] at hxn; simp at hxn)
      obtain ⟨A1, n1, c1, hy0, hy1, hy2⟩ := hg4 xn hxn
      obtain ⟨A1', c1', h1, hcc1⟩ := hy2.form
      injection h1 with h1 h2 h3
      subst h1 h2 h3
      simp only at hc hy2 hy0 hcc1
      have HMI := Lib.hid hmi
      have HC := Lib.hid (fun u (hu : Below wr.heap.size wr u) => And.intro (six (hmi.blk.step hu)) (show u.cell? ⟨g, xn, none⟩ = some (.slice A1 F[xn].length c1) from (hu.cell (p := ⟨g, xn, none⟩) hg3).trans hy0))
      have hfr : ∀ u, Below wr.heap.size wr u → u.frozen? ⟨g, xn, none⟩ = false := fun u hu => (hu.frozen (p := ⟨g, xn, none⟩) hg3).trans hy1
      have HFR := Lib.hid hfr
      have hlen1 : F[xn].length ≤ S.sets.length := risesB_len0 (ho _ (List.getElem_mem hxn))
      have HM := Lib.hid (fun u (hu : Below wr.heap.size wr u) => merged_any F[xn] row _ _ u (MK M K) (fun k hk => Nat.lt_of_lt_of_le (HMK.out k hk) (Nat.le_trans HNX.out.size hu.size)) (hy2.sub (below_sub _ hu)) ((HR.out.sub (HNX.out.sub K)).sub (below_sub _ hu)) (by have := HRO.out; omega))
      have HSS := Lib.hid hs
      have HG := Lib.hid (And.intro hg1 hg3)
      clear hmi hy0 hy1 hy2 hg4 hfr ho hs hgd hx hl hlen1 hg1 hg2 hg3
      go_wp2_with fail
      refine wp_region_acts 17 32 (fun u => Hid (Below wr.heap.size wr u)) (fun _ u u' => Below u.heap.size u u')
        (fun i v u => match i with
          | 0 => v = .pointer (some ⟨pb, 0, none⟩)
          | 1 => v = .pointer (some ⟨pb, 0, none⟩)
          | 2 => v = .pointer (some ⟨pb, 0, none⟩)
          | 3 => v = .pointer (some ⟨pb, 3, none⟩)
          | 4 => v = .slice (some ⟨g, 0, none⟩) F.length c
          | 5 => v = .int .i64 (xn : Int)
          | 6 => v = .pointer (some ⟨pb, 0, none⟩)
          | 7 => v = .pointer (some ⟨pb, 0, none⟩)
          | 8 => v = .pointer (some ⟨pb, 0, none⟩)
          | 9 => v = .pointer (some ⟨pb, 3, none⟩)
          | 10 => v = .slice (some ⟨g, 0, none⟩) F.length c
          | 11 => v = .int .i64 (xn : Int)
          | 12 => v = .pointer (some ⟨g, xn, none⟩)
          | 13 => v = .slice A1 F[xn].length c1
          | 14 => v = .slice Ar row.length cr
          | 15 => IntsV (hide u (MK M K)) (mergedL F[xn] row) v
          | 16 => v = .pointer (some ⟨g, xn, none⟩)
          | _ => True) (by kernel_rfl) (by kernel_rfl) rfl (Lib.hid (Below.refl _ _).drew) ?_ ?_ ?_ ?_
      · intro i u u' hi hC hr
        exact Lib.hid (hC.out.trans (hr.mono hC.out.size))
      · intro i j v u u' hi hj hne hv hr
        match i, hi, hne, hv with
        | 0, _, _, hv => exact hv
        | 1, _, _, hv => exact hv
        | 2, _, _, hv => exact hv
        | 3, _, _, hv => exact hv
        | 4, _, _, hv => exact hv
        | 5, _, _, hv => exact hv
        | 6, _, _, hv => exact hv
        | 7, _, _, hv => exact hv
        | 8, _, _, hv => exact hv
        | 9, _, _, hv => exact hv
        | 10, _, _, hv => exact hv
        | 11, _, _, hv => exact hv
        | 12, _, _, hv => exact hv
        | 13, _, _, hv => exact hv
        | 14, _, _, hv => exact hv
        | 15, _, hne, hv =>
          exact hv.sub (below_sub _ hr)
        | 16, _, _, hv => exact hv
        | i + 17, hi, _, _ => omega
      · intro i hi vs u hC hw o ho
        match i, hi, hw, ho with
        | 0, _, hw, ho =>
          simp only [List.getElem?_toArray, List.getElem?_cons_zero, Option.some.injEq] at ho
          subst ho
          refine ⟨rfl, ?_⟩
          obtain ⟨⟨k0, k1, k2, k3, k4, k5⟩, y0⟩ := HC.out u hC.out
          clear hw
          simp only [textFrame_eq, tmpsTo]
          go_simp
          exact act_val (Below.refl _ _) rfl
        | 1, _, hw, ho =>
          have e0 : vs 0 = .pointer (some ⟨pb, 0, none⟩) := hw 0 (by omega) (by kernel_rfl)
          simp only [List.getElem?_toArray, List.getElem?_cons_zero, List.getElem?_cons_succ, Option.some.injEq] at ho
          subst ho
          refine ⟨rfl, ?_⟩
          obtain ⟨⟨k0, k1, k2, k3, k4, k5⟩, y0⟩ := HC.out u hC.out
          clear hw
          simp only [textFrame_eq, tmpsTo, putT, List.getElem?_toArray, List.getElem?_cons_zero, Option.bind_some, List.setIfInBounds_toArray, List.set_cons_zero, List.set_cons_succ]
          rw [e0]
          clear e0
          go_simp
          exact act_val (Below.refl _ _) rfl
        | 2, _, hw, ho =>
          have e1 : vs 1 = .pointer (some ⟨pb, 0, none⟩) := hw 1 (by omega) (by kernel_rfl)
          simp only [List.getElem?_toArray, List.getElem?_cons_zero, List.getElem?_cons_succ, Option.some.injEq] at ho
          subst ho
          refine ⟨rfl, ?_⟩
          obtain ⟨⟨k0, k1, k2, k3, k4, k5⟩, y0⟩ := HC.out u hC.out
          clear hw
          simp only [textFrame_eq, tmpsTo, putT, List.getElem?_toArray, List.getElem?_cons_zero, List.getElem?_cons_succ, Option.bind_some, List.setIfInBounds_toArray, List.set_cons_zero, List.set_cons_succ]
          rw [e1]
          clear e1
          go_simp
          exact act_val (Below.refl _ _) rfl
        | 3, _, hw, ho =>
          have e2 : vs 2 = .pointer (some ⟨pb, 0, none⟩) := hw 2 (by omega) (by kernel_rfl)
          simp only [List.getElem?_toArray, List.getElem?_cons_zero, List.getElem?_cons_succ, Option.some.injEq] at ho
          subst ho
          refine ⟨rfl, ?_⟩
          obtain ⟨⟨k0, k1, k2, k3, k4, k5⟩, y0⟩ := HC.out u hC.out
          clear hw
          simp only [textFrame_eq, tmpsTo, putT, List.getElem?_toArray, List.getElem?_cons_zero, List.getElem?_cons_succ, Option.bind_some, List.setIfInBounds_toArray, List.set_cons_zero, List.set_cons_succ]
          rw [e2]
          clear e2
          go_simp
          exact act_val (Below.refl _ _) rfl
        | 4, _, hw, ho =>
          have e3 : vs 3 = .pointer (some ⟨pb, 3, none⟩) := hw 3 (by omega) (by kernel_rfl)
          simp only [List.getElem?_toArray, List.getElem?_cons_zero, List.getElem?_cons_succ, Option.some.injEq] at ho
          subst ho
          refine ⟨rfl, ?_⟩
          obtain ⟨⟨k0, k1, k2, k3, k4, k5⟩, y0⟩ := HC.out u hC.out
          clear hw
          simp only [textFrame_eq, tmpsTo, putT, List.getElem?_toArray, List.getElem?_cons_zero, List.getElem?_cons_succ, Option.bind_some, List.setIfInBounds_toArray, List.set_cons_zero, List.set_cons_succ]
          rw [e3]
          clear e3
          go_simp
          exact act_val (Below.refl _ _) rfl
        | 5, _, hw, ho =>
          simp only [List.getElem?_toArray, List.getElem?_cons_zero, List.getElem?_cons_succ, Option.some.injEq] at ho
          subst ho
          refine ⟨rfl, ?_⟩
          obtain ⟨⟨k0, k1, k2, k3, k4, k5⟩, y0⟩ := HC.out u hC.out
          clear hw
          simp only [textFrame_eq, tmpsTo, putT, List.getElem?_toArray, List.getElem?_cons_zero, List.getElem?_cons_succ, Option.bind_some, List.setIfInBounds_toArray, List.set_cons_zero, List.set_cons_succ]
          go_simp
          exact act_val (Below.refl _ _) rfl
        | 6, _, hw, ho =>
          simp only [List.getElem?_toArray, List.getElem?_cons_zero, List.getElem?_cons_succ, Option.some.injEq] at ho
          subst ho
          refine ⟨rfl, ?_⟩
          obtain ⟨⟨k0, k1, k2, k3, k4, k5⟩, y0⟩ := HC.out u hC.out
          clear hw
          simp only [textFrame_eq, tmpsTo, putT, List.getElem?_toArray, List.getElem?_cons_zero, List.getElem?_cons_succ, Option.bind_some, List.setIfInBounds_toArray, List.set_cons_zero, List.set_cons_succ]
          go_simp
          exact act_val (Below.refl _ _) rfl
        | 7, _, hw, ho =>
          have e6 : vs 6 = .pointer (some ⟨pb, 0, none⟩) := hw 6 (by omega) (by kernel_rfl)
          simp only [List.getElem?_toArray, List.getElem?_cons_zero, List.getElem?_cons_succ, Option.some.injEq] at ho
          subst ho
          refine ⟨rfl, ?_⟩
          obtain ⟨⟨k0, k1, k2, k3, k4, k5⟩, y0⟩ := HC.out u hC.out
          clear hw
          simp only [textFrame_eq, tmpsTo, putT, List.getElem?_toArray, List.getElem?_cons_zero, List.getElem?_cons_succ, Option.bind_some, List.setIfInBounds_toArray, List.set_cons_zero, List.set_cons_succ]
          rw [e6]
          clear e6
          go_simp
          exact act_val (Below.refl _ _) rfl
        | 8, _, hw, ho =>
          have e7 : vs 7 = .pointer (some ⟨pb, 0, none⟩) := hw 7 (by omega) (by kernel_rfl)
          simp only [List.getElem?_toArray, List.getElem?_cons_zero, List.getElem?_cons_succ, Option.some.injEq] at ho
          subst ho
          refine ⟨rfl, ?_⟩
          obtain ⟨⟨k0, k1, k2, k3, k4, k5⟩, y0⟩ := HC.out u hC.out
          clear hw
          simp only [textFrame_eq, tmpsTo, putT, List.getElem?_toArray, List.getElem?_cons_zero, List.getElem?_cons_succ, Option.bind_some, List.setIfInBounds_toArray, List.set_cons_zero, List.set_cons_succ]
          rw [e7]
          clear e7
          go_simp
          exact act_val (Below.refl _ _) rfl
        | 9, _, hw, ho =>
          have e8 : vs 8 = .pointer (some ⟨pb, 0, none⟩) := hw 8 (by omega) (by kernel_rfl)
          simp only [List.getElem?_toArray, List.getElem?_cons_zero, List.getElem?_cons_succ, Option.some.injEq] at ho
          subst ho
          refine ⟨rfl, ?_⟩
          obtain ⟨⟨k0, k1, k2, k3, k4, k5⟩, y0⟩ := HC.out u hC.out
          clear hw
          simp only [textFrame_eq, tmpsTo, putT, List.getElem?_toArray, List.getElem?_cons_zero, List.getElem?_cons_succ, Option.bind_some, List.setIfInBounds_toArray, List.set_cons_zero, List.set_cons_succ]
          rw [e8]
          clear e8
          go_simp
          exact act_val (Below.refl _ _) rfl
        | 10, _, hw, ho =>
          have e9 : vs 9 = .pointer (some ⟨pb, 3, none⟩) := hw 9 (by omega) (by kernel_rfl)
          simp only [List.getElem?_toArray, List.getElem?_cons_zero, List.getElem?_cons_succ, Option.some.injEq] at ho
          subst ho
          refine ⟨rfl, ?_⟩
          obtain ⟨⟨k0, k1, k2, k3, k4, k5⟩, y0⟩ := HC.out u hC.out
          clear hw
          simp only [textFrame_eq, tmpsTo, putT, List.getElem?_toArray, List.getElem?_cons_zero, List.getElem?_cons_succ, Option.bind_some, List.setIfInBounds_toArray, List.set_cons_zero, List.set_cons_succ]
          rw [e9]
          clear e9
          go_simp
          exact act_val (Below.refl _ _) rfl
        | 11, _, hw, ho =>
          simp only [List.getElem?_toArray, List.getElem?_cons_zero, List.getElem?_cons_succ, Option.some.injEq] at ho
          subst ho
          refine ⟨rfl, ?_⟩
          obtain ⟨⟨k0, k1, k2, k3, k4, k5⟩, y0⟩ := HC.out u hC.out
          clear hw
          simp only [textFrame_eq, tmpsTo, putT, List.getElem?_toArray, List.getElem?_cons_zero, List.getElem?_cons_succ, Option.bind_some, List.setIfInBounds_toArray, List.set_cons_zero, List.set_cons_succ]
          go_simp
          exact act_val (Below.refl _ _) rfl
        | 12, _, hw, ho =>
          have e10 : vs 10 = .slice (some ⟨g, 0, none⟩) F.length c := hw 10 (by omega) (by kernel_rfl)
          have e11 : vs 11 = .int .i64 (xn : Int) := hw 11 (by omega) (by kernel_rfl)
          simp only [List.getElem?_toArray, List.getElem?_cons_zero, List.getElem?_cons_succ, Option.some.injEq] at ho
          subst ho
          refine ⟨rfl, ?_⟩
          obtain ⟨⟨k0, k1, k2, k3, k4, k5⟩, y0⟩ := HC.out u hC.out
          clear hw
          simp only [textFrame_eq, tmpsTo, putT, List.getElem?_toArray, List.getElem?_cons_zero, List.getElem?_cons_succ, Option.bind_some, List.setIfInBounds_toArray, List.set_cons_zero, List.set_cons_succ]
          rw [e10, e11]
          clear e10 e11
          go_simp
          exact act_val (Below.refl _ _) rfl
        | 13, _, hw, ho =>
          have e12 : vs 12 = .pointer (some ⟨g, xn, none⟩) := hw 12 (by omega) (by kernel_rfl)
          simp only [List.getElem?_toArray, List.getElem?_cons_zero, List.getElem?_cons_succ, Option.some.injEq] at ho
          subst ho
          refine ⟨rfl, ?_⟩
          obtain ⟨⟨k0, k1, k2, k3, k4, k5⟩, y0⟩ := HC.out u hC.out
          clear hw
          simp only [textFrame_eq, tmpsTo, putT, List.getElem?_toArray, List.getElem?_cons_zero, List.getElem?_cons_succ, Option.bind_some, List.setIfInBounds_toArray, List.set_cons_zero, List.set_cons_succ]
          rw [e12]
          clear e12
          go_simp
          exact act_val (Below.refl _ _) rfl
        | 14, _, hw, ho =>
          simp only [List.getElem?_toArray, List.getElem?_cons_zero, List.getElem?_cons_succ, Option.some.injEq] at ho
          subst ho
          refine ⟨rfl, ?_⟩
          obtain ⟨⟨k0, k1, k2, k3, k4, k5⟩, y0⟩ := HC.out u hC.out
          clear hw
          simp only [textFrame_eq, tmpsTo, putT, List.getElem?_toArray, List.getElem?_cons_zero, List.getElem?_cons_succ, Option.bind_some, List.setIfInBounds_toArray, List.set_cons_zero, List.set_cons_succ]
          go_simp
          exact act_val (Below.refl _ _) rfl
        | 15, _, hw, ho =>
          have e13 : vs 13 = .slice A1 F[xn].length c1 := hw 13 (by omega) (by kernel_rfl)
          have e14 : vs 14 = .slice Ar row.length cr := hw 14 (by omega) (by kernel_rfl)
          simp only [List.getElem?_toArray, List.getElem?_cons_zero, List.getElem?_cons_succ, Option.some.injEq] at ho
          subst ho
          refine ⟨rfl, ?_⟩
          obtain ⟨⟨k0, k1, k2, k3, k4, k5⟩, y0⟩ := HC.out u hC.out
          clear hw
          simp only [textFrame_eq, tmpsTo, putT, List.getElem?_toArray, List.getElem?_cons_zero, List.getElem?_cons_succ, Option.bind_some, List.setIfInBounds_toArray, List.set_cons_zero, List.set_cons_succ]
          rw [e13, e14]
          clear e13 e14
          go_simp
          refine act_call ((HM.out u hC.out).mono ?_)
          rintro e u' ⟨v', rfl, h1, h2⟩
          exact ⟨v', rfl, h2, h1⟩
        | 16, _, hw, ho =>
          have e4 : vs 4 = .slice (some ⟨g, 0, none⟩) F.length c := hw 4 (by omega) (by kernel_rfl)
          have e5 : vs 5 = .int .i64 (xn : Int) := hw 5 (by omega) (by kernel_rfl)
          simp only [List.getElem?_toArray, List.getElem?_cons_zero, List.getElem?_cons_succ, Option.some.injEq] at ho
          subst ho
          refine ⟨rfl, ?_⟩
          obtain ⟨⟨k0, k1, k2, k3, k4, k5⟩, y0⟩ := HC.out u hC.out
          clear hw
          simp only [textFrame_eq, tmpsTo, putT, List.getElem?_toArray, List.getElem?_cons_zero, List.getElem?_cons_succ, Option.bind_some, List.setIfInBounds_toArray, List.set_cons_zero, List.set_cons_succ]
          rw [e4, e5]
          clear e4 e5
          go_simp
          exact act_val (Below.refl _ _) rfl
        | i + 17, hi, _, _ => omega
      intro vs1 u hC hV
      obtain ⟨v15, h15⟩ : ∃ v, vs1 15 = v := ⟨_, rfl⟩
      have hv : IntsV (hide u (MK M K)) (mergedL F[xn] row) (vs1 15) := hV 15 (by omega)
      have hv16 : vs1 16 = .pointer (some ⟨g, xn, none⟩) := hV 16 (by omega)
      rw [h15] at hv
      have HV := Lib.hid hv
      obtain ⟨A9, c9, rfl, _⟩ := hv.form
      have HCO := Lib.hid hC.out
      have hfz := HFR.out u hC.out
      have hcl := (HC.out u hC.out).2
      clear hV hv hC
      simp only [textFrame_eq, tmpsTo, putT, List.getElem?_toArray, List.getElem?_cons_zero, List.getElem?_cons_succ, Option.bind_some, List.setIfInBounds_toArray, List.set_cons_zero, List.set_cons_succ, List.drop_succ_cons, List.drop_zero]
      rw [h15, hv16]
      clear h15 hv16
      generalize vs1 0 = q0
      go_wp2
      refine ⟨⟨j + 1, rfl, hp, Lib.hid ⟨?_, ?_⟩⟩, by simp [intOf]; omega⟩
      · rw [HSS.out]
        exact ⟨_, _, _, (HMI.out.step HCO.out).put xn HV.out⟩
      · exact HNX.out.trans ((Nx.below HCO.out).trans (Nx.put (M := M) (p := ⟨g, xn, none⟩) HG.out.1 _))
    · have hdl : decide ((j : Int) < (E.length : Int)) = false := by simp; omega
      obtain rfl : j = E.length := by omega
      rw [List.take_length] at HH
      go_wp2
      go_end0
      exact ⟨_, rfl, HH.out.2, HH.out.1⟩
end Go.Proofs.YtkcnknhhabbomaaDoor

namespace Go.Proofs.YtkcnknhhabbomaaDoor
open Go.RowKit

attribute [local irreducible] FreeW textFrame

def Kor (K : Nat → Bool) (b k : Nat) : Bool := K k || decide (k = b)
theorem Kor_no {K : Nat → Bool} {b k : Nat} : Kor K b k = false ↔ K k = false ∧ k ≠ b := by unfold Kor; simp
theorem Kor_me (K : Nat → Bool) (b : Nat) : Kor K b b = true := by unfold Kor; simp
theorem Kor_or {K : Nat → Bool} {b k : Nat} (h : K k = true) : Kor K b k = true := by unfold Kor; simp [h]
theorem Kor_lt {K : Nat → Bool} {b s : Nat} (hK : ∀ k, K k = true → k < s) (hb : b < s) : ∀ k, Kor K b k = true → k < s := fun k h => by
  unfold Kor at h
  simp only [Bool.or_eq_true, decide_eq_true_eq] at h
  rcases h with h | rfl
  · exact hK k h
  · exact hb
theorem Kor_sub {M K : Nat → Bool} {W : World} {b : Nat} : Sub (hide W (MK M (Kor K b))) (hide W (MK M K)) := hide_sub fun _ h1 _ => by
  rw [MK_no, Kor_no] at h1
  exact ⟨MK_no.2 ⟨h1.1, h1.2.1⟩, rfl⟩
theorem Kor_up {M M' K : Nat → Bool} {W W' : World} {b : Nat} (h : Nx M M' W W') (hb : W.heap.size ≤ b) : Sub (hide W (MK M K)) (hide W' (MK M' (Kor K b))) := hide_sub fun k h1 h2 => by
  rw [MK_no] at h1
  exact ⟨MK_no.2 ⟨(h.mine k h2).trans h1.1, Kor_no.2 ⟨h1.2, by omega⟩⟩, h.block k h2 h1.1⟩
theorem MkAt.sub {M K K' : Nat → Bool} {W W' : World} {pb : Nat} {S : Mk} {r f e m : Value} (h : MkAt M K W pb S r f e m) (hk : ∀ k, k < W.heap.size → M k = true → W'.heap[k]? = W.heap[k]?) (hs : Sub (hide W (MK M K)) (hide W' (MK M K'))) : MkAt M K' W' pb S r f e m := by
  obtain ⟨vs, vf, xs, h⟩ := h
  exact ⟨vs, vf, xs, (hk pb h.blk.lt h.mine).trans h.blk, h.mine, ownsRow_heap h.own0 fun k hk' => hk k (World.ownsRow.lt h.own0 k hk').2 (h.far0 k hk').1, ownsRow_heap h.own3 fun k hk' => hk k (World.ownsRow.lt h.own3 k hk').2 (h.far3 k hk').1, h.far0, h.far3,
    fun i hi => by obtain ⟨x, h1, h2⟩ := h.rows i hi; exact ⟨x, h1, h2.sub hs⟩⟩
theorem MkAt.new {M K : Nat → Bool} {W W' : World} {pb b : Nat} {S : Mk} {r f e m : Value} (h : MkAt M K W pb S r f e m) (hb : Below W.heap.size W W') (hb2 : W.heap.size ≤ b) : MkAt M (Kor K b) W' pb S r f e m :=
  h.sub (fun k hk _ => hb.block k hk) (Kor_up (Nx.below hb) hb2)
theorem MkAt.less {M K : Nat → Bool} {W : World} {pb b : Nat} {S : Mk} {r f e m : Value} (h : MkAt M (Kor K b) W pb S r f e m) : MkAt M K W pb S r f e m := h.sub (fun _ _ _ => rfl) Kor_sub
theorem MkAt.far {M K : Nat → Bool} {W : World} {pb b i : Nat} {S : Mk} {r f e m u : Value} (h : MkAt M K W pb S r f e m) (h1 : K b = true) (h2 : M b = false) : MkAt M K (W.setCell ⟨b, i, none⟩ u) pb S r f e m :=
  h.sub (fun k _ hm => Below.heap_setCell _ _ _ _ (by intro e; rw [e, h2] at hm; cases hm)) (put_sub (by unfold MK; simp [h1]) u)
theorem Nx.far {M M' : Nat → Bool} {W W' : World} {b i : Nat} {u : Value} (h : Nx M M' W W') (hb : W.heap.size ≤ b) : Nx M M' W (W'.setCell ⟨b, i, none⟩ u) :=
  ⟨h.os, h.tape, h.output, by rw [show (W'.setCell ⟨b, i, none⟩ u).heap.size = W'.heap.size by simp [World.setCell]]; exact h.size, fun k hk hm => (Below.heap_setCell _ _ _ _ (by show k ≠ b; omega)).trans (h.block k hk hm), h.mine⟩
theorem put_subM {M K : Nat → Bool} {W : World} {b i : Nat} (h : K b = true) (u : Value) : Sub (hide W (MK M K)) (hide (W.setCell ⟨b, i, none⟩ u) (MK M K)) := put_sub (by unfold MK; simp [h]) u

structure ThenI (M K : Nat → Bool) (w W : World) (pb : Nat) (S : Mk) (r f e m : Value) (b b' : Nat) (p q : Prt) (p1 p2 q1 q2 : Value) (A1 A2 : List Int) (a1 a2 a3 : Value) : Prop where
  at0 : BlkIs W b 116 #[p1, p2, .bool p.empty]
  at1 : BlkIs W (b + 1) 116 #[q1, q2, .bool q.empty]
  at2 : BlkIs W (b + 2) 116 #[.slice none 0 0, .slice none 0 0, .bool false]
  at3 : BlkIs W b' 116 #[a1, a2, a3]
  mkr : MkAt M (Kor (Kor K (b + 2)) b') W pb S r f e m
  nx : Nx M M w W
  r0 : IntsV (hide W (MK M (Kor (Kor K (b + 2)) b'))) p.first p1
  r1 : IntsV (hide W (MK M (Kor (Kor K (b + 2)) b'))) p.ends p2
  r2 : IntsV (hide W (MK M (Kor (Kor K (b + 2)) b'))) q.first q1
  r3 : IntsV (hide W (MK M (Kor (Kor K (b + 2)) b'))) q.ends q2
  r4 : IntsV (hide W (MK M (Kor (Kor K (b + 2)) b'))) A1 a1
  r5 : IntsV (hide W (MK M (Kor (Kor K (b + 2)) b'))) A2 a2
theorem ThenI.step {M K : Nat → Bool} {w W W' : World} {pb : Nat} {S : Mk} {r f e m : Value} {b b' : Nat} {p q : Prt} {p1 p2 q1 q2 : Value} {A1 A2 : List Int} {a1 a2 a3 : Value} (h : ThenI M K w W pb S r f e m b b' p q p1 p2 q1 q2 A1 A2 a1 a2 a3)
    (hb : Below W.heap.size W W') : ThenI M K w W' pb S r f e m b b' p q p1 p2 q1 q2 A1 A2 a1 a2 a3 :=
  ⟨h.at0.step hb, h.at1.step hb, h.at2.step hb, h.at3.step hb, h.mkr.step hb, h.nx.trans (Nx.below hb), h.r0.sub (below_sub _ hb), h.r1.sub (below_sub _ hb), h.r2.sub (below_sub _ hb), h.r3.sub (below_sub _ hb), h.r4.sub (below_sub _ hb), h.r5.sub (below_sub _ hb)⟩
theorem ThenI.put {M K : Nat → Bool} {w W : World} {pb : Nat} {S : Mk} {r f e m : Value} {b b' : Nat} {p q : Prt} {p1 p2 q1 q2 : Value} {A1 A2 X : List Int} {a1 a2 a3 x : Value} (h : ThenI M K w W pb S r f e m b b' p q p1 p2 q1 q2 A1 A2 a1 a2 a3)
    (hw : w.heap.size ≤ b) (hb : b + 2 < b') (hM : M b' = false) (hx : IntsV (hide W (MK M (Kor (Kor K (b + 2)) b'))) X x) :
    ThenI M K w (W.setCell ⟨b', 0, none⟩ x) pb S r f e m b b' p q p1 p2 q1 q2 X A2 x a2 a3 ∧ ThenI M K w (W.setCell ⟨b', 1, none⟩ x) pb S r f e m b b' p q p1 p2 q1 q2 A1 X a1 x a3 := by
  have hk := Kor_me (Kor K (b + 2)) b'
  have hs := fun i => put_subM (M := M) (W := W) (i := i) hk x
  exact ⟨⟨h.at0.far (by show b ≠ b'; omega) _, h.at1.far (by show b + 1 ≠ b'; omega) _, h.at2.far (by show b + 2 ≠ b'; omega) _, h.at3.put 0 x, h.mkr.far hk hM, h.nx.far (by omega), h.r0.sub (hs 0), h.r1.sub (hs 0), h.r2.sub (hs 0), h.r3.sub (hs 0), hx.sub (hs 0), h.r5.sub (hs 0)⟩,
    ⟨h.at0.far (by show b ≠ b'; omega) _, h.at1.far (by show b + 1 ≠ b'; omega) _, h.at2.far (by show b + 2 ≠ b'; omega) _, h.at3.put 1 x, h.mkr.far hk hM, h.nx.far (by omega), h.r0.sub (hs 1), h.r1.sub (hs 1), h.r2.sub (hs 1), h.r3.sub (hs 1), h.r4.sub (hs 1), hx.sub (hs 1)⟩⟩
theorem ThenI.put2 {M K : Nat → Bool} {w W : World} {pb : Nat} {S : Mk} {r f e m : Value} {b b' : Nat} {p q : Prt} {p1 p2 q1 q2 : Value} {A1 A2 : List Int} {a1 a2 a3 : Value} (h : ThenI M K w W pb S r f e m b b' p q p1 p2 q1 q2 A1 A2 a1 a2 a3)
    (hw : w.heap.size ≤ b) (hb : b + 2 < b') (hM : M b' = false) (x : Value) : ThenI M K w (W.setCell ⟨b', 2, none⟩ x) pb S r f e m b b' p q p1 p2 q1 q2 A1 A2 a1 a2 x := by
  have hk := Kor_me (Kor K (b + 2)) b'
  have hs := put_subM (M := M) (W := W) (i := 2) hk x
  exact ⟨h.at0.far (by show b ≠ b'; omega) _, h.at1.far (by show b + 1 ≠ b'; omega) _, h.at2.far (by show b + 2 ≠ b'; omega) _, h.at3.put 2 x, h.mkr.far hk hM, h.nx.far (by omega), h.r0.sub hs, h.r1.sub hs, h.r2.sub hs, h.r3.sub hs, h.r4.sub hs, h.r5.sub hs⟩
theorem ThenI.fin {M K : Nat → Bool} {w W : World} {pb : Nat} {S : Mk} {r f e m : Value} {b b' : Nat} {p q : Prt} {p1 p2 q1 q2 : Value} {A1 A2 : List Int} {a1 a2 : Value} {z : Bool} (h : ThenI M K w W pb S r f e m b b' p q p1 p2 q1 q2 A1 A2 a1 a2 (.bool z))
    (hw : w.heap.size ≤ b) (hM : M (b + 2) = false) :
    (loadVar 116 ⟨b + 2, 0, none⟩).run Tryd.prog (((W.setCell ⟨b + 2, 0, none⟩ a1).setCell ⟨b + 2, 1, none⟩ a2).setCell ⟨b + 2, 2, none⟩ (.bool z)) = .ok (.agg #[a1, a2, .bool z]) (((W.setCell ⟨b + 2, 0, none⟩ a1).setCell ⟨b + 2, 1, none⟩ a2).setCell ⟨b + 2, 2, none⟩ (.bool z)) ∧
    Nx M M w (((W.setCell ⟨b + 2, 0, none⟩ a1).setCell ⟨b + 2, 1, none⟩ a2).setCell ⟨b + 2, 2, none⟩ (.bool z)) ∧
    MkAt M K (((W.setCell ⟨b + 2, 0, none⟩ a1).setCell ⟨b + 2, 1, none⟩ a2).setCell ⟨b + 2, 2, none⟩ (.bool z)) pb S r f e m ∧
    PrtV (hide (((W.setCell ⟨b + 2, 0, none⟩ a1).setCell ⟨b + 2, 1, none⟩ a2).setCell ⟨b + 2, 2, none⟩ (.bool z)) (MK M K)) ⟨A1, A2, z⟩ (.agg #[a1, a2, .bool z]) := by
  have hk : Kor (Kor K (b + 2)) b' (b + 2) = true := Kor_or (Kor_me K (b + 2))
  have hs := ((((put_subM (M := M) (W := W) (i := 0) hk a1).trans (put_subM (M := M) (i := 1) hk a2)).trans (put_subM (M := M) (i := 2) hk (.bool z))).trans Kor_sub).trans Kor_sub
  exact ⟨load_part (put_three h.at2), ((h.nx.far (by omega)).far (by omega)).far (by omega), (((h.mkr.far hk hM).far hk hM).far hk hM).less.less, _, _, rfl, h.r4.sub hs, h.r5.sub hs⟩
end Go.Proofs.YtkcnknhhabbomaaDoor

namespace Go.Proofs.YtkcnknhhabbomaaDoor
open Go.RowKit

attribute [local irreducible] FreeW textFrame

set_option maxRecDepth 20000 in
set_option maxHeartbeats 16000000 in
theorem then_any (M K : Nat → Bool) (S : Mk) (p q : Prt) (vp vq : Value) (pb : Nat) (r f e m : Value) (w : World) (hm : MkAt M K w pb S r f e m) (hp : PrtV (hide w (MK M K)) p vp) (hq : PrtV (hide w (MK M K)) q vq)
    (hS : S.Ok) (hpo : p.Ok S.sets.length) (hqo : q.Ok S.sets.length) (hn : S.sets.length ≤ 1048576) (hM : ∀ k, M k = true → k < w.heap.size) (hK : ∀ k, K k = true → k < w.heap.size) :
    Calls Tryd.prog 99 #[.pointer (some ⟨pb, 0, none⟩), vp, vq] w fun x w' => ∃ v', x = .returned v' ∧ Nx M M w w' ∧ MkAt M K w' pb ⟨S.sets, linkF S.follow p.ends q.first⟩ r f e m ∧ PrtV (hide w' (MK M K)) (bothP p q) v' := by
  obtain ⟨p1, p2, rfl, hp1, hp2⟩ := hp
  obtain ⟨q1, q2, rfl, hq1, hq2⟩ := hq
  obtain ⟨P1, cp1, rfl, _⟩ := hp1.form
  obtain ⟨P2, cp2, rfl, _⟩ := hp2.form
  obtain ⟨Q1, cq1, rfl, _⟩ := hq1.form
  obtain ⟨Q2, cq2, rfl, _⟩ := hq2.form
  -- the three blocks
  obtain ⟨w3, hw3⟩ : ∃ w3, ((w.alloc (.cells #[.slice P1 p.first.length cp1, .slice P2 p.ends.length cp2, .bool p.empty] 116)).alloc (.cells #[.slice Q1 q.first.length cq1, .slice Q2 q.ends.length cq2, .bool q.empty] 116)).alloc (.cells #[.slice none 0 0, .slice none 0 0, .bool false] 116) = w3 := ⟨_, rfl⟩
  have hb3 : Below w.heap.size w w3 := by rw [← hw3]; exact (((Below.refl _ _).alloc (Nat.le_refl _) _).alloc (by simp) _).alloc (by simp; omega) _
  have hs3 : w3.heap.size = w.heap.size + 3 := by rw [← hw3]; simp
  have hx0 : BlkIs w3 w.heap.size 116 #[.slice P1 p.first.length cp1, .slice P2 p.ends.length cp2, .bool p.empty] := by rw [← hw3]; exact ((BlkIs.new w _ _).alloc _).alloc _
  have hx1 : BlkIs w3 (w.heap.size + 1) 116 #[.slice Q1 q.first.length cq1, .slice Q2 q.ends.length cq2, .bool q.empty] := by
    rw [← hw3]
    have h := BlkIs.new (w.alloc (.cells #[.slice P1 p.first.length cp1, .slice P2 p.ends.length cp2, .bool p.empty] 116)) 116 #[.slice Q1 q.first.length cq1, .slice Q2 q.ends.length cq2, .bool q.empty]
    rw [World.size_alloc] at h
    exact h.alloc _
  have hx2 : BlkIs w3 (w.heap.size + 2) 116 #[.slice none 0 0, .slice none 0 0, .bool false] := by
    rw [← hw3]
    have h := BlkIs.new ((w.alloc (.cells #[.slice P1 p.first.length cp1, .slice P2 p.ends.length cp2, .bool p.empty] 116)).alloc (.cells #[.slice Q1 q.first.length cq1, .slice Q2 q.ends.length cq2, .bool q.empty] 116)) 116 #[.slice none 0 0, .slice none 0 0, .bool false]
    rw [World.size_alloc, World.size_alloc] at h
    exact h
  have hup : Sub (hide w (MK M K)) (hide w3 (MK M (Kor K (w.heap.size + 2)))) := Kor_up (Nx.below hb3) (by omega)
  have hMf : ∀ k, w.heap.size ≤ k → M k = false := fun k hk => by
    rw [Bool.eq_false_iff]; intro e; have := hM k e; omega
  have HLK := Lib.hid (link_any M (Kor K (w.heap.size + 2)) S p.ends q.first _ _ pb r f e m w3 (hm.new hb3 (by omega)) (hp2.sub hup) (hq1.sub hup) hS hpo.2 hqo.1 hn (fun k hk => by have := hM k hk; omega) (Kor_lt (fun k hk => by have := hK k hk; omega) (by omega)))
  have HX := Lib.hid (And.intro hx0 (And.intro hx1 hx2))
  have HB3 := Lib.hid (And.intro hb3 hs3)
  have HMF := Lib.hid hMf
  have HK := Lib.hid hK
  have HM := Lib.hid hM
  have HR := Lib.hid (And.intro (And.intro (hp1.sub hup) (hp2.sub hup)) (And.intro (hq1.sub hup) (hq2.sub hup)))
  have HO := Lib.hid (show (p.first.length ≤ 1048576 ∧ p.ends.length ≤ 1048576) ∧ (q.first.length ≤ 1048576 ∧ q.ends.length ≤ 1048576) from ⟨⟨Nat.le_trans (risesB_len0 hpo.1) hn, Nat.le_trans (risesB_len0 hpo.2) hn⟩, ⟨Nat.le_trans (risesB_len0 hqo.1) hn, Nat.le_trans (risesB_len0 hqo.2) hn⟩⟩)
  obtain ⟨d0, d1, d2, _, _, _⟩ := three hx0
  obtain ⟨e0, e1, e2, _, _, _⟩ := three hx1
  clear hp1 hp2 hq1 hq2 hb3 hx0 hx1 hx2 hup hMf hK hM hS hpo hqo hm hn
  obtain ⟨pe, hpe⟩ : ∃ pe, p.empty = pe := ⟨_, rfl⟩
  obtain ⟨qe, hqe⟩ : ∃ qe, q.empty = qe := ⟨_, rfl⟩
  rw [hpe] at hw3 d2 HX ⊢
  rw [hqe] at hw3 e2 HX ⊢
  have HPQ := Lib.hid (And.intro hpe hqe)
  clear hpe hqe
  go_enter Tryd.func99, Tryd.ntmps99
  go_wp2_with fail
  go_at_call 102
  refine HLK.out.mono ?_
  rintro x u1 ⟨y, rfl, hnx, hmk⟩
  have hbl : ∀ k, w.heap.size ≤ k → k < w3.heap.size → u1.heap[k]? = w3.heap[k]? := fun k hk hk2 => hnx.block k hk2 (HMF.out k hk)
  have hx0 : BlkIs u1 w.heap.size 116 _ := (hbl _ (Nat.le_refl _) HX.out.1.lt).trans HX.out.1
  have hx1 : BlkIs u1 (w.heap.size + 1) 116 _ := (hbl _ (by omega) HX.out.2.1.lt).trans HX.out.2.1
  have hx2 : BlkIs u1 (w.heap.size + 2) 116 _ := (hbl _ (by omega) HX.out.2.2.lt).trans HX.out.2.2
  have hsz : w.heap.size + 3 ≤ u1.heap.size := by have := hnx.size; have := HB3.out.2; omega
  have HTH := Lib.hid (fun z => (show ThenI M K w (u1.alloc (.cells #[.slice P1 p.first.length cp1, .slice Q2 q.ends.length cq2, .bool z] 116)) pb ⟨S.sets, linkF S.follow p.ends q.first⟩ r f e m w.heap.size u1.heap.size p q _ _ _ _ p.first q.ends (.slice P1 p.first.length cp1) (.slice Q2 q.ends.length cq2) (.bool z) from by
    have hb : Below u1.heap.size u1 (u1.alloc (.cells #[.slice P1 p.first.length cp1, .slice Q2 q.ends.length cq2, .bool z] 116)) := (Below.refl _ _).alloc (Nat.le_refl _) _
    have hs := (hnx.sub (Kor K (w.heap.size + 2))).trans (Kor_up (K := Kor K (w.heap.size + 2)) (Nx.below hb) (Nat.le_refl _))
    refine ⟨(hx0.step hb).trans ?_, (hx1.step hb).trans ?_, hx2.step hb, BlkIs.new _ _ _, hmk.new hb (Nat.le_refl _), (Nx.below HB3.out.1).trans (hnx.trans (Nx.below hb)), HR.out.1.1.sub hs, HR.out.1.2.sub hs, HR.out.2.1.sub hs, HR.out.2.2.sub hs, HR.out.1.1.sub hs, HR.out.2.2.sub hs⟩
    · rw [HPQ.out.1]
    · rw [HPQ.out.2]))
  clear d0 d1 d2 e0 e1 e2
  obtain ⟨d0, d1, d2, _, _, _⟩ := three hx0
  obtain ⟨e0, e1, e2, _, _, _⟩ := three hx1
  have HSZ := Lib.hid hsz
  have HMU := Lib.hid (HMF.out u1.heap.size (by omega))
  have HM2 := Lib.hid (HMF.out (w.heap.size + 2) (by omega))
  have HKK := Lib.hid (show ∀ k, MK M (Kor (Kor K (w.heap.size + 2)) u1.heap.size) k = true → k < u1.heap.size + 1 from fun k hk => by
    unfold MK at hk
    simp only [Bool.or_eq_true] at hk
    rcases hk with hk | hk
    · have := HM.out k hk; omega
    · exact Kor_lt (Kor_lt (fun k hk => by have := HK.out k hk; omega) (by omega)) (by omega) k hk)
  clear hnx hmk hbl hx0 hx1 hx2 hsz hw3
  cases pe with
  | false =>
    cases qe with
    | false =>
      have hth := (HTH.out false).put2 (Nat.le_refl _) (by have := HSZ.out; omega) HMU.out (.bool false)
      obtain ⟨U0, hU0⟩ : ∃ U0, (u1.alloc (.cells #[.slice P1 p.first.length cp1, .slice Q2 q.ends.length cq2, .bool false] 116)).setCell ⟨u1.heap.size, 2, none⟩ (.bool false) = U0 := ⟨_, rfl⟩
      clear HTH
      rw [hU0] at hth
      have hsU : u1.heap.size + 1 ≤ U0.heap.size := hth.at3.lt
      obtain ⟨d0', d1', d2', _, _, _⟩ := three hth.at0
      obtain ⟨e0', e1', e2', _, _, _⟩ := three hth.at1
      obtain ⟨g0, g1, g2, l0, l1, l2⟩ := three hth.at3
      obtain ⟨k0, k1, k2, m0, m1, m2⟩ := three hth.at2
      have hlt1 := hth.at2.lt
      have hlt2 := hth.at3.lt
      rw [HPQ.out.1] at d2'
      rw [HPQ.out.2] at e2'
      have HT0 := Lib.hid hth
      clear hth
      go_wp2
      obtain ⟨hl, hn1, hm1, hp1⟩ := HT0.out.fin (Nat.le_refl _) HM2.out
      refine ⟨rfl, _, results_cell1 rfl rfl hl, _, rfl, hn1, hm1, ?_⟩
      unfold bothP
      rw [HPQ.out.1, HPQ.out.2]
      exact hp1
    | true =>
      have hth := (HTH.out false).put2 (Nat.le_refl _) (by have := HSZ.out; omega) HMU.out (.bool false)
      obtain ⟨U0, hU0⟩ : ∃ U0, (u1.alloc (.cells #[.slice P1 p.first.length cp1, .slice Q2 q.ends.length cq2, .bool false] 116)).setCell ⟨u1.heap.size, 2, none⟩ (.bool false) = U0 := ⟨_, rfl⟩
      clear HTH
      rw [hU0] at hth
      have hsU : u1.heap.size + 1 ≤ U0.heap.size := hth.at3.lt
      obtain ⟨d0', d1', d2', _, _, _⟩ := three hth.at0
      obtain ⟨e0', e1', e2', _, _, _⟩ := three hth.at1
      obtain ⟨g0, g1, g2, l0, l1, l2⟩ := three hth.at3
      obtain ⟨k0, k1, k2, m0, m1, m2⟩ := three hth.at2
      have hlt1 := hth.at2.lt
      have hlt2 := hth.at3.lt
      rw [HPQ.out.1] at d2'
      rw [HPQ.out.2] at e2'
      have HT0 := Lib.hid hth
      clear hth
      go_wp2_with fail
      go_at_call 100
      have HC1 := Lib.hid (merged_any p.ends q.ends _ _ U0 _ (fun k hk => by have := HKK.out k hk; omega) HT0.out.r1 HT0.out.r3 (by have := HO.out; omega))
      refine HC1.out.mono ?_
      rintro x c1 ⟨v1, rfl, hv1, hb1⟩
      have ht1 := HT0.out.step hb1
      obtain ⟨U1, hU1⟩ : ∃ U1, c1.setCell ⟨u1.heap.size, 1, none⟩ v1 = U1 := ⟨_, rfl⟩
      have hth := (ht1.put (Nat.le_refl _) (by have := HSZ.out; omega) HMU.out hv1).2
      rw [hU1] at hth
      have hsU1 : U0.heap.size ≤ U1.heap.size := by rw [← hU1]; simpa [World.setCell] using hb1.size
      clear d0 d1 d2 e0 e1 e2 d0' d1' d2' e0' e1' e2' g0 g1 g2 l0 l1 l2 k0 k1 k2 m0 m1 m2 hlt1 hlt2
      obtain ⟨B1, z1, rfl, _⟩ := hv1.form
      obtain ⟨dd0, dd1, dd2, l0, l1, l2⟩ := three ht1.at3
      have HT1 := Lib.hid hth
      obtain ⟨d0, d1, d2, _, _, _⟩ := three hth.at0
      obtain ⟨e0, e1, e2, _, _, _⟩ := three hth.at1
      obtain ⟨g0, g1, g2, _, _, _⟩ := three hth.at3
      obtain ⟨k0, k1, k2, m0, m1, m2⟩ := three hth.at2
      have hlt1 := hth.at2.lt
      have hlt2 := hth.at3.lt
      rw [HPQ.out.1] at d2
      rw [HPQ.out.2] at e2
      clear hth ht1 hv1 hb1
      go_wp2
      obtain ⟨hl, hn1, hm1, hp1⟩ := HT1.out.fin (Nat.le_refl _) HM2.out
      refine ⟨rfl, _, results_cell1 rfl rfl hl, _, rfl, hn1, hm1, ?_⟩
      unfold bothP
      rw [HPQ.out.1, HPQ.out.2]
      exact hp1
  | true =>
    cases qe with
    | false =>
      have hth := (HTH.out false).put2 (Nat.le_refl _) (by have := HSZ.out; omega) HMU.out (.bool false)
      obtain ⟨U0, hU0⟩ : ∃ U0, (u1.alloc (.cells #[.slice P1 p.first.length cp1, .slice Q2 q.ends.length cq2, .bool false] 116)).setCell ⟨u1.heap.size, 2, none⟩ (.bool false) = U0 := ⟨_, rfl⟩
      clear HTH
      rw [hU0] at hth
      have hsU : u1.heap.size + 1 ≤ U0.heap.size := hth.at3.lt
      obtain ⟨d0', d1', d2', _, _, _⟩ := three hth.at0
      obtain ⟨e0', e1', e2', _, _, _⟩ := three hth.at1
      obtain ⟨g0, g1, g2, l0, l1, l2⟩ := three hth.at3
      obtain ⟨k0, k1, k2, m0, m1, m2⟩ := three hth.at2
      have hlt1 := hth.at2.lt
      have hlt2 := hth.at3.lt
      rw [HPQ.out.1] at d2'
      rw [HPQ.out.2] at e2'
      have HT0 := Lib.hid hth
      clear hth
      go_wp2_with fail
      go_at_call 100
      have HC1 := Lib.hid (merged_any p.first q.first _ _ U0 _ (fun k hk => by have := HKK.out k hk; omega) HT0.out.r0 HT0.out.r2 (by have := HO.out; omega))
      refine HC1.out.mono ?_
      rintro x c1 ⟨v1, rfl, hv1, hb1⟩
      have ht1 := HT0.out.step hb1
      obtain ⟨U1, hU1⟩ : ∃ U1, c1.setCell ⟨u1.heap.size, 0, none⟩ v1 = U1 := ⟨_, rfl⟩
      have hth := (ht1.put (Nat.le_refl _) (by have := HSZ.out; omega) HMU.out hv1).1
      rw [hU1] at hth
      have hsU1 : U0.heap.size ≤ U1.heap.size := by rw [← hU1]; simpa [World.setCell] using hb1.size
      clear d0 d1 d2 e0 e1 e2 d0' d1' d2' e0' e1' e2' g0 g1 g2 l0 l1 l2 k0 k1 k2 m0 m1 m2 hlt1 hlt2
      obtain ⟨B1, z1, rfl, _⟩ := hv1.form
      obtain ⟨dd0, dd1, dd2, l0, l1, l2⟩ := three ht1.at3
      have HT1 := Lib.hid hth
      obtain ⟨d0, d1, d2, _, _, _⟩ := three hth.at0
      obtain ⟨e0, e1, e2, _, _, _⟩ := three hth.at1
      obtain ⟨g0, g1, g2, _, _, _⟩ := three hth.at3
      obtain ⟨k0, k1, k2, m0, m1, m2⟩ := three hth.at2
      have hlt1 := hth.at2.lt
      have hlt2 := hth.at3.lt
      rw [HPQ.out.1] at d2
      rw [HPQ.out.2] at e2
      clear hth ht1 hv1 hb1
      go_wp2
      obtain ⟨hl, hn1, hm1, hp1⟩ := HT1.out.fin (Nat.le_refl _) HM2.out
      refine ⟨rfl, _, results_cell1 rfl rfl hl, _, rfl, hn1, hm1, ?_⟩
      unfold bothP
      rw [HPQ.out.1, HPQ.out.2]
      exact hp1
    | true =>
      have hth := HTH.out true
      obtain ⟨U0, hU0⟩ : ∃ U0, u1.alloc (.cells #[.slice P1 p.first.length cp1, .slice Q2 q.ends.length cq2, .bool true] 116) = U0 := ⟨_, rfl⟩
      clear HTH
      rw [hU0] at hth
      have hsU : u1.heap.size + 1 ≤ U0.heap.size := hth.at3.lt
      obtain ⟨d0', d1', d2', _, _, _⟩ := three hth.at0
      obtain ⟨e0', e1', e2', _, _, _⟩ := three hth.at1
      obtain ⟨g0, g1, g2, l0, l1, l2⟩ := three hth.at3
      obtain ⟨k0, k1, k2, m0, m1, m2⟩ := three hth.at2
      have hlt1 := hth.at2.lt
      have hlt2 := hth.at3.lt
      rw [HPQ.out.1] at d2'
      rw [HPQ.out.2] at e2'
      have HT0 := Lib.hid hth
      clear hth
      go_wp2_with fail
      go_at_call 100
      have HC1 := Lib.hid (merged_any p.first q.first _ _ U0 _ (fun k hk => by have := HKK.out k hk; omega) HT0.out.r0 HT0.out.r2 (by have := HO.out; omega))
      refine HC1.out.mono ?_
      rintro x c1 ⟨v1, rfl, hv1, hb1⟩
      have ht1 := HT0.out.step hb1
      obtain ⟨U1, hU1⟩ : ∃ U1, c1.setCell ⟨u1.heap.size, 0, none⟩ v1 = U1 := ⟨_, rfl⟩
      have hth := (ht1.put (Nat.le_refl _) (by have := HSZ.out; omega) HMU.out hv1).1
      rw [hU1] at hth
      have hsU1 : U0.heap.size ≤ U1.heap.size := by rw [← hU1]; simpa [World.setCell] using hb1.size
      clear d0 d1 d2 e0 e1 e2 d0' d1' d2' e0' e1' e2' g0 g1 g2 l0 l1 l2 k0 k1 k2 m0 m1 m2 hlt1 hlt2
      obtain ⟨B1, z1, rfl, _⟩ := hv1.form
      obtain ⟨dd0, dd1, dd2, l0, l1, l2⟩ := three ht1.at3
      have HT1 := Lib.hid hth
      obtain ⟨d0, d1, d2, _, _, _⟩ := three hth.at0
      obtain ⟨e0, e1, e2, _, _, _⟩ := three hth.at1
      obtain ⟨g0, g1, g2, _, _, _⟩ := three hth.at3
      obtain ⟨k0, k1, k2, m0, m1, m2⟩ := three hth.at2
      have hlt1 := hth.at2.lt
      have hlt2 := hth.at3.lt
      rw [HPQ.out.1] at d2
      rw [HPQ.out.2] at e2
      clear hth ht1 hv1 hb1
      go_wp2_with fail
      go_at_call 100
      have HC2 := Lib.hid (merged_any p.ends q.ends _ _ U1 _ (fun k hk => by have := HKK.out k hk; omega) HT1.out.r1 HT1.out.r3 (by have := HO.out; omega))
      refine HC2.out.mono ?_
      rintro x c2 ⟨v2, rfl, hv2, hb2⟩
      have ht2 := HT1.out.step hb2
      obtain ⟨U2, hU2⟩ : ∃ U2, c2.setCell ⟨u1.heap.size, 1, none⟩ v2 = U2 := ⟨_, rfl⟩
      have hth := (ht2.put (Nat.le_refl _) (by have := HSZ.out; omega) HMU.out hv2).2
      rw [hU2] at hth
      have hsU2 : U1.heap.size ≤ U2.heap.size := by rw [← hU2]; simpa [World.setCell] using hb2.size
      clear dd0 dd1 dd2 l0 l1 l2 d0 d1 d2 e0 e1 e2 g0 g1 g2 k0 k1 k2 m0 m1 m2 hlt1 hlt2
      obtain ⟨B2, z2, rfl, _⟩ := hv2.form
      obtain ⟨dd0, dd1, dd2, l0, l1, l2⟩ := three ht2.at3
      have HT2 := Lib.hid hth
      obtain ⟨d0, d1, d2, _, _, _⟩ := three hth.at0
      obtain ⟨e0, e1, e2, _, _, _⟩ := three hth.at1
      obtain ⟨g0, g1, g2, _, _, _⟩ := three hth.at3
      obtain ⟨k0, k1, k2, m0, m1, m2⟩ := three hth.at2
      have hlt1 := hth.at2.lt
      have hlt2 := hth.at3.lt
      rw [HPQ.out.1] at d2
      rw [HPQ.out.2] at e2
      clear hth ht2 hv2 hb2
      go_wp2
      obtain ⟨hl, hn1, hm1, hp1⟩ := HT2.out.fin (Nat.le_refl _) HM2.out
      refine ⟨rfl, _, results_cell1 rfl rfl hl, _, rfl, hn1, hm1, ?_⟩
      unfold bothP
      rw [HPQ.out.1, HPQ.out.2]
      exact hp1
end Go.Proofs.YtkcnknhhabbomaaDoor

