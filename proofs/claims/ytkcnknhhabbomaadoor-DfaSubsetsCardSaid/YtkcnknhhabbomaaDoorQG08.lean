/-
  ROWS OF PLACES: both, rowOf: contracts. No condition but that the places are below 2048.
-/
import Derived.Test.YtkcnknhhabbomaaDoorQG07
namespace Go.Proofs.YtkcnknhhabbomaaDoor
open Go.RowKit

theorem zeroRw (w : World) : (zeroValue 75).run Tryd.prog w = .ok (.agg (rowA fun _ => false)) w :=
  (zero_of_info (P := Tryd.prog) (t := 75) (v := .agg (rowA fun _ => false)) (n := 32) (by kernel_rfl)).1 w
theorem newF (w : World) (t : TypeId) (f : Nat → Bool) : BlkF (w.alloc (.cells (rowA f) t)) w.heap.size t 32 (rowP f) := BlkIs.new w t _
theorem rowF_has (f : Nat → Bool) : HasRow 32 (rowP f) 0 f := ⟨by decide, fun k _ => by rw [Nat.zero_add]⟩
theorem RowAt.alloc {W : World} {g o : Nat} {f : Nat → Bool} (h : RowAt W g o f) (ob : Obj) : RowAt (W.alloc ob) g o f := h.step ((Below.refl _ _).alloc (Nat.le_refl _) _)
def bothF (f : Nat → Bool) (k : Nat) : Nat → Value := fun i => if i < k then rowP f i else .int .u64 0
theorem bothF_put (f : Nat → Bool) (k : Nat) : putV (bothF f k) k (rowP f k) = bothF f (k + 1) := by
  funext i; unfold putV bothF
  by_cases h : i = k
  · subst h; rw [if_pos rfl, if_pos (by omega)]
  · rw [if_neg h]
    by_cases h2 : i < k
    · rw [if_pos h2, if_pos (by omega)]
    · rw [if_neg h2, if_neg (by omega)]
theorem wd_noP (k : Nat) : wd (fun _ => false) k = 0 := by
  apply Nat.eq_of_testBit_eq
  intro j
  rw [wd_testBit]; simp
theorem bothF_none (f : Nat → Bool) : rowP (fun _ => false) = bothF f 0 := by
  funext i; unfold bothF rowP; rw [if_neg (by omega), wd_noP]; rfl
set_option maxRecDepth 20000 in
set_option maxHeartbeats 4000000 in
theorem rowBoth_any (g o : Nat) (f f2 : Nat → Bool) (g2 o2 : Nat) (w : World) (h1 : RowAt w g o f) (h2 : RowAt w g2 o2 f2) :
    Calls Tryd.prog 54 #[.pointer (some ⟨g, o, none⟩), .pointer (some ⟨g2, o2, none⟩)] w fun e w' => e = .returned (.agg (rowA (sAnd f f2))) ∧ Below w.heap.size w w' := by
  have z := zeroRw
  obtain ⟨Wa, hWa⟩ : ∃ Wa, (w.alloc (.cells (rowA fun _ => false) 75)) = Wa := ⟨_, rfl⟩
  obtain ⟨Wb, hWb⟩ : ∃ Wb, (Wa.alloc (.cells (rowA fun _ => false) 75)) = Wb := ⟨_, rfl⟩
  have hsz : Wa.heap.size = w.heap.size + 1 := by rw [← hWa]; simp
  have ha1 : RowAt Wb g o f := by rw [← hWb, ← hWa]; exact (h1.alloc _).alloc _
  have ha2 : RowAt Wb g2 o2 f2 := by rw [← hWb, ← hWa]; exact (h2.alloc _).alloc _
  have hr : BlkF Wb w.heap.size 75 32 (rowP fun _ => false) := by rw [← hWb, ← hWa]; exact BlkIs.alloc (newF w _ _) _
  have hl : BlkF Wb (w.heap.size + 1) 75 32 (bothF (sAnd f f2) 0) := by rw [← hWb, ← bothF_none, ← hsz]; exact newF Wa _ _
  have hbb : Below w.heap.size w Wb := by rw [← hWb, ← hWa]; exact ((Below.refl _ _).alloc (Nat.le_refl _) _).alloc (by simp) _
  have hg1 : g < w.heap.size := World.block_lt_of_cell? w ⟨g, o + 0, none⟩ (h1 0 (by decide))
  have HB := Lib.hid (And.intro ha1 (And.intro ha2 (And.intro hr (And.intro hl hbb))))
  clear h1 h2 ha1 ha2 hr hl hbb
  go_enter Tryd.func54, Tryd.ntmps54
  go_wp2_with (refine wpList_loadWs rfl _ rfl rfl HB.out.2.1 ?_)
  go_loopw [6, 7, 12] (fun _ _ i wr => ∃ k : Nat, i = .int .i64 k ∧ k ≤ 32 ∧ Hid (RowAt wr g o f ∧ BlkF wr w.heap.size 75 32 (rowP fun _ => false) ∧ BlkF wr (w.heap.size + 1) 75 32 (bothF (sAnd f f2) k) ∧ Below w.heap.size w wr)) (fun _ _ i _ => 32 - (intOf i).toNat)
  case atStart => exact ⟨0, rfl, by decide, Lib.hid ⟨HB.out.1, HB.out.2.2⟩⟩
  case round =>
    obtain ⟨k, rfl, hk, HH⟩ := hrel
    by_cases hp : k < 32
    · have hk1 : IntKind.i64.wrap ((k : Int) + 1) = ((k + 1 : Nat) : Int) := by rw [IntKind.wrap_i64]; omega
      have hdl : decide ((k : Int) < 32) = true := by simp; omega
      have hix := fun u => idxRw f2 hp u
      have hc := HH.out.1 k hp
      have hc2 := BlkF.cell HH.out.2.2.1 hp
      have hfz := BlkIs.frozen HH.out.2.2.1 k
      unfold rowP at hc hix
      have hor := bits_and_wd f f2 k
      have HN := Lib.hid (show RowAt (wr.setCell ⟨w.heap.size + 1, k, none⟩ (.int .u64 (wd (sAnd f f2) k : Nat))) g o f ∧ BlkF (wr.setCell ⟨w.heap.size + 1, k, none⟩ (.int .u64 (wd (sAnd f f2) k : Nat))) w.heap.size 75 32 (rowP fun _ => false) ∧ BlkF (wr.setCell ⟨w.heap.size + 1, k, none⟩ (.int .u64 (wd (sAnd f f2) k : Nat))) (w.heap.size + 1) 75 32 (bothF (sAnd f f2) (k + 1)) ∧ Below w.heap.size w (wr.setCell ⟨w.heap.size + 1, k, none⟩ (.int .u64 (wd (sAnd f f2) k : Nat))) from
        ⟨HH.out.1.heap (Below.heap_setCell _ _ _ _ (by show g ≠ w.heap.size + 1; omega)), BlkIs.far HH.out.2.1 (by show w.heap.size ≠ w.heap.size + 1; omega) _, by rw [← bothF_put]; exact HH.out.2.2.1.put _ _, HH.out.2.2.2.setCell (p := ⟨w.heap.size + 1, k, none⟩) (by show w.heap.size ≤ w.heap.size + 1; omega) _⟩)
      go_wp2
      exact ⟨⟨k + 1, rfl, by omega, HN⟩, by simp [intOf]; omega⟩
    · have hdl : decide ((k : Int) < 32) = false := by simp; omega
      obtain rfl : k = 32 := by omega
      have hro : RowAt wr (w.heap.size + 1) 0 (sAnd f f2) := fun i hi => by
        rw [Nat.zero_add, BlkF.cell HH.out.2.2.1 hi]; unfold bothF; rw [if_pos hi]
      have HRO := Lib.hid hro
      clear hro
      go_wp2_with (first
        | (refine wpList_loadRw rfl _ rfl rfl HRO.out ?_)
        | (refine wpList_store_all rfl 75 _ _ rfl rfl rfl HH.out.2.1 (by rw [rowA_size, cellsN_size]) (by rw [rowA_size]; exact infoRw) (rowA_one _) ?_; intro w9 hb9 hw9))
      have hl9 : (loadVar 75 ⟨w.heap.size, 0, none⟩).run Tryd.prog w9 = .ok (.agg (rowA (sAnd f f2))) w9 := loadVarRw (BlkF.row (t := 75) (N := 32) (F := rowP (sAnd f f2)) hb9 (rowF_has _))
      exact ⟨rfl, _, results_cell1 rfl rfl hl9, ⟨rfl, hw9.2.1 _ _ (Nat.le_refl _) HH.out.2.2.2⟩⟩
end Go.Proofs.YtkcnknhhabbomaaDoor

namespace Go.Proofs.YtkcnknhhabbomaaDoor
open Go.RowKit

attribute [local irreducible] FreeW

def marks0 (N : Nf) (b : Bool) (q : Nat) : Bool := b && hasI N.first q
def marksS (N : Nf) (b : Bool) (at' : List Int) (q : Nat) : Bool := marks0 N b q || markF N at' q
def doneTo (N : Nf) (c : Nat) (f : Nat → Bool) (j : Nat) (q : Nat) : Bool := if q < j then f q && N.setAt q c else f q
theorem done_put (N : Nf) (c k : Nat) (f : Nat → Bool) (j : Nat) : bl k (updS (doneTo N c f j) j (f j && N.setAt j c)) = bl k (doneTo N c f (j + 1)) := by
  apply bl_congr
  intro i _
  unfold updS doneTo
  by_cases e : i = j
  · subst e; simp
  · rw [if_neg e]
    by_cases h : i < j
    · rw [if_pos h, if_pos (by omega)]
    · rw [if_neg h, if_neg (by omega)]
theorem list_keep (N : Nf) (c k : Nat) (f : Nat → Bool) : listB ((List.range k).map (doneTo N c f k)) = keepTo k f N c := by
  unfold listB keepTo
  rw [List.length_map, List.length_range]
  congr 1
  apply List.filter_congr
  intro q hq
  have hq' : q < k := List.mem_range.1 hq
  rw [List.getD_eq_getElem?_getD, List.getElem?_map, List.getElem?_range hq']
  simp only [Option.map_some, Option.getD_some]
  unfold doneTo
  rw [if_pos hq']
theorem bl_bools {W : World} {g k : Nat} {f : Nat → Bool} (h : BlkIs W g 4 (bl k f)) (hk : k ≤ 1048576) : BoolsV W ((List.range k).map f) (.slice (some ⟨g, 0, none⟩) k k) := by
  refine ⟨some ⟨g, 0, none⟩, k, by simp, ⟨by simp, by omega⟩, fun _ => ⟨g, 0, rfl, h.lt, fun i hi => ?_⟩⟩
  rw [Nat.zero_add]
  have hi' : i < k := by simpa using hi
  rw [bl_range h hi']
  simp

theorem RowI.low {B B' : Nat} {W : World} {v : Value} {l : List Int} (h : RowI B W v l) (hb : B' ≤ B) : RowI B' W v l :=
  ⟨h.1, h.2.imp id fun ⟨g, cap, cur, e, h1, r⟩ => ⟨g, cap, cur, e, Nat.le_trans hb h1, r⟩⟩
set_option maxRecDepth 20000 in
set_option maxHeartbeats 8000000 in
theorem refStepR_any (N : Nf) (at' : List Int) (bg : Bool) (c : Nat) (hc : c < 256) (v va : Value) (w : World) (h : NfaAt w N v) (ha : IntsV w at' va) (hin : ∀ p ∈ at', 0 ≤ p ∧ p < N.sets.length) (hfi : ∀ p ∈ N.first, 0 ≤ p ∧ p < (N.sets.length : Int)) (hfl : N.follow.length = N.sets.length)
    (hrow : ∀ r ∈ N.follow, ∀ x ∈ r, 0 ≤ x ∧ x < (N.sets.length : Int)) (hn : N.sets.length ≤ 1048576) :
    Calls Tryd.prog 31 #[v, va, .bool bg, .int .u8 c] w fun e w' => ∃ v', e = .returned v' ∧ RowI w.heap.size w' v' (keepTo N.sets.length (marksS N bg at') N c) ∧ Below w.heap.size w w' := by
  obtain ⟨v0, v1, v2, v3, v4, rfl, hs0, hs1, hs2, hs3, hs4⟩ := h
  obtain ⟨A0, c0, rfl, hc0, hg0⟩ := hs0
  obtain ⟨A2, c2, rfl, hc2, hg2⟩ := hs2
  obtain ⟨A3, c3, rfl, hc3, hg3⟩ := hs3
  obtain ⟨A1, c1, rfl, hc1, hx1⟩ := hs1
  obtain ⟨A4, c4, rfl, hc4, hx4⟩ := hs4
  obtain ⟨Aa, ca, rfl, hca, hga⟩ := ha
  have hmk := fun u => make_bools N.sets.length (by omega) u
  have hb0 : Below w.heap.size w (w.alloc (.cells #[.slice A0 N.sets.length c0, .slice A1 N.rules.length c1, .slice A2 N.first.length c2, .slice A3 N.follow.length c3, .slice A4 N.ends.length c4, .int .i64 N.empty] 27)) := (Below.refl _ _).alloc (Nat.le_refl _) _
  have hbx := BlkIs.new w 27 #[.slice A0 N.sets.length c0, .slice A1 N.rules.length c1, .slice A2 N.first.length c2, .slice A3 N.follow.length c3, .slice A4 N.ends.length c4, .int .i64 N.empty]
  have hbm := BlkIs.new (w.alloc (.cells #[.slice A0 N.sets.length c0, .slice A1 N.rules.length c1, .slice A2 N.first.length c2, .slice A3 N.follow.length c3, .slice A4 N.ends.length c4, .int .i64 N.empty] 27)) 4 (bl N.sets.length fun _ => false)
  rw [World.size_alloc] at hbm
  have H0 := Lib.hid (And.intro (hb0.alloc (by simp) (.cells (bl N.sets.length fun _ => false) 4)) (And.intro (hbx.alloc (.cells (bl N.sets.length fun _ => false) 4)) hbm))
  obtain ⟨d0, d1, d2, d3, d4, d5⟩ := six hbx
  have HGA := Lib.hid hga
  have HG2 := Lib.hid hg2
  have HIN := Lib.hid (fun (j : Nat) (h : j < at'.length) => hin _ (List.getElem_mem h))
  have HFI := Lib.hid (fun (j : Nat) (h : j < N.first.length) => hfi _ (List.getElem_mem h))
  have HSET := Lib.hid (fun (pn : Nat) (h : pn < N.sets.length) => (show ∃ b o, A0 = some ⟨b, o, none⟩ ∧ ∀ u : World, Below w.heap.size w u → u.cell? ⟨b, o + pn * 4, none⟩ = some (.int .u64 (wd (N.setAt pn) 0 : Nat)) ∧ u.cell? ⟨b, o + pn * 4 + 1, none⟩ = some (.int .u64 (wd (N.setAt pn) 1 : Nat)) ∧ u.cell? ⟨b, o + pn * 4 + 2, none⟩ = some (.int .u64 (wd (N.setAt pn) 2 : Nat)) ∧ u.cell? ⟨b, o + pn * 4 + 3, none⟩ = some (.int .u64 (wd (N.setAt pn) 3 : Nat)) by
    obtain ⟨b, o, e1, l1, g1⟩ := hg0 (by intro e; rw [e] at h; simp at h)
    have es : N.setAt pn = N.sets[pn] := by unfold Nf.setAt; simp [h]
    rw [es]
    exact ⟨b, o, e1, fun u hu => ⟨(hu.cell (p := ⟨b, o + pn * 4, none⟩) l1).trans (g1 pn h 0 (by decide)), (hu.cell (p := ⟨b, o + pn * 4 + 1, none⟩) l1).trans (g1 pn h 1 (by decide)), (hu.cell (p := ⟨b, o + pn * 4 + 2, none⟩) l1).trans (g1 pn h 2 (by decide)), (hu.cell (p := ⟨b, o + pn * 4 + 3, none⟩) l1).trans (g1 pn h 3 (by decide))⟩⟩))
  have HFOL := Lib.hid (fun (pn : Nat) (h : pn < N.sets.length) => (show ∃ b o Ar cr, A3 = some ⟨b, o, none⟩ ∧ (∀ x ∈ N.followAt pn, 0 ≤ x ∧ x < (N.sets.length : Int)) ∧ (N.followAt pn).length ≤ cr ∧ cr ≤ 9223372036854775807 ∧ ∀ u : World, Below w.heap.size w u → u.cell? ⟨b, o + pn, none⟩ = some (.slice Ar (N.followAt pn).length cr) ∧ (N.followAt pn ≠ [] → ∃ b2 o2, Ar = some ⟨b2, o2, none⟩ ∧ ∀ (i : Nat) (h : i < (N.followAt pn).length), u.cell? ⟨b2, o2 + i, none⟩ = some (.int .i64 (N.followAt pn)[i])) by
    have h' : pn < N.follow.length := by rw [hfl]; exact h
    have es : N.followAt pn = N.follow[pn] := by unfold Nf.followAt; simp [h']
    obtain ⟨b, o, e1, l1, g1⟩ := hg3 (by intro e; rw [e] at h'; simp at h')
    obtain ⟨u0, hu0, Ar, cr, rfl, hcr, hgr⟩ := g1 pn h'
    rw [es]
    refine ⟨b, o, Ar, cr, e1, hrow _ (List.getElem_mem h'), hcr.1, hcr.2, fun u hu => ⟨(hu.cell (p := ⟨b, o + pn, none⟩) l1).trans hu0, fun hne => ?_⟩⟩
    obtain ⟨b2, o2, e2, l2, g2⟩ := hgr hne
    exact ⟨b2, o2, e2, fun i hi => (hu.cell (p := ⟨b2, o2 + i, none⟩) l2).trans (g2 i hi)⟩))
  have HHAS := Lib.hid (fun (m : Nat → Bool) (u : World) => refHas_any m c hc u)
  unfold setV at HHAS
  have HFL := Lib.hid hfl
  obtain ⟨R, hR⟩ : ∃ R, R = keepTo N.sets.length (marksS N bg at') N c := ⟨_, rfl⟩
  rw [← hR]
  have HR := Lib.hid hR
  have hcw : IntKind.i64.wrap (c : Int) = (c : Int) := by rw [IntKind.wrap_i64]; omega
  clear hb0 hbx hbm hg0 hg2 hg3 hga hx1 hx4 hin hfi hrow hfl hR
  go_enter Tryd.func31, Tryd.ntmps31
  cases bg with
  | true =>
    go_wp2
    go_loopw [10] (fun i wr => ∃ j : Nat, i = .int .i64 j ∧ j ≤ N.first.length ∧ Hid (Below w.heap.size w wr ∧ BlkIs wr w.heap.size 27 #[.slice A0 N.sets.length c0, .slice A1 N.rules.length c1, .slice A2 N.first.length c2, .slice A3 N.follow.length c3, .slice A4 N.ends.length c4, .int .i64 N.empty] ∧ BlkIs wr (w.heap.size + 1) 4 (bl N.sets.length (fun x => hasI (N.first.take j) x)))) (fun i _ => N.first.length - (intOf i).toNat)
    case atStart => exact ⟨0, rfl, Nat.zero_le _, Lib.hid ⟨H0.out.1, H0.out.2.1, by
      have e : (fun x => hasI (N.first.take 0) x) = fun _ => false := by funext x; simp [hasI]
      rw [e]; exact H0.out.2.2⟩⟩
    case round =>
      obtain ⟨j, rfl, hj, HH⟩ := hrel
      obtain ⟨d0, d1, d2, d3, d4, d5⟩ := six HH.out.2.1
      clear hmk
      by_cases hp : j < N.first.length
      · have hk1 : IntKind.i64.wrap ((j : Int) + 1) = ((j + 1 : Nat) : Int) := by rw [IntKind.wrap_i64]; omega
        have hdl : decide ((j : Int) < (N.first.length : Int)) = true := by simp; omega
        have hjI : (j : Int) < (N.first.length : Int) := by omega
        obtain ⟨b, o, rfl, hlt, hg⟩ := HG2.out (by intro e; rw [e] at hp; simp at hp)
        have hcell := (HH.out.1.cell (p := ⟨b, o + j, none⟩) hlt).trans (hg j hp)
        have hpin := HFI.out j hp
        have HUP := Lib.hid (fun (x : Nat) (hx : N.first[j] = (x : Int)) => upd_mark (k := N.sets.length) (f := fun _ => false) hp hx)
        clear hg hlt
        generalize N.first[j] = p at *
        obtain ⟨xn, rfl⟩ := Int.eq_ofNat_of_zero_le hpin.1
        have hxn : xn < N.sets.length := by omega
        have hxI : (xn : Int) < (N.sets.length : Int) := by omega
        have z1 := bl_range HH.out.2.2 hxn
        have z2 := HH.out.2.2.frozen xn
        have hu := HUP.out xn rfl
        simp only [Bool.false_or] at hu
        have HU := Lib.hid hu
        clear hpin hu
        go_wp2
        refine ⟨⟨j + 1, rfl, hp, Lib.hid ⟨HH.out.1.setCell (p := ⟨_, _, none⟩) (by simp) _, HH.out.2.1.far (by simp) _, ?_⟩⟩, by simp [intOf]; omega⟩
        rw [← HU.out, ← bl_set]
        exact HH.out.2.2.put _ _
      · have hdl : decide ((j : Int) < (N.first.length : Int)) = false := by simp; omega
        obtain rfl : j = N.first.length := by omega
        obtain ⟨f0, hf0⟩ : ∃ f0, f0 = marks0 N true := ⟨_, rfl⟩
        have HS0 := Lib.hid (show Below w.heap.size w wr ∧ BlkIs wr w.heap.size 27 #[.slice A0 N.sets.length c0, .slice A1 N.rules.length c1, .slice A2 N.first.length c2, .slice A3 N.follow.length c3, .slice A4 N.ends.length c4, .int .i64 N.empty] ∧ BlkIs wr (w.heap.size + 1) 4 (bl N.sets.length f0) from by
          have e : f0 = (fun x => hasI (N.first.take N.first.length) x) := by rw [hf0]; funext x; unfold marks0; rw [List.take_length]; simp
          rw [e]; exact HH.out)
        have HRR := Lib.hid (show R = keepTo N.sets.length (fun q => f0 q || markF N at' q) N c by rw [HR.out, hf0]; rfl)
        clear hf0 HH HR
        go_wp2
        go_loopw [11] (fun i wz => ∃ j : Nat, i = .int .i64 j ∧ j ≤ at'.length ∧ Hid (Below w.heap.size w wz ∧ BlkIs wz w.heap.size 27 #[.slice A0 N.sets.length c0, .slice A1 N.rules.length c1, .slice A2 N.first.length c2, .slice A3 N.follow.length c3, .slice A4 N.ends.length c4, .int .i64 N.empty] ∧ BlkIs wz (w.heap.size + 1) 4 (bl N.sets.length (fun q => f0 q || markF N (at'.take j) q)))) (fun i _ => at'.length - (intOf i).toNat)
        case atStart => exact ⟨0, rfl, Nat.zero_le _, Lib.hid ⟨HS0.out.1, HS0.out.2.1, by
          have e : (fun q => f0 q || markF N (at'.take 0) q) = f0 := by funext x; simp [markF]
          rw [e]; exact HS0.out.2.2⟩⟩
        case round =>
          obtain ⟨j, rfl, hj, HH⟩ := hrel
          try clear hmk
          try clear d0 d1 d2 d3 d4 d5
          obtain ⟨d0, d1, d2, d3, d4, d5⟩ := six HH.out.2.1
          by_cases hp : j < at'.length
          · have hk1 : IntKind.i64.wrap ((j : Int) + 1) = ((j + 1 : Nat) : Int) := by rw [IntKind.wrap_i64]; omega
            have hdl : decide ((j : Int) < (at'.length : Int)) = true := by simp; omega
            have hjI : (j : Int) < (at'.length : Int) := by omega
            obtain ⟨b, o, rfl, hlt, hg⟩ := HGA.out (by intro e; rw [e] at hp; simp at hp)
            have HCA := Lib.hid (fun (u : World) (hu : Below w.heap.size w u) => (hu.cell (p := ⟨b, o + j, none⟩) hlt).trans (hg j hp))
            have hpin := HIN.out j hp
            have HMS := Lib.hid (mark_succ N at' j hp)
            clear hg hlt
            generalize at'[j] = p at *
            obtain ⟨pn, rfl⟩ := Int.eq_ofNat_of_zero_le hpin.1
            have hpn : pn < N.sets.length := by omega
            have hi3 : (pn : Int) < (N.follow.length : Int) := by rw [HFL.out]; omega
            obtain ⟨b3, o3, Ar, cr, rfl, hxin, hcr1, hcr2, hyy⟩ := HFOL.out pn hpn
            have HYY := Lib.hid hyy
            have HXI := Lib.hid hxin
            clear hyy hpin hxin
            generalize N.followAt (pn : Int) = row at *
            obtain ⟨f, hf⟩ : ∃ f, f = (fun q => f0 q || markF N (at'.take j) q) := ⟨_, rfl⟩
            have hh := HH.out
            rw [← hf] at hh
            clear HH
            have HH := Lib.hid hh
            have HMF := Lib.hid hf
            clear hf hh
            go_wp2
            go_loopw [12] (fun i wz => ∃ q : Nat, i = .int .i64 q ∧ q ≤ row.length ∧ Hid (Below w.heap.size w wz ∧ BlkIs wz w.heap.size 27 #[.slice A0 N.sets.length c0, .slice A1 N.rules.length c1, .slice A2 N.first.length c2, .slice (some ⟨b3, o3, none⟩) N.follow.length c3, .slice A4 N.ends.length c4, .int .i64 N.empty] ∧ BlkIs wz (w.heap.size + 1) 4 (bl N.sets.length (fun x => f x || hasI (row.take q) x)))) (fun i _ => row.length - (intOf i).toNat)
            case atStart => exact ⟨0, rfl, Nat.zero_le _, Lib.hid ⟨HH.out.1, HH.out.2.1, by
              have e : (fun x => f x || hasI (row.take 0) x) = f := by funext x; simp [hasI]
              rw [e]; exact HH.out.2.2⟩⟩
            case round =>
              obtain ⟨q, rfl, hq, HK⟩ := hrel
              obtain ⟨g, hg⟩ : ∃ g, g = (fun x => f x || hasI (row.take q) x) := ⟨_, rfl⟩
              have hh := HK.out
              rw [← hg] at hh
              clear HK
              have HK := Lib.hid hh
              have HGF := Lib.hid hg
              clear hg hh
              try clear d0 d1 d2 d3 d4 d5
              by_cases hpq : q < row.length
              · have hk2 : IntKind.i64.wrap ((q : Int) + 1) = ((q + 1 : Nat) : Int) := by rw [IntKind.wrap_i64]; omega
                have hdq : decide ((q : Int) < (row.length : Int)) = true := by simp; omega
                have hqI : (q : Int) < (row.length : Int) := by omega
                go_wp2_with fail
                refine wp_region_reads 90 (fun u => Hid (Below w.heap.size w u ∧ BlkIs u w.heap.size 27 #[.slice A0 N.sets.length c0, .slice A1 N.rules.length c1, .slice A2 N.first.length c2, .slice (some ⟨b3, o3, none⟩) N.follow.length c3, .slice A4 N.ends.length c4, .int .i64 N.empty] ∧ BlkIs u (w.heap.size + 1) 4 (bl N.sets.length g))) (by kernel_rfl) (by kernel_rfl) rfl (Lib.hid ⟨HK.out.1.drew, HK.out.2.1.drew, HK.out.2.2.drew⟩) (fun u u' h hb => Lib.hid ⟨h.out.1.trans (hb.mono h.out.1.size), h.out.2.1.step hb, h.out.2.2.step hb⟩) ?_
                repeat
                  refine freeW_step fun K hK => ?_
                  (first
                    | skip)
                  go_simp
                  apply Exists.intro
                  refine ⟨fun u h1 => ?_, hK _ ?_⟩
                  · have y0 := HCA.out u h1.out.1
                    have y1 := (HYY.out u h1.out.1).1
                    obtain ⟨k0, k1, k2, k3, k4, k5⟩ := six h1.out.2.1
                    unfold freeAt
                    go_simp
                    first
                      | exact free_val
                      | (apply free_call
                         first
                           | fail
                         )
                  clear hK K
                refine freeW_nil ?_
                intro u hC hb2
                have HC := Lib.hid hC.out
                clear hC hb2
                obtain ⟨b2, o2, rfl, _⟩ := (HYY.out _ HC.out.1).2 (by intro e; rw [e] at hpq; simp at hpq)
                have HC2 := Lib.hid (fun (u : World) (hu : Below w.heap.size w u) => (show u.cell? ⟨b2, o2 + q, none⟩ = some (.int .i64 row[q]) from by
                  obtain ⟨b5, o5, e5, g5⟩ := (HYY.out u hu).2 (by intro e; rw [e] at hpq; simp at hpq)
                  simp only [Option.some.injEq, Addr.mk.injEq] at e5
                  obtain ⟨rfl, rfl, _⟩ := e5
                  exact g5 q hpq))
                have hxx := HXI.out _ (List.getElem_mem hpq)
                have HUP := Lib.hid (fun (x : Nat) (hx : row[q] = (x : Int)) => upd_mark (k := N.sets.length) (f := f) hpq hx)
                generalize row[q] = x at *
                obtain ⟨xn, rfl⟩ := Int.eq_ofNat_of_zero_le hxx.1
                have hxn : xn < N.sets.length := by omega
                have hxI : (xn : Int) < (N.sets.length : Int) := by omega
                have hu := HUP.out xn rfl
                rw [← HGF.out] at hu
                have HU := Lib.hid hu
                clear hxx hu
                go_wp2_with fail
                refine wp_region_free 12 12 90 (fun u => Hid (Below w.heap.size w u ∧ BlkIs u w.heap.size 27 #[.slice A0 N.sets.length c0, .slice A1 N.rules.length c1, .slice A2 N.first.length c2, .slice (some ⟨b3, o3, none⟩) N.follow.length c3, .slice A4 N.ends.length c4, .int .i64 N.empty] ∧ BlkIs u (w.heap.size + 1) 4 (bl N.sets.length g))) (fun _ => #[]) (fun _ => 0) (by kernel_rfl) (by kernel_rfl) rfl (Lib.hid ⟨HC.out.1.drew, HC.out.2.1.drew, HC.out.2.2.drew⟩) (fun u u' h hb => Lib.hid ⟨h.out.1.trans (hb.mono h.out.1.size), h.out.2.1.step hb, h.out.2.2.step hb⟩) (fun i o h1 h2 => absurd h1 (by omega)) ?_
                clear hdl hdq
                simp only [List.take_succ_cons, List.take_zero, List.drop_succ_cons, List.drop_zero]
                repeat
                  refine freeW_step fun K hK => ?_
                  (first
                    | skip)
                  go_simp
                  apply Exists.intro
                  refine ⟨fun u h1 => ?_, hK _ ?_⟩
                  · have y0 := HCA.out u h1.out.1
                    have y1 := (HYY.out u h1.out.1).1
                    have y2 := HC2.out u h1.out.1
                    obtain ⟨k0, k1, k2, k3, k4, k5⟩ := six h1.out.2.1
                    unfold freeAt
                    go_simp
                    first
                      | exact free_val
                      | (apply free_call
                         first
                           | fail
                         )
                  clear hK K
                refine freeW_nil ?_
                intro gg u2 hC hb2 _ _
                have HD := Lib.hid hC.out
                clear hC hb2
                rw [Nat.sub_self, List.take_zero]
                unfold putNews
                have z1 := bl_range HD.out.2.2 hxn
                have z2 := HD.out.2.2.frozen xn
                go_wp2
                refine ⟨⟨q + 1, rfl, hpq, Lib.hid ⟨HD.out.1.setCell (p := ⟨_, _, none⟩) (by simp) _, HD.out.2.1.far (by simp) _, ?_⟩⟩, by simp [intOf]; omega⟩
                rw [← HU.out, ← bl_set]
                exact HD.out.2.2.put _ _
              · have hdq : decide ((q : Int) < (row.length : Int)) = false := by simp; omega
                obtain rfl : q = row.length := by omega
                go_wp2_with fail
                refine wp_region_reads 90 (fun u => Hid (Below w.heap.size w u ∧ BlkIs u w.heap.size 27 #[.slice A0 N.sets.length c0, .slice A1 N.rules.length c1, .slice A2 N.first.length c2, .slice (some ⟨b3, o3, none⟩) N.follow.length c3, .slice A4 N.ends.length c4, .int .i64 N.empty] ∧ BlkIs u (w.heap.size + 1) 4 (bl N.sets.length g))) (by kernel_rfl) (by kernel_rfl) rfl (Lib.hid ⟨HK.out.1.drew, HK.out.2.1.drew, HK.out.2.2.drew⟩) (fun u u' h hb => Lib.hid ⟨h.out.1.trans (hb.mono h.out.1.size), h.out.2.1.step hb, h.out.2.2.step hb⟩) ?_
                repeat
                  refine freeW_step fun K hK => ?_
                  (first
                    | skip)
                  go_simp
                  apply Exists.intro
                  refine ⟨fun u h1 => ?_, hK _ ?_⟩
                  · have y0 := HCA.out u h1.out.1
                    have y1 := (HYY.out u h1.out.1).1
                    obtain ⟨k0, k1, k2, k3, k4, k5⟩ := six h1.out.2.1
                    unfold freeAt
                    go_simp
                    first
                      | exact free_val
                      | (apply free_call
                         first
                           | fail
                         )
                  clear hK K
                refine freeW_nil ?_
                intro u hC hb2
                have HC := Lib.hid hC.out
                clear hC hb2
                have HFIN := Lib.hid (show (fun q => f0 q || markF N (at'.take (j + 1)) q) = g by
                  rw [HGF.out, HMF.out, List.take_length]; funext x; rw [HMS.out x, Bool.or_assoc])
                go_wp2
                exact ⟨⟨j + 1, rfl, hp, Lib.hid ⟨HC.out.1, HC.out.2.1, by rw [HFIN.out]; exact HC.out.2.2⟩⟩, by simp [intOf]; omega⟩
          · have hdl : decide ((j : Int) < (at'.length : Int)) = false := by simp; omega
            obtain rfl : j = at'.length := by omega
            obtain ⟨f, hf⟩ : ∃ f, f = (fun q => f0 q || markF N at' q) := ⟨_, rfl⟩
            have hh := HH.out
            rw [List.take_length, ← hf] at hh
            have HM3 := Lib.hid hh
            have HR3 := Lib.hid (show R = keepTo N.sets.length f N c by rw [HRR.out, hf])
            clear hf hh HH HRR HS0
            go_wp2
            go_loopw [13] (fun i wz => ∃ q : Nat, i = .int .i64 q ∧ q ≤ N.sets.length ∧ Hid (Below w.heap.size w wz ∧ BlkIs wz w.heap.size 27 #[.slice A0 N.sets.length c0, .slice A1 N.rules.length c1, .slice A2 N.first.length c2, .slice A3 N.follow.length c3, .slice A4 N.ends.length c4, .int .i64 N.empty] ∧ BlkIs wz (w.heap.size + 1) 4 (bl N.sets.length (doneTo N c f q)))) (fun i _ => N.sets.length - (intOf i).toNat)
            case atStart => exact ⟨0, rfl, Nat.zero_le _, Lib.hid ⟨HM3.out.1, HM3.out.2.1, by
              have e : doneTo N c f 0 = f := by funext x; unfold doneTo; rw [if_neg (by omega)]
              rw [e]; exact HM3.out.2.2⟩⟩
            case round =>
              obtain ⟨q, rfl, hq, HK⟩ := hrel
              try clear d0 d1 d2 d3 d4 d5
              by_cases hpq : q < N.sets.length
              · have hk2 : IntKind.i64.wrap ((q : Int) + 1) = ((q + 1 : Nat) : Int) := by rw [IntKind.wrap_i64]; omega
                have hdq : decide ((q : Int) < (N.sets.length : Int)) = true := by simp; omega
                have hqI : (q : Int) < (N.sets.length : Int) := by omega
                obtain ⟨d0, d1, d2, d3, d4, d5⟩ := six HK.out.2.1
                have z1 := bl_range HK.out.2.2 hpq
                have z2 := HK.out.2.2.frozen q
                have ez : doneTo N c f q q = f q := by unfold doneTo; rw [if_neg (by omega)]
                rw [ez] at z1
                obtain ⟨b0, o0, rfl, hyy⟩ := HSET.out q hpq
                obtain ⟨y0, y1, y2, y3⟩ := hyy _ HK.out.1
                have hdp := done_put N c N.sets.length f q
                have HC := Lib.hid (HHAS.out (N.setAt (q : Int)) wr)
                clear hyy ez
                generalize N.setAt (q : Int) = m at *
                generalize f q = fq at *
                generalize m c = mc at *
                have HDP := Lib.hid hdp
                clear hdp
                cases fq with
                | false =>
                  go_wp2
                  refine ⟨⟨q + 1, rfl, hpq, Lib.hid ⟨HK.out.1.setCell (p := ⟨_, _, none⟩) (by simp) _, HK.out.2.1.far (by simp) _, ?_⟩⟩, by simp [intOf]; omega⟩
                  rw [← HDP.out, ← bl_set]
                  exact HK.out.2.2.put _ _
                | true =>
                  go_wp2_with fail
                  go_at_call 46
                  refine HC.out.mono ?_
                  rintro e u ⟨rfl, hbu⟩
                  have HU := Lib.hid (show Below w.heap.size w u ∧ BlkIs u w.heap.size 27 #[.slice (some ⟨b0, o0, none⟩) N.sets.length c0, .slice A1 N.rules.length c1, .slice A2 N.first.length c2, .slice A3 N.follow.length c3, .slice A4 N.ends.length c4, .int .i64 N.empty] ∧ BlkIs u (w.heap.size + 1) 4 (bl N.sets.length (doneTo N c f q)) from ⟨HK.out.1.trans (hbu.mono HK.out.1.size), HK.out.2.1.step hbu, HK.out.2.2.step hbu⟩)
                  clear hbu d0 d1 d2 d3 d4 d5 y0 y1 y2 y3 z1 z2
                  have z1 := bl_range HU.out.2.2 hpq
                  have z2 := HU.out.2.2.frozen q
                  go_wp2
                  refine ⟨⟨q + 1, rfl, hpq, Lib.hid ⟨HU.out.1.setCell (p := ⟨_, _, none⟩) (by simp) _, HU.out.2.1.far (by simp) _, ?_⟩⟩, by simp [intOf]; omega⟩
                  rw [← HDP.out, ← bl_set]
                  exact HU.out.2.2.put _ _
              · have hdq : decide ((q : Int) < (N.sets.length : Int)) = false := by simp; omega
                obtain rfl : q = N.sets.length := by omega
                have hli := list_any _ _ wr (bl_bools HK.out.2.2 hn) (by rw [List.length_map, List.length_range]; omega)
                rw [list_keep, ← HR3.out] at hli
                have HLI := Lib.hid hli
                clear hli
                go_wp2_with fail
                go_at_call 56
                refine HLI.out.mono ?_
                rintro e u ⟨v', rfl, hri, hbu⟩
                have HU := Lib.hid (And.intro (hri.low HK.out.1.size) (HK.out.1.trans (hbu.mono HK.out.1.size)))
                clear hri hbu
                go_wp2
                go_ret
                exact ⟨_, rfl, HU.out.1, HU.out.2⟩
  | false =>
    obtain ⟨f0, hf0⟩ : ∃ f0, f0 = marks0 N false := ⟨_, rfl⟩
    have HF0 := Lib.hid (show f0 = (fun _ => false) by rw [hf0]; rfl)
    have HRR := Lib.hid (show R = keepTo N.sets.length (fun q => f0 q || markF N at' q) N c by rw [HR.out, hf0]; rfl)
    have HS0 := Lib.hid (And.intro H0.out.1 (And.intro H0.out.2.1 (show BlkIs _ (w.heap.size + 1) 4 (bl N.sets.length f0) from by rw [HF0.out]; exact H0.out.2.2)))
    clear hf0 HR
    go_wp2
    go_loopw [11] (fun i wz => ∃ j : Nat, i = .int .i64 j ∧ j ≤ at'.length ∧ Hid (Below w.heap.size w wz ∧ BlkIs wz w.heap.size 27 #[.slice A0 N.sets.length c0, .slice A1 N.rules.length c1, .slice A2 N.first.length c2, .slice A3 N.follow.length c3, .slice A4 N.ends.length c4, .int .i64 N.empty] ∧ BlkIs wz (w.heap.size + 1) 4 (bl N.sets.length (fun q => f0 q || markF N (at'.take j) q)))) (fun i _ => at'.length - (intOf i).toNat)
    case atStart => exact ⟨0, rfl, Nat.zero_le _, Lib.hid ⟨HS0.out.1, HS0.out.2.1, by
      have e : (fun q => f0 q || markF N (at'.take 0) q) = f0 := by funext x; simp [markF]
      rw [e]; exact HS0.out.2.2⟩⟩
    case round =>
      obtain ⟨j, rfl, hj, HH⟩ := hrel
      try clear hmk
      try clear d0 d1 d2 d3 d4 d5
      obtain ⟨d0, d1, d2, d3, d4, d5⟩ := six HH.out.2.1
      by_cases hp : j < at'.length
      · have hk1 : IntKind.i64.wrap ((j : Int) + 1) = ((j + 1 : Nat) : Int) := by rw [IntKind.wrap_i64]; omega
        have hdl : decide ((j : Int) < (at'.length : Int)) = true := by simp; omega
        have hjI : (j : Int) < (at'.length : Int) := by omega
        obtain ⟨b, o, rfl, hlt, hg⟩ := HGA.out (by intro e; rw [e] at hp; simp at hp)
        have HCA := Lib.hid (fun (u : World) (hu : Below w.heap.size w u) => (hu.cell (p := ⟨b, o + j, none⟩) hlt).trans (hg j hp))
        have hpin := HIN.out j hp
        have HMS := Lib.hid (mark_succ N at' j hp)
        clear hg hlt
        generalize at'[j] = p at *
        obtain ⟨pn, rfl⟩ := Int.eq_ofNat_of_zero_le hpin.1
        have hpn : pn < N.sets.length := by omega
        have hi3 : (pn : Int) < (N.follow.length : Int) := by rw [HFL.out]; omega
        obtain ⟨b3, o3, Ar, cr, rfl, hxin, hcr1, hcr2, hyy⟩ := HFOL.out pn hpn
        have HYY := Lib.hid hyy
        have HXI := Lib.hid hxin
        clear hyy hpin hxin
        generalize N.followAt (pn : Int) = row at *
        obtain ⟨f, hf⟩ : ∃ f, f = (fun q => f0 q || markF N (at'.take j) q) := ⟨_, rfl⟩
        have hh := HH.out
        rw [← hf] at hh
        clear HH
        have HH := Lib.hid hh
        have HMF := Lib.hid hf
        clear hf hh
        go_wp2
        go_loopw [12] (fun i wz => ∃ q : Nat, i = .int .i64 q ∧ q ≤ row.length ∧ Hid (Below w.heap.size w wz ∧ BlkIs wz w.heap.size 27 #[.slice A0 N.sets.length c0, .slice A1 N.rules.length c1, .slice A2 N.first.length c2, .slice (some ⟨b3, o3, none⟩) N.follow.length c3, .slice A4 N.ends.length c4, .int .i64 N.empty] ∧ BlkIs wz (w.heap.size + 1) 4 (bl N.sets.length (fun x => f x || hasI (row.take q) x)))) (fun i _ => row.length - (intOf i).toNat)
        case atStart => exact ⟨0, rfl, Nat.zero_le _, Lib.hid ⟨HH.out.1, HH.out.2.1, by
          have e : (fun x => f x || hasI (row.take 0) x) = f := by funext x; simp [hasI]
          rw [e]; exact HH.out.2.2⟩⟩
        case round =>
          obtain ⟨q, rfl, hq, HK⟩ := hrel
          obtain ⟨g, hg⟩ : ∃ g, g = (fun x => f x || hasI (row.take q) x) := ⟨_, rfl⟩
          have hh := HK.out
          rw [← hg] at hh
          clear HK
          have HK := Lib.hid hh
          have HGF := Lib.hid hg
          clear hg hh
          try clear d0 d1 d2 d3 d4 d5
          by_cases hpq : q < row.length
          · have hk2 : IntKind.i64.wrap ((q : Int) + 1) = ((q + 1 : Nat) : Int) := by rw [IntKind.wrap_i64]; omega
            have hdq : decide ((q : Int) < (row.length : Int)) = true := by simp; omega
            have hqI : (q : Int) < (row.length : Int) := by omega
            go_wp2_with fail
            refine wp_region_reads 90 (fun u => Hid (Below w.heap.size w u ∧ BlkIs u w.heap.size 27 #[.slice A0 N.sets.length c0, .slice A1 N.rules.length c1, .slice A2 N.first.length c2, .slice (some ⟨b3, o3, none⟩) N.follow.length c3, .slice A4 N.ends.length c4, .int .i64 N.empty] ∧ BlkIs u (w.heap.size + 1) 4 (bl N.sets.length g))) (by kernel_rfl) (by kernel_rfl) rfl (Lib.hid ⟨HK.out.1.drew, HK.out.2.1.drew, HK.out.2.2.drew⟩) (fun u u' h hb => Lib.hid ⟨h.out.1.trans (hb.mono h.out.1.size), h.out.2.1.step hb, h.out.2.2.step hb⟩) ?_
            repeat
              refine freeW_step fun K hK => ?_
              (first
                | skip)
              go_simp
              apply Exists.intro
              refine ⟨fun u h1 => ?_, hK _ ?_⟩
              · have y0 := HCA.out u h1.out.1
                have y1 := (HYY.out u h1.out.1).1
                obtain ⟨k0, k1, k2, k3, k4, k5⟩ := six h1.out.2.1
                unfold freeAt
                go_simp
                first
                  | exact free_val
                  | (apply free_call
                     first
                       | fail
                     )
              clear hK K
            refine freeW_nil ?_
            intro u hC hb2
            have HC := Lib.hid hC.out
            clear hC hb2
            obtain ⟨b2, o2, rfl, _⟩ := (HYY.out _ HC.out.1).2 (by intro e; rw [e] at hpq; simp at hpq)
            have HC2 := Lib.hid (fun (u : World) (hu : Below w.heap.size w u) => (show u.cell? ⟨b2, o2 + q, none⟩ = some (.int .i64 row[q]) from by
              obtain ⟨b5, o5, e5, g5⟩ := (HYY.out u hu).2 (by intro e; rw [e] at hpq; simp at hpq)
              simp only [Option.some.injEq, Addr.mk.injEq] at e5
              obtain ⟨rfl, rfl, _⟩ := e5
              exact g5 q hpq))
            have hxx := HXI.out _ (List.getElem_mem hpq)
            have HUP := Lib.hid (fun (x : Nat) (hx : row[q] = (x : Int)) => upd_mark (k := N.sets.length) (f := f) hpq hx)
            generalize row[q] = x at *
            obtain ⟨xn, rfl⟩ := Int.eq_ofNat_of_zero_le hxx.1
            have hxn : xn < N.sets.length := by omega
            have hxI : (xn : Int) < (N.sets.length : Int) := by omega
            have hu := HUP.out xn rfl
            rw [← HGF.out] at hu
            have HU := Lib.hid hu
            clear hxx hu
            go_wp2_with fail
            refine wp_region_free 12 12 90 (fun u => Hid (Below w.heap.size w u ∧ BlkIs u w.heap.size 27 #[.slice A0 N.sets.length c0, .slice A1 N.rules.length c1, .slice A2 N.first.length c2, .slice (some ⟨b3, o3, none⟩) N.follow.length c3, .slice A4 N.ends.length c4, .int .i64 N.empty] ∧ BlkIs u (w.heap.size + 1) 4 (bl N.sets.length g))) (fun _ => #[]) (fun _ => 0) (by kernel_rfl) (by kernel_rfl) rfl (Lib.hid ⟨HC.out.1.drew, HC.out.2.1.drew, HC.out.2.2.drew⟩) (fun u u' h hb => Lib.hid ⟨h.out.1.trans (hb.mono h.out.1.size), h.out.2.1.step hb, h.out.2.2.step hb⟩) (fun i o h1 h2 => absurd h1 (by omega)) ?_
            clear hdl hdq
            simp only [List.take_succ_cons, List.take_zero, List.drop_succ_cons, List.drop_zero]
            repeat
              refine freeW_step fun K hK => ?_
              (first
                | skip)
              go_simp
              apply Exists.intro
              refine ⟨fun u h1 => ?_, hK _ ?_⟩
              · have y0 := HCA.out u h1.out.1
                have y1 := (HYY.out u h1.out.1).1
                have y2 := HC2.out u h1.out.1
                obtain ⟨k0, k1, k2, k3, k4, k5⟩ := six h1.out.2.1
                unfold freeAt
                go_simp
                first
                  | exact free_val
                  | (apply free_call
                     first
                       | fail
                     )
              clear hK K
            refine freeW_nil ?_
            intro gg u2 hC hb2 _ _
            have HD := Lib.hid hC.out
            clear hC hb2
            rw [Nat.sub_self, List.take_zero]
            unfold putNews
            have z1 := bl_range HD.out.2.2 hxn
            have z2 := HD.out.2.2.frozen xn
            go_wp2
            refine ⟨⟨q + 1, rfl, hpq, Lib.hid ⟨HD.out.1.setCell (p := ⟨_, _, none⟩) (by simp) _, HD.out.2.1.far (by simp) _, ?_⟩⟩, by simp [intOf]; omega⟩
            rw [← HU.out, ← bl_set]
            exact HD.out.2.2.put _ _
          · have hdq : decide ((q : Int) < (row.length : Int)) = false := by simp; omega
            obtain rfl : q = row.length := by omega
            go_wp2_with fail
            refine wp_region_reads 90 (fun u => Hid (Below w.heap.size w u ∧ BlkIs u w.heap.size 27 #[.slice A0 N.sets.length c0, .slice A1 N.rules.length c1, .slice A2 N.first.length c2, .slice (some ⟨b3, o3, none⟩) N.follow.length c3, .slice A4 N.ends.length c4, .int .i64 N.empty] ∧ BlkIs u (w.heap.size + 1) 4 (bl N.sets.length g))) (by kernel_rfl) (by kernel_rfl) rfl (Lib.hid ⟨HK.out.1.drew, HK.out.2.1.drew, HK.out.2.2.drew⟩) (fun u u' h hb => Lib.hid ⟨h.out.1.trans (hb.mono h.out.1.size), h.out.2.1.step hb, h.out.2.2.step hb⟩) ?_
            repeat
              refine freeW_step fun K hK => ?_
              (first
                | skip)
              go_simp
              apply Exists.intro
              refine ⟨fun u h1 => ?_, hK _ ?_⟩
              · have y0 := HCA.out u h1.out.1
                have y1 := (HYY.out u h1.out.1).1
                obtain ⟨k0, k1, k2, k3, k4, k5⟩ := six h1.out.2.1
                unfold freeAt
                go_simp
                first
                  | exact free_val
                  | (apply free_call
                     first
                       | fail
                     )
              clear hK K
            refine freeW_nil ?_
            intro u hC hb2
            have HC := Lib.hid hC.out
            clear hC hb2
            have HFIN := Lib.hid (show (fun q => f0 q || markF N (at'.take (j + 1)) q) = g by
              rw [HGF.out, HMF.out, List.take_length]; funext x; rw [HMS.out x, Bool.or_assoc])
            go_wp2
            exact ⟨⟨j + 1, rfl, hp, Lib.hid ⟨HC.out.1, HC.out.2.1, by rw [HFIN.out]; exact HC.out.2.2⟩⟩, by simp [intOf]; omega⟩
      · have hdl : decide ((j : Int) < (at'.length : Int)) = false := by simp; omega
        obtain rfl : j = at'.length := by omega
        obtain ⟨f, hf⟩ : ∃ f, f = (fun q => f0 q || markF N at' q) := ⟨_, rfl⟩
        have hh := HH.out
        rw [List.take_length, ← hf] at hh
        have HM3 := Lib.hid hh
        have HR3 := Lib.hid (show R = keepTo N.sets.length f N c by rw [HRR.out, hf])
        clear hf hh HH HRR HS0
        go_wp2
        go_loopw [13] (fun i wz => ∃ q : Nat, i = .int .i64 q ∧ q ≤ N.sets.length ∧ Hid (Below w.heap.size w wz ∧ BlkIs wz w.heap.size 27 #[.slice A0 N.sets.length c0, .slice A1 N.rules.length c1, .slice A2 N.first.length c2, .slice A3 N.follow.length c3, .slice A4 N.ends.length c4, .int .i64 N.empty] ∧ BlkIs wz (w.heap.size + 1) 4 (bl N.sets.length (doneTo N c f q)))) (fun i _ => N.sets.length - (intOf i).toNat)
        case atStart => exact ⟨0, rfl, Nat.zero_le _, Lib.hid ⟨HM3.out.1, HM3.out.2.1, by
          have e : doneTo N c f 0 = f := by funext x; unfold doneTo; rw [if_neg (by omega)]
          rw [e]; exact HM3.out.2.2⟩⟩
        case round =>
          obtain ⟨q, rfl, hq, HK⟩ := hrel
          try clear d0 d1 d2 d3 d4 d5
          by_cases hpq : q < N.sets.length
          · have hk2 : IntKind.i64.wrap ((q : Int) + 1) = ((q + 1 : Nat) : Int) := by rw [IntKind.wrap_i64]; omega
            have hdq : decide ((q : Int) < (N.sets.length : Int)) = true := by simp; omega
            have hqI : (q : Int) < (N.sets.length : Int) := by omega
            obtain ⟨d0, d1, d2, d3, d4, d5⟩ := six HK.out.2.1
            have z1 := bl_range HK.out.2.2 hpq
            have z2 := HK.out.2.2.frozen q
            have ez : doneTo N c f q q = f q := by unfold doneTo; rw [if_neg (by omega)]
            rw [ez] at z1
            obtain ⟨b0, o0, rfl, hyy⟩ := HSET.out q hpq
            obtain ⟨y0, y1, y2, y3⟩ := hyy _ HK.out.1
            have hdp := done_put N c N.sets.length f q
            have HC := Lib.hid (HHAS.out (N.setAt (q : Int)) wr)
            clear hyy ez
            generalize N.setAt (q : Int) = m at *
            generalize f q = fq at *
            generalize m c = mc at *
            have HDP := Lib.hid hdp
            clear hdp
            cases fq with
            | false =>
              go_wp2
              refine ⟨⟨q + 1, rfl, hpq, Lib.hid ⟨HK.out.1.setCell (p := ⟨_, _, none⟩) (by simp) _, HK.out.2.1.far (by simp) _, ?_⟩⟩, by simp [intOf]; omega⟩
              rw [← HDP.out, ← bl_set]
              exact HK.out.2.2.put _ _
            | true =>
              go_wp2_with fail
              go_at_call 46
              refine HC.out.mono ?_
              rintro e u ⟨rfl, hbu⟩
              have HU := Lib.hid (show Below w.heap.size w u ∧ BlkIs u w.heap.size 27 #[.slice (some ⟨b0, o0, none⟩) N.sets.length c0, .slice A1 N.rules.length c1, .slice A2 N.first.length c2, .slice A3 N.follow.length c3, .slice A4 N.ends.length c4, .int .i64 N.empty] ∧ BlkIs u (w.heap.size + 1) 4 (bl N.sets.length (doneTo N c f q)) from ⟨HK.out.1.trans (hbu.mono HK.out.1.size), HK.out.2.1.step hbu, HK.out.2.2.step hbu⟩)
              clear hbu d0 d1 d2 d3 d4 d5 y0 y1 y2 y3 z1 z2
              have z1 := bl_range HU.out.2.2 hpq
              have z2 := HU.out.2.2.frozen q
              go_wp2
              refine ⟨⟨q + 1, rfl, hpq, Lib.hid ⟨HU.out.1.setCell (p := ⟨_, _, none⟩) (by simp) _, HU.out.2.1.far (by simp) _, ?_⟩⟩, by simp [intOf]; omega⟩
              rw [← HDP.out, ← bl_set]
              exact HU.out.2.2.put _ _
          · have hdq : decide ((q : Int) < (N.sets.length : Int)) = false := by simp; omega
            obtain rfl : q = N.sets.length := by omega
            have hli := list_any _ _ wr (bl_bools HK.out.2.2 hn) (by rw [List.length_map, List.length_range]; omega)
            rw [list_keep, ← HR3.out] at hli
            have HLI := Lib.hid hli
            clear hli
            go_wp2_with fail
            go_at_call 56
            refine HLI.out.mono ?_
            rintro e u ⟨v', rfl, hri, hbu⟩
            have HU := Lib.hid (And.intro (hri.low HK.out.1.size) (HK.out.1.trans (hbu.mono HK.out.1.size)))
            clear hri hbu
            go_wp2
            go_ret
            exact ⟨_, rfl, HU.out.1, HU.out.2⟩
end Go.Proofs.YtkcnknhhabbomaaDoor

namespace Go.Proofs.YtkcnknhhabbomaaDoor
open Go.RowKit

theorem NfaAt.form {W : World} {N : Nf} {v : Value} (h : NfaAt W N v) : ∃ A0 A1 A2 A3 A4 c0 c1 c2 c3 c4, v = .agg #[.slice A0 N.sets.length c0, .slice A1 N.rules.length c1, .slice A2 N.first.length c2, .slice A3 N.follow.length c3, .slice A4 N.ends.length c4, .int .i64 N.empty] := by
  obtain ⟨v0, v1, v2, v3, v4, rfl, ⟨A0, c0, rfl, _, _⟩, ⟨A1, c1, rfl, _, _⟩, ⟨A2, c2, rfl, _, _⟩, ⟨A3, c3, rfl, _, _⟩, ⟨A4, c4, rfl, _, _⟩⟩ := h
  exact ⟨A0, A1, A2, A3, A4, c0, c1, c2, c3, c4, rfl⟩
theorem rises_in {all : Int} : ∀ (l : List Int) (a : Int), risesB all a l = true → ∀ p ∈ l, a < p ∧ p < all
  | [], _, _, p, hp => by cases hp
  | x :: r, a, h, p, hp => by
    unfold risesB at h
    simp only [Bool.and_eq_true, decide_eq_true_eq] at h
    rcases List.mem_cons.1 hp with rfl | hp
    · exact h.1
    · have := rises_in r x h.2 p hp
      omega
theorem rises_len {all : Int} : ∀ (l : List Int) (a : Int), risesB all a l = true → l = [] ∨ (l.length : Int) + a < all
  | [], _, _ => .inl rfl
  | x :: r, a, h => by
    unfold risesB at h
    simp only [Bool.and_eq_true, decide_eq_true_eq] at h
    refine .inr ?_
    rcases rises_len r x h.2 with rfl | h2
    · simp; omega
    · simp only [List.length_cons]; omega
structure MayIs (N : Nf) : Prop where
  small : N.sets.length ≤ 2000
  rules : N.rules.length = N.sets.length
  follow : N.follow.length = N.sets.length
  ends : N.ends.length = N.sets.length
  rule : ∀ r ∈ N.rules, 0 ≤ r ∧ r < 40
  row : ∀ r ∈ N.follow, risesB N.sets.length (-1) r = true
  first : risesB N.sets.length (-1) N.first = true
  empty : -1 ≤ N.empty ∧ N.empty < 40
theorem may_is {N : Nf} (h : N.may = true) : MayIs N := by
  unfold Nf.may Nf.sized Nf.rest okR at h
  simp only [Bool.and_eq_true, decide_eq_true_eq, beq_iff_eq, List.all_eq_true] at h
  obtain ⟨⟨⟨h1, h2⟩, h3, h4⟩, h5, h6, h7, h8, h9⟩ := h
  exact ⟨h1, h2, h3, h4, h5, h6, h7, h8, h9⟩
theorem MayIs.firsts {N : Nf} (h : MayIs N) : (∀ p ∈ N.first, 0 ≤ p ∧ p < (N.sets.length : Int)) ∧ N.first.length ≤ 2000 := by
  refine ⟨fun p hp => by have := rises_in _ _ h.first p hp; omega, ?_⟩
  have hs := h.small
  rcases rises_len _ _ h.first with e | e
  · rw [e]; simp
  · omega
theorem MayIs.rows {N : Nf} (h : MayIs N) : ∀ r ∈ N.follow, ∀ x ∈ r, 0 ≤ x ∧ x < (N.sets.length : Int) := fun r hr x hx => by
  have := rises_in _ _ (h.row r hr) x hx; omega
theorem MayIs.ruleAt {N : Nf} (h : MayIs N) (p : Int) : 0 ≤ N.ruleAt p ∧ N.ruleAt p < 40 := by
  unfold Nf.ruleAt
  rw [List.getD_eq_getElem?_getD]
  by_cases e : p.toNat < N.rules.length
  · rw [List.getElem?_eq_getElem e]; exact h.rule _ (List.getElem_mem e)
  · rw [List.getElem?_eq_none (by omega)]; simp

end Go.Proofs.YtkcnknhhabbomaaDoor

