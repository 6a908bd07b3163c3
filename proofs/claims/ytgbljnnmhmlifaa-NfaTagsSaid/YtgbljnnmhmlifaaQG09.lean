/-
  WHAT nfa's step ANSWERS: a contract. Condition: the places, and those that follow, are places of the automaton; at most 2^20 of them.
-/
import Derived.Test.YtgbljnnmhmlifaaQG07
import Derived.Test.YtgbljnnmhmlifaaQG08
namespace Go.Proofs.Ytgbljnnmhmlifaa
open Go.RowKit

def Nf.followAt (N : Nf) (p : Int) : List Int := N.follow.getD p.toNat []
def hasI (l : List Int) (q : Nat) : Bool := l.any fun x => x == (q : Int)
def markF (N : Nf) (at' : List Int) (q : Nat) : Bool := at'.any fun p => hasI (N.followAt p) q
def keepTo (k : Nat) (f : Nat → Bool) (N : Nf) (c : Nat) : List Int := ((List.range k).filter fun q => f q && N.setAt q c).map fun (i : Nat) => (i : Int)
theorem keep_succ (k : Nat) (f : Nat → Bool) (N : Nf) (c : Nat) : keepTo (k + 1) f N c = if f k && N.setAt k c then keepTo k f N c ++ [(k : Int)] else keepTo k f N c := by
  unfold keepTo
  rw [List.range_succ, List.filter_append, List.map_append]
  by_cases e : (f k && N.setAt k c) = true
  · rw [if_pos e]; simp only [List.filter_cons, List.filter_nil, e, if_true, List.map_cons, List.map_nil]
  · rw [if_neg e]; simp only [List.filter_cons, List.filter_nil, e]; simp
theorem keep_len (k : Nat) (f : Nat → Bool) (N : Nf) (c : Nat) : (keepTo k f N c).length ≤ k := by
  unfold keepTo
  rw [List.length_map]
  refine Nat.le_trans (List.length_filter_le _ _) ?_
  rw [List.length_range]; exact Nat.le_refl _
theorem hasI_succ (l : List Int) (j : Nat) (h : j < l.length) (q : Nat) : hasI (l.take (j + 1)) q = (hasI (l.take j) q || (l[j] == (q : Int))) := by
  unfold hasI
  rw [List.take_succ_eq_append_getElem h, List.any_append]; simp
theorem mark_succ (N : Nf) (l : List Int) (j : Nat) (h : j < l.length) (q : Nat) : markF N (l.take (j + 1)) q = (markF N (l.take j) q || hasI (N.followAt l[j]) q) := by
  unfold markF
  rw [List.take_succ_eq_append_getElem h, List.any_append]; simp
theorem upd_mark {k : Nat} {f : Nat → Bool} {l : List Int} {j : Nat} (h : j < l.length) {x : Nat} (hx : l[j] = (x : Int)) :
    bl k (updS (fun q => f q || hasI (l.take j) q) x true) = bl k (fun q => f q || hasI (l.take (j + 1)) q) := by
  apply bl_congr
  intro i _
  unfold updS
  rw [hasI_succ l j h i, hx]
  by_cases e : i = x
  · subst e; simp
  · have : ((x : Int) == (i : Int)) = false := by simp; omega
    rw [if_neg e, this]; simp

set_option maxRecDepth 20000 in
set_option maxHeartbeats 8000000 in
theorem step_any (N : Nf) (at' : List Int) (c : Nat) (hc : c < 256) (v va : Value) (w : World) (h : NfaAt w N v) (ha : IntsV w at' va) (hin : ∀ p ∈ at', 0 ≤ p ∧ p < N.sets.length) (hfl : N.follow.length = N.sets.length)
    (hrow : ∀ r ∈ N.follow, ∀ x ∈ r, 0 ≤ x ∧ x < (N.sets.length : Int)) (hn : N.sets.length ≤ 1048576) :
    Calls Try.prog 39 #[v, va, .int .u8 c] w fun e w' => ∃ v', e = .returned v' ∧ RowI (w.heap.size + 2) w' v' (keepTo N.sets.length (markF N at') N c) ∧ Below w.heap.size w w' := by
  obtain ⟨v0, v1, v2, v3, v4, rfl, hs0, hs1, hs2, hs3, hs4⟩ := h
  obtain ⟨A0, c0, rfl, hc0, hg0⟩ := hs0
  obtain ⟨A2, c2, rfl, hc2, hx2⟩ := hs2
  obtain ⟨A3, c3, rfl, hc3, hg3⟩ := hs3
  obtain ⟨A1, c1, rfl, hc1, hx1⟩ := hs1
  obtain ⟨A4, c4, rfl, hc4, hx4⟩ := hs4
  obtain ⟨Aa, ca, rfl, hca, hga⟩ := ha
  have hmk := fun u => make_bools N.sets.length (by omega) u
  have hb0 : Below w.heap.size w (w.alloc (.cells #[.slice A0 N.sets.length c0, .slice A1 N.rules.length c1, .slice A2 N.first.length c2, .slice A3 N.follow.length c3, .slice A4 N.ends.length c4, .int .i64 N.empty] 30)) := (Below.refl _ _).alloc (Nat.le_refl _) _
  have hbx := BlkIs.new w 30 #[.slice A0 N.sets.length c0, .slice A1 N.rules.length c1, .slice A2 N.first.length c2, .slice A3 N.follow.length c3, .slice A4 N.ends.length c4, .int .i64 N.empty]
  have hbm := BlkIs.new (w.alloc (.cells #[.slice A0 N.sets.length c0, .slice A1 N.rules.length c1, .slice A2 N.first.length c2, .slice A3 N.follow.length c3, .slice A4 N.ends.length c4, .int .i64 N.empty] 30)) 4 (bl N.sets.length fun _ => false)
  rw [World.size_alloc] at hbm
  have H0 := Lib.hid (And.intro (hb0.alloc (by simp) (.cells (bl N.sets.length fun _ => false) 4)) (And.intro (hbx.alloc (.cells (bl N.sets.length fun _ => false) 4)) hbm))
  obtain ⟨d0, d1, d2, d3, d4, d5⟩ := six hbx
  have HGA := Lib.hid hga
  have HIN := Lib.hid (fun (j : Nat) (h : j < at'.length) => hin _ (List.getElem_mem h))
  have HSET := Lib.hid (fun (pn : Nat) (h : pn < N.sets.length) => (show ∃ b o, A0 = some ⟨b, o, none⟩ ∧ ∀ u : World, Below w.heap.size w u → u.cell? ⟨b, o + pn * 4, none⟩ = some (.int .u64 (wd (N.setAt pn) 0 : Nat)) ∧ u.cell? ⟨b, o + pn * 4 + 1, none⟩ = some (.int .u64 (wd (N.setAt pn) 1 : Nat)) ∧ u.cell? ⟨b, o + pn * 4 + 2, none⟩ = some (.int .u64 (wd (N.setAt pn) 2 : Nat)) ∧ u.cell? ⟨b, o + pn * 4 + 3, none⟩ = some (.int .u64 (wd (N.setAt pn) 3 : Nat)) by
    obtain ⟨b, o, e1, l1, g1⟩ := hg0 (by intro e; rw [e] at h; simp at h)
    have es : N.setAt pn = N.sets[pn] := by unfold Nf.setAt; simp [h]
    rw [es]
    exact ⟨b, o, e1, fun u hu => ⟨(hu.cell (p := ⟨b, o + pn * 4, none⟩) l1).trans (g1 pn h 0 (by decide)), (hu.cell (p := ⟨b, o + pn * 4 + 1, none⟩) l1).trans (g1 pn h 1 (by decide)), (hu.cell (p := ⟨b, o + pn * 4 + 2, none⟩) l1).trans (g1 pn h 2 (by decide)), (hu.cell (p := ⟨b, o + pn * 4 + 3, none⟩) l1).trans (g1 pn h 3 (by decide))⟩⟩))
  have HFOL := Lib.hid (fun (pn : Nat) (h : pn < N.sets.length) => (show ∃ b o Ar cr, A3 = some ⟨b, o, none⟩ ∧ (∀ x ∈ N.followAt pn, 0 ≤ x ∧ x < (N.sets.length : Int)) ∧ (N.followAt pn).length ≤ cr ∧ cr ≤ 9223372036854775807 ∧ ∀ u : World, Below w.heap.size w u → u.cell? ⟨b, o + pn, none⟩ = some (.slice Ar (N.followAt pn).length cr) ∧ (N.followAt pn ≠ [] → ∃ b2 o2, Ar = some ⟨b2, o2, none⟩ ∧ ∀ (i : Nat) (h : i < (N.followAt pn).length), u.cell? ⟨b2, o2 + i, none⟩ = some (.int .i64 (N.followAt pn)[i])) by
    have h' : pn < N.follow.length := by rw [hfl]; exact h
    have es : N.followAt pn = N.follow[pn] := by unfold Nf.followAt; simp [h']
    obtain ⟨b, o, e1, l1, g1⟩ := hg3 (by intro e; rw [e] at h'; simp at h')
    obtain ⟨u0, hu0, Ar, cr, rfl, hcr, hgr⟩ := g1 pn h'
    rw [es]
    refine ⟨b, o, Ar, cr, e1, hrow _ (List.getElem_mem h'), hcr.1, hcr.2, fun u hu => ⟨(hu.cell (p := ⟨b, o + pn, none⟩) l1).trans hu0, fun hne => ?_⟩⟩
    obtain ⟨b2, o2, e2, l2, g2⟩ := hgr hne
    exact ⟨b2, o2, e2, fun i hi => (hu.cell (p := ⟨b2, o2 + i, none⟩) l2).trans (g2 i hi)⟩))
  have HHAS := Lib.hid (fun (m : Nat → Bool) (u : World) => has_any m c hc u)
  unfold setV at HHAS
  have HFL := Lib.hid hfl
  clear hb0 hbx hbm hg0 hg3 hga hx1 hx2 hx4 hin hrow hfl
  go_enter Try.func39, Try.ntmps39
  go_wp2
  go_loopw [21] (fun i wr => ∃ j : Nat, i = .int .i64 j ∧ j ≤ at'.length ∧ Hid (Below w.heap.size w wr ∧ BlkIs wr w.heap.size 30 #[.slice A0 N.sets.length c0, .slice A1 N.rules.length c1, .slice A2 N.first.length c2, .slice A3 N.follow.length c3, .slice A4 N.ends.length c4, .int .i64 N.empty] ∧ BlkIs wr (w.heap.size + 1) 4 (bl N.sets.length (markF N (at'.take j))))) (fun i _ => at'.length - (intOf i).toNat)
  case atStart => exact ⟨0, rfl, Nat.zero_le _, Lib.hid H0.out⟩
  case round =>
    obtain ⟨j, rfl, hj, HH⟩ := hrel
    clear hmk
    by_cases hp : j < at'.length
    · have hk1 : IntKind.i64.wrap ((j : Int) + 1) = ((j + 1 : Nat) : Int) := by rw [IntKind.wrap_i64]; omega
      have hdl : decide ((j : Int) < (at'.length : Int)) = true := by simp; omega
      obtain ⟨d0, d1, d2, d3, d4, d5⟩ := six HH.out.2.1
      obtain ⟨b, o, rfl, hlt, hg⟩ := HGA.out (by intro e; rw [e] at hp; simp at hp)
      have hcell := (HH.out.1.cell (p := ⟨b, o + j, none⟩) hlt).trans (hg j hp)
      have hpin := HIN.out j hp
      have HMS := Lib.hid (mark_succ N at' j hp)
      clear hg hlt
      generalize at'[j] = p at *
      obtain ⟨pn, rfl⟩ := Int.eq_ofNat_of_zero_le hpin.1
      have hpn : pn < N.sets.length := by omega
      have hi3 : (pn : Int) < (N.follow.length : Int) := by rw [HFL.out]; omega
      obtain ⟨b3, o3, Ar, cr, rfl, hxin, hcr1, hcr2, hyy⟩ := HFOL.out pn hpn
      have HYY := Lib.hid hyy
      have HXI := Lib.hid hxin
      obtain ⟨y0, _⟩ := hyy wr HH.out.1
      clear hyy hpin hxin
      generalize N.followAt (pn : Int) = row at *
      generalize hmf : markF N (at'.take j) = f at *
      have HMF := Lib.hid hmf
      clear hmf
      go_wp2
      go_loopw [31] (fun i wz => ∃ q : Nat, i = .int .i64 q ∧ q ≤ row.length ∧ Hid (Below w.heap.size w wz ∧ BlkIs wz w.heap.size 30 #[.slice A0 N.sets.length c0, .slice A1 N.rules.length c1, .slice A2 N.first.length c2, .slice (some ⟨b3, o3, none⟩) N.follow.length c3, .slice A4 N.ends.length c4, .int .i64 N.empty] ∧ BlkIs wz (w.heap.size + 1) 4 (bl N.sets.length (fun x => f x || hasI (row.take q) x)))) (fun i _ => row.length - (intOf i).toNat)
      case atStart => exact ⟨0, rfl, Nat.zero_le _, Lib.hid ⟨HH.out.1, HH.out.2.1, by
        have e : (fun x => f x || hasI (row.take 0) x) = f := by funext x; simp [hasI]
        rw [e]; exact HH.out.2.2⟩⟩
      case round =>
        obtain ⟨q, rfl, hq, HK⟩ := hrel
        by_cases hpq : q < row.length
        · have hk2 : IntKind.i64.wrap ((q : Int) + 1) = ((q + 1 : Nat) : Int) := by rw [IntKind.wrap_i64]; omega
          have hdq : decide ((q : Int) < (row.length : Int)) = true := by simp; omega
          obtain ⟨b2, o2, rfl, hg2⟩ := (HYY.out _ HK.out.1).2 (by intro e; rw [e] at hpq; simp at hpq)
          have hcell2 := hg2 q hpq
          have hxx := HXI.out _ (List.getElem_mem hpq)
          have HUP := Lib.hid (fun (x : Nat) (hx : row[q] = (x : Int)) => upd_mark (k := N.sets.length) (f := f) hpq hx)
          clear hg2
          generalize row[q] = x at *
          obtain ⟨xn, rfl⟩ := Int.eq_ofNat_of_zero_le hxx.1
          have hxn : xn < N.sets.length := by omega
          have hxI : (xn : Int) < (N.sets.length : Int) := by omega
          have z1 := bl_range HK.out.2.2 hxn
          have z2 := HK.out.2.2.frozen xn
          have HU := Lib.hid (HUP.out xn rfl)
          clear hxx
          go_wp2
          refine ⟨⟨q + 1, rfl, hpq, Lib.hid ⟨HK.out.1.setCell (p := ⟨_, _, none⟩) (by simp) _, HK.out.2.1.far (by simp) _, ?_⟩⟩, by simp [intOf]; omega⟩
          rw [← HU.out, ← bl_set]
          exact HK.out.2.2.put _ _
        · have hdq : decide ((q : Int) < (row.length : Int)) = false := by simp; omega
          obtain rfl : q = row.length := by omega
          have HFIN := Lib.hid (show markF N (at'.take (j + 1)) = (fun x => f x || hasI (row.take row.length) x) by
            funext x; rw [HMS.out x, List.take_length])
          go_wp2
          exact ⟨⟨j + 1, rfl, hp, Lib.hid ⟨HK.out.1, HK.out.2.1, by rw [HFIN.out]; exact HK.out.2.2⟩⟩, by simp [intOf]; omega⟩
    · have hdl : decide ((j : Int) < (at'.length : Int)) = false := by simp; omega
      obtain rfl : j = at'.length := by omega
      have hmt : at'.take at'.length = at' := List.take_length
      have hm3 := HH.out
      rw [hmt] at hm3
      have HM3 := Lib.hid hm3
      clear hm3 hmt HH
      obtain ⟨f, hf⟩ : ∃ f, f = markF N at' := ⟨_, rfl⟩
      rw [← hf] at HM3
      have HFQ := Lib.hid hf
      clear hf
      go_wp2
      go_loopw [12, 42] (fun s i wz => ∃ q : Nat, i = .int .i64 q ∧ q ≤ N.sets.length ∧ Hid (RowI (w.heap.size + 2) wz s (keepTo q f N c) ∧ Below w.heap.size w wz ∧ BlkIs wz w.heap.size 30 #[.slice A0 N.sets.length c0, .slice A1 N.rules.length c1, .slice A2 N.first.length c2, .slice A3 N.follow.length c3, .slice A4 N.ends.length c4, .int .i64 N.empty] ∧ BlkIs wz (w.heap.size + 1) 4 (bl N.sets.length f))) (fun _ i _ => N.sets.length - (intOf i).toNat)
      case atStart => exact ⟨0, rfl, Nat.zero_le _, Lib.hid ⟨RowI.nil _ _, HM3.out⟩⟩
      case round =>
        obtain ⟨q, rfl, hq, HK⟩ := hrel
        by_cases hpq : q < N.sets.length
        · have hk2 : IntKind.i64.wrap ((q : Int) + 1) = ((q + 1 : Nat) : Int) := by rw [IntKind.wrap_i64]; omega
          have hdq : decide ((q : Int) < (N.sets.length : Int)) = true := by simp; omega
          have hqI : (q : Int) < (N.sets.length : Int) := by omega
          obtain ⟨d0, d1, d2, d3, d4, d5⟩ := six HK.out.2.2.1
          have z1 := bl_range HK.out.2.2.2 hpq
          obtain ⟨b0, o0, rfl, hyy⟩ := HSET.out q hpq
          obtain ⟨y0, y1, y2, y3⟩ := hyy _ HK.out.2.1
          have hks := keep_succ q f N c
          have hkl := keep_len q f N c
          have HC := Lib.hid (HHAS.out (N.setAt (q : Int)) wr)
          clear hyy
          generalize N.setAt (q : Int) = m at *
          generalize f q = fq at *
          generalize m c = mc at *
          have HKS := Lib.hid hks
          clear hks
          cases fq with
          | false =>
            go_wp2
            exact ⟨⟨q + 1, rfl, hpq, Lib.hid ⟨by rw [HKS.out]; exact HK.out.1, HK.out.2⟩⟩, by simp [intOf]; omega⟩
          | true =>
            cases mc with
            | false =>
              go_wp2_with fail
              go_at_call 50
              refine HC.out.mono ?_
              rintro e u ⟨rfl, hbu⟩
              have HU := Lib.hid (And.intro (HK.out.1.step hbu) (And.intro (HK.out.2.1.trans (hbu.mono HK.out.2.1.size)) (And.intro (HK.out.2.2.1.step hbu) (HK.out.2.2.2.step hbu))))
              clear hbu d0 d1 d2 d3 d4 d5 y0 y1 y2 y3 z1
              go_wp2
              exact ⟨⟨q + 1, rfl, hpq, Lib.hid ⟨by rw [HKS.out]; exact HU.out.1, HU.out.2⟩⟩, by simp [intOf]; omega⟩
            | true =>
              go_wp2_with fail
              go_at_call 50
              refine HC.out.mono ?_
              rintro e u ⟨rfl, hbu⟩
              have hsz := (HK.out.2.2.2.step hbu).lt
              obtain ⟨v', W', hrun, hri, hbw⟩ := (HK.out.1.step hbu).push (by omega) (q : Int) (by omega)
              have HU := Lib.hid (And.intro hri (And.intro ((HK.out.2.1.trans (hbu.mono HK.out.2.1.size)).trans (hbw.mono (by omega))) (And.intro ((hbw.block w.heap.size (by omega)).trans (HK.out.2.2.1.step hbu)) ((hbw.block (w.heap.size + 1) (by omega)).trans (HK.out.2.2.2.step hbu)))))
              clear hbu hri hbw d0 d1 d2 d3 d4 d5 y0 y1 y2 y3 z1 hkl
              go_wp2_with (refine wpList_app8 rfl _ _ 26 26 rfl rfl rfl hrun ?_)
              exact ⟨⟨q + 1, rfl, hpq, Lib.hid ⟨by rw [HKS.out]; exact HU.out.1, HU.out.2⟩⟩, by simp [intOf]; omega⟩
        · have hdq : decide ((q : Int) < (N.sets.length : Int)) = false := by simp; omega
          obtain rfl : q = N.sets.length := by omega
          go_wp2
          go_ret
          exact ⟨_, rfl, by rw [← HFQ.out]; exact HK.out.1, HK.out.2.1⟩
end Go.Proofs.Ytgbljnnmhmlifaa

namespace Go.Proofs.Ytgbljnnmhmlifaa
open Go.RowKit

attribute [local irreducible] FreeW

theorem RowI.low {B B' : Nat} {W : World} {v : Value} {l : List Int} (h : RowI B W v l) (hb : B' ≤ B) : RowI B' W v l :=
  ⟨h.1, h.2.imp id fun ⟨g, cap, cur, e, h1, r⟩ => ⟨g, cap, cur, e, Nat.le_trans hb h1, r⟩⟩
end Go.Proofs.Ytgbljnnmhmlifaa

namespace Go.Proofs.Ytgbljnnmhmlifaa
open Go.RowKit

theorem NfaAt.form {W : World} {N : Nf} {v : Value} (h : NfaAt W N v) : ∃ A0 A1 A2 A3 A4 c0 c1 c2 c3 c4, v = .agg #[.slice A0 N.sets.length c0, .slice A1 N.rules.length c1, .slice A2 N.first.length c2, .slice A3 N.follow.length c3, .slice A4 N.ends.length c4, .int .i64 N.empty] := by
  obtain ⟨v0, v1, v2, v3, v4, rfl, ⟨A0, c0, rfl, _, _⟩, ⟨A1, c1, rfl, _, _⟩, ⟨A2, c2, rfl, _, _⟩, ⟨A3, c3, rfl, _, _⟩, ⟨A4, c4, rfl, _, _⟩⟩ := h
  exact ⟨A0, A1, A2, A3, A4, c0, c1, c2, c3, c4, rfl⟩
theorem rises_in {all : Int} : ∀ (l : List Int) (a : Int), risesB all a l = true → ∀ p ∈ l, a < p ∧ p < all
  | [], _, _, p, hp => by cases hp
  | x :: r, a, h, p, hp => by
    unfold risesB at h
    simp only [Bool.and_eq_true, decide_eq_true_eq] at h
    rcases List.mem_cons.1 hp with rfl | hp
    · exact h.1
    · have := rises_in r x h.2 p hp
      omega
theorem rises_len {all : Int} : ∀ (l : List Int) (a : Int), risesB all a l = true → l = [] ∨ (l.length : Int) + a < all
  | [], _, _ => .inl rfl
  | x :: r, a, h => by
    unfold risesB at h
    simp only [Bool.and_eq_true, decide_eq_true_eq] at h
    refine .inr ?_
    rcases rises_len r x h.2 with rfl | h2
    · simp; omega
    · simp only [List.length_cons]; omega
structure MayIs (N : Nf) : Prop where
  small : N.sets.length ≤ 2000
  rules : N.rules.length = N.sets.length
  follow : N.follow.length = N.sets.length
  ends : N.ends.length = N.sets.length
  rule : ∀ r ∈ N.rules, 0 ≤ r ∧ r < 40
  row : ∀ r ∈ N.follow, risesB N.sets.length (-1) r = true
  first : risesB N.sets.length (-1) N.first = true
  empty : -1 ≤ N.empty ∧ N.empty < 40
theorem may_is {N : Nf} (h : N.may = true) : MayIs N := by
  unfold Nf.may Nf.sized Nf.rest okR at h
  simp only [Bool.and_eq_true, decide_eq_true_eq, beq_iff_eq, List.all_eq_true] at h
  obtain ⟨⟨⟨h1, h2⟩, h3, h4⟩, h5, h6, h7, h8, h9⟩ := h
  exact ⟨h1, h2, h3, h4, h5, h6, h7, h8, h9⟩
theorem MayIs.firsts {N : Nf} (h : MayIs N) : (∀ p ∈ N.first, 0 ≤ p ∧ p < (N.sets.length : Int)) ∧ N.first.length ≤ 2000 := by
  refine ⟨fun p hp => by have := rises_in _ _ h.first p hp; omega, ?_⟩
  have hs := h.small
  rcases rises_len _ _ h.first with e | e
  · rw [e]; simp
  · omega
theorem MayIs.rows {N : Nf} (h : MayIs N) : ∀ r ∈ N.follow, ∀ x ∈ r, 0 ≤ x ∧ x < (N.sets.length : Int) := fun r hr x hx => by
  have := rises_in _ _ (h.row r hr) x hx; omega
theorem MayIs.ruleAt {N : Nf} (h : MayIs N) (p : Int) : 0 ≤ N.ruleAt p ∧ N.ruleAt p < 40 := by
  unfold Nf.ruleAt
  rw [List.getD_eq_getElem?_getD]
  by_cases e : p.toNat < N.rules.length
  · rw [List.getElem?_eq_getElem e]; exact h.rule _ (List.getElem_mem e)
  · rw [List.getElem?_eq_none (by omega)]; simp

end Go.Proofs.Ytgbljnnmhmlifaa

