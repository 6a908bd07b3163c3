/-
  WHAT nfa's repeated ANSWERS, given what part answers of the Sub: a contract. Condition: one copy at most, or none; at most 2^20 places.
-/
import Derived.Test.YtgngaaemkmdfaaaDoorQG36
namespace Go.Proofs.YtgngaaemkmdfaaaDoor
section
open Go.RowKit

attribute [local irreducible] FreeW textFrame

theorem MkAt.read {M K : Nat → Bool} {W : World} {pb : Nat} {S : Mk} {r f e m : Value} (h : MkAt M K W pb S r f e m) : ∃ A c, W.cell? ⟨pb, 0, none⟩ = some (.slice A S.sets.length c) := by
  obtain ⟨vs, vf, xs, h⟩ := h
  obtain ⟨A, c, rfl, _⟩ := own_form h.own0
  exact ⟨A, c, (six h.blk).1⟩
theorem PrtsAt.one {V W : World} {p : Prt} {g : Nat} {p1 p2 : Value} (h1 : IntsV V p.first p1) (h2 : IntsV V p.ends p2) (h : BlkIs W g 93 #[p1, p2, .bool p.empty]) : PrtsAt V W [p] (.slice (some ⟨g, 0, none⟩) 1 1) :=
  ⟨_, _, rfl, ⟨by simp, by decide⟩, fun _ => ⟨g, 0, rfl, fun i hi => by
    simp only [List.length_singleton] at hi
    obtain rfl : i = 0 := by omega
    exact ⟨p1, p2, by simpa using h.cell 0, by simpa using h.cell 1, by simpa using h.cell 2, h1, h2⟩⟩⟩
theorem BlkIs.hidden {W : World} {M : Nat → Bool} {g : Nat} {t : TypeId} {cs : Array Value} (h : BlkIs W g t cs) (hm : M g = false) : BlkIs (hide W M) g t cs := by
  unfold BlkIs at *
  rw [hide_get, h, hm]; rfl

set_option maxRecDepth 20000 in
set_option maxHeartbeats 16000000 in
theorem repeated_none (mm : Nat → Bool) (A : Option Addr) (n c : Nat) (lo hi : Int) (hz : copiesI lo hi = 0) (pb : Nat) (w : World) :
    Calls Tryd.prog 64 #[.pointer (some ⟨pb, 0, none⟩), reV 4 mm A n c lo hi] w fun x w' => x = .returned (.slice none 0 0) ∧ Below w.heap.size w w' := by
  have hb : Below w.heap.size w (w.alloc (.cells (reL 4 mm A n c lo hi).toArray 54)) := (Below.refl _ _).alloc (Nat.le_refl _) _
  have hx := BlkIs.new w 54 (reL 4 mm A n c lo hi).toArray
  have HC := Lib.hid (fun u => copies_any 4 mm A n c lo hi u)
  rw [hz] at HC
  have HB := Lib.hid hb
  obtain ⟨d0, d1, d2, d3, d4, d5, d6, d7⟩ := hx.eight
  unfold reV reL at *
  clear hb hx hz
  go_enter Tryd.func64, Tryd.ntmps64
  go_wp2_with fail
  go_at_call 59
  refine (HC.out _).mono ?_
  rintro x u ⟨rfl, hu⟩
  have HU := Lib.hid (HB.out.trans (hu.mono HB.out.size))
  clear hu
  go_wp2
  go_ret
  exact ⟨rfl, HU.out⟩

set_option maxRecDepth 20000 in
set_option maxHeartbeats 16000000 in
theorem repeated_one (t : Tree) (IH : PartIs t) (hokt : t.okT) (M K : Nat → Bool) (S : Mk) (mm : Nat → Bool) (A : Option Addr) (c : Nat) (lo hi : Int) (hz : copiesI lo hi = 1) (pb : Nat) (r f e m : Value) (w : World) (hm : MkAt M K w pb S r f e m)
    (hat : ∃ b o, A = some ⟨b, o, none⟩ ∧ ∃ cs : List Value, Tree.At (hide w M) t (.agg cs.toArray) ∧ cs.length = 8 ∧ (hide w M).rangeAt b o cs)
    (hS : S.Ok) (hn : S.sets.length + t.plN ≤ 1048576) (hM : ∀ k, M k = true → k < w.heap.size) (hK : ∀ k, K k = true → k < w.heap.size) :
    Calls Tryd.prog 64 #[.pointer (some ⟨pb, 0, none⟩), reV 4 mm A 1 c lo hi] w fun x w' => ∃ M' v', x = .returned v' ∧ Nx M M' w w' ∧ (∀ k, M' k = true → k < w'.heap.size) ∧
      MkAt M' K w' pb ⟨(partP t S).1.sets, if hi = -1 then linkF (partP t S).1.follow (partP t S).2.ends (partP t S).2.first else (partP t S).1.follow⟩ r f e m ∧ PrtsAt (hide w' (MK M' K)) (hide w' M') [(partP t S).2] v' := by
  have hb : Below w.heap.size w (w.alloc (.cells (reL 4 mm A 1 c lo hi).toArray 54)) := (Below.refl _ _).alloc (Nat.le_refl _) _
  have hx := BlkIs.new w 54 (reL 4 mm A 1 c lo hi).toArray
  have HC := Lib.hid (fun u => copies_any 4 mm A 1 c lo hi u)
  rw [hz] at HC
  obtain ⟨b, o, rfl, cs, hcat, hlen, hrow⟩ := hat
  obtain ⟨A', n', c', rfl⟩ := hcat.eight
  obtain ⟨hpo, hp2, hp3⟩ := partP_ok t S hokt hS
  have HP := Lib.hid (And.intro hpo (And.intro hp2 (show (partP t S).1.sets.length ≤ 1048576 by omega)))
  have HI := Lib.hid (fun u (hu : Below w.heap.size w u) => IH M K S _ pb r f e m u (hm.step hu) (hcat.sub (below_sub _ hu)) hS hn (fun k hk => Nat.lt_of_lt_of_le (hM k hk) hu.size) (fun k hk => Nat.lt_of_lt_of_le (hK k hk) hu.size))
  have HR := Lib.hid (fun u (hu : Below w.heap.size w u) => row_eight (fun i x hi => (hu.cell (World.block_lt_of_cell? w _ (hide_less _ _ (hrow i x hi)))).trans (hide_less _ _ (hrow i x hi))) (Below.refl u.heap.size u))
  have HMR := Lib.hid (fun u (hu : Below w.heap.size w u) => (hm.step hu).read)
  have HX := Lib.hid (And.intro hb hx)
  have HK := Lib.hid hK
  have HMF := Lib.hid (show M w.heap.size = false by rw [Bool.eq_false_iff]; intro e; have := hM _ e; omega)
  obtain ⟨d0, d1, d2, d3, d4, d5, d6, d7⟩ := hx.eight
  have hc1 : 1 ≤ 1 := Nat.le_refl _
  unfold reV reL at *
  clear hb hx hz hcat hrow hlen hpo hp2 hp3 hm hS hn hM hK IH hokt hc1
  generalize partP t S = TS at *
  obtain ⟨F, hF⟩ : ∃ F, F = if hi = -1 then linkF TS.1.follow TS.2.ends TS.2.first else TS.1.follow := ⟨_, rfl⟩
  rw [← hF]
  have HF := Lib.hid hF
  clear hF
  generalize t.kind = kx at *
  generalize t.set = mx at *
  generalize t.lo = lx at *
  generalize t.hi = hxx at *
  go_enter Tryd.func64, Tryd.ntmps64
  go_wp2_with fail
  go_at_call 59
  refine (HC.out _).mono ?_
  rintro x u ⟨rfl, hu⟩
  have hbu := HX.out.1.trans (hu.mono HX.out.1.size)
  have hxu := HX.out.2.step hu
  have HU := Lib.hid (And.intro hbu hxu)
  obtain ⟨As, cs, hvs⟩ := HMR.out u hbu
  obtain ⟨r0, r1, r2, r3, r4, r5, r6, r7⟩ := HR.out u hbu
  clear d0 d1 d2 d3 d4 d5 d6 d7
  obtain ⟨d0, d1, d2, d3, d4, d5, d6, d7⟩ := hxu.eight
  have HI2 := Lib.hid (HI.out u hbu)
  clear hu hbu hxu
  go_wp2_with fail
  go_at_call 43
  refine HI2.out.mono ?_
  rintro x u1 ⟨M1, v1, rfl, hnx, hlt1, hmk, p1, p2, rfl, hp1, hp2⟩
  obtain ⟨Y1, y1, rfl, _⟩ := hp1.form
  obtain ⟨Y2, y2, rfl, _⟩ := hp2.form
  obtain ⟨U2, hU2⟩ : ∃ U2, u1.alloc (.cells #[.slice Y1 TS.2.first.length y1, .slice Y2 TS.2.ends.length y2, .bool TS.2.empty] 93) = U2 := ⟨_, rfl⟩
  obtain ⟨U3, hU3⟩ : ∃ U3, U2.alloc (.cells #[.slice Y1 TS.2.first.length y1, .slice Y2 TS.2.ends.length y2, .bool TS.2.empty] 93) = U3 := ⟨_, rfl⟩
  have hb2 : Below u1.heap.size u1 U2 := by rw [← hU2]; exact (Below.refl _ _).alloc (Nat.le_refl _) _
  have hs2 : U2.heap.size = u1.heap.size + 1 := by rw [← hU2]; simp
  have hf2 : BlkIs U2 u1.heap.size 93 #[.slice Y1 TS.2.first.length y1, .slice Y2 TS.2.ends.length y2, .bool TS.2.empty] := by rw [← hU2]; exact BlkIs.new _ _ _
  have hb3 : Below U2.heap.size U2 U3 := by rw [← hU3]; exact (Below.refl _ _).alloc (Nat.le_refl _) _
  have hf3 : BlkIs U3 U2.heap.size 93 #[.slice Y1 TS.2.first.length y1, .slice Y2 TS.2.ends.length y2, .bool TS.2.empty] := by rw [← hU3]; exact BlkIs.new _ _ _
  have hb23 : Below u1.heap.size u1 U3 := hb2.trans (hb3.mono hb2.size)
  have hx3 : BlkIs U3 w.heap.size 54 _ := ((HU.out.2.nx hnx HMF.out).step hb2).step hb3
  have hmu : M1 U2.heap.size = false := by rw [Bool.eq_false_iff]; intro e; have := hlt1 _ e; omega
  rw [hs2] at hf3 hmu
  have hn3 : Nx M M1 w U3 := (Nx.below HU.out.1).trans (hnx.trans (Nx.below hb23))
  obtain ⟨Bs, bs, hvs2⟩ := (hmk.step hb2).read
  obtain ⟨f0, f1, f2, _, _, _⟩ := three hf2
  have H3 := Lib.hid (And.intro hn3 (And.intro (hmk.step hb23) (And.intro (hp1.sub (below_sub _ hb23)) (And.intro (hp2.sub (below_sub _ hb23)) (And.intro hf3 hmu)))))
  have HL1 := Lib.hid (fun k hk => Nat.lt_of_lt_of_le (hlt1 k hk) hb23.size)
  have HX3 := Lib.hid hx3
  clear d0 d1 d2 d3 d4 d5 d6 d7 r0 r1 r2 r3 r4 r5 r6 r7 hvs hnx hlt1 hmk hp1 hp2 hb2 hb3 hb23 hf2 hx3 hn3 hmu
  go_wp2
  obtain ⟨U3', hU3'⟩ : ∃ u, u = U3 := ⟨_, rfl⟩
  go_loopw [9] (fun s wr => s = .slice (some ⟨u1.heap.size + 1, 0, none⟩) 1 1 ∧ Hid (wr = U3)) (fun _ _ => 0)
  case atStart => exact ⟨rfl, Lib.hid rfl⟩
  case round =>
    obtain ⟨rfl, HH⟩ := hrel
    obtain rfl := HH.out
    clear HH
    obtain ⟨d0, d1, d2, d3, d4, d5, d6, d7⟩ := HX3.out.eight
    obtain ⟨f0, f1, f2, _, _, _⟩ := three H3.out.2.2.2.2.1
    by_cases hh : hi = -1
    · have e1 : (hi == -1) = true := by simp [hh]
      have HFF := Lib.hid (show F = linkF TS.1.follow TS.2.ends TS.2.first by rw [HF.out, if_pos hh])
      clear hh
      obtain ⟨U4, hU4⟩ : ∃ U4, wr.alloc (.cells #[.slice Y1 TS.2.first.length y1, .slice Y2 TS.2.ends.length y2, .bool TS.2.empty] 93) = U4 := ⟨_, rfl⟩
      have hb4 : Below wr.heap.size wr U4 := by rw [← hU4]; exact (Below.refl _ _).alloc (Nat.le_refl _) _
      have hf4 : BlkIs U4 wr.heap.size 93 #[.slice Y1 TS.2.first.length y1, .slice Y2 TS.2.ends.length y2, .bool TS.2.empty] := by rw [← hU4]; exact BlkIs.new _ _ _
      obtain ⟨g0, g1, g2, _, _, _⟩ := three hf4
      have HLK := Lib.hid (link_any M1 K TS.1 TS.2.ends TS.2.first _ _ pb r f e m U4 (H3.out.2.1.step hb4) (H3.out.2.2.2.1.sub (below_sub _ hb4)) (H3.out.2.2.1.sub (below_sub _ hb4)) HP.out.1 HP.out.2.1.2 HP.out.2.1.1 HP.out.2.2
        (fun k hk => Nat.lt_of_lt_of_le (HL1.out k hk) hb4.size) (fun k hk => by have := HK.out k hk; have := H3.out.1.size; have := hb4.size; omega))
      have H4 := Lib.hid (And.intro hb4 (H3.out.2.2.2.2.1.step hb4))
      clear hb4 hf4
      go_wp2_with fail
      go_at_call 81
      refine HLK.out.mono ?_
      rintro x u5 ⟨y, rfl, hnx5, hmk5⟩
      have HN5 := Lib.hid hnx5
      have HK5 := Lib.hid hmk5
      clear hnx5 hmk5
      go_wp2
      go_ret
      have hns := (Nx.below H4.out.1 (M := M1)).trans HN5.out
      have hfe := H4.out.2.nx HN5.out H3.out.2.2.2.2.2
      exact ⟨M1, _, rfl, H3.out.1.trans hns, fun k hk => Nat.lt_of_lt_of_le (HL1.out k hk) hns.size, by rw [HFF.out]; exact HK5.out, PrtsAt.one (H3.out.2.2.1.sub (hns.sub K)) (H3.out.2.2.2.1.sub (hns.sub K)) (hfe.hidden H3.out.2.2.2.2.2)⟩
    · have e1 : (hi == -1) = false := by simp [hh]
      have HFF := Lib.hid (show F = TS.1.follow by rw [HF.out, if_neg hh])
      clear hh
      go_wp2
      go_ret
      exact ⟨M1, _, rfl, H3.out.1, HL1.out, by rw [HFF.out]; exact H3.out.2.1, PrtsAt.one H3.out.2.2.1 H3.out.2.2.2.1 (H3.out.2.2.2.2.1.hidden H3.out.2.2.2.2.2)⟩
end

section
open Go.RowKit

attribute [local irreducible] FreeW textFrame

theorem part_fin {M M' K : Nat → Bool} {w U : World} {pb b : Nat} {S : Mk} {r f e m x1 x2 : Value} {p : Prt} (hb : BlkIs U b 93 #[.slice none 0 0, .slice none 0 0, .bool false]) (hn : Nx M M' w U) (hw : w.heap.size ≤ b) (hM : M' b = false) (hlt : ∀ k, M' k = true → k < U.heap.size)
    (hmk : MkAt M' (Kor K b) U pb S r f e m) (h1 : IntsV (hide U (MK M' (Kor K b))) p.first x1) (h2 : IntsV (hide U (MK M' (Kor K b))) p.ends x2) (z : Bool) (hz : z = p.empty) :
    (loadVar 93 ⟨b, 0, none⟩).run Tryd.prog (((U.setCell ⟨b, 0, none⟩ x1).setCell ⟨b, 1, none⟩ x2).setCell ⟨b, 2, none⟩ (.bool z)) = .ok (.agg #[x1, x2, .bool z]) (((U.setCell ⟨b, 0, none⟩ x1).setCell ⟨b, 1, none⟩ x2).setCell ⟨b, 2, none⟩ (.bool z)) ∧
    ∃ M2 v', Value.agg #[x1, x2, .bool z] = v' ∧ Nx M M2 w (((U.setCell ⟨b, 0, none⟩ x1).setCell ⟨b, 1, none⟩ x2).setCell ⟨b, 2, none⟩ (.bool z)) ∧ (∀ k, M2 k = true → k < (((U.setCell ⟨b, 0, none⟩ x1).setCell ⟨b, 1, none⟩ x2).setCell ⟨b, 2, none⟩ (.bool z)).heap.size) ∧
      MkAt M2 K (((U.setCell ⟨b, 0, none⟩ x1).setCell ⟨b, 1, none⟩ x2).setCell ⟨b, 2, none⟩ (.bool z)) pb S r f e m ∧ PrtV (hide (((U.setCell ⟨b, 0, none⟩ x1).setCell ⟨b, 1, none⟩ x2).setCell ⟨b, 2, none⟩ (.bool z)) (MK M2 K)) p v' := by
  subst hz
  have hk : Kor K b b = true := Kor_me K b
  have hs := (((put_subM (M := M') (W := U) (i := 0) hk x1).trans (put_subM (M := M') (i := 1) hk x2)).trans (put_subM (M := M') (i := 2) hk (.bool p.empty))).trans Kor_sub
  exact ⟨load_part (put_three hb), M', _, rfl, ((hn.far hw).far hw).far hw, fun k hk => by simpa [World.setCell] using hlt k hk, (((hmk.far hk hM).far hk hM).far hk hM).less, _, _, rfl, h1.sub hs, h2.sub hs⟩
theorem Nx.keeps {M M' : Nat → Bool} {W W' : World} {k : Nat} (h : Nx M M' W W') (hk : k < W.heap.size) (hm : M k = false) : M' k = false := (h.mine k hk).trans hm

set_option maxRecDepth 20000 in
set_option maxHeartbeats 16000000 in
theorem part_leaf (ms : Nat → Bool) (lo hi : Int) : PartIs (.node 1 ms [] lo hi) := by
  intro M K S v pb r f e m w hm hat hS hn hM hK
  obtain ⟨A, c, rfl, hc, _⟩ := hat.open
  have hp1 : partP (.node 1 ms [] lo hi) S = (placeS S ms, ⟨[(S.sets.length : Int)], [(S.sets.length : Int)], false⟩) := by unfold partP; rw [if_pos rfl]
  rw [hp1]
  obtain ⟨w2, hw2⟩ : ∃ w2, (w.alloc (.cells #[.int .i64 1, .int .u64 (wd ms 0 : Nat), .int .u64 (wd ms 1 : Nat), .int .u64 (wd ms 2 : Nat), .int .u64 (wd ms 3 : Nat), .slice A 0 c, .int .i64 lo, .int .i64 hi] 54)).alloc (.cells #[.slice none 0 0, .slice none 0 0, .bool false] 93) = w2 := ⟨_, rfl⟩
  have hb2 : Below w.heap.size w w2 := by rw [← hw2]; exact ((Below.refl _ _).alloc (Nat.le_refl _) _).alloc (by simp) _
  have hs2 : w2.heap.size = w.heap.size + 2 := by rw [← hw2]; simp
  have hx0 : BlkIs w2 w.heap.size 54 #[.int .i64 1, .int .u64 (wd ms 0 : Nat), .int .u64 (wd ms 1 : Nat), .int .u64 (wd ms 2 : Nat), .int .u64 (wd ms 3 : Nat), .slice A 0 c, .int .i64 lo, .int .i64 hi] := by rw [← hw2]; exact (BlkIs.new w _ _).alloc _
  have hx1 : BlkIs w2 (w.heap.size + 1) 93 #[.slice none 0 0, .slice none 0 0, .bool false] := by
    rw [← hw2]
    have h := BlkIs.new (w.alloc (.cells #[.int .i64 1, .int .u64 (wd ms 0 : Nat), .int .u64 (wd ms 1 : Nat), .int .u64 (wd ms 2 : Nat), .int .u64 (wd ms 3 : Nat), .slice A 0 c, .int .i64 lo, .int .i64 hi] 54)) 93 #[.slice none 0 0, .slice none 0 0, .bool false]
    rw [World.size_alloc] at h
    exact h
  have hMf : ∀ k, w.heap.size ≤ k → M k = false := fun k hk => by
    rw [Bool.eq_false_iff]; intro e; have := hM k e; omega
  have hK2 : ∀ k, Kor K (w.heap.size + 1) k = true → k < w2.heap.size := Kor_lt (fun k hk => by have := hK k hk; omega) (by omega)
  have hM2 : ∀ k, M k = true → k < w2.heap.size := fun k hk => by have := hM k hk; omega
  have hm2 : MkAt M (Kor K (w.heap.size + 1)) w2 pb S r f e m := hm.new hb2 (by omega)
  have HBX := Lib.hid (And.intro hx0 hx1)
  have HMF := Lib.hid hMf
  have HW2 := Lib.hid (And.intro hb2 hs2)
  have HPL := Lib.hid (place_any M (Kor K (w.heap.size + 1)) S ms pb r f e m w2 hm2 hS.1 (by omega) hM2 hK2)
  obtain ⟨d0, d1, d2, d3, d4, d5, d6, d7⟩ := hx0.eight
  unfold reV reL
  clear hb2 hs2 hx0 hx1 hMf hK2 hM2 hm2 hm hat hS hn hM hK hp1
  go_enter Tryd.func43, Tryd.ntmps43
  go_wp2_with fail
  go_at_call 60
  refine HPL.out.mono ?_
  rintro x u1 ⟨M1, v1, rfl, hnx, hlt1, hmk, p1, p2, rfl, hp1, hp2⟩
  have hb1 := HBX.out.2.nx hnx (HMF.out _ (by omega))
  have hfin := part_fin (p := ⟨[(S.sets.length : Int)], [(S.sets.length : Int)], false⟩) hb1 ((Nx.below HW2.out.1).trans hnx) (by omega) (hnx.keeps (by have := HW2.out.2; omega) (HMF.out _ (by omega))) hlt1 hmk hp1 hp2 false rfl
  obtain ⟨Y1, y1, rfl, _⟩ := hp1.form
  obtain ⟨Y2, y2, rfl, _⟩ := hp2.form
  obtain ⟨k0, k1, k2, l0, l1, l2⟩ := three hb1
  have HFN := Lib.hid hfin
  have hlt := hb1.lt
  clear hfin hb1 hnx hlt1 hmk hp1 hp2 d0 d1 d2 d3 d4 d5 d6 d7
  go_wp2
  obtain ⟨hl, M2, v', hv, h1, h2, h3, h4⟩ := HFN.out
  exact ⟨rfl, _, results_cell1 rfl rfl hl, M2, _, congrArg Ending.returned hv, h1, h2, h3, h4⟩
set_option maxRecDepth 20000 in
set_option maxHeartbeats 16000000 in
theorem part_void (ms : Nat → Bool) (lo hi : Int) : PartIs (.node 0 ms [] lo hi) := by
  intro M K S v pb r f e m w hm hat hS hn hM hK
  obtain ⟨A, c, rfl, hc, _⟩ := hat.open
  have hp1 : partP (.node 0 ms [] lo hi) S = (S, ⟨[], [], true⟩) := by unfold partP; simp
  rw [hp1]
  obtain ⟨w2, hw2⟩ : ∃ w2, (w.alloc (.cells #[.int .i64 0, .int .u64 (wd ms 0 : Nat), .int .u64 (wd ms 1 : Nat), .int .u64 (wd ms 2 : Nat), .int .u64 (wd ms 3 : Nat), .slice A 0 c, .int .i64 lo, .int .i64 hi] 54)).alloc (.cells #[.slice none 0 0, .slice none 0 0, .bool false] 93) = w2 := ⟨_, rfl⟩
  have hb2 : Below w.heap.size w w2 := by rw [← hw2]; exact ((Below.refl _ _).alloc (Nat.le_refl _) _).alloc (by simp) _
  have hs2 : w2.heap.size = w.heap.size + 2 := by rw [← hw2]; simp
  have hx0 : BlkIs w2 w.heap.size 54 #[.int .i64 0, .int .u64 (wd ms 0 : Nat), .int .u64 (wd ms 1 : Nat), .int .u64 (wd ms 2 : Nat), .int .u64 (wd ms 3 : Nat), .slice A 0 c, .int .i64 lo, .int .i64 hi] := by rw [← hw2]; exact (BlkIs.new w _ _).alloc _
  have hx1 : BlkIs w2 (w.heap.size + 1) 93 #[.slice none 0 0, .slice none 0 0, .bool false] := by
    rw [← hw2]
    have h := BlkIs.new (w.alloc (.cells #[.int .i64 0, .int .u64 (wd ms 0 : Nat), .int .u64 (wd ms 1 : Nat), .int .u64 (wd ms 2 : Nat), .int .u64 (wd ms 3 : Nat), .slice A 0 c, .int .i64 lo, .int .i64 hi] 54)) 93 #[.slice none 0 0, .slice none 0 0, .bool false]
    rw [World.size_alloc] at h
    exact h
  have hMf : ∀ k, w.heap.size ≤ k → M k = false := fun k hk => by
    rw [Bool.eq_false_iff]; intro e; have := hM k e; omega
  have hK2 : ∀ k, Kor K (w.heap.size + 1) k = true → k < w2.heap.size := Kor_lt (fun k hk => by have := hK k hk; omega) (by omega)
  have hM2 : ∀ k, M k = true → k < w2.heap.size := fun k hk => by have := hM k hk; omega
  have hm2 : MkAt M (Kor K (w.heap.size + 1)) w2 pb S r f e m := hm.new hb2 (by omega)
  have HBX := Lib.hid (And.intro hx0 hx1)
  have HMF := Lib.hid hMf
  have HW2 := Lib.hid (And.intro hb2 hs2)
  obtain ⟨d0, d1, d2, d3, d4, d5, d6, d7⟩ := hx0.eight
  obtain ⟨k0, k1, k2, l0, l1, l2⟩ := three hx1
  have hlt := hx1.lt
  have HFN := Lib.hid (part_fin (p := ⟨[], [], true⟩) (x1 := .slice none 0 0) (x2 := .slice none 0 0) hx1 (Nx.below hb2) (by omega) (hMf _ (by omega)) hM2 hm2 (IntsV.nil _) (IntsV.nil _) true rfl)
  unfold reV reL
  clear hb2 hs2 hx0 hx1 hMf hK2 hM2 hm2 hm hat hS hn hM hK hp1
  go_enter Tryd.func43, Tryd.ntmps43
  go_wp2
  obtain ⟨hl, M2, v', hv, h1, h2, h3, h4⟩ := HFN.out
  exact ⟨rfl, _, results_cell1 rfl rfl hl, M2, _, congrArg Ending.returned hv, h1, h2, h3, h4⟩
set_option maxRecDepth 20000 in
set_option maxHeartbeats 16000000 in
theorem part_alt (ms : Nat → Bool) (l : List Tree) (lo hi : Int) (IH : ∀ t ∈ l, PartIs t) (hokT : okTs l) (hll : l.length ≤ 1048576) : PartIs (.node 3 ms l lo hi) := by
  intro M K S v pb r f e m w hm hat hS hn hM hK
  obtain ⟨A, c, rfl, hc, hrows⟩ := hat.open
  have hp1 : partP (.node 3 ms l lo hi) S = ((partsP l S).1, eitherP ⟨[], [], false⟩ (partsP l S).2) := by unfold partP; simp
  have hnn : S.sets.length + sumN l ≤ 1048576 := by simp only [Tree.plN] at hn; simpa using hn
  obtain ⟨ho1, ho2, ho3, ho4⟩ := partsP_ok l S hokT hS
  rw [hp1]
  obtain ⟨w2, hw2⟩ : ∃ w2, (w.alloc (.cells #[.int .i64 3, .int .u64 (wd ms 0 : Nat), .int .u64 (wd ms 1 : Nat), .int .u64 (wd ms 2 : Nat), .int .u64 (wd ms 3 : Nat), .slice A l.length c, .int .i64 lo, .int .i64 hi] 54)).alloc (.cells #[.slice none 0 0, .slice none 0 0, .bool false] 93) = w2 := ⟨_, rfl⟩
  have hb2 : Below w.heap.size w w2 := by rw [← hw2]; exact ((Below.refl _ _).alloc (Nat.le_refl _) _).alloc (by simp) _
  have hs2 : w2.heap.size = w.heap.size + 2 := by rw [← hw2]; simp
  have hx0 : BlkIs w2 w.heap.size 54 #[.int .i64 3, .int .u64 (wd ms 0 : Nat), .int .u64 (wd ms 1 : Nat), .int .u64 (wd ms 2 : Nat), .int .u64 (wd ms 3 : Nat), .slice A l.length c, .int .i64 lo, .int .i64 hi] := by rw [← hw2]; exact (BlkIs.new w _ _).alloc _
  have hx1 : BlkIs w2 (w.heap.size + 1) 93 #[.slice none 0 0, .slice none 0 0, .bool false] := by
    rw [← hw2]
    have h := BlkIs.new (w.alloc (.cells #[.int .i64 3, .int .u64 (wd ms 0 : Nat), .int .u64 (wd ms 1 : Nat), .int .u64 (wd ms 2 : Nat), .int .u64 (wd ms 3 : Nat), .slice A l.length c, .int .i64 lo, .int .i64 hi] 54)) 93 #[.slice none 0 0, .slice none 0 0, .bool false]
    rw [World.size_alloc] at h
    exact h
  have hMf : ∀ k, w.heap.size ≤ k → M k = false := fun k hk => by
    rw [Bool.eq_false_iff]; intro e; have := hM k e; omega
  have hK2 : ∀ k, Kor K (w.heap.size + 1) k = true → k < w2.heap.size := Kor_lt (fun k hk => by have := hK k hk; omega) (by omega)
  have hM2 : ∀ k, M k = true → k < w2.heap.size := fun k hk => by have := hM k hk; omega
  have hm2 : MkAt M (Kor K (w.heap.size + 1)) w2 pb S r f e m := hm.new hb2 (by omega)
  have HBX := Lib.hid (And.intro hx0 hx1)
  have HMF := Lib.hid hMf
  have HW2 := Lib.hid (And.intro hb2 hs2)
  have HPA := Lib.hid (parts_any l IH hokT M (Kor K (w.heap.size + 1)) S A c pb r f e m w2 hm2 (fun hne => by
    obtain ⟨b, o, e1, _, hg⟩ := hrows hne
    refine ⟨b, o, e1, fun i hi => ?_⟩
    obtain ⟨cs, h1, h2, h3⟩ := hg i hi
    exact ⟨cs, h1.sub (below_sub _ hb2), h2, fun j x hx => below_sub _ hb2 _ _ (h3 j x hx)⟩) hS hnn hll hM2 hK2)
  have HO := Lib.hid (And.intro ho2 (show (partsP l S).1.sets.length ≤ 1048576 by omega))
  have HK2 := Lib.hid hK2
  obtain ⟨d0, d1, d2, d3, d4, d5, d6, d7⟩ := hx0.eight
  unfold reV reL
  clear hb2 hs2 hx0 hx1 hMf hK2 hM2 hm2 hm hat hS hn hM hK hp1 hrows IH hokT hnn ho1 ho2 ho3 ho4
  generalize partsP l S = PS at *
  go_enter Tryd.func43, Tryd.ntmps43
  go_wp2_with fail
  go_at_call 62
  refine HPA.out.mono ?_
  rintro x u1 ⟨M1, v1, rfl, hnx, hlt1, hmk, hps⟩
  have hkk : ∀ k, MK M1 (Kor K (w.heap.size + 1)) k = true → k < u1.heap.size := fun k hk => by
    unfold MK at hk
    simp only [Bool.or_eq_true] at hk
    rcases hk with hk | hk
    · exact hlt1 k hk
    · exact Nat.lt_of_lt_of_le (HK2.out k hk) hnx.size
  have HEI := Lib.hid (either_any PS.2 v1 u1 (MK M1 (Kor K (w.heap.size + 1))) PS.1.sets.length hkk (hps.sub (fun _ _ h => h) hide_less) HO.out.1 HO.out.2)
  have HN1 := Lib.hid (And.intro hnx (And.intro hlt1 hmk))
  clear hnx hlt1 hmk hps hkk
  go_wp2_with fail
  go_at_call 63
  refine HEI.out.mono ?_
  rintro x u2 ⟨v2, rfl, ⟨p1, p2, rfl, hp1, hp2⟩, hb⟩
  have hb1 := (HBX.out.2.nx HN1.out.1 (HMF.out _ (by omega))).step hb
  have hfin := part_fin hb1 ((Nx.below HW2.out.1).trans (HN1.out.1.trans (Nx.below hb))) (by omega) (HN1.out.1.keeps (by have := HW2.out.2; omega) (HMF.out _ (by omega))) (fun k hk => Nat.lt_of_lt_of_le (HN1.out.2.1 k hk) hb.size) (HN1.out.2.2.step hb) hp1 hp2 (eitherP ⟨[], [], false⟩ PS.2).empty rfl
  obtain ⟨Y1, y1, rfl, _⟩ := hp1.form
  obtain ⟨Y2, y2, rfl, _⟩ := hp2.form
  obtain ⟨k0, k1, k2, l0, l1, l2⟩ := three hb1
  have HFN := Lib.hid hfin
  have hlt := hb1.lt
  clear hfin hb1 hb hp1 hp2 d0 d1 d2 d3 d4 d5 d6 d7
  go_wp2
  obtain ⟨hl, M2, v', hv, h1, h2, h3, h4⟩ := HFN.out
  exact ⟨rfl, _, results_cell1 rfl rfl hl, M2, _, congrArg Ending.returned hv, h1, h2, h3, h4⟩
end
end Go.Proofs.YtgngaaemkmdfaaaDoor
