/-
  WHAT hackleref07's Norm ANSWERS of a leaf, and of a ReRep: the plain tree.
-/
import Derived.Test.YtkladjjeacjgpaaDoorQG12
import Derived.Test.YtkladjjeacjgpaaDoorQTplain
import Derived.Test.YtkladjjeacjgpaaDoorQTnorm
namespace Go.Proofs.YtkladjjeacjgpaaDoor
open Go.RowKit

theorem lit4 {g c : Nat} {lo hi : Int} : [Value.int .i64 4, .int .u64 0, .int .u64 0, .int .u64 0, .int .u64 0, .slice (some ⟨g, 0, none⟩) 1 c, .int .i64 lo, .int .i64 hi] = reL 4 (fun _ => false) (some ⟨g, 0, none⟩) 1 c lo hi := by
  unfold reL
  simp only [wd_zero]; rfl

set_option maxRecDepth 20000 in
set_option maxHeartbeats 16000000 in
theorem refNorm_rep (m : Nat → Bool) (l : List Tree) (lo hi : Int) (hl : l.length = 1) (IH0 : ∀ t ∈ l, NormIs t) : NormIs (.node 4 m l lo hi) := by
  intro H v w hH hat
  obtain ⟨A, c, rfl, hc, hs⟩ := hat.open
  have hsrc : SrcAt w H l A := fun hne => by
    obtain ⟨b, o, e, _, hg⟩ := hs hne
    exact ⟨b, o, e, fun i hi => by
      obtain ⟨cs, h1, h2, h3⟩ := hg i hi
      exact ⟨cs, h1, h2, fun j u hu => (hide_cell (h3 j u hu)).2⟩⟩
  have HS := Lib.hid hsrc
  have H0 := Lib.hid (NormS.start w H (reL 4 m A l.length c lo hi))
  have HH := Lib.hid hH
  have IH := Lib.hid IH0
  obtain ⟨R, hR⟩ : ∃ R, R = Tree.plain (.node 4 m l lo hi) := ⟨_, rfl⟩
  rw [← hR]
  unfold Tree.plain plainNode at hR
  have HR := Lib.hid hR
  have HL := Lib.hid hl
  have HLB := Lib.hid (show l.length ≤ 1073741824 from by omega)
  unfold NormIs at IH
  clear hat hs hH IH0 hsrc hR hl
  unfold reV reL at *
  go_enter Tryd.func11, Tryd.ntmps11
  go_wp2
  go_loopw [3, 4] (fun o i wr => ∃ (j : Nat) (xs : List Value), i = .int .i64 j ∧ j ≤ l.length ∧ Hid (NormS w H (reL 4 m A l.length c lo hi) o (plainL (l.take j)) xs wr)) (fun _ i _ => l.length - (intOf i).toNat)
  case atStart => exact ⟨0, [], rfl, Nat.zero_le _, Lib.hid (by rw [List.take_zero, show plainL [] = [] by simp [plainL]]; exact H0.out)⟩
  case round =>
    obtain ⟨j, xs, rfl, hj, HN⟩ := hrel
    have hbl := HN.out.2.2.1
    unfold reL at hbl
    obtain ⟨c0, c1, c2, c3, c4, c5, c6, c7⟩ := hbl.eight
    clear hbl
    by_cases hp : j < l.length
    · have hdl : decide ((j : Int) < (l.length : Int)) = true := by simp; omega
      obtain ⟨b, o', rfl, hg⟩ := HS.out (by intro e; subst e; simp at hp)
      obtain ⟨cs, hcat, hlen, hrow⟩ := hg j hp
      obtain ⟨A', n', c', rfl⟩ := hcat.eight
      obtain ⟨r0, r1, r2, r3, r4, r5, r6, r7⟩ := row_eight hrow HN.out.2.1
      have hcl := HN.out.call HH.out
      have hcx := IH.out _ (List.getElem_mem hp) _ _ wr hcl.1 (hcat.sub hcl.2)
      have hk1 : IntKind.i64.wrap ((j : Int) + 1) = ((j + 1 : Nat) : Int) := by rw [IntKind.wrap_i64]; omega
      have htk := plainL_snoc hp
      have hpl : (plainL (l.take j)).length + 1 ≤ 1099511627776 := by rw [plainL_len, List.length_take]; have := HLB.out; omega
      unfold reV reL at hcx
      clear hcat hg hrow hcl hlen
      generalize (l[j]).plain = U at *
      generalize (l[j]).kind = kx at *
      generalize (l[j]).set = mx at *
      generalize (l[j]).lo = lx at *
      generalize (l[j]).hi = hx at *
      have HC := Lib.hid hcx
      have HT := Lib.hid htk
      have HPL := Lib.hid hpl
      clear hcx htk hpl
      go_wp2_with fail
      go_at_call 11
      refine HC.out.mono ?_
      rintro e w1 ⟨v1, rfl, hat1, hb1⟩
      obtain ⟨A1, n1, c1', rfl⟩ := hat1.form
      obtain ⟨v', W', hrun, hns⟩ := HN.out.push hb1 hat1 HPL.out
      have HNS := Lib.hid hns
      unfold reL at hrun
      clear hns hat1 hb1 c0 c1 c2 c3 c4 c5 c6 c7 r0 r1 r2 r3 r4 r5 r6 r7
      unfold reV reL
      go_wp2_with (refine wpList_append_at' rfl _ _ 25 25 rfl rfl rfl hrun ?_)
      exact ⟨⟨j + 1, _, rfl, hp, Lib.hid (by rw [HT.out]; exact HNS.out)⟩, by simp [intOf]; omega⟩
    · have hdl : decide ((j : Int) < (l.length : Int)) = false := by simp; omega
      obtain rfl : j = l.length := by omega
      have hN := HN.out
      rw [List.take_length] at hN
      clear HN
      obtain ⟨t, rfl⟩ := List.length_eq_one_iff.1 HL.out
      have hr := HR.out
      rw [if_neg (by decide), if_neg (by decide)] at hr
      simp only [plainL, List.headD_cons, if_true] at hr hN
      unfold repPlain starB Tree.isV at hr
      generalize t.plain = U at *
      obtain ⟨g, cc, AU, nU, cU, rfl, hcc1, hcc2, hUat, hUrow⟩ := hN.1.one
      obtain ⟨u0, u1, u2, u3, u4, u5, u6, u7⟩ := row_eight hUrow (Below.refl _ _)
      simp only [Nat.zero_add] at u0 u1 u2 u3 u4 u5 u6 u7
      have hnode := node_lies hN.1 (NH_lt HH.out) 4 (fun _ => false) lo hi
      have hx := sub_box wr U.kind U.set AU nU cU U.lo U.hi
      obtain ⟨W9, hW9⟩ : ∃ W9, wr.alloc (.cells (reL U.kind U.set AU nU cU U.lo U.hi).toArray 27) = W9 := ⟨_, rfl⟩
      rw [hW9] at hx
      have HY := Lib.hid (And.intro (hN.step hx.2) hx)
      have HV := Lib.hid (fun u => refVoid_at U.kind U.set AU nU cU U.lo U.hi u)
      have HU := Lib.hid (And.intro hUat hnode)
      have HFN := Lib.hid hN
      clear hx hUat hUrow hnode hN HL hc HR H0 HS IH
      simp only [reL] at hW9
      unfold reV reL at HV
      generalize U.kind = ku at *
      generalize U.set = mu at *
      generalize U.lo = lu at *
      generalize U.hi = hu at *
      have HR := Lib.hid hr
      clear hr
      have HYs := HY
      obtain ⟨d0, d1, d2, d3, d4, d5, d6, d7⟩ := (show BlkIs W9 w.heap.size 27 #[.int .i64 4, .int .u64 (wd m 0 : Nat), .int .u64 (wd m 1 : Nat), .int .u64 (wd m 2 : Nat), .int .u64 (wd m 3 : Nat), .slice A 1 c, .int .i64 lo, .int .i64 hi] from HY.out.1.2.2.1).eight
      obtain ⟨x0, x1, x2, x3, x4, x5, x6, x7⟩ := (show BlkIs W9 wr.heap.size 27 #[.int .i64 ku, .int .u64 (wd mu 0 : Nat), .int .u64 (wd mu 1 : Nat), .int .u64 (wd mu 2 : Nat), .int .u64 (wd mu 3 : Nat), .slice AU nU cU, .int .i64 lu, .int .i64 hu] from HY.out.2.1).eight
      cases h0 : (hi == 0) with
      | true =>
        have hB3 := HY.out.1.2.2.2
        have hth : World.there _ (w.heap.size + 1) 0 zeroL.toArray.size := hB3.there
        have hal : zeroL.toArray.all (·.oneCell') = true := (by rw [zeroL_is]; exact reL_all)
        have hin : (Tryd.prog.info? 27).map (·.size) = some zeroL.toArray.size := info_re8
        go_wp2_with ((with_reducible refine wpList_store_mid ?_ 27 (.tmp 2) (.tmp 51) ?_ (w.heap.size + 1) 0 zeroL.toArray ?_ ?_ hth hin hal ?_); exact rfl; exact rfl; exact rfl; exact rfl)
        have hl := load_re (k := 0) (m := fun _ => false) (A := none) (n := 0) (c := 0) (lo := 0) (hi := 0) (store_re hB3 rfl)
        rw [← zeroL_is] at hl
        have hR : R = emptyT := by rw [HR.out]; simp [h0]
        exact ⟨rfl, _, results_cell1 rfl rfl hl, ⟨_, rfl, by rw [hR]; exact at_none 0 _, (HFN.out.fin HY.out.2.2 _).2.2⟩⟩
      | false =>
        cases k0 : (ku == 0) with
        | true =>
          have hB3 := HY.out.1.2.2.2
          have hth : World.there _ (w.heap.size + 1) 0 zeroL.toArray.size := hB3.there
          have hal : zeroL.toArray.all (·.oneCell') = true := (by rw [zeroL_is]; exact reL_all)
          have hin : (Tryd.prog.info? 27).map (·.size) = some zeroL.toArray.size := info_re8
          go_wp2_with ((with_reducible refine wpList_store_mid ?_ 27 (.tmp 2) (.tmp 51) ?_ (w.heap.size + 1) 0 zeroL.toArray ?_ ?_ hth hin hal ?_); exact rfl; exact rfl; exact rfl; exact rfl)
          have hl := load_re (k := 0) (m := fun _ => false) (A := none) (n := 0) (c := 0) (lo := 0) (hi := 0) (store_re hB3 rfl)
          rw [← zeroL_is] at hl
          have hR : R = emptyT := by rw [HR.out]; simp [h0, k0]
          exact ⟨rfl, _, results_cell1 rfl rfl hl, ⟨_, rfl, by rw [hR]; exact at_none 0 _, (HFN.out.fin HY.out.2.2 _).2.2⟩⟩
        | false =>
          cases hvd : (voidB ku mu) with
          | true =>
            cases l0 : (lo == 0) with
            | true =>
              go_wp2_with fail
              go_at_call 24
              refine (HV.out _).mono ?_
              rintro e uv ⟨rfl, hbv⟩
              have HY := Lib.hid (And.intro (HY.out.1.step hbv) (And.intro (HY.out.2.1.step hbv) (HY.out.2.2.trans (hbv.mono HY.out.2.2.size))))
              rw [hvd]
              clear hbv d0 d1 d2 d3 d4 d5 d6 d7 x0 x1 x2 x3 x4 x5 x6 x7
              obtain ⟨d0, d1, d2, d3, d4, d5, d6, d7⟩ := (show BlkIs uv w.heap.size 27 #[.int .i64 4, .int .u64 (wd m 0 : Nat), .int .u64 (wd m 1 : Nat), .int .u64 (wd m 2 : Nat), .int .u64 (wd m 3 : Nat), .slice A 1 c, .int .i64 lo, .int .i64 hi] from HY.out.1.2.2.1).eight
              obtain ⟨x0, x1, x2, x3, x4, x5, x6, x7⟩ := (show BlkIs uv wr.heap.size 27 #[.int .i64 ku, .int .u64 (wd mu 0 : Nat), .int .u64 (wd mu 1 : Nat), .int .u64 (wd mu 2 : Nat), .int .u64 (wd mu 3 : Nat), .slice AU nU cU, .int .i64 lu, .int .i64 hu] from HY.out.2.1).eight
              have hB3 := HY.out.1.2.2.2
              have hth : World.there _ (w.heap.size + 1) 0 zeroL.toArray.size := hB3.there
              have hal : zeroL.toArray.all (·.oneCell') = true := (by rw [zeroL_is]; exact reL_all)
              have hin : (Tryd.prog.info? 27).map (·.size) = some zeroL.toArray.size := info_re8
              go_wp2_with ((with_reducible refine wpList_store_mid ?_ 27 (.tmp 2) (.tmp 51) ?_ (w.heap.size + 1) 0 zeroL.toArray ?_ ?_ hth hin hal ?_); exact rfl; exact rfl; exact rfl; exact rfl)
              have hl := load_re (k := 0) (m := fun _ => false) (A := none) (n := 0) (c := 0) (lo := 0) (hi := 0) (store_re hB3 rfl)
              rw [← zeroL_is] at hl
              have hR : R = emptyT := by rw [HR.out]; simp [h0, k0, hvd, l0]
              exact ⟨rfl, _, results_cell1 rfl rfl hl, ⟨_, rfl, by rw [hR]; exact at_none 0 _, (HFN.out.fin HY.out.2.2 _).2.2⟩⟩
            | false =>
              go_wp2_with fail
              go_at_call 24
              refine (HV.out _).mono ?_
              rintro e uv ⟨rfl, hbv⟩
              have HY := Lib.hid (And.intro (HY.out.1.step hbv) (And.intro (HY.out.2.1.step hbv) (HY.out.2.2.trans (hbv.mono HY.out.2.2.size))))
              rw [hvd]
              clear hbv d0 d1 d2 d3 d4 d5 d6 d7 x0 x1 x2 x3 x4 x5 x6 x7
              obtain ⟨d0, d1, d2, d3, d4, d5, d6, d7⟩ := (show BlkIs uv w.heap.size 27 #[.int .i64 4, .int .u64 (wd m 0 : Nat), .int .u64 (wd m 1 : Nat), .int .u64 (wd m 2 : Nat), .int .u64 (wd m 3 : Nat), .slice A 1 c, .int .i64 lo, .int .i64 hi] from HY.out.1.2.2.1).eight
              obtain ⟨x0, x1, x2, x3, x4, x5, x6, x7⟩ := (show BlkIs uv wr.heap.size 27 #[.int .i64 ku, .int .u64 (wd mu 0 : Nat), .int .u64 (wd mu 1 : Nat), .int .u64 (wd mu 2 : Nat), .int .u64 (wd mu 3 : Nat), .slice AU nU cU, .int .i64 lu, .int .i64 hu] from HY.out.2.1).eight
              go_wp2_with fail
              go_at_call 24
              refine (HV.out _).mono ?_
              rintro e uv ⟨rfl, hbv⟩
              have HY := Lib.hid (And.intro (HY.out.1.step hbv) (And.intro (HY.out.2.1.step hbv) (HY.out.2.2.trans (hbv.mono HY.out.2.2.size))))
              rw [hvd]
              clear hbv d0 d1 d2 d3 d4 d5 d6 d7 x0 x1 x2 x3 x4 x5 x6 x7
              obtain ⟨d0, d1, d2, d3, d4, d5, d6, d7⟩ := (show BlkIs uv w.heap.size 27 #[.int .i64 4, .int .u64 (wd m 0 : Nat), .int .u64 (wd m 1 : Nat), .int .u64 (wd m 2 : Nat), .int .u64 (wd m 3 : Nat), .slice A 1 c, .int .i64 lo, .int .i64 hi] from HY.out.1.2.2.1).eight
              obtain ⟨x0, x1, x2, x3, x4, x5, x6, x7⟩ := (show BlkIs uv wr.heap.size 27 #[.int .i64 ku, .int .u64 (wd mu 0 : Nat), .int .u64 (wd mu 1 : Nat), .int .u64 (wd mu 2 : Nat), .int .u64 (wd mu 3 : Nat), .slice AU nU cU, .int .i64 lu, .int .i64 hu] from HY.out.2.1).eight
              have hB3 := HY.out.1.2.2.2
              have hth : World.there _ (w.heap.size + 1) 0 (reL ku mu AU nU cU lu hu).toArray.size := hB3.there
              have hal : (reL ku mu AU nU cU lu hu).toArray.all (·.oneCell') = true := reL_all
              have hin : (Tryd.prog.info? 27).map (·.size) = some (reL ku mu AU nU cU lu hu).toArray.size := info_re8
              go_wp2_with ((with_reducible refine wpList_store_mid ?_ 27 (.tmp 2) (.tmp 64) ?_ (w.heap.size + 1) 0 (reL ku mu AU nU cU lu hu).toArray ?_ ?_ hth hin hal ?_); exact rfl; exact rfl; exact rfl; exact rfl)
              have hl := load_re (store_re (k := ku) (m := mu) (A := AU) (n := nU) (c := cU) (lo := lu) (hi := hu) hB3 rfl)
              have hR : R = U := by rw [HR.out]; simp [h0, k0, hvd, l0]
              exact ⟨rfl, _, results_cell1 rfl rfl hl, ⟨_, rfl, by rw [hR]; exact HU.out.1.sub (HFN.out.fin HY.out.2.2 _).1, (HFN.out.fin HY.out.2.2 _).2.2⟩⟩
          | false =>
            cases l1 : (lo == 1) with
            | true =>
              cases h1 : (hi == 1) with
              | true =>
                go_wp2_with fail
                go_at_call 24
                refine (HV.out _).mono ?_
                rintro e uv ⟨rfl, hbv⟩
                have HY := Lib.hid (And.intro (HY.out.1.step hbv) (And.intro (HY.out.2.1.step hbv) (HY.out.2.2.trans (hbv.mono HY.out.2.2.size))))
                rw [hvd]
                clear hbv d0 d1 d2 d3 d4 d5 d6 d7 x0 x1 x2 x3 x4 x5 x6 x7
                obtain ⟨d0, d1, d2, d3, d4, d5, d6, d7⟩ := (show BlkIs uv w.heap.size 27 #[.int .i64 4, .int .u64 (wd m 0 : Nat), .int .u64 (wd m 1 : Nat), .int .u64 (wd m 2 : Nat), .int .u64 (wd m 3 : Nat), .slice A 1 c, .int .i64 lo, .int .i64 hi] from HY.out.1.2.2.1).eight
                obtain ⟨x0, x1, x2, x3, x4, x5, x6, x7⟩ := (show BlkIs uv wr.heap.size 27 #[.int .i64 ku, .int .u64 (wd mu 0 : Nat), .int .u64 (wd mu 1 : Nat), .int .u64 (wd mu 2 : Nat), .int .u64 (wd mu 3 : Nat), .slice AU nU cU, .int .i64 lu, .int .i64 hu] from HY.out.2.1).eight
                go_wp2_with fail
                go_at_call 24
                refine (HV.out _).mono ?_
                rintro e uv ⟨rfl, hbv⟩
                have HY := Lib.hid (And.intro (HY.out.1.step hbv) (And.intro (HY.out.2.1.step hbv) (HY.out.2.2.trans (hbv.mono HY.out.2.2.size))))
                rw [hvd]
                clear hbv d0 d1 d2 d3 d4 d5 d6 d7 x0 x1 x2 x3 x4 x5 x6 x7
                obtain ⟨d0, d1, d2, d3, d4, d5, d6, d7⟩ := (show BlkIs uv w.heap.size 27 #[.int .i64 4, .int .u64 (wd m 0 : Nat), .int .u64 (wd m 1 : Nat), .int .u64 (wd m 2 : Nat), .int .u64 (wd m 3 : Nat), .slice A 1 c, .int .i64 lo, .int .i64 hi] from HY.out.1.2.2.1).eight
                obtain ⟨x0, x1, x2, x3, x4, x5, x6, x7⟩ := (show BlkIs uv wr.heap.size 27 #[.int .i64 ku, .int .u64 (wd mu 0 : Nat), .int .u64 (wd mu 1 : Nat), .int .u64 (wd mu 2 : Nat), .int .u64 (wd mu 3 : Nat), .slice AU nU cU, .int .i64 lu, .int .i64 hu] from HY.out.2.1).eight
                have hB3 := HY.out.1.2.2.2
                have hth : World.there _ (w.heap.size + 1) 0 (reL ku mu AU nU cU lu hu).toArray.size := hB3.there
                have hal : (reL ku mu AU nU cU lu hu).toArray.all (·.oneCell') = true := reL_all
                have hin : (Tryd.prog.info? 27).map (·.size) = some (reL ku mu AU nU cU lu hu).toArray.size := info_re8
                go_wp2_with ((with_reducible refine wpList_store_mid ?_ 27 (.tmp 2) (.tmp 64) ?_ (w.heap.size + 1) 0 (reL ku mu AU nU cU lu hu).toArray ?_ ?_ hth hin hal ?_); exact rfl; exact rfl; exact rfl; exact rfl)
                have hl := load_re (store_re (k := ku) (m := mu) (A := AU) (n := nU) (c := cU) (lo := lu) (hi := hu) hB3 rfl)
                have hR : R = U := by rw [HR.out]; simp [h0, k0, hvd, l1, h1]
                exact ⟨rfl, _, results_cell1 rfl rfl hl, ⟨_, rfl, by rw [hR]; exact HU.out.1.sub (HFN.out.fin HY.out.2.2 _).1, (HFN.out.fin HY.out.2.2 _).2.2⟩⟩
              | false =>
                have l0 : (lo == 0) = false := by simp at l1 ⊢; omega
                go_wp2_with fail
                go_at_call 24
                refine (HV.out _).mono ?_
                rintro e uv ⟨rfl, hbv⟩
                have HY := Lib.hid (And.intro (HY.out.1.step hbv) (And.intro (HY.out.2.1.step hbv) (HY.out.2.2.trans (hbv.mono HY.out.2.2.size))))
                rw [hvd]
                clear hbv d0 d1 d2 d3 d4 d5 d6 d7 x0 x1 x2 x3 x4 x5 x6 x7
                obtain ⟨d0, d1, d2, d3, d4, d5, d6, d7⟩ := (show BlkIs uv w.heap.size 27 #[.int .i64 4, .int .u64 (wd m 0 : Nat), .int .u64 (wd m 1 : Nat), .int .u64 (wd m 2 : Nat), .int .u64 (wd m 3 : Nat), .slice A 1 c, .int .i64 lo, .int .i64 hi] from HY.out.1.2.2.1).eight
                obtain ⟨x0, x1, x2, x3, x4, x5, x6, x7⟩ := (show BlkIs uv wr.heap.size 27 #[.int .i64 ku, .int .u64 (wd mu 0 : Nat), .int .u64 (wd mu 1 : Nat), .int .u64 (wd mu 2 : Nat), .int .u64 (wd mu 3 : Nat), .slice AU nU cU, .int .i64 lu, .int .i64 hu] from HY.out.2.1).eight
                go_wp2_with fail
                go_at_call 24
                refine (HV.out _).mono ?_
                rintro e uv ⟨rfl, hbv⟩
                have HY := Lib.hid (And.intro (HY.out.1.step hbv) (And.intro (HY.out.2.1.step hbv) (HY.out.2.2.trans (hbv.mono HY.out.2.2.size))))
                rw [hvd]
                clear hbv d0 d1 d2 d3 d4 d5 d6 d7 x0 x1 x2 x3 x4 x5 x6 x7
                obtain ⟨d0, d1, d2, d3, d4, d5, d6, d7⟩ := (show BlkIs uv w.heap.size 27 #[.int .i64 4, .int .u64 (wd m 0 : Nat), .int .u64 (wd m 1 : Nat), .int .u64 (wd m 2 : Nat), .int .u64 (wd m 3 : Nat), .slice A 1 c, .int .i64 lo, .int .i64 hi] from HY.out.1.2.2.1).eight
                obtain ⟨x0, x1, x2, x3, x4, x5, x6, x7⟩ := (show BlkIs uv wr.heap.size 27 #[.int .i64 ku, .int .u64 (wd mu 0 : Nat), .int .u64 (wd mu 1 : Nat), .int .u64 (wd mu 2 : Nat), .int .u64 (wd mu 3 : Nat), .slice AU nU cU, .int .i64 lu, .int .i64 hu] from HY.out.2.1).eight
                have hB3 := HY.out.1.2.2.2
                have hth : World.there _ (w.heap.size + 1) 0 [Value.int .i64 4, .int .u64 0, .int .u64 0, .int .u64 0, .int .u64 0, .slice (some ⟨g, 0, none⟩) 1 cc, .int .i64 lo, .int .i64 hi].toArray.size := hB3.there
                have hal : [Value.int .i64 4, .int .u64 0, .int .u64 0, .int .u64 0, .int .u64 0, .slice (some ⟨g, 0, none⟩) 1 cc, .int .i64 lo, .int .i64 hi].toArray.all (·.oneCell') = true := (by rw [lit4]; exact reL_all)
                have hin : (Tryd.prog.info? 27).map (·.size) = some [Value.int .i64 4, .int .u64 0, .int .u64 0, .int .u64 0, .int .u64 0, .slice (some ⟨g, 0, none⟩) 1 cc, .int .i64 lo, .int .i64 hi].toArray.size := info_re8
                go_wp2_with ((with_reducible refine wpList_store_mid ?_ 27 (.tmp 2) (.tmp 94) ?_ (w.heap.size + 1) 0 [Value.int .i64 4, .int .u64 0, .int .u64 0, .int .u64 0, .int .u64 0, .slice (some ⟨g, 0, none⟩) 1 cc, .int .i64 lo, .int .i64 hi].toArray ?_ ?_ hth hin hal ?_); exact rfl; exact rfl; exact rfl; exact rfl)
                have hl := load_re (store_re (k := 4) (m := fun _ => false) (A := some ⟨g, 0, none⟩) (n := 1) (c := cc) (lo := lo) (hi := hi) hB3 rfl)
                rw [← lit4] at hl
                have hR : R = .node 4 (fun _ => false) [U] lo hi := by rw [HR.out]; simp [h0, k0, hvd, l1, h1, l0]
                refine ⟨rfl, _, results_cell1 rfl rfl hl, ⟨_, rfl, ?_, (HFN.out.fin HY.out.2.2 _).2.2⟩⟩
                obtain ⟨A8, c8, e8, h8⟩ := HU.out.2
                simp only [List.length_singleton, Value.slice.injEq] at e8
                obtain ⟨rfl, _, rfl⟩ := e8
                rw [hR]
                exact h8.sub (HFN.out.fin HY.out.2.2 _).2.1
            | false =>
              cases l0 : (lo == 0) with
              | true =>
                cases hm : (hi == -1) with
                | true =>
                  cases k4 : (ku == 4) with
                  | true =>
                    cases ul0 : (lu == 0) with
                    | true =>
                      cases uhm : (hu == -1) with
                      | true =>
                        go_wp2_with fail
                        go_at_call 24
                        refine (HV.out _).mono ?_
                        rintro e uv ⟨rfl, hbv⟩
                        have HY := Lib.hid (And.intro (HY.out.1.step hbv) (And.intro (HY.out.2.1.step hbv) (HY.out.2.2.trans (hbv.mono HY.out.2.2.size))))
                        rw [hvd]
                        clear hbv d0 d1 d2 d3 d4 d5 d6 d7 x0 x1 x2 x3 x4 x5 x6 x7
                        obtain ⟨d0, d1, d2, d3, d4, d5, d6, d7⟩ := (show BlkIs uv w.heap.size 27 #[.int .i64 4, .int .u64 (wd m 0 : Nat), .int .u64 (wd m 1 : Nat), .int .u64 (wd m 2 : Nat), .int .u64 (wd m 3 : Nat), .slice A 1 c, .int .i64 lo, .int .i64 hi] from HY.out.1.2.2.1).eight
                        obtain ⟨x0, x1, x2, x3, x4, x5, x6, x7⟩ := (show BlkIs uv wr.heap.size 27 #[.int .i64 ku, .int .u64 (wd mu 0 : Nat), .int .u64 (wd mu 1 : Nat), .int .u64 (wd mu 2 : Nat), .int .u64 (wd mu 3 : Nat), .slice AU nU cU, .int .i64 lu, .int .i64 hu] from HY.out.2.1).eight
                        go_wp2_with fail
                        go_at_call 24
                        refine (HV.out _).mono ?_
                        rintro e uv ⟨rfl, hbv⟩
                        have HY := Lib.hid (And.intro (HY.out.1.step hbv) (And.intro (HY.out.2.1.step hbv) (HY.out.2.2.trans (hbv.mono HY.out.2.2.size))))
                        rw [hvd]
                        clear hbv d0 d1 d2 d3 d4 d5 d6 d7 x0 x1 x2 x3 x4 x5 x6 x7
                        obtain ⟨d0, d1, d2, d3, d4, d5, d6, d7⟩ := (show BlkIs uv w.heap.size 27 #[.int .i64 4, .int .u64 (wd m 0 : Nat), .int .u64 (wd m 1 : Nat), .int .u64 (wd m 2 : Nat), .int .u64 (wd m 3 : Nat), .slice A 1 c, .int .i64 lo, .int .i64 hi] from HY.out.1.2.2.1).eight
                        obtain ⟨x0, x1, x2, x3, x4, x5, x6, x7⟩ := (show BlkIs uv wr.heap.size 27 #[.int .i64 ku, .int .u64 (wd mu 0 : Nat), .int .u64 (wd mu 1 : Nat), .int .u64 (wd mu 2 : Nat), .int .u64 (wd mu 3 : Nat), .slice AU nU cU, .int .i64 lu, .int .i64 hu] from HY.out.2.1).eight
                        have hB3 := HY.out.1.2.2.2
                        have hth : World.there _ (w.heap.size + 1) 0 (reL ku mu AU nU cU lu hu).toArray.size := hB3.there
                        have hal : (reL ku mu AU nU cU lu hu).toArray.all (·.oneCell') = true := reL_all
                        have hin : (Tryd.prog.info? 27).map (·.size) = some (reL ku mu AU nU cU lu hu).toArray.size := info_re8
                        go_wp2_with ((with_reducible refine wpList_store_mid ?_ 27 (.tmp 2) (.tmp 88) ?_ (w.heap.size + 1) 0 (reL ku mu AU nU cU lu hu).toArray ?_ ?_ hth hin hal ?_); exact rfl; exact rfl; exact rfl; exact rfl)
                        have hl := load_re (store_re (k := ku) (m := mu) (A := AU) (n := nU) (c := cU) (lo := lu) (hi := hu) hB3 rfl)
                        have hR : R = U := by rw [HR.out]; simp [h0, k0, hvd, l1, l0, hm, k4, ul0, uhm]
                        exact ⟨rfl, _, results_cell1 rfl rfl hl, ⟨_, rfl, by rw [hR]; exact HU.out.1.sub (HFN.out.fin HY.out.2.2 _).1, (HFN.out.fin HY.out.2.2 _).2.2⟩⟩
                      | false =>
                        go_wp2_with fail
                        go_at_call 24
                        refine (HV.out _).mono ?_
                        rintro e uv ⟨rfl, hbv⟩
                        have HY := Lib.hid (And.intro (HY.out.1.step hbv) (And.intro (HY.out.2.1.step hbv) (HY.out.2.2.trans (hbv.mono HY.out.2.2.size))))
                        rw [hvd]
                        clear hbv d0 d1 d2 d3 d4 d5 d6 d7 x0 x1 x2 x3 x4 x5 x6 x7
                        obtain ⟨d0, d1, d2, d3, d4, d5, d6, d7⟩ := (show BlkIs uv w.heap.size 27 #[.int .i64 4, .int .u64 (wd m 0 : Nat), .int .u64 (wd m 1 : Nat), .int .u64 (wd m 2 : Nat), .int .u64 (wd m 3 : Nat), .slice A 1 c, .int .i64 lo, .int .i64 hi] from HY.out.1.2.2.1).eight
                        obtain ⟨x0, x1, x2, x3, x4, x5, x6, x7⟩ := (show BlkIs uv wr.heap.size 27 #[.int .i64 ku, .int .u64 (wd mu 0 : Nat), .int .u64 (wd mu 1 : Nat), .int .u64 (wd mu 2 : Nat), .int .u64 (wd mu 3 : Nat), .slice AU nU cU, .int .i64 lu, .int .i64 hu] from HY.out.2.1).eight
                        go_wp2_with fail
                        go_at_call 24
                        refine (HV.out _).mono ?_
                        rintro e uv ⟨rfl, hbv⟩
                        have HY := Lib.hid (And.intro (HY.out.1.step hbv) (And.intro (HY.out.2.1.step hbv) (HY.out.2.2.trans (hbv.mono HY.out.2.2.size))))
                        rw [hvd]
                        clear hbv d0 d1 d2 d3 d4 d5 d6 d7 x0 x1 x2 x3 x4 x5 x6 x7
                        obtain ⟨d0, d1, d2, d3, d4, d5, d6, d7⟩ := (show BlkIs uv w.heap.size 27 #[.int .i64 4, .int .u64 (wd m 0 : Nat), .int .u64 (wd m 1 : Nat), .int .u64 (wd m 2 : Nat), .int .u64 (wd m 3 : Nat), .slice A 1 c, .int .i64 lo, .int .i64 hi] from HY.out.1.2.2.1).eight
                        obtain ⟨x0, x1, x2, x3, x4, x5, x6, x7⟩ := (show BlkIs uv wr.heap.size 27 #[.int .i64 ku, .int .u64 (wd mu 0 : Nat), .int .u64 (wd mu 1 : Nat), .int .u64 (wd mu 2 : Nat), .int .u64 (wd mu 3 : Nat), .slice AU nU cU, .int .i64 lu, .int .i64 hu] from HY.out.2.1).eight
                        have hB3 := HY.out.1.2.2.2
                        have hth : World.there _ (w.heap.size + 1) 0 [Value.int .i64 4, .int .u64 0, .int .u64 0, .int .u64 0, .int .u64 0, .slice (some ⟨g, 0, none⟩) 1 cc, .int .i64 lo, .int .i64 hi].toArray.size := hB3.there
                        have hal : [Value.int .i64 4, .int .u64 0, .int .u64 0, .int .u64 0, .int .u64 0, .slice (some ⟨g, 0, none⟩) 1 cc, .int .i64 lo, .int .i64 hi].toArray.all (·.oneCell') = true := (by rw [lit4]; exact reL_all)
                        have hin : (Tryd.prog.info? 27).map (·.size) = some [Value.int .i64 4, .int .u64 0, .int .u64 0, .int .u64 0, .int .u64 0, .slice (some ⟨g, 0, none⟩) 1 cc, .int .i64 lo, .int .i64 hi].toArray.size := info_re8
                        go_wp2_with ((with_reducible refine wpList_store_mid ?_ 27 (.tmp 2) (.tmp 94) ?_ (w.heap.size + 1) 0 [Value.int .i64 4, .int .u64 0, .int .u64 0, .int .u64 0, .int .u64 0, .slice (some ⟨g, 0, none⟩) 1 cc, .int .i64 lo, .int .i64 hi].toArray ?_ ?_ hth hin hal ?_); exact rfl; exact rfl; exact rfl; exact rfl)
                        have hl := load_re (store_re (k := 4) (m := fun _ => false) (A := some ⟨g, 0, none⟩) (n := 1) (c := cc) (lo := lo) (hi := hi) hB3 rfl)
                        rw [← lit4] at hl
                        have hR : R = .node 4 (fun _ => false) [U] lo hi := by rw [HR.out]; simp [h0, k0, hvd, l1, l0, hm, k4, ul0, uhm]
                        refine ⟨rfl, _, results_cell1 rfl rfl hl, ⟨_, rfl, ?_, (HFN.out.fin HY.out.2.2 _).2.2⟩⟩
                        obtain ⟨A8, c8, e8, h8⟩ := HU.out.2
                        simp only [List.length_singleton, Value.slice.injEq] at e8
                        obtain ⟨rfl, _, rfl⟩ := e8
                        rw [hR]
                        exact h8.sub (HFN.out.fin HY.out.2.2 _).2.1
                    | false =>
                      go_wp2_with fail
                      go_at_call 24
                      refine (HV.out _).mono ?_
                      rintro e uv ⟨rfl, hbv⟩
                      have HY := Lib.hid (And.intro (HY.out.1.step hbv) (And.intro (HY.out.2.1.step hbv) (HY.out.2.2.trans (hbv.mono HY.out.2.2.size))))
                      rw [hvd]
                      clear hbv d0 d1 d2 d3 d4 d5 d6 d7 x0 x1 x2 x3 x4 x5 x6 x7
                      obtain ⟨d0, d1, d2, d3, d4, d5, d6, d7⟩ := (show BlkIs uv w.heap.size 27 #[.int .i64 4, .int .u64 (wd m 0 : Nat), .int .u64 (wd m 1 : Nat), .int .u64 (wd m 2 : Nat), .int .u64 (wd m 3 : Nat), .slice A 1 c, .int .i64 lo, .int .i64 hi] from HY.out.1.2.2.1).eight
                      obtain ⟨x0, x1, x2, x3, x4, x5, x6, x7⟩ := (show BlkIs uv wr.heap.size 27 #[.int .i64 ku, .int .u64 (wd mu 0 : Nat), .int .u64 (wd mu 1 : Nat), .int .u64 (wd mu 2 : Nat), .int .u64 (wd mu 3 : Nat), .slice AU nU cU, .int .i64 lu, .int .i64 hu] from HY.out.2.1).eight
                      go_wp2_with fail
                      go_at_call 24
                      refine (HV.out _).mono ?_
                      rintro e uv ⟨rfl, hbv⟩
                      have HY := Lib.hid (And.intro (HY.out.1.step hbv) (And.intro (HY.out.2.1.step hbv) (HY.out.2.2.trans (hbv.mono HY.out.2.2.size))))
                      rw [hvd]
                      clear hbv d0 d1 d2 d3 d4 d5 d6 d7 x0 x1 x2 x3 x4 x5 x6 x7
                      obtain ⟨d0, d1, d2, d3, d4, d5, d6, d7⟩ := (show BlkIs uv w.heap.size 27 #[.int .i64 4, .int .u64 (wd m 0 : Nat), .int .u64 (wd m 1 : Nat), .int .u64 (wd m 2 : Nat), .int .u64 (wd m 3 : Nat), .slice A 1 c, .int .i64 lo, .int .i64 hi] from HY.out.1.2.2.1).eight
                      obtain ⟨x0, x1, x2, x3, x4, x5, x6, x7⟩ := (show BlkIs uv wr.heap.size 27 #[.int .i64 ku, .int .u64 (wd mu 0 : Nat), .int .u64 (wd mu 1 : Nat), .int .u64 (wd mu 2 : Nat), .int .u64 (wd mu 3 : Nat), .slice AU nU cU, .int .i64 lu, .int .i64 hu] from HY.out.2.1).eight
                      have hB3 := HY.out.1.2.2.2
                      have hth : World.there _ (w.heap.size + 1) 0 [Value.int .i64 4, .int .u64 0, .int .u64 0, .int .u64 0, .int .u64 0, .slice (some ⟨g, 0, none⟩) 1 cc, .int .i64 lo, .int .i64 hi].toArray.size := hB3.there
                      have hal : [Value.int .i64 4, .int .u64 0, .int .u64 0, .int .u64 0, .int .u64 0, .slice (some ⟨g, 0, none⟩) 1 cc, .int .i64 lo, .int .i64 hi].toArray.all (·.oneCell') = true := (by rw [lit4]; exact reL_all)
                      have hin : (Tryd.prog.info? 27).map (·.size) = some [Value.int .i64 4, .int .u64 0, .int .u64 0, .int .u64 0, .int .u64 0, .slice (some ⟨g, 0, none⟩) 1 cc, .int .i64 lo, .int .i64 hi].toArray.size := info_re8
                      go_wp2_with ((with_reducible refine wpList_store_mid ?_ 27 (.tmp 2) (.tmp 94) ?_ (w.heap.size + 1) 0 [Value.int .i64 4, .int .u64 0, .int .u64 0, .int .u64 0, .int .u64 0, .slice (some ⟨g, 0, none⟩) 1 cc, .int .i64 lo, .int .i64 hi].toArray ?_ ?_ hth hin hal ?_); exact rfl; exact rfl; exact rfl; exact rfl)
                      have hl := load_re (store_re (k := 4) (m := fun _ => false) (A := some ⟨g, 0, none⟩) (n := 1) (c := cc) (lo := lo) (hi := hi) hB3 rfl)
                      rw [← lit4] at hl
                      have hR : R = .node 4 (fun _ => false) [U] lo hi := by rw [HR.out]; simp [h0, k0, hvd, l1, l0, hm, k4, ul0]
                      refine ⟨rfl, _, results_cell1 rfl rfl hl, ⟨_, rfl, ?_, (HFN.out.fin HY.out.2.2 _).2.2⟩⟩
                      obtain ⟨A8, c8, e8, h8⟩ := HU.out.2
                      simp only [List.length_singleton, Value.slice.injEq] at e8
                      obtain ⟨rfl, _, rfl⟩ := e8
                      rw [hR]
                      exact h8.sub (HFN.out.fin HY.out.2.2 _).2.1
                  | false =>
                    go_wp2_with fail
                    go_at_call 24
                    refine (HV.out _).mono ?_
                    rintro e uv ⟨rfl, hbv⟩
                    have HY := Lib.hid (And.intro (HY.out.1.step hbv) (And.intro (HY.out.2.1.step hbv) (HY.out.2.2.trans (hbv.mono HY.out.2.2.size))))
                    rw [hvd]
                    clear hbv d0 d1 d2 d3 d4 d5 d6 d7 x0 x1 x2 x3 x4 x5 x6 x7
                    obtain ⟨d0, d1, d2, d3, d4, d5, d6, d7⟩ := (show BlkIs uv w.heap.size 27 #[.int .i64 4, .int .u64 (wd m 0 : Nat), .int .u64 (wd m 1 : Nat), .int .u64 (wd m 2 : Nat), .int .u64 (wd m 3 : Nat), .slice A 1 c, .int .i64 lo, .int .i64 hi] from HY.out.1.2.2.1).eight
                    obtain ⟨x0, x1, x2, x3, x4, x5, x6, x7⟩ := (show BlkIs uv wr.heap.size 27 #[.int .i64 ku, .int .u64 (wd mu 0 : Nat), .int .u64 (wd mu 1 : Nat), .int .u64 (wd mu 2 : Nat), .int .u64 (wd mu 3 : Nat), .slice AU nU cU, .int .i64 lu, .int .i64 hu] from HY.out.2.1).eight
                    go_wp2_with fail
                    go_at_call 24
                    refine (HV.out _).mono ?_
                    rintro e uv ⟨rfl, hbv⟩
                    have HY := Lib.hid (And.intro (HY.out.1.step hbv) (And.intro (HY.out.2.1.step hbv) (HY.out.2.2.trans (hbv.mono HY.out.2.2.size))))
                    rw [hvd]
                    clear hbv d0 d1 d2 d3 d4 d5 d6 d7 x0 x1 x2 x3 x4 x5 x6 x7
                    obtain ⟨d0, d1, d2, d3, d4, d5, d6, d7⟩ := (show BlkIs uv w.heap.size 27 #[.int .i64 4, .int .u64 (wd m 0 : Nat), .int .u64 (wd m 1 : Nat), .int .u64 (wd m 2 : Nat), .int .u64 (wd m 3 : Nat), .slice A 1 c, .int .i64 lo, .int .i64 hi] from HY.out.1.2.2.1).eight
                    obtain ⟨x0, x1, x2, x3, x4, x5, x6, x7⟩ := (show BlkIs uv wr.heap.size 27 #[.int .i64 ku, .int .u64 (wd mu 0 : Nat), .int .u64 (wd mu 1 : Nat), .int .u64 (wd mu 2 : Nat), .int .u64 (wd mu 3 : Nat), .slice AU nU cU, .int .i64 lu, .int .i64 hu] from HY.out.2.1).eight
                    have hB3 := HY.out.1.2.2.2
                    have hth : World.there _ (w.heap.size + 1) 0 [Value.int .i64 4, .int .u64 0, .int .u64 0, .int .u64 0, .int .u64 0, .slice (some ⟨g, 0, none⟩) 1 cc, .int .i64 lo, .int .i64 hi].toArray.size := hB3.there
                    have hal : [Value.int .i64 4, .int .u64 0, .int .u64 0, .int .u64 0, .int .u64 0, .slice (some ⟨g, 0, none⟩) 1 cc, .int .i64 lo, .int .i64 hi].toArray.all (·.oneCell') = true := (by rw [lit4]; exact reL_all)
                    have hin : (Tryd.prog.info? 27).map (·.size) = some [Value.int .i64 4, .int .u64 0, .int .u64 0, .int .u64 0, .int .u64 0, .slice (some ⟨g, 0, none⟩) 1 cc, .int .i64 lo, .int .i64 hi].toArray.size := info_re8
                    go_wp2_with ((with_reducible refine wpList_store_mid ?_ 27 (.tmp 2) (.tmp 94) ?_ (w.heap.size + 1) 0 [Value.int .i64 4, .int .u64 0, .int .u64 0, .int .u64 0, .int .u64 0, .slice (some ⟨g, 0, none⟩) 1 cc, .int .i64 lo, .int .i64 hi].toArray ?_ ?_ hth hin hal ?_); exact rfl; exact rfl; exact rfl; exact rfl)
                    have hl := load_re (store_re (k := 4) (m := fun _ => false) (A := some ⟨g, 0, none⟩) (n := 1) (c := cc) (lo := lo) (hi := hi) hB3 rfl)
                    rw [← lit4] at hl
                    have hR : R = .node 4 (fun _ => false) [U] lo hi := by rw [HR.out]; simp [h0, k0, hvd, l1, l0, hm, k4]
                    refine ⟨rfl, _, results_cell1 rfl rfl hl, ⟨_, rfl, ?_, (HFN.out.fin HY.out.2.2 _).2.2⟩⟩
                    obtain ⟨A8, c8, e8, h8⟩ := HU.out.2
                    simp only [List.length_singleton, Value.slice.injEq] at e8
                    obtain ⟨rfl, _, rfl⟩ := e8
                    rw [hR]
                    exact h8.sub (HFN.out.fin HY.out.2.2 _).2.1
                | false =>
                  go_wp2_with fail
                  go_at_call 24
                  refine (HV.out _).mono ?_
                  rintro e uv ⟨rfl, hbv⟩
                  have HY := Lib.hid (And.intro (HY.out.1.step hbv) (And.intro (HY.out.2.1.step hbv) (HY.out.2.2.trans (hbv.mono HY.out.2.2.size))))
                  rw [hvd]
                  clear hbv d0 d1 d2 d3 d4 d5 d6 d7 x0 x1 x2 x3 x4 x5 x6 x7
                  obtain ⟨d0, d1, d2, d3, d4, d5, d6, d7⟩ := (show BlkIs uv w.heap.size 27 #[.int .i64 4, .int .u64 (wd m 0 : Nat), .int .u64 (wd m 1 : Nat), .int .u64 (wd m 2 : Nat), .int .u64 (wd m 3 : Nat), .slice A 1 c, .int .i64 lo, .int .i64 hi] from HY.out.1.2.2.1).eight
                  obtain ⟨x0, x1, x2, x3, x4, x5, x6, x7⟩ := (show BlkIs uv wr.heap.size 27 #[.int .i64 ku, .int .u64 (wd mu 0 : Nat), .int .u64 (wd mu 1 : Nat), .int .u64 (wd mu 2 : Nat), .int .u64 (wd mu 3 : Nat), .slice AU nU cU, .int .i64 lu, .int .i64 hu] from HY.out.2.1).eight
                  go_wp2_with fail
                  go_at_call 24
                  refine (HV.out _).mono ?_
                  rintro e uv ⟨rfl, hbv⟩
                  have HY := Lib.hid (And.intro (HY.out.1.step hbv) (And.intro (HY.out.2.1.step hbv) (HY.out.2.2.trans (hbv.mono HY.out.2.2.size))))
                  rw [hvd]
                  clear hbv d0 d1 d2 d3 d4 d5 d6 d7 x0 x1 x2 x3 x4 x5 x6 x7
                  obtain ⟨d0, d1, d2, d3, d4, d5, d6, d7⟩ := (show BlkIs uv w.heap.size 27 #[.int .i64 4, .int .u64 (wd m 0 : Nat), .int .u64 (wd m 1 : Nat), .int .u64 (wd m 2 : Nat), .int .u64 (wd m 3 : Nat), .slice A 1 c, .int .i64 lo, .int .i64 hi] from HY.out.1.2.2.1).eight
                  obtain ⟨x0, x1, x2, x3, x4, x5, x6, x7⟩ := (show BlkIs uv wr.heap.size 27 #[.int .i64 ku, .int .u64 (wd mu 0 : Nat), .int .u64 (wd mu 1 : Nat), .int .u64 (wd mu 2 : Nat), .int .u64 (wd mu 3 : Nat), .slice AU nU cU, .int .i64 lu, .int .i64 hu] from HY.out.2.1).eight
                  have hB3 := HY.out.1.2.2.2
                  have hth : World.there _ (w.heap.size + 1) 0 [Value.int .i64 4, .int .u64 0, .int .u64 0, .int .u64 0, .int .u64 0, .slice (some ⟨g, 0, none⟩) 1 cc, .int .i64 lo, .int .i64 hi].toArray.size := hB3.there
                  have hal : [Value.int .i64 4, .int .u64 0, .int .u64 0, .int .u64 0, .int .u64 0, .slice (some ⟨g, 0, none⟩) 1 cc, .int .i64 lo, .int .i64 hi].toArray.all (·.oneCell') = true := (by rw [lit4]; exact reL_all)
                  have hin : (Tryd.prog.info? 27).map (·.size) = some [Value.int .i64 4, .int .u64 0, .int .u64 0, .int .u64 0, .int .u64 0, .slice (some ⟨g, 0, none⟩) 1 cc, .int .i64 lo, .int .i64 hi].toArray.size := info_re8
                  go_wp2_with ((with_reducible refine wpList_store_mid ?_ 27 (.tmp 2) (.tmp 94) ?_ (w.heap.size + 1) 0 [Value.int .i64 4, .int .u64 0, .int .u64 0, .int .u64 0, .int .u64 0, .slice (some ⟨g, 0, none⟩) 1 cc, .int .i64 lo, .int .i64 hi].toArray ?_ ?_ hth hin hal ?_); exact rfl; exact rfl; exact rfl; exact rfl)
                  have hl := load_re (store_re (k := 4) (m := fun _ => false) (A := some ⟨g, 0, none⟩) (n := 1) (c := cc) (lo := lo) (hi := hi) hB3 rfl)
                  rw [← lit4] at hl
                  have hR : R = .node 4 (fun _ => false) [U] lo hi := by rw [HR.out]; simp [h0, k0, hvd, l1, l0, hm]
                  refine ⟨rfl, _, results_cell1 rfl rfl hl, ⟨_, rfl, ?_, (HFN.out.fin HY.out.2.2 _).2.2⟩⟩
                  obtain ⟨A8, c8, e8, h8⟩ := HU.out.2
                  simp only [List.length_singleton, Value.slice.injEq] at e8
                  obtain ⟨rfl, _, rfl⟩ := e8
                  rw [hR]
                  exact h8.sub (HFN.out.fin HY.out.2.2 _).2.1
              | false =>
                go_wp2_with fail
                go_at_call 24
                refine (HV.out _).mono ?_
                rintro e uv ⟨rfl, hbv⟩
                have HY := Lib.hid (And.intro (HY.out.1.step hbv) (And.intro (HY.out.2.1.step hbv) (HY.out.2.2.trans (hbv.mono HY.out.2.2.size))))
                rw [hvd]
                clear hbv d0 d1 d2 d3 d4 d5 d6 d7 x0 x1 x2 x3 x4 x5 x6 x7
                obtain ⟨d0, d1, d2, d3, d4, d5, d6, d7⟩ := (show BlkIs uv w.heap.size 27 #[.int .i64 4, .int .u64 (wd m 0 : Nat), .int .u64 (wd m 1 : Nat), .int .u64 (wd m 2 : Nat), .int .u64 (wd m 3 : Nat), .slice A 1 c, .int .i64 lo, .int .i64 hi] from HY.out.1.2.2.1).eight
                obtain ⟨x0, x1, x2, x3, x4, x5, x6, x7⟩ := (show BlkIs uv wr.heap.size 27 #[.int .i64 ku, .int .u64 (wd mu 0 : Nat), .int .u64 (wd mu 1 : Nat), .int .u64 (wd mu 2 : Nat), .int .u64 (wd mu 3 : Nat), .slice AU nU cU, .int .i64 lu, .int .i64 hu] from HY.out.2.1).eight
                go_wp2_with fail
                go_at_call 24
                refine (HV.out _).mono ?_
                rintro e uv ⟨rfl, hbv⟩
                have HY := Lib.hid (And.intro (HY.out.1.step hbv) (And.intro (HY.out.2.1.step hbv) (HY.out.2.2.trans (hbv.mono HY.out.2.2.size))))
                rw [hvd]
                clear hbv d0 d1 d2 d3 d4 d5 d6 d7 x0 x1 x2 x3 x4 x5 x6 x7
                obtain ⟨d0, d1, d2, d3, d4, d5, d6, d7⟩ := (show BlkIs uv w.heap.size 27 #[.int .i64 4, .int .u64 (wd m 0 : Nat), .int .u64 (wd m 1 : Nat), .int .u64 (wd m 2 : Nat), .int .u64 (wd m 3 : Nat), .slice A 1 c, .int .i64 lo, .int .i64 hi] from HY.out.1.2.2.1).eight
                obtain ⟨x0, x1, x2, x3, x4, x5, x6, x7⟩ := (show BlkIs uv wr.heap.size 27 #[.int .i64 ku, .int .u64 (wd mu 0 : Nat), .int .u64 (wd mu 1 : Nat), .int .u64 (wd mu 2 : Nat), .int .u64 (wd mu 3 : Nat), .slice AU nU cU, .int .i64 lu, .int .i64 hu] from HY.out.2.1).eight
                have hB3 := HY.out.1.2.2.2
                have hth : World.there _ (w.heap.size + 1) 0 [Value.int .i64 4, .int .u64 0, .int .u64 0, .int .u64 0, .int .u64 0, .slice (some ⟨g, 0, none⟩) 1 cc, .int .i64 lo, .int .i64 hi].toArray.size := hB3.there
                have hal : [Value.int .i64 4, .int .u64 0, .int .u64 0, .int .u64 0, .int .u64 0, .slice (some ⟨g, 0, none⟩) 1 cc, .int .i64 lo, .int .i64 hi].toArray.all (·.oneCell') = true := (by rw [lit4]; exact reL_all)
                have hin : (Tryd.prog.info? 27).map (·.size) = some [Value.int .i64 4, .int .u64 0, .int .u64 0, .int .u64 0, .int .u64 0, .slice (some ⟨g, 0, none⟩) 1 cc, .int .i64 lo, .int .i64 hi].toArray.size := info_re8
                go_wp2_with ((with_reducible refine wpList_store_mid ?_ 27 (.tmp 2) (.tmp 94) ?_ (w.heap.size + 1) 0 [Value.int .i64 4, .int .u64 0, .int .u64 0, .int .u64 0, .int .u64 0, .slice (some ⟨g, 0, none⟩) 1 cc, .int .i64 lo, .int .i64 hi].toArray ?_ ?_ hth hin hal ?_); exact rfl; exact rfl; exact rfl; exact rfl)
                have hl := load_re (store_re (k := 4) (m := fun _ => false) (A := some ⟨g, 0, none⟩) (n := 1) (c := cc) (lo := lo) (hi := hi) hB3 rfl)
                rw [← lit4] at hl
                have hR : R = .node 4 (fun _ => false) [U] lo hi := by rw [HR.out]; simp [h0, k0, hvd, l1, l0]
                refine ⟨rfl, _, results_cell1 rfl rfl hl, ⟨_, rfl, ?_, (HFN.out.fin HY.out.2.2 _).2.2⟩⟩
                obtain ⟨A8, c8, e8, h8⟩ := HU.out.2
                simp only [List.length_singleton, Value.slice.injEq] at e8
                obtain ⟨rfl, _, rfl⟩ := e8
                rw [hR]
                exact h8.sub (HFN.out.fin HY.out.2.2 _).2.1
end Go.Proofs.YtkladjjeacjgpaaDoor

