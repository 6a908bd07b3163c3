/-
  WHAT hackleref07's Norm ANSWERS of a ReAlt: the plain tree.
-/
import Derived.Test.YtkladjjeacjgpaaDoorQG13
namespace Go.Proofs.YtkladjjeacjgpaaDoor
open Go.RowKit

attribute [local irreducible] FreeW

set_option maxRecDepth 20000 in
set_option maxHeartbeats 16000000 in
theorem refNorm_alt (m : Nat → Bool) (l : List Tree) (lo hi : Int) (hl : 2 ≤ l.length) (hn : nodesL l ≤ 1048576) (hok : ∀ t ∈ l, t.ok = true) (IH0 : ∀ t ∈ l, NormIs t) : NormIs (.node 3 m l lo hi) := by
  intro H v w hH hat
  obtain ⟨A, c, rfl, hc, hs⟩ := hat.open
  have hsrc : SrcAt w H l A := fun hne => by
    obtain ⟨b, o, e, _, hg⟩ := hs hne
    exact ⟨b, o, e, fun i hi => by
      obtain ⟨cs, h1, h2, h3⟩ := hg i hi
      exact ⟨cs, h1, h2, fun j u hu => (hide_cell (h3 j u hu)).2⟩⟩
  have HS := Lib.hid hsrc
  have H0 := Lib.hid (NormS.start w H (reL 3 m A l.length c lo hi))
  have HH := Lib.hid hH
  have IH := Lib.hid IH0
  obtain ⟨R, hR⟩ : ∃ R, R = Tree.plain (.node 3 m l lo hi) := ⟨_, rfl⟩
  rw [← hR]
  unfold Tree.plain plainNode at hR
  have HR := Lib.hid hR
  have HL := Lib.hid hl
  have HNN := Lib.hid hn
  have HOK := Lib.hid hok
  have HLB := Lib.hid (show l.length ≤ 1073741824 from by have := nodesL_mem_len l; omega)
  unfold NormIs at IH
  clear hat hs hH IH0 hsrc hR hl hn hok
  unfold reV reL at *
  go_enter Tryd.func11, Tryd.ntmps11
  go_wp2
  go_loopw [3, 4] (fun o i wr => ∃ (j : Nat) (xs : List Value), i = .int .i64 j ∧ j ≤ l.length ∧ Hid (NormS w H (reL 3 m A l.length c lo hi) o (plainL (l.take j)) xs wr)) (fun _ i _ => l.length - (intOf i).toNat)
  case atStart => exact ⟨0, [], rfl, Nat.zero_le _, Lib.hid (by rw [List.take_zero, show plainL [] = [] by simp [plainL]]; exact H0.out)⟩
  case round =>
    obtain ⟨j, xs, rfl, hj, HN⟩ := hrel
    have hbl := HN.out.2.2.1
    unfold reL at hbl
    obtain ⟨c0, c1, c2, c3, c4, c5, c6, c7⟩ := hbl.eight
    clear hbl
    by_cases hp : j < l.length
    · have hdl : decide ((j : Int) < (l.length : Int)) = true := by simp; omega
      obtain ⟨b, o', rfl, hg⟩ := HS.out (by intro e; subst e; simp at hp)
      obtain ⟨cs, hcat, hlen, hrow⟩ := hg j hp
      obtain ⟨A', n', c', rfl⟩ := hcat.eight
      obtain ⟨r0, r1, r2, r3, r4, r5, r6, r7⟩ := row_eight hrow HN.out.2.1
      have hcl := HN.out.call HH.out
      have hcx := IH.out _ (List.getElem_mem hp) _ _ wr hcl.1 (hcat.sub hcl.2)
      have hk1 : IntKind.i64.wrap ((j : Int) + 1) = ((j + 1 : Nat) : Int) := by rw [IntKind.wrap_i64]; omega
      have htk := plainL_snoc hp
      have hpl : (plainL (l.take j)).length + 1 ≤ 1099511627776 := by rw [plainL_len, List.length_take]; have := HLB.out; omega
      unfold reV reL at hcx
      clear hcat hg hrow hcl hlen
      generalize (l[j]).plain = U at *
      generalize (l[j]).kind = kx at *
      generalize (l[j]).set = mx at *
      generalize (l[j]).lo = lx at *
      generalize (l[j]).hi = hx at *
      have HC := Lib.hid hcx
      have HT := Lib.hid htk
      have HPL := Lib.hid hpl
      clear hcx htk hpl
      go_wp2_with fail
      go_at_call 11
      refine HC.out.mono ?_
      rintro e w1 ⟨v1, rfl, hat1, hb1⟩
      obtain ⟨A1, n1, c1', rfl⟩ := hat1.form
      obtain ⟨v', W', hrun, hns⟩ := HN.out.push hb1 hat1 HPL.out
      have HNS := Lib.hid hns
      unfold reL at hrun
      clear hns hat1 hb1 c0 c1 c2 c3 c4 c5 c6 c7 r0 r1 r2 r3 r4 r5 r6 r7
      unfold reV reL
      go_wp2_with (refine wpList_append_at' rfl _ _ 25 25 rfl rfl rfl hrun ?_)
      exact ⟨⟨j + 1, _, rfl, hp, Lib.hid (by rw [HT.out]; exact HNS.out)⟩, by simp [intOf]; omega⟩
    · have hdl : decide ((j : Int) < (l.length : Int)) = false := by simp; omega
      obtain rfl : j = l.length := by omega
      have hN := HN.out
      rw [List.take_length] at hN
      clear HN
      obtain ⟨A2, ca2, rfl, hc2, hsrc2⟩ := hN.1.src
      have hpn := plainL_few l HOK.out
      have hpo := plainL_ok l HOK.out
      have HFL := Lib.hid (refFlat_any 3 (by decide) (plainL l) A2 ca2 hc2 (QHide (NH w H) (.slice A2 (plainL l).length ca2)) wr hsrc2 hpo (by have := HNN.out; omega))
      have hfn := flatT_nodes (kind := 3) (plainL l)
      obtain ⟨L, hL⟩ : ∃ L, L = flatT 3 (plainL l) := ⟨_, rfl⟩
      rw [← hL] at HFL hfn
      have hr := HR.out
      simp only [← hL, if_true, if_false, show ¬((3 : Int) = 2) by decide] at hr
      have HLO := Lib.hid (show ∀ t ∈ L, t.ok = true from by rw [hL]; exact flat_ok hpo)
      have HR2 := Lib.hid hr
      have hLn : L.length ≤ 1073741824 := by have := nodesL_mem_len L; have := HNN.out; omega
      have HNS := Lib.hid hN
      clear hN hsrc2 hpn hpo hfn hL hr HR H0 HS IH hc2 HOK HL
      generalize (plainL l).length = pn at *
      go_wp2_with fail
      go_at_call 25
      refine HFL.out.mono ?_
      rintro e w2 ⟨v2, xs2, rfl, hq2, hb2⟩
      obtain ⟨A3, ca3, rfl, hc3, hsrc3⟩ := hq2.src
      have HS3 := Lib.hid hsrc3
      have HN2 := Lib.hid (HNS.out.step hb2)
      have HH0 := Lib.hid (show ∀ k, QHide (QHide (NH w H) (.slice A2 pn ca2)) (.slice A3 L.length ca3) k = false → NH w H k = false from fun k h => (QHide_no.1 (QHide_no.1 h).1).1)
      have HWW := Lib.hid (HN2.out.2.1)
      clear hq2 hb2 hsrc3 c0 c1 c2 c3 c4 c5 c6 c7 HFL HNS
      generalize QHide (QHide (NH w H) (.slice A2 pn ca2)) (.slice A3 L.length ca3) = HX at *
      have hC3 := hc3
      go_wp2
      go_loopw [6, 7, 8] (fun s6 s7 s8 wr => ∃ (j : Nat) (out : List Tree) (xo : List Value) (fz : Int), s7 = .int .i64 fz ∧ s8 = .int .i64 j ∧ j ≤ L.length ∧ out.length ≤ j ∧ FirstIs fz out ∧ Hid (NormT w H w2 s6 out xo wr ∧ out = (L.take j).foldl stepN [])) (fun _ _ s8 _ => L.length - (intOf s8).toNat)
      case atStart => exact ⟨0, [], [], -1, rfl, rfl, Nat.zero_le _, Nat.le_refl _, FirstIs.nil, Lib.hid ⟨NormT.nil _ _ _, rfl⟩⟩
      case round =>
        obtain ⟨j, out, xo, fz, rfl, rfl, hj, hol, hfz, HT⟩ := hrel
        obtain ⟨Ao, co, rfl, hco⟩ := HT.out.1.1.len
        have HD := Lib.hid (HN2.out.step HT.out.1.2)
        by_cases hp : j < L.length
        · have hdl : decide ((j : Int) < (L.length : Int)) = true := by simp; omega
          obtain ⟨b, o, A', n', c', rfl, hxat, hxrow⟩ := HS3.out.get hp
          obtain ⟨r0, r1, r2, r3, r4, r5, r6, r7⟩ := row_eight hxrow HT.out.1.2
          have hk1 : IntKind.i64.wrap ((j : Int) + 1) = ((j + 1 : Nat) : Int) := by rw [IntKind.wrap_i64]; omega
          have hx := sub_box wr (L[j]).kind (L[j]).set A' n' c' (L[j]).lo (L[j]).hi
          obtain ⟨W9, hW9⟩ : ∃ W9, wr.alloc (.cells (reL (L[j]).kind (L[j]).set A' n' c' (L[j]).lo (L[j]).hi).toArray 27) = W9 := ⟨_, rfl⟩
          rw [hW9] at hx
          have HY := Lib.hid (And.intro (HT.out.1.step hx.2) (And.intro hx (HD.out.step hx.2)))
          have HV := Lib.hid (fun u => refVoid_at (L[j]).kind (L[j]).set A' n' c' (L[j]).lo (L[j]).hi u)
          have HXA := Lib.hid hxat
          have HUX := Lib.hid (show L.take (j + 1) = L.take j ++ [L[j]] from List.take_succ_eq_append_getElem hp)
          have HVD := Lib.hid (show (L[j]).isV = voidB (L[j]).kind (L[j]).set from rfl)
          have HOKX := Lib.hid (HLO.out _ (List.getElem_mem hp))
          have HGET := Lib.hid (List.getElem?_eq_getElem hp)
          simp only [reL] at hW9
          clear hx hxat hxrow
          unfold reV at HV
          unfold reL at HV
          generalize L[j] = Ux at *
          generalize hkx : Ux.kind = kx at *
          generalize hmx : Ux.set = mx at *
          generalize Ux.lo = lx at *
          generalize Ux.hi = hx' at *
          have HKX := Lib.hid (And.intro hkx hmx)
          clear hkx hmx
          obtain ⟨x0, x1, x2, x3, x4, x5, x6, x7⟩ := (show BlkIs W9 wr.heap.size 27 #[.int .i64 kx, .int .u64 (wd mx 0 : Nat), .int .u64 (wd mx 1 : Nat), .int .u64 (wd mx 2 : Nat), .int .u64 (wd mx 3 : Nat), .slice A' n' c', .int .i64 lx, .int .i64 hx'] from HY.out.2.1.1).eight
          obtain ⟨d0, d1, d2, d3, d4, d5, d6, d7⟩ := (show BlkIs W9 w.heap.size 27 #[.int .i64 3, .int .u64 (wd m 0 : Nat), .int .u64 (wd m 1 : Nat), .int .u64 (wd m 2 : Nat), .int .u64 (wd m 3 : Nat), .slice A l.length c, .int .i64 lo, .int .i64 hi] from HY.out.2.2.2.2.1).eight
          have HFZ := Lib.hid hfz
          clear hfz
          have hEV : ((3 : Int) == 2) = false := by decide
          cases hvb : voidB kx mx with
          | true =>
            have hst : out = (L.take (j + 1)).foldl stepN [] := by rw [HUX.out, fold_snoc, ← HT.out.2, stepN_void (by rw [HVD.out]; exact hvb)]
            have HST := Lib.hid hst
            clear hst
            go_wp2_with fail
            go_at_call 24
            refine (HV.out _).mono ?_
            rintro e uv ⟨rfl, hbv⟩
            have HY := Lib.hid (And.intro (HY.out.1.step hbv) (And.intro (And.intro (HY.out.2.1.1.step hbv) (HY.out.2.1.2.trans (hbv.mono HY.out.2.1.2.size))) (HY.out.2.2.step hbv)))
            rw [hvb]
            clear hbv x0 x1 x2 x3 x4 x5 x6 x7 d0 d1 d2 d3 d4 d5 d6 d7 r0 r1 r2 r3 r4 r5 r6 r7
            obtain ⟨x0, x1, x2, x3, x4, x5, x6, x7⟩ := (show BlkIs uv wr.heap.size 27 #[.int .i64 kx, .int .u64 (wd mx 0 : Nat), .int .u64 (wd mx 1 : Nat), .int .u64 (wd mx 2 : Nat), .int .u64 (wd mx 3 : Nat), .slice A' n' c', .int .i64 lx, .int .i64 hx'] from HY.out.2.1.1).eight
            obtain ⟨d0, d1, d2, d3, d4, d5, d6, d7⟩ := (show BlkIs uv w.heap.size 27 #[.int .i64 3, .int .u64 (wd m 0 : Nat), .int .u64 (wd m 1 : Nat), .int .u64 (wd m 2 : Nat), .int .u64 (wd m 3 : Nat), .slice A l.length c, .int .i64 lo, .int .i64 hi] from HY.out.2.2.2.2.1).eight
            go_wp2
            exact ⟨⟨j + 1, out, xo, fz, rfl, rfl, hp, by omega, HFZ.out, Lib.hid ⟨HY.out.1, HST.out⟩⟩, by simp [intOf]; omega⟩
          | false =>
            have HNV := Lib.hid (show Ux.isV = false by rw [HVD.out]; exact hvb)
            go_wp2_with fail
            go_at_call 24
            refine (HV.out _).mono ?_
            rintro e uv ⟨rfl, hbv⟩
            have HY := Lib.hid (And.intro (HY.out.1.step hbv) (And.intro (And.intro (HY.out.2.1.1.step hbv) (HY.out.2.1.2.trans (hbv.mono HY.out.2.1.2.size))) (HY.out.2.2.step hbv)))
            rw [hvb]
            clear hbv x0 x1 x2 x3 x4 x5 x6 x7 d0 d1 d2 d3 d4 d5 d6 d7 r0 r1 r2 r3 r4 r5 r6 r7
            obtain ⟨x0, x1, x2, x3, x4, x5, x6, x7⟩ := (show BlkIs uv wr.heap.size 27 #[.int .i64 kx, .int .u64 (wd mx 0 : Nat), .int .u64 (wd mx 1 : Nat), .int .u64 (wd mx 2 : Nat), .int .u64 (wd mx 3 : Nat), .slice A' n' c', .int .i64 lx, .int .i64 hx'] from HY.out.2.1.1).eight
            obtain ⟨d0, d1, d2, d3, d4, d5, d6, d7⟩ := (show BlkIs uv w.heap.size 27 #[.int .i64 3, .int .u64 (wd m 0 : Nat), .int .u64 (wd m 1 : Nat), .int .u64 (wd m 2 : Nat), .int .u64 (wd m 3 : Nat), .slice A l.length c, .int .i64 lo, .int .i64 hi] from HY.out.2.2.2.2.1).eight
            cases hk1' : (kx == 1) with
            | true =>
              have HK1 := Lib.hid (show Ux.kind = 1 by rw [HKX.out.1]; simpa using hk1')
              rcases HFZ.out with ⟨rfl, hno⟩ | ⟨q, rfl, hq, hq1, hqo⟩
              · have hst : out ++ [Ux] = (L.take (j + 1)).foldl stepN [] := by rw [HUX.out, fold_snoc, ← HT.out.2, stepN_new HNV.out HK1.out hno]
                have HST := Lib.hid (And.intro hst (FirstIs.one hno HK1.out))
                obtain ⟨v', W', hrun, hnt⟩ := HY.out.1.push (HXA.out.sub (HY.out.1.seen HH0.out)) (by omega)
                have HNT := Lib.hid hnt
                unfold reL at hrun
                generalize hoo : out.length = nO at *
                have HOO := Lib.hid hoo
                clear hnt hst hno hoo
                go_wp2_with (refine wpList_append_at' rfl _ _ 25 25 rfl rfl rfl hrun ?_)
                exact ⟨⟨j + 1, out ++ [Ux], _, (nO : Int), rfl, rfl, hp, by rw [List.length_append, List.length_singleton]; have := HOO.out; omega, HST.out.2, Lib.hid ⟨HNT.out, HST.out.1⟩⟩, by simp [intOf]; omega⟩
              · obtain ⟨g, co', hAo, hn⟩ : ∃ g co', (Value.slice Ao out.length co) = .slice (some ⟨g, 0, none⟩) out.length co' ∧ out[q] = .node 1 (uniV (L.take j)) [] 0 0 := by
                  obtain ⟨g, co', e, _⟩ := HY.out.1.1.place (by intro e; subst e; simp at hq)
                  refine ⟨g, co', e, ?_⟩
                  have h2 := HT.out.2
                  rw [stepN_told _ (fun t ht hk => ok_one (HLO.out t (List.mem_of_mem_take ht)) hk)] at h2
                  have hmem : out[q] ∈ out := List.getElem_mem hq
                  generalize hz : out[q] = z at *
                  rw [h2] at hmem
                  exact told_one hmem hq1
                simp only [Value.slice.injEq] at hAo
                obtain ⟨rfl, _, rfl⟩ := hAo
                have HPUT := Lib.hid (fun u (h : NormT w H w2 (.slice (some ⟨g, 0, none⟩) out.length co) out xo u) => h.put hq hn (sTwo (uniV (L.take j)) mx 0))
                have HROW := Lib.hid (fun u (h : NormT w H w2 (.slice (some ⟨g, 0, none⟩) out.length co) out xo u) => h.cells hq hn)
                have hset : out.set q (.node 1 (sTwo (uniV (L.take j)) mx 0) [] 0 0) = (L.take (j + 1)).foldl stepN [] := by
                  rw [HUX.out, fold_snoc, ← HT.out.2, stepN_add HNV.out HK1.out hq hq1, set_map hq hq1 hqo, hn, HKX.out.2]; rfl
                have HSET := Lib.hid (And.intro hset (FirstIs.set hq hqo (x := .node 1 (sTwo (uniV (L.take j)) mx 0) [] 0 0) rfl))
                have HTW := Lib.hid (show ∀ u : World, Calls Tryd.prog 26 #[setV (uniV (L.take j)), setV mx, .int .i64 0] u fun e w' => e = .returned (setV (sTwo (uniV (L.take j)) mx 0)) ∧ Below u.heap.size u w' from fun u => two_any (uniV (L.take j)) mx 0 (.inl rfl) u)
                have hlen0 : out.length ≤ 1073741824 := by omega
                have hqI : (q : Int) < (out.length : Int) := by omega
                have hq0 : decide ((q : Int) < 0) = false := by simp
                clear hset hn hq1 hqo
                generalize uniV (L.take j) = mq at *
                unfold setV at HTW
                go_wp2_with fail
                refine wp_region_free 10 10 215 (fun u => Hid (NormT w H w2 (.slice (some ⟨g, 0, none⟩) out.length co) out xo u ∧ BlkIs u wr.heap.size 27 (reL kx mx A' n' c' lx hx').toArray ∧ Below uv.heap.size uv u)) (fun _ => #[]) (fun _ => 0) (by kernel_rfl) (by kernel_rfl) rfl (Lib.hid ⟨HY.out.1.step (Below.refl _ _).drew, HY.out.2.1.1.step (Below.refl _ _).drew, (Below.refl _ _).drew⟩) (fun u u' h hb => Lib.hid ⟨h.out.1.step hb, h.out.2.1.step hb, h.out.2.2.trans (hb.mono h.out.2.2.size)⟩) (fun i o h1 h2 => absurd h1 (by omega)) ?_
                clear hdl x0 x1 x2 x3 x4 x5 x6 x7 d0 d1 d2 d3 d4 d5 d6 d7
                simp only [List.take_succ_cons, List.take_zero, List.drop_succ_cons, List.drop_zero]
                iterate 10
                  refine freeW_step fun K hK => ?_
                  go_simp
                  apply Exists.intro
                  refine ⟨fun u h1 => ?_, hK _ ?_⟩
                  · obtain ⟨y1, y2, y3, y4⟩ := HROW.out u h1.out.1
                    obtain ⟨x0, x1, x2, x3, x4, x5, x6, x7⟩ := (show BlkIs u wr.heap.size 27 #[.int .i64 kx, .int .u64 (wd mx 0 : Nat), .int .u64 (wd mx 1 : Nat), .int .u64 (wd mx 2 : Nat), .int .u64 (wd mx 3 : Nat), .slice A' n' c', .int .i64 lx, .int .i64 hx'] from h1.out.2.1).eight
                    unfold freeAt
                    go_simp
                    first
                      | exact free_val
                      | (apply free_call
                         first
                           | (go_at_call 26; with_reducible exact HTW.out _))
                  clear hK K
                refine freeW_nil ?_
                intro gg u hC hb2 _ _
                have HC := Lib.hid hC.out
                have HB2 := Lib.hid hb2
                clear hC hb2
                rw [Nat.sub_self, List.take_zero]
                unfold putNews
                obtain ⟨xs', hput⟩ := HPUT.out u HC.out.1
                have HPT := Lib.hid hput
                have hth : u.there g (q * 8 + 1) (set4 (sTwo mq mx 0)).toArray.size := HC.out.1.thereQ hq _
                have hal : (set4 (sTwo mq mx 0)).toArray.all (·.oneCell') = true := by simp [set4, Value.oneCell']
                have hin : (Tryd.prog.info? 24).map (·.size) = some (set4 (sTwo mq mx 0)).toArray.size := info_set8
                clear hput
                go_wp2_with ((with_reducible refine wpList_store_mid ?_ 24 (.tmp 165) (.tmp 163) ?_ g (q * 8 + 1) (set4 (sTwo mq mx 0)).toArray ?_ ?_ hth hin hal ?_); exact rfl; exact rfl; exact rfl; exact rfl)
                exact ⟨⟨j + 1, _, xs', (q : Int), rfl, rfl, hp, by rw [List.length_set]; omega, HSET.out.2, Lib.hid ⟨HPT.out, HSET.out.1⟩⟩, by simp [intOf]; omega⟩
            | false =>
              have HNK := Lib.hid (show Ux.kind ≠ 1 by rw [HKX.out.1]; simpa using hk1')
              have hsat := fun u (h : NormT w H w2 (.slice Ao out.length co) out xo u) => (HXA.out.sub (h.seen HH0.out)).sub hide_less
              have HSA := Lib.hid hsat
              have HSN := Lib.hid (stepN_else (out := out) HNV.out HNK.out)
              have HLN := Lib.hid (rfl (a := out.length))
              clear hsat
              generalize hXB : wr.heap.size = XB at *
              clear hXB
              go_wp2
              go_loopw [10, 11] (fun s q wz => ∃ t : Nat, s = .bool ((out.take t).any fun y => y.same Ux) ∧ q = .int .i64 t ∧ t ≤ out.length ∧ Hid (NormT w H w2 (.slice Ao out.length co) out xo wz ∧ Below uv.heap.size uv wz)) (fun _ q _ => out.length - (intOf q).toNat)
              case atStart => exact ⟨0, by simp, rfl, Nat.zero_le _, Lib.hid ⟨HY.out.1, Below.refl _ _⟩⟩
              case round =>
                obtain ⟨t, rfl, rfl, ht, HW⟩ := hrel
                have HY := Lib.hid (And.intro HW.out.1 (And.intro (And.intro (HY.out.2.1.1.step HW.out.2) HW.out.2) (HY.out.2.2.step HW.out.2)))
                clear x0 x1 x2 x3 x4 x5 x6 x7 d0 d1 d2 d3 d4 d5 d6 d7
                obtain ⟨x0, x1, x2, x3, x4, x5, x6, x7⟩ := (show BlkIs wr _ 27 #[.int .i64 kx, .int .u64 (wd mx 0 : Nat), .int .u64 (wd mx 1 : Nat), .int .u64 (wd mx 2 : Nat), .int .u64 (wd mx 3 : Nat), .slice A' n' c', .int .i64 lx, .int .i64 hx'] from HY.out.2.1.1).eight
                obtain ⟨d0, d1, d2, d3, d4, d5, d6, d7⟩ := (show BlkIs wr w.heap.size 27 #[.int .i64 3, .int .u64 (wd m 0 : Nat), .int .u64 (wd m 1 : Nat), .int .u64 (wd m 2 : Nat), .int .u64 (wd m 3 : Nat), .slice A l.length c, .int .i64 lo, .int .i64 hi] from HY.out.2.2.2.2.1).eight
                have hk1t : IntKind.i64.wrap ((t : Int) + 1) = ((t + 1 : Nat) : Int) := by rw [IntKind.wrap_i64]; omega
                by_cases hpt : t < out.length
                · have hdt : decide ((t : Int) < (out.length : Int)) = true := by simp; omega
                  have htI : (t : Int) < (out.length : Int) := by omega
                  obtain ⟨g, At', nt', ct', rfl, hget⟩ := HW.out.1.get hpt
                  have hcs := fun u (h : NormT w H w2 (.slice (some ⟨g, 0, none⟩) out.length co) out xo u) => refSame_any (out[t]) Ux _ _ u (hget u h).1 (HSA.out u h)
                  have hrow := fun u (h : NormT w H w2 (.slice (some ⟨g, 0, none⟩) out.length co) out xo u) => row_eight (hget u h).2 (Below.refl _ _)
                  have HAS := Lib.hid (any_step (p := fun y => y.same Ux) hpt)
                  unfold reV reL at hcs
                  clear hget
                  generalize (out[t]).kind = kt at *
                  generalize (out[t]).set = mt at *
                  generalize (out[t]).lo = lt at *
                  generalize (out[t]).hi = ht' at *
                  generalize (out[t]).same Ux = sm at *
                  generalize hany : (out.take t).any (fun y => y.same Ux) = an at *
                  have HAN := Lib.hid hany
                  have HCS := Lib.hid hcs
                  have HROW := Lib.hid hrow
                  clear hany hcs hrow
                  generalize hoo : out.length = nO at *
                  have HOO := Lib.hid hoo
                  clear hoo
                  cases an with
                  | true =>
                    go_wp2_with fail
                    refine wp_region_free 9 9 215 (fun u => Hid (NormT w H w2 (.slice (some ⟨g, 0, none⟩) nO co) out xo u ∧ BlkIs u XB 27 (reL kx mx A' n' c' lx hx').toArray ∧ Below uv.heap.size uv u)) (fun _ => #[]) (fun _ => 0) (by kernel_rfl) (by kernel_rfl) rfl (Lib.hid ⟨HY.out.1.step (Below.refl _ _).drew, HY.out.2.1.1.step (Below.refl _ _).drew, HY.out.2.1.2.trans ((Below.refl _ _).drew.mono HY.out.2.1.2.size)⟩) (fun u u' h hb => Lib.hid ⟨h.out.1.step hb, h.out.2.1.step hb, h.out.2.2.trans (hb.mono h.out.2.2.size)⟩) (fun i o h1 h2 => absurd h1 (by omega)) ?_
                    clear hdl
                    simp only [List.take_succ_cons, List.take_zero, List.drop_succ_cons, List.drop_zero]
                    repeat
                      refine freeW_step fun K hK => ?_
                      first
                        | ((first
                              | (refine freeW_no 1 178 false rfl rfl ?_ ?_; (focus (go_simp; done))))
                           have HK := Go.Lib.hid hK
                           clear hK
                           go_simp
                           have hK := HK.out
                           clear HK
                           refine hK _ ?_
                           clear hK K)
                        | (skip
                           (first
                             | skip)
                           go_simp
                           apply Exists.intro
                           refine ⟨fun u h1 => ?_, hK _ ?_⟩
                           · obtain ⟨y0, y1, y2, y3, y4, y5, y6, y7⟩ := HROW.out u h1.out.1
                             obtain ⟨x0, x1, x2, x3, x4, x5, x6, x7⟩ := (show BlkIs u XB 27 #[.int .i64 kx, .int .u64 (wd mx 0 : Nat), .int .u64 (wd mx 1 : Nat), .int .u64 (wd mx 2 : Nat), .int .u64 (wd mx 3 : Nat), .slice A' n' c', .int .i64 lx, .int .i64 hx'] from h1.out.2.1).eight
                             unfold freeAt
                             go_simp
                             first
                               | exact free_val
                               | (apply free_call
                                  first
                                    | (go_at_call 10; with_reducible exact HCS.out _ h1.out.1)
                                  )
                           clear hK K)
                    refine freeW_nil ?_
                    intro gg u hC hb2 _ _
                    have HC := Lib.hid hC.out
                    clear hC hb2
                    rw [Nat.sub_self, List.take_zero]
                    unfold putNews
                    go_wp2
                    exact ⟨⟨t + 1, by rw [HAS.out]; rfl, rfl, hpt, Lib.hid ⟨HC.out.1, HC.out.2.2⟩⟩, by simp [intOf]; omega⟩
                  | false =>
                    go_wp2_with fail
                    refine wp_region_free 9 9 215 (fun u => Hid (NormT w H w2 (.slice (some ⟨g, 0, none⟩) nO co) out xo u ∧ BlkIs u XB 27 (reL kx mx A' n' c' lx hx').toArray ∧ Below uv.heap.size uv u)) (fun _ => #[]) (fun _ => 0) (by kernel_rfl) (by kernel_rfl) rfl (Lib.hid ⟨HY.out.1.step (Below.refl _ _).drew, HY.out.2.1.1.step (Below.refl _ _).drew, HY.out.2.1.2.trans ((Below.refl _ _).drew.mono HY.out.2.1.2.size)⟩) (fun u u' h hb => Lib.hid ⟨h.out.1.step hb, h.out.2.1.step hb, h.out.2.2.trans (hb.mono h.out.2.2.size)⟩) (fun i o h1 h2 => absurd h1 (by omega)) ?_
                    clear hdl
                    simp only [List.take_succ_cons, List.take_zero, List.drop_succ_cons, List.drop_zero]
                    repeat
                      refine freeW_step fun K hK => ?_
                      (first
                        | (refine freeW_yes 1 178 false rfl rfl ?_ ?_; (focus (go_simp; done)))
                        | skip)
                      go_simp
                      apply Exists.intro
                      refine ⟨fun u h1 => ?_, hK _ ?_⟩
                      · obtain ⟨y0, y1, y2, y3, y4, y5, y6, y7⟩ := HROW.out u h1.out.1
                        obtain ⟨x0, x1, x2, x3, x4, x5, x6, x7⟩ := (show BlkIs u XB 27 #[.int .i64 kx, .int .u64 (wd mx 0 : Nat), .int .u64 (wd mx 1 : Nat), .int .u64 (wd mx 2 : Nat), .int .u64 (wd mx 3 : Nat), .slice A' n' c', .int .i64 lx, .int .i64 hx'] from h1.out.2.1).eight
                        unfold freeAt
                        go_simp
                        first
                          | exact free_val
                          | (apply free_call
                             first
                               | (go_at_call 10; with_reducible exact HCS.out _ h1.out.1)
                             )
                      clear hK K
                    refine freeW_nil ?_
                    intro gg u hC hb2 _ _
                    have HC := Lib.hid hC.out
                    clear hC hb2
                    rw [Nat.sub_self, List.take_zero]
                    unfold putNews
                    go_wp2
                    exact ⟨⟨t + 1, by rw [HAS.out]; rfl, rfl, hpt, Lib.hid ⟨HC.out.1, HC.out.2.2⟩⟩, by simp [intOf]; omega⟩
                · have hdt : decide ((t : Int) < (out.length : Int)) = false := by simp; omega
                  have hto : t = out.length := by omega
                  have HAF := Lib.hid (show (out.take t).any (fun y => y.same Ux) = out.any (fun y => y.same Ux) by rw [hto, List.take_length])
                  generalize hany : (out.take t).any (fun y => y.same Ux) = an at *
                  have HAN := Lib.hid hany
                  clear hany hto
                  cases an with
                  | true =>
                    have hst : out = (L.take (j + 1)).foldl stepN [] := by rw [HUX.out, fold_snoc, ← HT.out.2, HSN.out, ← HAF.out, if_pos rfl]
                    have HST := Lib.hid hst
                    clear hst
                    go_wp2
                    exact ⟨⟨j + 1, out, xo, fz, rfl, rfl, hp, by omega, HFZ.out, Lib.hid ⟨HY.out.1, HST.out⟩⟩, by simp [intOf]; omega⟩
                  | false =>
                    have hst : out ++ [Ux] = (L.take (j + 1)).foldl stepN [] := by rw [HUX.out, fold_snoc, ← HT.out.2, HSN.out, ← HAF.out, if_neg (by simp)]
                    have HST := Lib.hid (And.intro hst (HFZ.out.more HNK.out))
                    obtain ⟨v', W', hrun, hnt⟩ := HY.out.1.push (HXA.out.sub (HY.out.1.seen HH0.out)) (by omega)
                    have HNT := Lib.hid hnt
                    unfold reL at hrun
                    have HOL := Lib.hid (show (out ++ [Ux]).length ≤ j + 1 by rw [List.length_append, List.length_singleton]; omega)
                    generalize out.length = nO at *
                    clear hnt hst
                    go_wp2_with (refine wpList_append_at' rfl _ _ 25 25 rfl rfl rfl hrun ?_)
                    exact ⟨⟨j + 1, out ++ [Ux], _, fz, rfl, rfl, hp, HOL.out, HST.out.2, Lib.hid ⟨HNT.out, HST.out.1⟩⟩, by simp [intOf]; omega⟩
        · have hdl : decide ((j : Int) < (L.length : Int)) = false := by simp; omega
          obtain rfl : j = L.length := by omega
          obtain ⟨d0, d1, d2, d3, d4, d5, d6, d7⟩ := (show BlkIs wr w.heap.size 27 #[.int .i64 3, .int .u64 (wd m 0 : Nat), .int .u64 (wd m 1 : Nat), .int .u64 (wd m 2 : Nat), .int .u64 (wd m 3 : Nat), .slice A l.length c, .int .i64 lo, .int .i64 hi] from HD.out.2.2.1).eight
          have hT3 := HT.out.1
          have hfo := HT.out.2
          rw [List.take_length, stepN_told L (fun t ht hk => ok_one (HLO.out t ht) hk)] at hfo
          rw [hfo] at hT3
          obtain ⟨hl3, hT4⟩ := hT3.turn
          obtain ⟨o2, ho2⟩ : ∃ o, o = altStay L := ⟨_, rfl⟩
          rw [← ho2] at hT4 hl3
          have hlen2 : out.length = o2.length := by rw [hfo, hl3]
          rw [← hl3] at hT4
          rw [hlen2]
          rw [hlen2] at hco hol
          have hRo : R = rowT 3 voidT o2 := by rw [HR2.out, ho2]
          have HT := Lib.hid (And.intro hT4 trivial)
          clear hT3 hT4 hfo hl3 hlen2 hfz ho2
          have hB3 := HD.out.2.2.2
          have HRO := Lib.hid hRo
          have hsz2 := HN2.out.2.2.2.lt
          have hnl := node_lies HT.out.1.1 (fun q hq => Nat.lt_of_lt_of_le (NH_lt HH.out q hq) hsz2) 3 (fun _ => false) 0 0
          have HFN := Lib.hid (fun vs => HT.out.1.fin (Below.refl _ _) HWW.out vs)
          have HQ := Lib.hid HT.out.1.1
          clear hRo HS3 HH0 HR2 HLO
          rcases o2 with _ | ⟨U1, _ | ⟨U2, ur⟩⟩
          · simp only [List.length_nil] at *
            have hth : World.there _ (w.heap.size + 1) 0 [Value.int .i64 1, .int .u64 0, .int .u64 0, .int .u64 0, .int .u64 0, .slice none 0 0, .int .i64 0, .int .i64 0].toArray.size := hB3.there
            have hal : [Value.int .i64 1, .int .u64 0, .int .u64 0, .int .u64 0, .int .u64 0, .slice none 0 0, .int .i64 0, .int .i64 0].toArray.all (·.oneCell') = true := (by rw [litk]; exact reL_all)
            have hin : (Tryd.prog.info? 27).map (·.size) = some [Value.int .i64 1, .int .u64 0, .int .u64 0, .int .u64 0, .int .u64 0, .slice none 0 0, .int .i64 0, .int .i64 0].toArray.size := info_re8
            go_wp2_with ((with_reducible refine wpList_store_mid ?_ 27 (.tmp 2) (.tmp 210) ?_ (w.heap.size + 1) 0 [Value.int .i64 1, .int .u64 0, .int .u64 0, .int .u64 0, .int .u64 0, .slice none 0 0, .int .i64 0, .int .i64 0].toArray ?_ ?_ hth hin hal ?_); exact rfl; exact rfl; exact rfl; exact rfl)
            have hl := load_re (k := 1) (m := fun _ => false) (A := none) (n := 0) (c := 0) (lo := 0) (hi := 0) (store_re hB3 rfl)
            rw [← litk] at hl
            exact ⟨rfl, _, results_cell1 rfl rfl hl, ⟨_, rfl, by rw [HRO.out]; exact at_none 1 _, (HFN.out _).2.2.1⟩⟩
          · obtain ⟨g1, cc1, A1, n1, c1', e1, hg1, hg2, hUat, hUrow⟩ := HQ.out.one
            simp only [List.length_cons, List.length_nil, Nat.zero_add, Value.slice.injEq] at e1
            obtain ⟨rfl, _, rfl⟩ := e1
            obtain ⟨q0, q1, q2, q3, q4, q5, q6, q7⟩ := row_eight hUrow (Below.refl _ _)
            simp only [Nat.zero_add] at q0 q1 q2 q3 q4 q5 q6 q7
            have HU := Lib.hid hUat
            clear hUat hUrow hnl
            simp only [List.length_cons, List.length_nil, Nat.zero_add] at *
            generalize U1.kind = k1 at *
            generalize U1.set = m1 at *
            generalize U1.lo = l1 at *
            generalize U1.hi = h1 at *
            have hth : World.there _ (w.heap.size + 1) 0 (reL k1 m1 A1 n1 c1' l1 h1).toArray.size := hB3.there
            have hal : (reL k1 m1 A1 n1 c1' l1 h1).toArray.all (·.oneCell') = true := reL_all
            have hin : (Tryd.prog.info? 27).map (·.size) = some (reL k1 m1 A1 n1 c1' l1 h1).toArray.size := info_re8
            go_wp2_with ((with_reducible refine wpList_store_mid ?_ 27 (.tmp 2) (.tmp 197) ?_ (w.heap.size + 1) 0 (reL k1 m1 A1 n1 c1' l1 h1).toArray ?_ ?_ hth hin hal ?_); exact rfl; exact rfl; exact rfl; exact rfl)
            have hl := load_re (store_re (k := k1) (m := m1) (A := A1) (n := n1) (c := c1') (lo := l1) (hi := h1) hB3 rfl)
            exact ⟨rfl, _, results_cell1 rfl rfl hl, ⟨_, rfl, by rw [HRO.out]; exact HU.out.sub (HFN.out _).1, (HFN.out _).2.2.1⟩⟩
          · obtain ⟨nO, hnO⟩ : ∃ nO, (U1 :: U2 :: ur).length = nO := ⟨_, rfl⟩
            have hn2 : 2 ≤ nO := by rw [← hnO]; simp
            have e5 : ((nO : Int) == 1) = false := by simp; omega
            have e6 : ((nO : Int) == 0) = false := by simp; omega
            obtain ⟨A8, c8, e8, h8⟩ := hnl
            rw [hnO] at e8 h8 hco hol
            have HQ8 := Lib.hid (And.intro e8 h8)
            have hRR : R = .node 3 (fun _ => false) (U1 :: U2 :: ur) 0 0 := by rw [HRO.out]; rfl
            have HRR := Lib.hid hRR
            rw [hnO]
            clear hRR HQ HRO e8 h8
            have hth : World.there _ (w.heap.size + 1) 0 [Value.int .i64 3, .int .u64 0, .int .u64 0, .int .u64 0, .int .u64 0, .slice Ao nO co, .int .i64 0, .int .i64 0].toArray.size := hB3.there
            have hal : [Value.int .i64 3, .int .u64 0, .int .u64 0, .int .u64 0, .int .u64 0, .slice Ao nO co, .int .i64 0, .int .i64 0].toArray.all (·.oneCell') = true := (by rw [litk]; exact reL_all)
            have hin : (Tryd.prog.info? 27).map (·.size) = some [Value.int .i64 3, .int .u64 0, .int .u64 0, .int .u64 0, .int .u64 0, .slice Ao nO co, .int .i64 0, .int .i64 0].toArray.size := info_re8
            go_wp2_with ((with_reducible refine wpList_store_mid ?_ 27 (.tmp 2) (.tmp 214) ?_ (w.heap.size + 1) 0 [Value.int .i64 3, .int .u64 0, .int .u64 0, .int .u64 0, .int .u64 0, .slice Ao nO co, .int .i64 0, .int .i64 0].toArray ?_ ?_ hth hin hal ?_); exact rfl; exact rfl; exact rfl; exact rfl)
            have hl := load_re (k := 3) (m := fun _ => false) (A := Ao) (n := nO) (c := co) (lo := 0) (hi := 0) (store_re hB3 rfl)
            rw [← litk] at hl
            refine ⟨rfl, _, results_cell1 rfl rfl hl, ⟨_, rfl, ?_, (HFN.out _).2.2.1⟩⟩
            have h9 := HQ8.out
            rw [Value.slice.injEq] at h9
            obtain ⟨⟨rfl, _, rfl⟩, h8⟩ := h9
            rw [HRR.out, litk]
            exact h8.sub (HFN.out _).2.1
end Go.Proofs.YtkladjjeacjgpaaDoor

