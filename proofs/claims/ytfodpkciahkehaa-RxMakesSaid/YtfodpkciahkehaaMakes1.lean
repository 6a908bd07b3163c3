/-
  hacklelaw04.RxMakes ANSWERS true, whatever the trees, the text and the numbers. No condition.
-/
import Derived.Test.YtfodpkciahkehaaThree
import Derived.Test.YtfodpkciahkehaaLang2
import Derived.Test.YtfodpkciahkehaaMadeV
import Derived.Deep.CutRange
import Derived.Test.YtfodpkciahkehaaLaw4a
namespace Go.Proofs.Ytfodpkciahkehaa
open Go.RowKit

def mayAll (l : List Tree) : Bool := l.all (·.mayN)
theorem nodesL_slow : ∀ l : List Tree, (∀ t ∈ l, t.slow = false) → nodesL l ≤ l.length * 20000
  | [] => fun _ => by unfold nodesL; simp
  | t :: r => fun h => by
    have h1 := slow_nodes (h t (by simp))
    have h2 := nodesL_slow r (fun x hx => h x (by simp [hx]))
    unfold nodesL
    rw [List.length_cons]
    omega
theorem mayAll_take {l : List Tree} {j : Nat} (h : j < l.length) : mayAll (l.take (j + 1)) = (mayAll (l.take j) && (l[j]).mayN) := by
  unfold mayAll
  rw [← List.take_append_getElem h, List.all_append]
  simp

theorem rowT_nodes (k : Int) : ∀ l : List Tree, (rowT k (.node 1 (fun _ => false) [] 0 0) l).nodes ≤ nodesL l + 1
  | [] => by show Tree.nodes (.node 1 (fun _ => false) [] 0 0) ≤ _; simp [Tree.nodes, nodesL]
  | [t] => by show t.nodes ≤ _; simp only [nodesL]; omega
  | t :: t2 :: r => by rw [rowT_many k _ (by simp)]; simp only [Tree.nodes]; omega
theorem mayAll_mem {l : List Tree} (h : mayAll l = true) {t : Tree} (ht : t ∈ l) : t.mayN = true := by
  unfold mayAll at h
  rw [List.all_eq_true] at h
  exact h t ht
theorem any_take {l : List Tree} (f : Tree → Bool) {j : Nat} (h : j < l.length) : (l.take (j + 1)).any f = ((l.take j).any f || f l[j]) := by
  rw [← List.take_append_getElem h, List.any_append]
  simp
theorem loadRe_at {w : World} {b o : Nat} {k : Int} {m : Nat → Bool} {A : Option Addr} {q c : Nat} {lo hi : Int} (h : w.rangeAt b o (reL k m A q c lo hi)) : (Instr.loadAt 27 (.pointer (some ⟨b, o, none⟩))).run Try.prog w = .ok (reV k m A q c lo hi) w := by
  obtain ⟨c0, c1, c2, c3, c4, c5, c6, c7⟩ := row_eight h (Below.refl _ _)
  unfold reV reL
  go_simp

set_option maxRecDepth 20000 in
set_option maxHeartbeats 16000000 in
theorem makes_any (l : List Tree) (A : Option Addr) (c : Nat) (s : ByteArray) (x y : Int) (w : World) (hat : l ≠ [] → ∃ g o, A = some ⟨g, o, none⟩ ∧ g < w.heap.size ∧ AllAt w l g o) (hc : l.length ≤ c ∧ c ≤ 9223372036854775807) (hl : l.length ≤ 6) (hs : s.size ≤ 40) :
    Calls Try.prog 5 #[.slice A l.length c, .string s, .agg #[.int .i64 x, .int .i64 y]] w fun e w' => e = .returned (.bool true) ∧ Below w.heap.size w w' := by
  have H0 := Lib.hid (And.intro (BlkIs.new w 38 #[.int .i64 x, .int .i64 y]) ((Below.refl _ w).alloc (Nat.le_refl _) (.cells #[.int .i64 x, .int .i64 y] 38)))
  have HAT := Lib.hid hat
  clear hat
  have d1 : decide ((l.length : Int) > 6) = false := decide_eq_false (by omega)
  have d2 : decide ((s.size : Int) > 40) = false := decide_eq_false (by omega)
  go_enter Try.func5, Try.ntmps5
  go_wp2_with (first
    | (go_at_call 6; go_must (refine (alive_any _).mono ?_); rintro e w1 ⟨rfl, hb⟩; have H1 := Lib.hid (And.intro (H0.out.1.step hb) (H0.out.2.trans (hb.mono H0.out.2.size))); clear hb))
  clear d1 d2
  go_loopw [7, 8] (fun m i wr => ∃ j : Nat, i = .int .i64 j ∧ m = .bool (mayAll (l.take j)) ∧ j ≤ l.length ∧ Hid ((∀ t ∈ l.take j, t.slow = false) ∧ BlkIs wr w.heap.size 38 #[.int .i64 x, .int .i64 y] ∧ Below w.heap.size w wr)) (fun _ i _ => l.length - (intOf i).toNat)
  case atStart => exact ⟨0, rfl, rfl, Nat.zero_le _, Lib.hid ⟨by simp, H1.out⟩⟩
  case round =>
    obtain ⟨j, rfl, rfl, hj, HH⟩ := hrel
    by_cases hp : j < l.length
    · have hdl : decide ((j : Int) < (l.length : Int)) = true := by simp; omega
      obtain ⟨g, o, rfl, hg, ha⟩ := HAT.out (by intro e; subst e; simp at hp)
      obtain ⟨cs, hcat, hlen, hrow⟩ := AllAt.get l g o ha j hp
      obtain ⟨A', n', c', rfl⟩ := hcat.eight
      obtain ⟨r0, r1, r2, r3, r4, r5, r6, r7⟩ := row_eight hrow HH.out.2.2
      have hk1 : IntKind.i64.wrap ((j : Int) + 1) = ((j + 1 : Nat) : Int) := by rw [IntKind.wrap_i64]; omega
      have HX := Lib.hid (hcat.step HH.out.2.2)
      have HS := Lib.hid (fun u (h : (l[j]).At u (reV (l[j]).kind (l[j]).set A' n' c' (l[j]).lo (l[j]).hi)) => slow_any _ _ u h)
      have HM := Lib.hid (fun u (h : (l[j]).At u (reV (l[j]).kind (l[j]).set A' n' c' (l[j]).lo (l[j]).hi)) => refMayRe_any _ _ u h)
      have HTK := Lib.hid (mayAll_take hp)
      have HROW := Lib.hid hrow
      clear hcat hrow
      cases hslow : (l[j]).slow
      · rw [hslow] at HS
        have hnn := slow_nodes hslow
        rw [may_small (by omega)] at HM
        have hns : ∀ t ∈ l.take (j + 1), t.slow = false := by
          intro t ht
          rw [← List.take_append_getElem hp, List.mem_append] at ht
          rcases ht with ht | ht
          · exact HH.out.1 t ht
          · obtain rfl : t = l[j] := by simpa using ht
            exact hslow
        have HNS := Lib.hid hns
        clear hns hnn
        unfold reV reL at *
        generalize (l[j]).mayN = q at *
        generalize mayAll (l.take j) = mm at *
        cases mm
        · go_wp2_with (first
            | (go_at_call 16; go_must (refine (HS.out _ HX.out).mono ?_); rintro e w2 ⟨rfl, hb⟩))
          refine ⟨⟨j + 1, by go_num, by rw [HTK.out]; rfl, by omega, Lib.hid ⟨HNS.out, HH.out.2.1.step hb, HH.out.2.2.trans (hb.mono HH.out.2.2.size)⟩⟩, by simp [intOf]; omega⟩
        · go_wp2_with (first
            | (go_at_call 16; go_must (refine (HS.out _ HX.out).mono ?_); rintro e w2 ⟨rfl, hb⟩; have HB2 := Lib.hid (HH.out.2.2.trans (hb.mono HH.out.2.2.size)); have HK2 := Lib.hid (HH.out.2.1.step hb); have HX2 := Lib.hid (HX.out.step hb); clear hb r0 r1 r2 r3 r4 r5 r6 r7; obtain ⟨r0, r1, r2, r3, r4, r5, r6, r7⟩ := row_eight HROW.out HB2.out)
            | (go_at_call 9; go_must (refine (HM.out _ HX2.out).mono ?_); rintro e w3 ⟨rfl, hb3⟩))
          refine ⟨⟨j + 1, by go_num, by rw [HTK.out]; rfl, by omega, Lib.hid ⟨HNS.out, HK2.out.step hb3, HB2.out.trans (hb3.mono HB2.out.size)⟩⟩, by simp [intOf]; omega⟩
      · rw [hslow] at HS
        unfold reV reL at *
        go_wp2_with (first
          | (go_at_call 16; go_must (refine (HS.out _ HX.out).mono ?_); rintro e w2 ⟨rfl, hb⟩))
        go_ret
        exact ⟨rfl, HH.out.2.2.trans (hb.mono HH.out.2.2.size)⟩
    · have hdl : decide ((j : Int) < (l.length : Int)) = false := by simp; omega
      obtain rfl : j = l.length := by omega
      have HH2 := HH
      rw [List.take_length] at HH2
      rw [List.take_length]
      clear HH
      have hnl : nodesL l ≤ 1099511627776 := by have := nodesL_slow l HH2.out.1; omega
      have HRW := Lib.hid (fun u (hu : Below w.heap.size w u) (hne : l ≠ []) => show ∃ b o, A = some ⟨b, o, none⟩ ∧ AllAt u l b o from (HAT.out hne).imp fun g h => h.imp fun o h => ⟨h.1, h.2.2.step hu⟩)
      obtain ⟨C, hC⟩ : ∃ C, C = rowT 2 (.node 0 (fun _ => false) [] 0 0) l := ⟨_, rfl⟩
      obtain ⟨D, hD⟩ : ∃ D, D = rowT 3 (.node 1 (fun _ => false) [] 0 0) l := ⟨_, rfl⟩
      obtain ⟨X, hX⟩ : ∃ X, X = textT s.data.toList := ⟨_, rfl⟩
      have HCAT := Lib.hid (fun u h => cat_any l A c u h hnl)
      have HALT := Lib.hid (fun u h => alt_any l A c u h hnl)
      have HTXT := Lib.hid (text_any s (by omega))
      rw [← hC] at HCAT
      rw [← hD] at HALT
      rw [← hX] at HTXT
      have HEQ := Lib.hid (And.intro hC (And.intro hD hX))
      clear hC hD hX
      go_wp2_with (first
        | (go_at_call 21; go_must (refine (HCAT.out _ (HRW.out _ HH2.out.2.2)).mono ?_); rintro e u1 ⟨vc, rfl, hvc, hb1⟩; have HB1 := Lib.hid (HH2.out.2.2.trans (hb1.mono HH2.out.2.2.size)); obtain ⟨A1, n1, c1, rfl⟩ := hvc.form)
        | (go_at_call 22; go_must (refine (HALT.out _ (HRW.out _ HB1.out)).mono ?_); rintro e u2 ⟨va, rfl, hva, hb2⟩; have HB2 := Lib.hid (HB1.out.trans (hb2.mono HB1.out.size)); obtain ⟨A2, n2, c2, rfl⟩ := hva.form)
        | (go_at_call 23; go_must (refine (HTXT.out _).mono ?_); rintro e u3 ⟨vx, rfl, hvx, hb3⟩; have HB3 := Lib.hid (HB2.out.trans (hb3.mono HB2.out.size)); obtain ⟨A3, n3, c3, rfl⟩ := hvx.form
           obtain ⟨W4, W5, W6, V, hW4, hW5, hW6, hV, t1, t2, t3, e1, e2, e3, hBV⟩ := three_named u3 C.kind C.lo C.hi D.kind D.lo D.hi X.kind X.lo X.hi C.set D.set X.set A1 A2 A3 n1 c1 n2 c2 n3 c3
           have HT1 := Lib.hid t1
           have HT2 := Lib.hid t2
           have HT3 := Lib.hid t3
           have HW5 := Lib.hid hW5
           have HW6 := Lib.hid hW6
           have HVV := Lib.hid hV
           have HV := Lib.hid (And.intro e1 (And.intro e2 (And.intro e3 hBV)))
           have HC := Lib.hid (And.intro hvc (And.intro hva (And.intro hvx (And.intro hb2 (And.intro hb3 hb1)))))
           clear t1 t2 t3 hV hW5 hW6 e1 e2 e3 hBV hvc hva hvx hb1 hb2 hb3
           unfold zeroL at hW4)
        | (rw [← hW4]; clear hW4)
        | (refine wpList_store_mid rfl 27 (.tmp 9) (.tmp 45) rfl u3.heap.size 0 (reL C.kind C.set A1 n1 c1 C.lo C.hi).toArray rfl rfl HT1.out.there info_re8 reL_all ?_; rw [← HW5.out])
        | (refine wpList_store_mid rfl 27 (.tmp 10) (.tmp 47) rfl (u3.heap.size + 1) 0 (reL D.kind D.set A2 n2 c2 D.lo D.hi).toArray rfl rfl HT2.out.there info_re8 reL_all ?_; rw [← HW6.out])
        | (refine wpList_store_mid rfl 27 (.tmp 11) (.tmp 49) rfl (u3.heap.size + 1 + 1) 0 (reL X.kind X.set A3 n3 c3 X.lo X.hi).toArray rfl rfl HT3.out.there info_re8 reL_all ?_; rw [← HVV.out]))
      have hz4 : ∀ i, (wd (fun _ => false) i : Nat) = 0 := wd_zero
      have hbV := HV.out.2.2.2
      have hBw : Below w.heap.size w V := HB3.out.trans (hbV.mono HB3.out.size)
      have hvC : Tree.At V C (reV C.kind C.set A1 n1 c1 C.lo C.hi) := ((HC.out.1.step HC.out.2.2.2.1).step HC.out.2.2.2.2.1).step hbV
      have hvD : Tree.At V D (reV D.kind D.set A2 n2 c2 D.lo D.hi) := (HC.out.2.1.step HC.out.2.2.2.2.1).step hbV
      have hvX : Tree.At V X (reV X.kind X.set A3 n3 c3 X.lo X.hi) := HC.out.2.2.1.step hbV
      have HIN := Lib.hid ((((HH2.out.2.1.step HC.out.2.2.2.2.2).step HC.out.2.2.2.1).step HC.out.2.2.2.2.1).step hbV)
      have hz0 : Tree.At V (.node 0 (fun _ => false) [] 0 0) (reV 0 (fun _ => false) none 0 0 0 0) := by
        unfold Tree.At
        exact ⟨none, 0, rfl, ⟨Nat.le_refl _, by omega⟩, fun h => absurd rfl h⟩
      have hz1 : Tree.At V (.node 1 (fun _ => false) [] 0 0) (reV 1 (fun _ => false) none 0 0 0 0) := by
        unfold Tree.At
        exact ⟨none, 0, rfl, ⟨Nat.le_refl _, by omega⟩, fun h => absurd rfl h⟩
      obtain ⟨v2, hv2, hm2⟩ := madeV_is V 2 l A c _ _ (HRW.out _ hBw) hc hz0
      obtain ⟨v3, hv3, hm3⟩ := madeV_is V 3 l A c _ _ (HRW.out _ hBw) hc hz1
      rw [← HEQ.out.1] at hv2
      rw [← HEQ.out.2.1] at hv3
      obtain ⟨A4, n4, c4, rfl⟩ := hv2.form
      obtain ⟨A5, n5, c5, rfl⟩ := hv3.form
      have HM2 := Lib.hid (fun u (h : Below V.heap.size V u) => madeRow_val 2 l A c 0 0 0 (fun _ => false) none 0 0 u V (sub_below h) _ hm2 hc)
      have HM3 := Lib.hid (fun u (h : Below V.heap.size V u) => madeRow_val 3 l A c 1 0 0 (fun _ => false) none 0 0 u V (sub_below h) _ hm3 hc)
      have HSC := Lib.hid (fun u (h : Below V.heap.size V u) => refSame_any C C _ _ u (hvC.step h) (hv2.step h))
      have HSD := Lib.hid (fun u (h : Below V.heap.size V u) => refSame_any D D _ _ u (hvD.step h) (hv3.step h))
      rw [same_refl] at HSC HSD
      have HVC := Lib.hid (And.intro hvC (And.intro hvD hvX))
      have HBW := Lib.hid hBw
      have HEI := Lib.hid (fun u (h : Below V.heap.size V u) => And.intro (HV.out.1.step h).eight (And.intro (HV.out.2.1.step h).eight (HV.out.2.2.1.step h).eight))
      clear hbV hBw hvC hvD hvX hz0 hz1 hv2 hm2 hv3 hm3
      unfold reV reL at HM2 HM3 HSC HSD
      simp only [hz4, Int.natCast_zero] at HM2 HM3
      clear hz4
      unfold reL at HEI
      refine wp_region_reads 140 (fun u => Below V.heap.size V u ∧ Below w.heap.size w u) (by kernel_rfl) (by kernel_rfl) rfl ⟨(Below.refl _ _).drew, HBW.out.drew⟩ (fun u u' h hb => ⟨h.1.trans (hb.mono h.1.size), h.2.trans (hb.mono h.2.size)⟩) ?_
      repeat
        refine freeW_step fun K hK => ?_
        (first
          | refine freeW_yes 6 56 false rfl rfl (by go_simp) ?_
          | skip)
        go_simp
        apply Exists.intro
        refine ⟨fun u h1 h2 => ?_, hK _ ?_⟩
        · have H1 := Lib.hid h1
          clear h1 h2
          obtain ⟨⟨a0, a1, a2, a3, a4, a5, a6, a7⟩, ⟨b0, b1, b2, b3, b4, b5, b6, b7⟩, _⟩ := HEI.out u H1.out
          unfold freeAt
          go_simp
          first
            | exact free_val
            | (apply free_call
               first
                 | (go_at_call 24; first | with_reducible exact HM2.out _ H1.out | with_reducible exact HM3.out _ H1.out)
                 | (go_at_call 15; first | with_reducible exact HSC.out _ H1.out | with_reducible exact HSD.out _ H1.out))
        clear hK K
      refine freeW_nil ?_
      intro v4 hv4 _
      have HV4 := Lib.hid hv4
      clear hv4
      clear HM2 HM3 HSC HSD
      go_upto_if 66 with (fail)
      go_cut [6] from 64 to 84 (fun _ wx => Hid (Below V.heap.size V wx ∧ Below w.heap.size w wx))
      case first =>
        by_cases hpos : 0 < l.length
        · have dpos : decide ((l.length : Int) > 0) = true := decide_eq_true (by omega)
          go_wp2_with fail
          clear dpos
          obtain ⟨b, o, rfl, ha⟩ := HRW.out v4 HV4.out.2 (by intro e; subst e; simp at hpos)
          obtain ⟨cs, hcat, hlen, hrow⟩ := AllAt.get l b o ha 0 hpos
          obtain ⟨A6, n6, c6, rfl⟩ := hcat.eight
          rw [show o + 0 * 8 = o by omega] at hrow
          have hc1 : 1 ≤ c := by omega
          have hc1i : (1 : Int) ≤ (c : Int) := by omega
          have hz4 : ∀ i, (wd (fun _ => false) i : Nat) = 0 := wd_zero
          have hall : AllAt v4 [l[0]] b o := AllAt.mk [l[0]] b o fun i hi => by
            obtain rfl : i = 0 := by simpa using hi
            rw [show o + 0 * 8 = o by omega]
            exact ⟨_, hcat, hlen, hrow⟩
          have hwant : Tree.At v4 (.node 4 (fun _ => false) [l[0]] x y) (reV 4 (fun _ => false) (some ⟨b, o, none⟩) 1 c x y) := by
            unfold Tree.At
            exact ⟨_, c, rfl, ⟨hc1, hc.2⟩, fun _ => ⟨b, o, rfl, hall⟩⟩
          have hn0 : (l[0]).nodes ≤ 1099511627776 := by
            have := slow_nodes (HH2.out.1 l[0] (List.getElem_mem hpos))
            omega
          have hone : (Tree.node 4 (fun _ => false) [l[0]] x y).same (.node 4 (fun _ => false) [l[0]] x y) = true := same_refl _
          have HT := Lib.hid (And.intro hcat (And.intro hrow (And.intro hwant (And.intro hn0 hone))))
          have HI4 := Lib.hid (HIN.out.step HV4.out.1)
          clear ha hlen hcat hrow hall hwant hn0 hone
          refine wp_region_free 7 8 140 (fun u => Below v4.heap.size v4 u) (fun _ => zeroL.toArray) (fun _ => 27) (by kernel_rfl) (by kernel_rfl) rfl (Below.refl _ _).drew (fun u u' h hb => h.trans (hb.mono h.size)) ?_ ?_
          · intro i o h1 h2 ho
            obtain rfl : i = 7 := by omega
            simp at ho
            subst ho
            refine ⟨rfl, fun a u => ?_⟩
            unfold zeroL
            go_simp
          · simp only [List.take_succ_cons, List.take_zero, List.drop_succ_cons, List.drop_zero]
            repeat
              refine freeW_step fun K hK => ?_
              go_simp
              apply Exists.intro
              refine ⟨fun u h1 => ?_, hK _ ?_⟩
              · have c0 := (HI4.out.step h1).cell 0
                have c1 := (HI4.out.step h1).cell 1
                clear h1
                simp at c0 c1
                unfold freeAt
                go_simp
                exact free_val
              clear hK K
            refine freeW_nil ?_
            intro g u hC hb hn hd
            obtain ⟨hp0, hp1⟩ := hn 7 (by omega) (by omega)
            simp only [putNews, Act.put, List.setIfInBounds_toArray, List.set_cons_zero, List.set_cons_succ]
            generalize g 7 = p at *
            have hU := HV4.out
            have hb8 := hC
            have ht := hp1.there
            have ht2 : u.there p 0 (reL 4 (fun _ => false) (some ⟨b, o, none⟩) 1 c x y).toArray.size := ht
            have hX := store_re (k := 4) (m := fun _ => false) (A := some ⟨b, o, none⟩) (n := 1) (c := c) (lo := x) (hi := y) hp1 rfl
            have hB4 := below_cells p (reL 4 (fun _ => false) (some ⟨b, o, none⟩) 1 c x y) 0 _ hp0 hC
            refine wpList_store_mid rfl 27 (.tmp 12) (.tmp 73) rfl p 0 (reL 4 (fun _ => false) (some ⟨b, o, none⟩) 1 c x y).toArray rfl (by simp only [reL, hz4]; rfl) ht2 info_re8 reL_all ?_
            simp only [Act.put]
            generalize hU4 : World.setCells u p 0 _ = U at *
            have HU := Lib.hid (And.intro hX hB4)
            clear ht ht2 hX hB4 hb hn hd hC hp0 hp1 hU hb8 hU4
            go_wp2_with fail
            have hposi : (0 : Int) < (l.length : Int) := by omega
            refine wp_region_held_drew (S := fun u => Below v4.heap.size v4 u ∧ Below U.heap.size U u) (by kernel_rfl) ⟨HU.out.2.drew, (Below.refl _ _).drew⟩ ?_
            intro hS0
            refine wpAnyH_take (i := 8) (v := reV 4 (fun _ => false) (some ⟨b, o, none⟩) 1 c x y) rfl (by kernel_rfl) (by kernel_rfl) (by kernel_rfl) (fun _ _ _ h => h) (.inl ⟨rfl, fun u hu => exec_load4 27 (.tmp 12) _ rfl rfl (loadRe (HU.out.1.step hu.2))⟩) hS0 ?_
            refine wpAnyH_take (i := 0) (v := .slice (some ⟨b, o, none⟩) l.length c) rfl (by kernel_rfl) (by kernel_rfl) (by kernel_rfl) (fun _ _ _ h => h) (.inl ⟨rfl, fun u hu => by go_simp⟩) hS0 ?_
            refine wpAnyH_take (i := 1) (v := .pointer (some ⟨b, o, none⟩)) rfl (by kernel_rfl) (by kernel_rfl) (by kernel_rfl) (fun _ _ _ h => h) (.inl ⟨rfl, fun u hu => by go_simp⟩) hS0 ?_
            refine wpAnyH_take (i := 2) (v := reV (l[0]).kind (l[0]).set A6 n6 c6 (l[0]).lo (l[0]).hi) rfl (by kernel_rfl) (by kernel_rfl) (by kernel_rfl) (fun _ _ _ h => h) (.inl ⟨rfl, fun u hu => exec_load4 27 (.tmp 75) _ rfl rfl (loadRe_at (rangeAt_step HT.out.2.1 (by simp [reL]) hu.1))⟩) hS0 ?_
            refine wpAnyH_take (i := 3) (v := .pointer (some ⟨w.heap.size, 0, none⟩)) rfl (by kernel_rfl) (by kernel_rfl) (by kernel_rfl) (fun _ _ _ h => h) (.inl ⟨rfl, fun u hu => by go_simp⟩) hS0 ?_
            refine wpAnyH_take (i := 4) (v := .int .i64 x) rfl (by kernel_rfl) (by kernel_rfl) (by kernel_rfl) (fun _ _ _ h => h) (.inl ⟨rfl, fun u hu => by
              have c0 := (HI4.out.step hu.1).cell 0
              simp at c0
              go_simp⟩) hS0 ?_
            refine wpAnyH_take (i := 5) (v := .pointer (some ⟨w.heap.size, 1, none⟩)) rfl (by kernel_rfl) (by kernel_rfl) (by kernel_rfl) (fun _ _ _ h => h) (.inl ⟨rfl, fun u hu => by go_simp⟩) hS0 ?_
            refine wpAnyH_take (i := 6) (v := .int .i64 y) rfl (by kernel_rfl) (by kernel_rfl) (by kernel_rfl) (fun _ _ _ h => h) (.inl ⟨rfl, fun u hu => by
              have c0 := (HI4.out.step hu.1).cell 1
              simp at c0
              go_simp⟩) hS0 ?_
            refine wpAnyH_ready (rs := [7]) (by kernel_rfl) (by simp) ?_
            refine AllReadyH.cons rfl (fun K hK => ?_) AllReadyH.nil
            go_simp
            go_at_call 25
            refine (rep_any _ _ x y _ (HT.out.1.step hS0.1) HT.out.2.2.2.1).mono ?_
            rintro e v6 ⟨vr, rfl, hvr, hb6⟩
            obtain ⟨A7, n7, c7, rfl⟩ := hvr.form
            refine hK.out _ _ ⟨hS0.1.trans (hb6.mono hS0.1.size), hS0.2.trans (hb6.mono hS0.2.size)⟩ (fun hS1 => ?_)
            clear hK K hS0 hb6
            have HE := Lib.hid (refSame_any _ _ _ _ v6 hvr (HT.out.2.2.1.step hS1.1))
            rw [HT.out.2.2.2.2] at HE
            clear hvr
            refine wpAnyH_ready (rs := [9]) (by kernel_rfl) (by simp) ?_
            refine AllReadyH.cons rfl (fun K hK => ?_) AllReadyH.nil
            go_simp
            go_at_call 15
            refine HE.out.mono ?_
            rintro e v7 ⟨rfl, hb7⟩
            refine hK.out _ _ ⟨hS1.1.trans (hb7.mono hS1.1.size), hS1.2.trans (hb7.mono hS1.2.size)⟩ (fun hS2 => ?_)
            clear hK K hS1 hb7
            refine wpAnyH_ready (rs := [10]) (by kernel_rfl) (by simp) ?_
            refine AllReadyH.cons rfl (fun K hK => ?_) AllReadyH.nil
            go_simp
            refine hK.out _ _ hS2 (fun hS3 => ?_)
            clear hK K
            refine wpAnyH_done (by kernel_rfl) ?_ _
            have HS3 := Lib.hid hS3
            clear hS2 hS3
            go_wp2_with fail
            go_meet
            case rel => exact Lib.hid ⟨HV4.out.1.trans (HS3.out.1.mono HV4.out.1.size), HV4.out.2.trans (HS3.out.1.mono HV4.out.2.size)⟩
        · have dpos : decide ((l.length : Int) > 0) = false := decide_eq_false (by omega)
          go_wp2_with fail
          go_meet
          case rel => exact HV4
      case rest =>
        have hsl : s.data.toList.length = s.size := rfl
        have htm : X.mayN = true := by rw [HEQ.out.2.2]; exact text_may _ (by omega)
        have hts : X.takes s.data.toList = true := by rw [HEQ.out.2.2]; exact text_self _
        have htn : X.nodes ≤ s.size + 1 := by rw [HEQ.out.2.2]; exact text_nodes _
        have hxok : X.ok = true := may_ok htm
        have hoth : ∀ s' : ByteArray, s'.size ≠ s.size → X.takes s'.data.toList = false := fun s' h => by rw [HEQ.out.2.2]; exact text_other _ _ h
        have HRM := Lib.hid (fun u (h : Below V.heap.size V u) => refMayRe_any X _ u (HVC.out.2.2.step h))
        have HRT := Lib.hid (fun u (h : Below V.heap.size V u) => refTakes_any X _ s (by omega) u hxok (HVC.out.2.2.step h))
        have HRN := Lib.hid (fun u (h : Below V.heap.size V u) => refNodes_any X _ u (HVC.out.2.2.step h))
        have hwn : IntKind.i64.wrap (X.nodes : Int) = (X.nodes : Int) := by rw [IntKind.wrap_i64]; omega
        rw [may_small (by omega), htm] at HRM
        rw [hts] at HRT
        rw [hwn] at HRN
        unfold reV reL at HRM HRT HRN
        have hws : IntKind.i64.wrap ((s.size : Int) + 1) = (s.size : Int) + 1 := by rw [IntKind.wrap_i64]; omega
        have dgt : decide ((X.nodes : Int) > (s.size : Int) + 1) = false := decide_eq_false (by omega)
        have HOTH := Lib.hid hoth
        clear hsl htm hts htn hwn hoth
        have HXOK := Lib.hid hxok
        clear hxok
        go_upto_region 19 with (fail)
        go_cut [112] from 85 to 111 (fun t wx => t = .bool false ∧ Hid (Below V.heap.size V wx ∧ Below w.heap.size w wx))
        case first =>
          obtain ⟨qq, dpos⟩ : ∃ qq, decide ((s.size : Int) > 0) = qq := ⟨_, rfl⟩
          refine wp_region_reads 140 (fun u => Below V.heap.size V u ∧ Below w.heap.size w u) (by kernel_rfl) (by kernel_rfl) rfl ⟨hcut.out.1.drew, hcut.out.2.drew⟩ (fun u u' h hb => ⟨h.1.trans (hb.mono h.1.size), h.2.trans (hb.mono h.2.size)⟩) ?_
          repeat
            refine freeW_step fun K hK => ?_
            (first
              | refine freeW_yes 3 88 false rfl rfl (by go_simp) ?_
              | refine freeW_yes 9 94 false rfl rfl (by go_simp) ?_
              | refine freeW_yes 17 102 false rfl rfl (by go_simp) ?_
              | skip)
            go_simp
            apply Exists.intro
            refine ⟨fun u h1 h2 => ?_, hK _ ?_⟩
            · have H1 := Lib.hid h1
              clear h1 h2
              obtain ⟨_, _, ⟨a0, a1, a2, a3, a4, a5, a6, a7⟩⟩ := HEI.out u H1.out
              unfold freeAt
              go_simp
              first
                | exact free_val
                | (apply free_call
                   first
                     | (go_at_call 9; exact HRM.out _ H1.out)
                     | (go_at_call 26; exact HRT.out _ H1.out)
                     | (go_at_call 11; exact HRN.out _ H1.out)
                   )
            clear hK K
          cases qq
          rotate_left
          · have hpos := of_decide_eq_true dpos
            have hpi : (1 : Int) ≤ (s.size : Int) := by omega
            have hpos2 : 0 < s.size := by omega
            have hd2 : decide (0 < s.size) = true := decide_eq_true (by omega)
            rw [hd2]
            have hse : (s.extract 1 s.size).size = s.size - 1 := by rw [ByteArray.size_extract]; omega
            have HRT2 := Lib.hid (fun u (h : Below V.heap.size V u) => refTakes_any X _ (s.extract 1 s.size) (by omega) u HXOK.out (HVC.out.2.2.step h))
            rw [HOTH.out _ (by omega)] at HRT2
            unfold reV reL at HRT2
            clear hse
            repeat
              refine freeW_step fun K hK => ?_
              (first
                | refine freeW_yes 17 102 false rfl rfl (by go_simp) ?_
                | refine freeW_yes 21 106 true rfl rfl (by go_simp) ?_
                | skip)
              go_simp
              apply Exists.intro
              refine ⟨fun u h1 h2 => ?_, hK _ ?_⟩
              · have H1 := Lib.hid h1
                clear h1 h2
                obtain ⟨_, _, ⟨a0, a1, a2, a3, a4, a5, a6, a7⟩⟩ := HEI.out u H1.out
                unfold freeAt
                go_simp
                first
                  | exact free_val
                  | (apply free_call
                     first
                       | (go_at_call 26; exact HRT2.out _ H1.out)
                     )
              clear hK K
            refine freeW_nil ?_
            intro u hu _
            have HU := Lib.hid hu
            clear hu
            go_wp2_with fail
            go_meet
            case rel => exact ⟨rfl, HU⟩
          · have hneg := of_decide_eq_false dpos
            have hd2 : decide (0 < s.size) = false := decide_eq_false (by omega)
            rw [hd2]
            repeat
              refine freeW_step fun K hK => ?_
              first
                | ((first
                      | refine freeW_no 21 106 true rfl rfl (by go_simp) ?_)
                   have HK := Go.Lib.hid hK
                   clear hK
                   go_simp
                   have hK := HK.out
                   clear HK
                   refine hK _ ?_
                   clear hK K)
                | (skip
                   (first
                     | refine freeW_yes 17 102 false rfl rfl (by go_simp) ?_
                     | skip)
                   go_simp
                   apply Exists.intro
                   refine ⟨fun u h1 h2 => ?_, hK _ ?_⟩
                   · have H1 := Lib.hid h1
                     clear h1 h2
                     obtain ⟨_, _, ⟨a0, a1, a2, a3, a4, a5, a6, a7⟩⟩ := HEI.out u H1.out
                     unfold freeAt
                     go_simp
                     first
                       | exact free_val
                       | (apply free_call
                          first
                            | (go_at_call 9; exact HRM.out _ H1.out)
                            | (go_at_call 26; exact HRT.out _ H1.out)
                            | (go_at_call 11; exact HRN.out _ H1.out)
                          )
                   clear hK K)
            refine freeW_nil ?_
            intro u hu _
            have HU := Lib.hid hu
            clear hu
            go_wp2_with fail
            go_meet
            case rel => exact ⟨rfl, HU⟩
        case rest =>
          obtain ⟨rfl, HU⟩ := hcut
          have hdn : D.nodes ≤ 1099511627776 := by
            rw [HEQ.out.2.1]
            have h1 := nodesL_slow l HH2.out.1
            have h2 : (rowT 3 (.node 1 (fun _ => false) [] 0 0) l).nodes ≤ nodesL l + 1 := rowT_nodes 3 l
            omega
          have HDM := Lib.hid (fun u (h : Below V.heap.size V u) => refMayRe_any D _ u (HVC.out.2.1.step h))
          have HAN := Lib.hid (show D.takes s.data.toList = l.any fun t => t.takes s.data.toList by rw [HEQ.out.2.1]; exact alt_takes _ l)
          have HDT := Lib.hid (fun (hd : D.mayN = true) u (h : Below V.heap.size V u) => refTakes_any D _ s (by omega) u (may_ok hd) (HVC.out.2.1.step h))
          rw [may_small (by omega)] at HDM
          rw [HAN.out] at HDT
          unfold reV reL at HDM HDT
          clear HRM HRT HRN hws dgt HOTH HXOK hdn
          obtain ⟨_, ⟨b0, b1, b2, b3, b4, b5, b6, b7⟩, _⟩ := HEI.out wc HU.out.1
          cases hmm : mayAll l
          · go_wp2_with fail
            go_ret
            exact ⟨rfl, HU.out.2⟩
          cases hdm : D.mayN
          · rw [hdm] at HDM
            go_wp2_with (first
              | (go_at_call 9; go_must (refine (HDM.out _ HU.out.1).mono ?_); rintro e u4 ⟨rfl, hb4⟩))
            go_ret
            exact ⟨rfl, HU.out.2.trans (hb4.mono HU.out.2.size)⟩
          · rw [hdm] at HDM
            have HDT2 := Lib.hid (HDT.out hdm)
            clear HDT
            have HMM := Lib.hid hmm
            clear hmm hdm
            go_wp2_with (first
              | (go_at_call 9; go_must (refine (HDM.out _ HU.out.1).mono ?_); rintro e u4 ⟨rfl, hb4⟩; have HU4 := Lib.hid (And.intro (HU.out.1.trans (hb4.mono HU.out.1.size)) (HU.out.2.trans (hb4.mono HU.out.2.size))); clear hb4))
            clear b0 b1 b2 b3 b4 b5 b6 b7
            go_loopw [13, 14] (fun m i wz => ∃ j : Nat, i = .int .i64 j ∧ m = .bool ((l.take j).any fun t => t.takes s.data.toList) ∧ j ≤ l.length ∧ Hid (Below V.heap.size V wz ∧ Below w.heap.size w wz)) (fun _ i _ => l.length - (intOf i).toNat)
            case atStart => exact ⟨0, rfl, rfl, Nat.zero_le _, HU4⟩
            case round =>
              obtain ⟨j, rfl, rfl, hj, HH⟩ := hrel
              by_cases hp : j < l.length
              · have hdl : decide ((j : Int) < (l.length : Int)) = true := by simp; omega
                obtain ⟨g, o, rfl, ha⟩ := HRW.out _ HH.out.2 (by intro e; subst e; simp at hp)
                obtain ⟨cs, hcat, hlen, hrow⟩ := AllAt.get l g o ha j hp
                obtain ⟨A', n', c', rfl⟩ := hcat.eight
                obtain ⟨r0, r1, r2, r3, r4, r5, r6, r7⟩ := row_eight hrow (Below.refl _ _)
                have hk1 : IntKind.i64.wrap ((j : Int) + 1) = ((j + 1 : Nat) : Int) := by rw [IntKind.wrap_i64]; omega
                have HTK := Lib.hid (any_take (fun t => t.takes s.data.toList) hp)
                have HC := Lib.hid (refTakes_any (l[j]) _ s (by omega) _ (may_ok (mayAll_mem HMM.out (List.getElem_mem hp))) hcat)
                clear ha hlen hrow hcat
                generalize (l[j]).takes s.data.toList = q at *
                generalize (l.take j).any (fun t => t.takes s.data.toList) = mm at *
                cases mm
                · go_wp2_with (first
                    | (go_at_call 26; go_must (refine HC.out.mono ?_); rintro e w2 ⟨rfl, hb⟩))
                  refine ⟨⟨j + 1, by go_num, by rw [HTK.out]; rfl, by omega, Lib.hid ⟨HH.out.1.trans (hb.mono HH.out.1.size), HH.out.2.trans (hb.mono HH.out.2.size)⟩⟩, by simp [intOf]; omega⟩
                · go_wp2
                  refine ⟨⟨j + 1, by go_num, by rw [HTK.out]; rfl, by omega, HH⟩, by simp [intOf]; omega⟩
              · have hdl : decide ((j : Int) < (l.length : Int)) = false := by simp; omega
                obtain rfl : j = l.length := by omega
                rw [List.take_length]
                obtain ⟨_, ⟨b0, b1, b2, b3, b4, b5, b6, b7⟩, _⟩ := HEI.out _ HH.out.1
                generalize (l.any fun t => t.takes s.data.toList) = q at *
                go_wp2_with (first
                  | (go_at_call 26; go_must (refine (HDT2.out _ HH.out.1).mono ?_); rintro e w2 ⟨rfl, hb⟩))
                go_ret
                exact ⟨by simp, HH.out.2.trans (hb.mono HH.out.2.size)⟩

set_option maxRecDepth 20000 in
set_option maxHeartbeats 16000000 in
/-- what is greater than the law looks at -/
theorem makes_great (A : Option Addr) (n c : Nat) (s : ByteArray) (x y : Int) (w : World) (hs : s.size ≤ 9223372036854775807) (hg : 6 < n ∨ 40 < s.size) :
    Calls Try.prog 5 #[.slice A n c, .string s, .agg #[.int .i64 x, .int .i64 y]] w fun e w' => e = .returned (.bool true) ∧ Below w.heap.size w w' := by
  have H0 := Lib.hid ((Below.refl _ w).alloc (Nat.le_refl _) (.cells #[.int .i64 x, .int .i64 y] 38))
  by_cases h6 : 6 < n
  · have d1 : decide ((n : Int) > 6) = true := decide_eq_true (by omega)
    clear hg
    go_enter Try.func5, Try.ntmps5
    go_wp2_with (first
      | (go_at_call 6; go_must (refine (alive_any _).mono ?_); rintro e w1 ⟨rfl, hb⟩; have H1 := Lib.hid (H0.out.trans (hb.mono H0.out.size)); clear hb))
    go_ret
    exact ⟨rfl, H1.out⟩
  · have d1 : decide ((n : Int) > 6) = false := decide_eq_false (by omega)
    have d2 : decide ((s.size : Int) > 40) = true := decide_eq_true (by omega)
    clear hg h6
    go_enter Try.func5, Try.ntmps5
    go_wp2_with (first
      | (go_at_call 6; go_must (refine (alive_any _).mono ?_); rintro e w1 ⟨rfl, hb⟩; have H1 := Lib.hid (H0.out.trans (hb.mono H0.out.size)); clear hb))
    go_ret
    exact ⟨rfl, H1.out⟩

theorem rxMakes_any (l : List Tree) (A : Option Addr) (c : Nat) (s : ByteArray) (x y : Int) (w : World) (hat : l ≠ [] → ∃ g o, A = some ⟨g, o, none⟩ ∧ g < w.heap.size ∧ AllAt w l g o) (hc : l.length ≤ c ∧ c ≤ 9223372036854775807) (hs : s.size ≤ 9223372036854775807) :
    Calls Try.prog 5 #[.slice A l.length c, .string s, .agg #[.int .i64 x, .int .i64 y]] w fun e w' => e = .returned (.bool true) ∧ Below w.heap.size w w' := by
  by_cases h : l.length ≤ 6 ∧ s.size ≤ 40
  · exact makes_any l A c s x y w hat hc h.1 h.2
  · exact makes_great A l.length c s x y w hs (by omega)

end Go.Proofs.Ytfodpkciahkehaa
