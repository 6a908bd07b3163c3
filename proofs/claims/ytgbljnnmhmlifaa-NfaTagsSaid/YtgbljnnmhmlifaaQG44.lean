/-
  hacklelaw08.NfaTags ANSWERS true, whatever the rules and the text: the walk. No condition.
-/
import Derived.Test.YtgbljnnmhmlifaaQG43
namespace Go.Proofs.Ytgbljnnmhmlifaa
open Go.RowKit

attribute [local irreducible] FreeW

set_option maxRecDepth 20000 in
set_option maxHeartbeats 16000000 in
theorem nfaTags_any (l : List Tree) (s : ByteArray) (v : Value) (w : World) (hat : TreesV w l v) : Calls Try.prog 4 #[v, .string s] w fun e w' => e = .returned (.bool true) ∧ Below w.heap.size w w' := by
  have HT := Lib.hid (fun (u : World) (hu : Below w.heap.size w u) => hat.step hu)
  have HAL := Lib.hid (alive8_any w)
  have HGR := Lib.hid (fun (u : World) (hu : Below w.heap.size w u) => great8_any l v u (hat.step hu))
  have HMY := Lib.hid (fun (u : World) (hu : Below w.heap.size w u) => may8_any l v u (hat.step hu))
  unfold Great8 at HGR
  obtain ⟨A, c, rfl, hc, hs⟩ := hat
  clear hs
  go_enter Try.func4, Try.ntmps4
  go_wp2_with fail
  go_at_call 5
  refine HAL.out.mono ?_
  rintro e w1 ⟨rfl, hb1⟩
  have HB1 := Lib.hid hb1
  clear hb1
  go_wp2_with fail
  go_at_call 6
  refine (HGR.out _ HB1.out).mono ?_
  rintro e w2 ⟨⟨gb, rfl, hgb⟩, hb2⟩
  have HB2 := Lib.hid (HB1.out.trans (hb2.mono HB1.out.size))
  have HGB := Lib.hid hgb
  clear hb2 hgb
  cases gb with
  | true =>
    go_wp2
    go_ret
    exact ⟨rfl, HB2.out⟩
  | false =>
    by_cases hs40 : 40 < s.size
    · have q1 : decide ((s.size : Int) > 40) = true := by simp; omega
      have q2 : decide ((40 : Int) < (s.size : Int)) = true := by simp; omega
      go_wp2
      go_ret
      exact ⟨rfl, HB2.out⟩
    have q1 : decide ((s.size : Int) > 40) = false := by simp; omega
    have q2 : decide ((40 : Int) < (s.size : Int)) = false := by simp; omega
    go_wp2_with fail
    go_at_call 11
    refine (HMY.out _ HB2.out).mono ?_
    rintro e w3 ⟨rfl, hb3⟩
    have HB3 := Lib.hid (HB2.out.trans (hb3.mono HB2.out.size))
    clear hb3
    obtain ⟨mb, hmb⟩ : ∃ mb, mayL l = mb := ⟨_, rfl⟩
    rw [hmb]
    have HMB := Lib.hid hmb
    clear hmb
    cases mb with
    | false =>
      go_wp2
      go_ret
      exact ⟨rfl, HB3.out⟩
    | true =>
      have hG := HGB.out (by trivial)
      obtain ⟨hl1, hl40, hall⟩ := light hG.2.1 HMB.out
      have HL := Lib.hid (And.intro hG.2.1 (And.intro hall (hG.2.2 fun t ht => (hall t ht).2)))
      clear hG hall
      go_wp2
      go_loopw [5] (fun i wr => ∃ (j : Nat), i = .int .i64 j ∧ j ≤ l.length ∧ Hid (Below w.heap.size w wr)) (fun i _ => l.length - (intOf i).toNat)
      case atStart => exact ⟨0, rfl, Nat.zero_le _, HB3⟩
      case round =>
        obtain ⟨j, rfl, hj, HH⟩ := hrel
        by_cases hp : j < l.length
        · have hdl : decide ((j : Int) < (l.length : Int)) = true := by simp; omega
          obtain ⟨A9, c9, e9, _, hs9⟩ := HT.out w (Below.refl _ _)
          obtain ⟨b, o, e8, hbw, hg⟩ := hs9 (by intro e; subst e; simp at hp)
          subst e8
          obtain ⟨rfl, rfl⟩ : A = some ⟨b, o, none⟩ ∧ c = c9 := by simpa using e9
          clear e9 hs9
          obtain ⟨A', n', c', hcat, hrow⟩ := rangeT hg hp
          obtain ⟨r0, r1, r2, r3, r4, r5, r6, r7⟩ := row_eight hrow HH.out
          have hk1 : IntKind.i64.wrap ((j : Int) + 1) = ((j + 1 : Nat) : Int) := by rw [IntKind.wrap_i64]; omega
          have hV := heavy_any l[j] _ wr (hcat.step HH.out)
          rw [(HL.out.1 _ (List.getElem_mem hp)).2] at hV
          unfold reL at hV
          have HV := Lib.hid hV
          clear hcat hrow hV hg
          generalize (l[j]).kind = kk at *
          generalize (l[j]).set = mm at *
          generalize (l[j]).lo = ll at *
          generalize (l[j]).hi = hh at *
          go_wp2_with fail
          go_at_call 16
          refine HV.out.mono ?_
          rintro e u1 ⟨rfl, hu1⟩
          have HU1 := Lib.hid (HH.out.trans (hu1.mono HH.out.size))
          clear hu1 r0 r1 r2 r3 r4 r5 r6 r7
          go_wp2
          exact ⟨⟨j + 1, by go_num, hp, HU1⟩, by simp [intOf]; omega⟩
        · have hdl : decide ((j : Int) < (l.length : Int)) = false := by simp; omega
          obtain rfl : j = l.length := by omega
          have HX := HH
          clear HH
          by_cases hsum : 2000 < sumP l
          · have HBD := Lib.hid (build_much HL.out.1 HMB.out hsum _ wr (HT.out wr HX.out))
            go_wp2_with fail
            go_at_call 7
            refine HBD.out.mono ?_
            rintro e u1 ⟨rfl, hu1⟩
            have HU1 := Lib.hid (HX.out.trans (hu1.mono HX.out.size))
            clear hu1
            go_wp2
            go_ret
            exact ⟨rfl, (HU1.out.alloc HU1.out.size _)⟩
          · have hsum : sumP l ≤ 150 := by have := HL.out.2.2; omega
            have HBD := Lib.hid (build_light HL.out.1 HMB.out hsum _ wr (HT.out wr HX.out))
            have hok : ∀ t ∈ l, t.ok = true := fun t ht => (HL.out.2.1 t ht).2.1
            have hsn := sumP_exact l hok (by omega)
            have hran := ran_which l hok hl40 (by omega) s
            have hs30 : s.size ≤ 1073741824 := by omega
            have HWH := Lib.hid (fun (u : World) (hu : Below w.heap.size w u) => which8_any l hok s hs30 _ u (HT.out u hu))
            have HBG := Lib.hid (fun (u : World) (hu : Below w.heap.size w u) => begins8_any l hok s hs30 _ u (HT.out u hu))
            have HRN := Lib.hid (fun (u : World) (v : Value) (hu : NfaAt u (buildN l) v) => Run_any (buildN l) s hs30 v u hu)
            have hmay := build_has l hok hl40 (by rw [build_places l hok]; omega)
            have hne : s.size ≠ 0 → (l.any fun t => t.begins s.data.toList (atP 0)) = true → ranL (buildN l) s ≠ [] := fun h0 hb => by
              obtain ⟨t, ht, hb⟩ := List.any_eq_true.1 hb
              obtain ⟨e, he⟩ := (begins_lg (hok t ht) _).1 hb
              obtain ⟨k, hk, rfl⟩ := List.mem_iff_getElem.1 ht
              have := begun_place l hok (may_is hmay) s (by omega) k hk e he
              unfold ranL
              rw [if_pos hmay]; exact this
            have HNE := Lib.hid hne
            rw [hran] at HRN
            generalize whichI s.data.toList 0 l = wi at *
            generalize (l.any fun t => t.begins s.data.toList (atP 0)) = bg at *
            generalize ranL (buildN l) s = rl at *
            have HN := Lib.hid hmay
            clear hok hsn hmay hne hran hsum
            generalize buildN l = N at *
            go_wp2_with fail
            go_at_call 7
            refine HBD.out.mono ?_
            rintro e u1 ⟨v1, rfl, hn1, hu1⟩
            obtain ⟨A0, A1, A2, A3, A4, c0, c1, c2, c3, c4, rfl⟩ := hn1.form
            have HU1 := Lib.hid (And.intro (HX.out.trans (hu1.mono HX.out.size)) hn1)
            have hbx := BlkIs.new u1 30 #[.slice A0 N.sets.length c0, .slice A1 N.rules.length c1, .slice A2 N.first.length c2, .slice A3 N.follow.length c3, .slice A4 N.ends.length c4, .int .i64 N.empty]
            have hby : Below u1.heap.size u1 _ := (Below.refl _ u1).alloc (Nat.le_refl _) (.cells #[.slice A0 N.sets.length c0, .slice A1 N.rules.length c1, .slice A2 N.first.length c2, .slice A3 N.follow.length c3, .slice A4 N.ends.length c4, .int .i64 N.empty] 30)
            have HY := Lib.hid (And.intro (HU1.out.1.trans (hby.mono HU1.out.1.size)) (And.intro (HU1.out.2.step hby) hbx))
            clear hu1 hn1 hbx hby
            go_wp2_with fail
            go_at_call 17
            refine (HRN.out _ _ HY.out.2.1).mono ?_
            rintro e u2 ⟨v2, rfl, hi2, hu2⟩
            obtain ⟨A5, c5, rfl, hc5, _⟩ := hi2
            have HU2 := Lib.hid (HY.out.1.trans (hu2.mono HY.out.1.size))
            clear hu2
            go_wp2_with fail
            go_at_call 18
            refine (HWH.out _ HU2.out).mono ?_
            rintro e u3 ⟨rfl, hu3⟩
            have HU3 := Lib.hid (HU2.out.trans (hu3.mono HU2.out.size))
            clear hu3
            by_cases hz : s.size = 0
            · obtain rfl : s = ⟨#[]⟩ := by
                apply ByteArray.ext
                exact Array.eq_empty_of_size_eq_zero hz
              clear hz
              go_wp2
              go_ret
              exact ⟨rfl, HU3.out⟩
            · have e0 : s.toList.isEmpty = false := by
                rw [Lib.toList_data]
                cases hd : s.data.toList with
                | nil => exact absurd (by rw [← sl_len, hd]; rfl) hz
                | cons a r => rfl
              have HNE2 := Lib.hid (HNE.out hz)
              clear hz
              go_wp2_with fail
              go_at_call 19
              refine (HBG.out _ HU3.out).mono ?_
              rintro e u4 ⟨rfl, hu4⟩
              have HU4 := Lib.hid (HU3.out.trans (hu4.mono HU3.out.size))
              clear hu4
              cases bg with
              | false =>
                go_wp2
                go_ret
                exact ⟨rfl, HU4.out⟩
              | true =>
                have hpos : 0 < rl.length := List.length_pos_iff.2 (HNE2.out (by trivial))
                have q5 : decide ((rl.length : Int) > 0) = true := by simp; omega
                have q6 : decide ((0 : Int) < (rl.length : Int)) = true := by simp; omega
                go_wp2
                go_ret
                exact ⟨rfl, HU4.out⟩
end Go.Proofs.Ytgbljnnmhmlifaa

