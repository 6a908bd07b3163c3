/-
  WHAT hackleref07's Text ANSWERS of a ReRep, and of any tree that may be: a contract. Condition: at most 2^20 nodes.
-/
import Derived.Test.YtkladjjeacjgpaaDoorQRt2
import Derived.Test.YtkladjjeacjgpaaDoorQRw3
namespace Go.Proofs.YtkladjjeacjgpaaDoor
open Go.RowKit

set_option maxRecDepth 20000 in
set_option maxHeartbeats 2000000 in
theorem refText_rep (m : Nat → Bool) (l : List Tree) (lo hi : Int) (hne : l ≠ []) (hok : allOk l = true) (hn : nodesL l ≤ 1048576) (IH0 : ∀ t ∈ l, TextIs t) (h0 : 0 ≤ lo ∧ lo ≤ 64) (h1 : hi = -1 ∨ (lo ≤ hi ∧ hi ≤ 64)) : TextIs (.node 4 m l lo hi) := by
  intro v w hat
  obtain ⟨A, c, rfl, hc, hs⟩ := hat.open
  have HS := Lib.hid hs
  have hbox := BlkIs.new w 27 (reL 4 m A l.length c lo hi).toArray
  have hB0 : Below w.heap.size w (w.alloc (.cells (reL 4 m A l.length c lo hi).toArray 27)) := (Below.refl _ _).alloc (Nat.le_refl _) _
  have HB0 := Lib.hid (And.intro hB0 hbox)
  have hT : textOf (.node 4 m l lo hi) = joinB (pieces setB 4 l) ⟨#[]⟩ ++ timesOf lo hi := by unfold textOf Tree.text; simp
  obtain ⟨R, hR⟩ : ∃ R, R = textOf (.node 4 m l lo hi) := ⟨_, rfl⟩
  rw [← hR]
  rw [hT] at hR
  have HR := Lib.hid hR
  have hpl := pieces_len setB 4 l
  have hsz := text_one l hok hn 4
  have HSZ := Lib.hid (fun j => Nat.le_trans (accB_size (pieces setB 4 l) ⟨#[]⟩ (by decide) j) hsz)
  have HP := Lib.hid (fun (j : Nat) (h : j < l.length) (h' : j < (pieces setB 4 l).length) => piece_at 4 l j h h')
  have HTS := Lib.hid (fun (j : Nat) (h : j < l.length) => text_in l[j] ((allOk_iff.1 hok) _ (List.getElem_mem h)) (Nat.le_trans (nodesL_get l j h) hn))
  have HKI := Lib.hid (fun (j : Nat) (h : j < l.length) => ok_kind l[j] ((allOk_iff.1 hok) _ (List.getElem_mem h)))
  have HPL := Lib.hid hpl
  have IH := Lib.hid IH0
  have HNE := Lib.hid hne
  clear hat hs IH0 hok hn hbox hB0 hT hR hsz hpl hne
  unfold TextIs at IH
  unfold reV reL at *
  go_enter Tryd.func17, Tryd.ntmps17
  go_wp2
  go_loopw [3, 4] (fun s i wr => ∃ (j : Nat) (acc : ByteArray), s = .string acc ∧ i = .int .i64 j ∧ j ≤ l.length ∧ acc.size ≤ 8589934592 ∧ Hid (acc = joinB ((pieces setB 4 l).take j) ⟨#[]⟩ ∧ Below w.heap.size w wr ∧ BlkIs wr w.heap.size 27 (reL 4 m A l.length c lo hi).toArray)) (fun _ i _ => l.length - (intOf i).toNat)
  case atStart => exact ⟨0, ⟨#[]⟩, rfl, rfl, Nat.zero_le _, by decide, Lib.hid ⟨by rw [List.take_zero, joinB_nil], HB0.out.1, HB0.out.2⟩⟩
  case round =>
    obtain ⟨j, acc, rfl, rfl, hj, hacc, HH⟩ := hrel
    obtain ⟨ha, hb, hbl⟩ := HH.out
    have HB := Lib.hid HH.out.2
    have HA := Lib.hid ha
    unfold reL at hbl
    obtain ⟨c0, c1, c2, c3, c4, c5, c6, c7⟩ := hbl.eight
    by_cases hp : j < l.length
    · have hdl : decide ((j : Int) < (l.length : Int)) = true := by simp; omega
      obtain ⟨b, o, rfl, hbw, hg⟩ := HS.out HNE.out
      obtain ⟨cs, hcat, hlen, hrow⟩ := hg j hp
      obtain ⟨A', n', c', rfl⟩ := hcat.eight
      obtain ⟨r0, r1, r2, r3, r4, r5, r6, r7⟩ := row_eight hrow hb
      have hp' : j < (pieces setB 4 l).length := by rw [HPL.out]; exact hp
      have hns := HSZ.out (j + 1)
      have hx := sub_box wr (l[j]).kind (l[j]).set A' n' c' (l[j]).lo (l[j]).hi
      have hcall := fun W9 (h9 : Below wr.heap.size wr W9) => IH.out _ (List.getElem_mem hp) _ W9 ((hcat.step hb).step h9)
      have htx := HTS.out j hp
      have hk1 : IntKind.i64.wrap ((j : Int) + 1) = ((j + 1 : Nat) : Int) := by rw [IntKind.wrap_i64]; have := hc; omega
      obtain ⟨W9, hW9⟩ : ∃ W9, wr.alloc (.cells (reL (l[j]).kind (l[j]).set A' n' c' (l[j]).lo (l[j]).hi).toArray 27) = W9 := ⟨_, rfl⟩
      rw [hW9] at hx
      have HX := Lib.hid hx
      have hcx := hcall W9 hx.2
      have hpj := HP.out j hp hp'
      have hki := HKI.out j hp
      have hxe := hx.1
      unfold reV reL at *
      obtain ⟨x0, x1, x2, x3, x4, x5, x6, x7⟩ := hxe.eight
      obtain ⟨d0, d1, d2, d3, d4, d5, d6, d7⟩ := (hbl.step hx.2).eight
      generalize (l[j]).kind = kx at *
      generalize (l[j]).set = mx at *
      generalize (l[j]).lo = lx at *
      generalize (l[j]).hi = hx' at *
      generalize textOf l[j] = tx at *
      have HC := Lib.hid hcx
      skip
      have HXB := Lib.hid hxe
      clear hrow hcat hcall hcx hg hb hbl hx hxe hc hlen ha
      by_cases hj0 : 0 < j
      · skip
        by_cases hk4 : 1 < kx
        · skip
          have e0 : decide ((j : Int) > 0) = true := by simp; omega
          have e0b : decide (0 < (j : Int)) = true := by simp; omega
          have e0c : decide (0 < j) = true := by simp; omega
          have e4 : decide (kx > 1) = true := by simp; omega
          have e4b : decide (1 < kx) = true := by simp; omega
          have hE : joinB ((pieces setB 4 l).take (j + 1)) ⟨#[]⟩ = (((acc ++ ⟨#[40]⟩) ++ tx) ++ ⟨#[41]⟩) := by
            rw [next_cat _ j hp', hpj, ← HA.out, wrap_four (by omega), if_pos (by omega), wrapped]
          rw [hE] at hns
          have HE := Lib.hid (And.intro hE hns)
          have hz1 : (ByteArray.mk #[40]).size = 1 := rfl
          have hz2 : (ByteArray.mk #[41]).size = 1 := rfl
          have hz3 : (ByteArray.mk #[124]).size = 1 := rfl
          have HPJ := Lib.hid hpj
          clear hE hns hpj hki
          try clear hk2
          try clear hk3
          try clear hk4
          try clear hj0
          go_wp2_with fail
          go_at_call 17
          refine HC.out.mono ?_
          rintro e u ⟨rfl, hbu⟩
          have HU := Lib.hid (And.intro (HB.out.1.trans ((HX.out.2.trans (hbu.mono HX.out.2.size)).mono HB.out.1.size)) ((HB.out.2.step HX.out.2).step hbu))
          clear hbu c0 c1 c2 c3 c4 c5 c6 c7 d0 d1 d2 d3 d4 d5 d6 d7 x0 x1 x2 x3 x4 x5 x6 x7 r0 r1 r2 r3 r4 r5 r6 r7
          go_wp2
          exact ⟨⟨j + 1, _, rfl, by go_num, hp, HE.out.2, Lib.hid ⟨HE.out.1.symm, HU.out.1, HU.out.2⟩⟩, by simp [intOf]; omega⟩
        · skip
          have e0 : decide ((j : Int) > 0) = true := by simp; omega
          have e0b : decide (0 < (j : Int)) = true := by simp; omega
          have e0c : decide (0 < j) = true := by simp; omega
          have e4 : decide (kx > 1) = false := by simp; omega
          have e4b : decide (1 < kx) = false := by simp; omega
          have hE : joinB ((pieces setB 4 l).take (j + 1)) ⟨#[]⟩ = (acc ++ tx) := by
            rw [next_cat _ j hp', hpj, ← HA.out, wrap_four (by omega), if_neg (by omega)]
          rw [hE] at hns
          have HE := Lib.hid (And.intro hE hns)
          have hz1 : (ByteArray.mk #[40]).size = 1 := rfl
          have hz2 : (ByteArray.mk #[41]).size = 1 := rfl
          have hz3 : (ByteArray.mk #[124]).size = 1 := rfl
          have HPJ := Lib.hid hpj
          clear hE hns hpj hki
          try clear hk2
          try clear hk3
          try clear hk4
          try clear hj0
          go_wp2_with fail
          go_at_call 17
          refine HC.out.mono ?_
          rintro e u ⟨rfl, hbu⟩
          have HU := Lib.hid (And.intro (HB.out.1.trans ((HX.out.2.trans (hbu.mono HX.out.2.size)).mono HB.out.1.size)) ((HB.out.2.step HX.out.2).step hbu))
          clear hbu c0 c1 c2 c3 c4 c5 c6 c7 d0 d1 d2 d3 d4 d5 d6 d7 x0 x1 x2 x3 x4 x5 x6 x7 r0 r1 r2 r3 r4 r5 r6 r7
          go_wp2
          exact ⟨⟨j + 1, _, rfl, by go_num, hp, HE.out.2, Lib.hid ⟨HE.out.1.symm, HU.out.1, HU.out.2⟩⟩, by simp [intOf]; omega⟩
      · skip
        by_cases hk4 : 1 < kx
        · skip
          have e0 : decide ((j : Int) > 0) = false := by simp; omega
          have e0b : decide (0 < (j : Int)) = false := by simp; omega
          have e0c : decide (0 < j) = false := by simp; omega
          have e4 : decide (kx > 1) = true := by simp; omega
          have e4b : decide (1 < kx) = true := by simp; omega
          have hE : joinB ((pieces setB 4 l).take (j + 1)) ⟨#[]⟩ = (((acc ++ ⟨#[40]⟩) ++ tx) ++ ⟨#[41]⟩) := by
            rw [next_cat _ j hp', hpj, ← HA.out, wrap_four (by omega), if_pos (by omega), wrapped]
          rw [hE] at hns
          have HE := Lib.hid (And.intro hE hns)
          have hz1 : (ByteArray.mk #[40]).size = 1 := rfl
          have hz2 : (ByteArray.mk #[41]).size = 1 := rfl
          have hz3 : (ByteArray.mk #[124]).size = 1 := rfl
          have HPJ := Lib.hid hpj
          clear hE hns hpj hki
          try clear hk2
          try clear hk3
          try clear hk4
          try clear hj0
          go_wp2_with fail
          go_at_call 17
          refine HC.out.mono ?_
          rintro e u ⟨rfl, hbu⟩
          have HU := Lib.hid (And.intro (HB.out.1.trans ((HX.out.2.trans (hbu.mono HX.out.2.size)).mono HB.out.1.size)) ((HB.out.2.step HX.out.2).step hbu))
          clear hbu c0 c1 c2 c3 c4 c5 c6 c7 d0 d1 d2 d3 d4 d5 d6 d7 x0 x1 x2 x3 x4 x5 x6 x7 r0 r1 r2 r3 r4 r5 r6 r7
          go_wp2
          exact ⟨⟨j + 1, _, rfl, by go_num, hp, HE.out.2, Lib.hid ⟨HE.out.1.symm, HU.out.1, HU.out.2⟩⟩, by simp [intOf]; omega⟩
        · skip
          have e0 : decide ((j : Int) > 0) = false := by simp; omega
          have e0b : decide (0 < (j : Int)) = false := by simp; omega
          have e0c : decide (0 < j) = false := by simp; omega
          have e4 : decide (kx > 1) = false := by simp; omega
          have e4b : decide (1 < kx) = false := by simp; omega
          have hE : joinB ((pieces setB 4 l).take (j + 1)) ⟨#[]⟩ = (acc ++ tx) := by
            rw [next_cat _ j hp', hpj, ← HA.out, wrap_four (by omega), if_neg (by omega)]
          rw [hE] at hns
          have HE := Lib.hid (And.intro hE hns)
          have hz1 : (ByteArray.mk #[40]).size = 1 := rfl
          have hz2 : (ByteArray.mk #[41]).size = 1 := rfl
          have hz3 : (ByteArray.mk #[124]).size = 1 := rfl
          have HPJ := Lib.hid hpj
          clear hE hns hpj hki
          try clear hk2
          try clear hk3
          try clear hk4
          try clear hj0
          go_wp2_with fail
          go_at_call 17
          refine HC.out.mono ?_
          rintro e u ⟨rfl, hbu⟩
          have HU := Lib.hid (And.intro (HB.out.1.trans ((HX.out.2.trans (hbu.mono HX.out.2.size)).mono HB.out.1.size)) ((HB.out.2.step HX.out.2).step hbu))
          clear hbu c0 c1 c2 c3 c4 c5 c6 c7 d0 d1 d2 d3 d4 d5 d6 d7 x0 x1 x2 x3 x4 x5 x6 x7 r0 r1 r2 r3 r4 r5 r6 r7
          go_wp2
          exact ⟨⟨j + 1, _, rfl, by go_num, hp, HE.out.2, Lib.hid ⟨HE.out.1.symm, HU.out.1, HU.out.2⟩⟩, by simp [intOf]; omega⟩
    · have hdl : decide ((j : Int) < (l.length : Int)) = false := by simp; omega
      have hfin : joinB (pieces setB 4 l) ⟨#[]⟩ = acc := by rw [HA.out, List.take_of_length_le (by rw [HPL.out]; omega)]
      have HFIN := Lib.hid hfin
      clear hfin ha hb hbl hc
      have hacc2 := hacc
      have HT0 := Lib.hid (And.intro h0 h1)
      obtain ⟨ln, hln⟩ : ∃ n : Nat, lo = (n : Int) := Int.eq_ofNat_of_zero_le h0.1
      have hln64 : ln ≤ 64 := by omega
      have HD := Lib.hid (fun u => refDec_any ln (by omega) u)
      have hds := decB_size (n := (ln : Int)) (by omega)
      have hz1 : (ByteArray.mk #[123]).size = 1 := rfl
      have hz2 : (ByteArray.mk #[125]).size = 1 := rfl
      have hz3 : (ByteArray.mk #[44]).size = 1 := rfl
      have hz4 : (ByteArray.mk #[44, 125]).size = 2 := rfl
      have hz5 : (ByteArray.mk #[63]).size = 1 := rfl
      clear h0 h1
      subst hln
      by_cases hm : hi = -1
      · have e1 : (hi == -1) = true := by simp; omega
        by_cases h2 : ln < 2
        · have e2 : decide ((ln : Int) < 2) = true := by simp; omega
          have ht : timesOf (ln : Int) hi = (ByteArray.mk #[42, 43]).extract ln (ln + 1) := by have := times_star (ln : Int) hi hm (by omega) (by omega); rwa [Int.toNat_natCast] at this
          have HTX := Lib.hid ht
          clear ht
          try clear hm
          try clear h01
          try clear hsame
          try clear hl0
          have hxs : ((ByteArray.mk #[42, 43]).extract ln (ln + 1)).size = 1 := by rw [ByteArray.size_extract, show (ByteArray.mk #[42, 43]).size = 2 from rfl]; omega
          go_wp2
          go_ret
          exact ⟨by rw [HR.out, HFIN.out, HTX.out]; rfl, HH.out.2.1⟩
        · have e2 : decide ((ln : Int) < 2) = false := by simp; omega
          have e3 : ((ln : Int) == 0) = false := by simp; omega
          have ht : timesOf (ln : Int) hi = (⟨#[123]⟩ ++ decB (ln : Int)) ++ ⟨#[44, 125]⟩ := times_open (ln : Int) hi hm (by omega)
          have HTX := Lib.hid ht
          clear ht
          try clear hm
          try clear h01
          try clear hsame
          try clear hl0
          generalize decB (ln : Int) = dl at *
          go_wp2_with fail
          go_at_call 32
          refine (HD.out _).mono ?_
          rintro e u ⟨rfl, rfl⟩
          go_wp2
          go_ret
          exact ⟨(show Ending.returned (Value.string (((acc ++ ⟨#[123]⟩) ++ dl) ++ ⟨#[44, 125]⟩)) = Ending.returned (Value.string R) from by rw [HR.out, HFIN.out, HTX.out]; simp only [app_assoc]), HH.out.2.1⟩
      · have e1 : (hi == -1) = false := by simp; omega
        obtain ⟨hn, hhn⟩ : ∃ n : Nat, hi = (n : Int) := Int.eq_ofNat_of_zero_le (by have := HT0.out; omega)
        have hhn64 : hn ≤ 64 ∧ ln ≤ hn := by have := HT0.out; omega
        have HDH := Lib.hid (fun u => refDec_any hn (by omega) u)
        have hdh := decB_size (n := (hn : Int)) (by omega)
        subst hhn
        by_cases h01 : ln = 0 ∧ hn = 1
        · have e3 : ((ln : Int) == 0) = true := by simp; omega
          have e4 : ((hn : Int) == 1) = true := by simp; omega
          have ht : timesOf (ln : Int) (hn : Int) = ⟨#[63]⟩ := times_may (ln : Int) (hn : Int) (by omega) (by omega)
          have HTX := Lib.hid ht
          clear ht
          try clear hm
          try clear h01
          try clear hsame
          try clear hl0
          go_wp2
          go_ret
          exact ⟨by rw [HR.out, HFIN.out, HTX.out]; rfl, HH.out.2.1⟩
        · by_cases hsame : hn = ln
          · have e5 : ((hn : Int) != (ln : Int)) = false := by simp; omega
            have e5b : ((hn : Int) == (ln : Int)) = true := by simp; omega
            by_cases hl0 : ln = 0
            · have e3 : ((ln : Int) == 0) = true := by simp; omega
              have e4 : ((hn : Int) == 1) = false := by simp; omega
              have ht : timesOf (ln : Int) (hn : Int) = (⟨#[123]⟩ ++ decB (ln : Int)) ++ ⟨#[125]⟩ := times_same (ln : Int) (hn : Int) (by omega) (by omega) (by omega)
              have HTX := Lib.hid ht
              clear ht
              try clear hm
              try clear h01
              try clear hsame
              try clear hl0
              clear hdh
              generalize decB (ln : Int) = dl at *
              clear HDH
              go_wp2_with fail
              go_at_call 32
              refine (HD.out _).mono ?_
              rintro e u ⟨rfl, rfl⟩
              go_wp2
              go_ret
              exact ⟨(show Ending.returned (Value.string (((acc ++ ⟨#[123]⟩) ++ dl) ++ ⟨#[125]⟩)) = Ending.returned (Value.string R) from by rw [HR.out, HFIN.out, HTX.out]; simp only [app_assoc]), HH.out.2.1⟩
            · have e3 : ((ln : Int) == 0) = false := by simp; omega
              have ht : timesOf (ln : Int) (hn : Int) = (⟨#[123]⟩ ++ decB (ln : Int)) ++ ⟨#[125]⟩ := times_same (ln : Int) (hn : Int) (by omega) (by omega) (by omega)
              have HTX := Lib.hid ht
              clear ht
              try clear hm
              try clear h01
              try clear hsame
              try clear hl0
              clear hdh
              generalize decB (ln : Int) = dl at *
              clear HDH
              go_wp2_with fail
              go_at_call 32
              refine (HD.out _).mono ?_
              rintro e u ⟨rfl, rfl⟩
              go_wp2
              go_ret
              exact ⟨(show Ending.returned (Value.string (((acc ++ ⟨#[123]⟩) ++ dl) ++ ⟨#[125]⟩)) = Ending.returned (Value.string R) from by rw [HR.out, HFIN.out, HTX.out]; simp only [app_assoc]), HH.out.2.1⟩
          · have e5 : ((hn : Int) != (ln : Int)) = true := by simp; omega
            have e5b : ((hn : Int) == (ln : Int)) = false := by simp; omega
            by_cases hl0 : ln = 0
            · have e3 : ((ln : Int) == 0) = true := by simp; omega
              have e4 : ((hn : Int) == 1) = false := by simp; omega
              have ht : timesOf (ln : Int) (hn : Int) = ((((⟨#[123]⟩ ++ decB (ln : Int)) ++ ⟨#[44]⟩) ++ decB (hn : Int))) ++ ⟨#[125]⟩ := times_upto (ln : Int) (hn : Int) (by omega) (by omega) (by omega)
              have HTX := Lib.hid ht
              clear ht
              try clear hm
              try clear h01
              try clear hsame
              try clear hl0
              generalize decB (ln : Int) = dl at *
              generalize decB (hn : Int) = dh at *
              go_wp2_with fail
              go_at_call 32
              refine (HD.out _).mono ?_
              rintro e u ⟨rfl, rfl⟩
              go_wp2_with fail
              go_at_call 32
              refine (HDH.out _).mono ?_
              rintro e u ⟨rfl, rfl⟩
              go_wp2
              go_ret
              exact ⟨(show Ending.returned (Value.string (((((acc ++ ⟨#[123]⟩) ++ dl) ++ ⟨#[44]⟩) ++ dh) ++ ⟨#[125]⟩)) = Ending.returned (Value.string R) from by rw [HR.out, HFIN.out, HTX.out]; simp only [app_assoc]), HH.out.2.1⟩
            · have e3 : ((ln : Int) == 0) = false := by simp; omega
              have ht : timesOf (ln : Int) (hn : Int) = ((((⟨#[123]⟩ ++ decB (ln : Int)) ++ ⟨#[44]⟩) ++ decB (hn : Int))) ++ ⟨#[125]⟩ := times_upto (ln : Int) (hn : Int) (by omega) (by omega) (by omega)
              have HTX := Lib.hid ht
              clear ht
              try clear hm
              try clear h01
              try clear hsame
              try clear hl0
              generalize decB (ln : Int) = dl at *
              generalize decB (hn : Int) = dh at *
              go_wp2_with fail
              go_at_call 32
              refine (HD.out _).mono ?_
              rintro e u ⟨rfl, rfl⟩
              go_wp2_with fail
              go_at_call 32
              refine (HDH.out _).mono ?_
              rintro e u ⟨rfl, rfl⟩
              go_wp2
              go_ret
              exact ⟨(show Ending.returned (Value.string (((((acc ++ ⟨#[123]⟩) ++ dl) ++ ⟨#[44]⟩) ++ dh) ++ ⟨#[125]⟩)) = Ending.returned (Value.string R) from by rw [HR.out, HFIN.out, HTX.out]; simp only [app_assoc]), HH.out.2.1⟩

set_option maxRecDepth 20000 in
set_option maxHeartbeats 2000000 in
theorem refText_any (T : Tree) (h : T.ok = true) (hn : T.nodes ≤ 1048576) : TextIs T := by
  induction T using Tree.ind with
  | h k m l lo hi ih =>
    have hop := ok_open h
    have hkind := okNode_kind hop.2
    simp only [Tree.nodes] at hn
    have hokl : allOk l = true := allOk_iff.2 hop.1
    have IH : ∀ t ∈ l, TextIs t := fun t ht => by
      obtain ⟨j, hj, rfl⟩ := List.getElem_of_mem ht
      exact ih _ ht (hop.1 _ ht) (Nat.le_trans (nodesL_get l j hj) (by omega))
    rcases hkind with ⟨rfl, hl⟩ | ⟨rfl, hl⟩ | ⟨rfl, hl⟩ | ⟨rfl, hl⟩ | ⟨rfl, hl, hlo⟩
    · intro v w hat
      obtain ⟨A, c, rfl, hc, hs⟩ := hat.open
      have ht : textOf (.node 0 m l lo hi) = ⟨#[40, 41]⟩ := by unfold textOf Tree.text; simp
      rw [ht]
      unfold reV reL at *
      clear hs hat ih IH hokl hop h hn ht hl
      go_enter Tryd.func17, Tryd.ntmps17
      go_wp2
      go_ret
      exact ⟨rfl, (Below.refl _ _).alloc (Nat.le_refl _) _⟩
    · intro v w hat
      obtain ⟨A, c, rfl, hc, hs⟩ := hat.open
      have ht : textOf (.node 1 m l lo hi) = setB m := by unfold textOf Tree.text; simp
      rw [ht]
      have HB0 := Lib.hid ((Below.refl w.heap.size w).alloc (Nat.le_refl _) (.cells (reL 1 m A l.length c lo hi).toArray 27))
      have HS := Lib.hid (refSet_any m (w.alloc (.cells (reL 1 m A l.length c lo hi).toArray 27)))
      generalize setB m = z at *
      unfold setV reV reL at *
      clear hs hat ih IH hokl hop h hn ht hl
      go_enter Tryd.func17, Tryd.ntmps17
      go_wp2_with fail
      go_at_call 31
      refine HS.out.mono ?_
      rintro e u ⟨rfl, hb⟩
      have HB := Lib.hid (HB0.out.trans (hb.mono HB0.out.size))
      clear hb
      go_wp2
      go_ret
      exact ⟨rfl, HB.out⟩
    · exact refText_cat m l lo hi (by intro e; subst e; simp at hl) hokl (by omega) IH
    · exact refText_alt m l lo hi (by intro e; subst e; simp at hl) hokl (by omega) IH
    · exact refText_rep m l lo hi (by intro e; subst e; simp at hl) hokl (by omega) IH ⟨hlo.1, hlo.2.1⟩ hlo.2.2
end Go.Proofs.YtkladjjeacjgpaaDoor

