/-
  WHAT hacklelaw03's alive, DigitsParse, DigitsPrint AND DigitsCanon ANSWER: true. Condition: the two tables of the library that they read lie as they are laid.
-/
import Derived.Test.YtidnhpgodcdgiaaDoorCanon
namespace Go.Proofs.YtidnhpgodcdgiaaDoor
open Go.RowKit Go.Sort

def TrueIs (w : World) : Ending → World → Prop := fun e w' => e = .returned (.bool true) ∧ Below w.heap.size w w'

theorem repr_255 : reprL 16 255 = [102, 102] := by
  rw [reprL_big (by omega) (by omega), reprL_small (by omega)]; decide +kernel
theorem repr_0 : reprL 10 0 = [48] := by rw [reprL_small (by omega)]; decide +kernel
theorem alive_1 : parseZ 16 [48, 48, 102, 70] = (255, 0) := by decide +kernel
theorem alive_2 : printZ 16 255 = ([102, 102], 0) := by
  unfold printZ
  rw [if_pos (by decide), if_pos (by omega), show (16 : Int).toNat = 16 from rfl, repr_255]
theorem alive_p : printZ 10 0 = ([48], 0) := by
  unfold printZ
  rw [if_pos (by decide), if_pos (by omega), show (10 : Int).toNat = 10 from rfl, repr_0]
theorem alive_3 : canonZ 10 [48] = true := by
  unfold canonZ
  rw [show parseZ 10 [48] = (0, 0) by decide +kernel, alive_p]; rfl
theorem alive_4 : canonZ 10 [48, 48] = false := by
  unfold canonZ
  rw [show parseZ 10 [48, 48] = (0, 0) by decide +kernel, alive_p]; decide

set_option maxHeartbeats 1000000 in
theorem alive_any (w : World) (hT : Tabs w) : Calls Tryd.prog 6 #[] w (TrueIs w) := by
  have h1 := parse_any 16 ⟨#[48, 48, 102, 70]⟩ w
  rw [show (⟨#[48, 48, 102, 70]⟩ : ByteArray).data.toList = [48, 48, 102, 70] from rfl, alive_1] at h1
  have h2 := fun W hW => print_any 16 255 (by omega) W hW
  rw [alive_2] at h2
  have h3 := fun W hW => canon_any 10 ⟨#[48]⟩ W hW
  rw [show (⟨#[48]⟩ : ByteArray).data.toList = [48] from rfl, alive_3] at h3
  have h4 := fun W hW => canon_any 10 ⟨#[48, 48]⟩ W hW
  rw [show (⟨#[48, 48]⟩ : ByteArray).data.toList = [48, 48] from rfl, alive_4] at h4
  have HT := Lib.hid hT
  have H1 := Lib.hid h1
  have H2 := Lib.hid h2
  have H3 := Lib.hid h3
  have H4 := Lib.hid h4
  clear hT h1 h2 h3 h4
  unfold TrueIs
  go_enter Tryd.func6, Tryd.ntmps6
  go_wp2_with fail
  refine H1.out.mono ?_
  rintro e w1 ⟨rfl, hb⟩
  have HB1 := Lib.hid hb
  clear hb
  go_wp2_with fail
  refine (H2.out w1 (HT.out.step HB1.out)).mono ?_
  rintro e w2 ⟨rfl, hb⟩
  have HB2 := Lib.hid (HB1.out.trans (hb.mono HB1.out.size))
  clear hb
  go_wp2_with fail
  refine (H3.out w2 (HT.out.step HB2.out)).mono ?_
  rintro e w3 ⟨rfl, hb⟩
  have HB3 := Lib.hid (HB2.out.trans (hb.mono HB2.out.size))
  clear hb
  go_wp2_with fail
  refine (H4.out w3 (HT.out.step HB3.out)).mono ?_
  rintro e w4 ⟨rfl, hb⟩
  have HB4 := Lib.hid (HB3.out.trans (hb.mono HB3.out.size))
  clear hb
  go_wp2
  go_ret
  exact ⟨rfl, HB4.out⟩

set_option maxHeartbeats 1000000 in
theorem digitsParse_any (s : ByteArray) (hs : s.size ≤ 9223372036854775807) (x : Int) (c : Nat) (hc : c < 256) (w : World) (hT : Tabs w) :
    Calls Tryd.prog 3 #[.string s, .int .i64 x, .int .u8 c] w (TrueIs w) := by
  have H0 := Lib.hid (alive_any w hT)
  have H1 := Lib.hid (fun W => parse_any x s W)
  have H2 := Lib.hid (fun W => refParse_any x s hs W)
  have H3 := Lib.hid (fun W => digit_any c hc x W)
  have H4 := Lib.hid (fun W => refDigit_any c hc x W)
  clear hT
  generalize parseZ x s.data.toList = pz at *
  obtain ⟨n, e⟩ := pz
  generalize digZ c x = d at *
  unfold TrueIs at *
  by_cases hl : s.size ≤ 1000
  · have hd : decide ((s.size : Int) > 1000) = false := by simp; omega
    go_enter Tryd.func3, Tryd.ntmps3
    go_wp2_with fail
    refine H0.out.mono ?_
    rintro e w1 ⟨rfl, hb⟩
    have HB1 := Lib.hid hb
    clear hb
    go_wp2_with fail
    refine (H1.out w1).mono ?_
    rintro e w2 ⟨rfl, hb⟩
    have HB2 := Lib.hid (HB1.out.trans (hb.mono HB1.out.size))
    clear hb
    go_wp2_with (first
      | (go_at_call 8; refine (H2.out _).mono ?_; rintro e w3 ⟨rfl, hw⟩; subst hw)
      | (go_at_call 9; refine (H3.out _).mono ?_; rintro e w3 ⟨rfl, hw⟩; subst hw)
      | (go_at_call 10; refine (H4.out _).mono ?_; rintro e w3 ⟨rfl, hw⟩; subst hw))
    go_ret
    exact ⟨rfl, HB2.out⟩
  · have hd : decide ((s.size : Int) > 1000) = true := by simp; omega
    go_enter Tryd.func3, Tryd.ntmps3
    go_wp2_with fail
    refine H0.out.mono ?_
    rintro e w1 ⟨rfl, hb⟩
    have HB1 := Lib.hid hb
    clear hb
    go_wp2
    go_ret
    exact ⟨rfl, HB1.out⟩

theorem printZ_ok {x : Int} {n : Nat} (h : (printZ x n).2 = 0) : isB x ∧ n ≤ 9223372036854775807 ∧ (printZ x n).1 = reprL x.toNat n := by
  unfold printZ at h ⊢
  by_cases hb : isB x
  · rw [if_pos hb] at h ⊢
    by_cases hm : n ≤ 9223372036854775807
    · rw [if_pos hm]; exact ⟨hb, hm, rfl⟩
    · rw [if_neg hm] at h; simp at h
  · rw [if_neg hb] at h; simp at h
theorem print_back {x : Int} {n : Nat} (h : (printZ x n).2 = 0) : parseZ x (printZ x n).1 = (n, 0) ∧ canonZ x (printZ x n).1 = true := by
  obtain ⟨hb, hm, he⟩ := printZ_ok h
  have hp : parseZ x (printZ x n).1 = (n, 0) := by
    rw [he]; unfold parseZ; rw [if_pos hb]
    exact parse_repr (by unfold isB at hb; omega) hm
  refine ⟨hp, ?_⟩
  unfold canonZ
  rw [hp]; simp
theorem canon_nought {x : Int} {l : List UInt8} (h : (parseZ x l).2 = 0) : parseZ x (48 :: l) = parseZ x l ∧ canonZ x (48 :: l) = false := by
  by_cases hb : isB x
  · have hb2 : x.toNat = 10 ∨ x.toNat = 16 := by unfold isB at hb; omega
    have hp : parseZ x (48 :: l) = parseZ x l := by
      unfold parseZ at h ⊢
      rw [if_pos hb] at h ⊢
      rw [if_pos hb]
      exact parse_nought _ hb2 l h
    refine ⟨hp, ?_⟩
    unfold canonZ
    rw [hp]
    have hle := parseZ_le x l
    have : (printZ x (parseZ x l).1).1 = reprL x.toNat (parseZ x l).1 := by
      unfold printZ; rw [if_pos hb, if_pos hle]
    rw [this]
    have hne : ¬ reprL x.toNat (parseZ x l).1 = 48 :: l := by
      intro e
      have := repr_head hb2 _ _ e
      subst this
      unfold parseZ at h
      rw [if_pos hb] at h
      simp [parseN] at h
    rw [decide_eq_false hne, Bool.and_false]
  · exfalso
    unfold parseZ at h
    rw [if_neg hb] at h; simp at h

set_option maxHeartbeats 1000000 in
theorem digitsPrint_any (n : Nat) (hn : n < 18446744073709551616) (x : Int) (w : World) (hT : Tabs w) :
    Calls Tryd.prog 4 #[.int .u64 n, .int .i64 x] w (TrueIs w) := by
  have HT := Lib.hid hT
  have H0 := Lib.hid (alive_any w hT)
  have H1 := Lib.hid (fun W hW => print_any x n hn W hW)
  have H2 := Lib.hid (fun W => refPrint_any x n hn W)
  have hback := print_back (x := x) (n := n)
  clear hT
  generalize printZ x n = pz at *
  obtain ⟨l, e⟩ := pz
  simp only at hback
  unfold TrueIs at *
  by_cases he : e = 0
  · subst he
    have H3 := fun W => parse_any x ⟨l.toArray⟩ W
    have H4 := fun W hW => canon_any x ⟨l.toArray⟩ W hW
    rw [show (⟨l.toArray⟩ : ByteArray).data.toList = l from rfl, (hback rfl).1] at H3
    rw [show (⟨l.toArray⟩ : ByteArray).data.toList = l from rfl, (hback rfl).2] at H4
    have HH3 := Lib.hid H3
    have HH4 := Lib.hid H4
    clear H3 H4 hback
    go_enter Tryd.func4, Tryd.ntmps4
    go_wp2_with fail
    refine H0.out.mono ?_
    rintro e w1 ⟨rfl, hb⟩
    have HB1 := Lib.hid hb
    clear hb
    go_wp2_with fail
    refine (H1.out w1 (HT.out.step HB1.out)).mono ?_
    rintro e w2 ⟨rfl, hb⟩
    have HB2 := Lib.hid (HB1.out.trans (hb.mono HB1.out.size))
    clear hb
    go_wp2_with fail
    refine (H2.out w2).mono ?_
    rintro e w3 ⟨rfl, hw⟩
    subst hw
    go_wp2_with fail
    refine (HH3.out w3).mono ?_
    rintro e w4 ⟨rfl, hb⟩
    have HB4 := Lib.hid (HB2.out.trans (hb.mono HB2.out.size))
    clear hb
    go_wp2_with fail
    refine (HH4.out w4 (HT.out.step HB4.out)).mono ?_
    rintro e w5 ⟨rfl, hb⟩
    have HB5 := Lib.hid (HB4.out.trans (hb.mono HB4.out.size))
    clear hb
    go_wp2
    go_ret
    exact ⟨rfl, HB5.out⟩
  · have hne : ((e : Int) != 0) = true := by simp; omega
    clear hback
    go_enter Tryd.func4, Tryd.ntmps4
    go_wp2_with fail
    refine H0.out.mono ?_
    rintro e w1 ⟨rfl, hb⟩
    have HB1 := Lib.hid hb
    clear hb
    go_wp2_with fail
    refine (H1.out w1 (HT.out.step HB1.out)).mono ?_
    rintro e w2 ⟨rfl, hb⟩
    have HB2 := Lib.hid (HB1.out.trans (hb.mono HB1.out.size))
    clear hb
    go_wp2_with fail
    refine (H2.out w2).mono ?_
    rintro e w3 ⟨rfl, hw⟩
    subst hw
    go_wp2
    go_ret
    exact ⟨rfl, HB2.out⟩

set_option maxHeartbeats 1000000 in
theorem digitsCanon_any (s : ByteArray) (hs : s.size ≤ 9223372036854775807) (x : Int) (w : World) (hT : Tabs w) :
    Calls Tryd.prog 5 #[.string s, .int .i64 x] w (TrueIs w) := by
  have HT := Lib.hid hT
  have H0 := Lib.hid (alive_any w hT)
  have H1 := Lib.hid (fun W => refParse_any x s hs W)
  have H2 := Lib.hid (fun W hW => canon_any x s W hW)
  have hle := parseZ_le x s.data.toList
  have hno := canon_nought (x := x) (l := s.data.toList)
  have hl48 : (⟨#[48]⟩ ++ s : ByteArray).data.toList = 48 :: s.data.toList := by rw [ByteArray.data_append]; simp
  have H3 := fun W => parse_any x (⟨#[48]⟩ ++ s) W
  have H4 := fun W hW => canon_any x (⟨#[48]⟩ ++ s) W hW
  rw [hl48] at H3 H4
  have hcz : canonZ x s.data.toList = (decide ((parseZ x s.data.toList).2 = 0) && decide ((printZ x (parseZ x s.data.toList).1).1 = s.data.toList)) := rfl
  clear hT hl48
  generalize parseZ x s.data.toList = pz at *
  obtain ⟨n, e⟩ := pz
  simp only at hle hno hcz
  have H5 := Lib.hid (fun W => refPrint_any x n (by omega) W)
  generalize printZ x n = pr at *
  obtain ⟨t, f⟩ := pr
  simp only at hcz
  unfold TrueIs at *
  by_cases hl : s.size ≤ 1000
  · have hd : decide ((s.size : Int) > 1000) = false := by simp; omega
    have hlim : (9223372036854775807 < 1 + s.size) = False := by simp only [eq_iff_iff, iff_false]; omega
    by_cases he : e = 0
    · subst he
      rw [(hno rfl).1] at H3
      rw [(hno rfl).2] at H4
      obtain ⟨q, hq⟩ : ∃ q, (s.toList == t) = q := ⟨_, rfl⟩
      have hcq : canonZ x s.data.toList = q := by
        rw [hcz, ← hq, ByteArray.toList_eq, beq_is, decide_eq_true (show (0 : Nat) = 0 from rfl), Bool.true_and]
        exact decide_eq_decide.2 eq_comm
      rw [hcq] at H2
      have HH3 := Lib.hid H3
      have HH4 := Lib.hid H4
      clear H3 H4 hno hcz hcq
      go_enter Tryd.func5, Tryd.ntmps5
      go_wp2_with fail
      refine H0.out.mono ?_
      rintro e w1 ⟨rfl, hb⟩
      have HB1 := Lib.hid hb
      clear hb
      go_wp2_with fail
      refine (H1.out w1).mono ?_
      rintro e w2 ⟨rfl, hw⟩
      subst hw
      go_wp2_with fail
      refine (H5.out w2).mono ?_
      rintro e w3 ⟨rfl, hw⟩
      subst hw
      go_wp2_with fail
      refine (H2.out w3 (HT.out.step HB1.out)).mono ?_
      rintro e w4 ⟨rfl, hb⟩
      have HB4 := Lib.hid (HB1.out.trans (hb.mono HB1.out.size))
      clear hb
      go_wp2_with fail
      refine (HH3.out w4).mono ?_
      rintro e w5 ⟨rfl, hb⟩
      have HB5 := Lib.hid (HB4.out.trans (hb.mono HB4.out.size))
      clear hb
      go_wp2_with fail
      refine (HH4.out w5 (HT.out.step HB5.out)).mono ?_
      rintro e w6 ⟨rfl, hb⟩
      have HB6 := Lib.hid (HB5.out.trans (hb.mono HB5.out.size))
      clear hb
      go_wp2
      go_ret
      exact ⟨rfl, HB6.out⟩
    · have hne : ((e : Int) != 0) = true := by simp; omega
      have hne2 : ((e : Int) == 0) = false := by simp; omega
      rw [hcz, decide_eq_false he, Bool.false_and] at H2
      have HH3 := Lib.hid H3
      have HH4 := Lib.hid H4
      clear H3 H4 hno hcz
      go_enter Tryd.func5, Tryd.ntmps5
      go_wp2_with fail
      refine H0.out.mono ?_
      rintro e w1 ⟨rfl, hb⟩
      have HB1 := Lib.hid hb
      clear hb
      go_wp2_with fail
      refine (H1.out w1).mono ?_
      rintro e w2 ⟨rfl, hw⟩
      subst hw
      go_wp2_with fail
      refine (H5.out w2).mono ?_
      rintro e w3 ⟨rfl, hw⟩
      subst hw
      go_wp2_with fail
      refine (H2.out w3 (HT.out.step HB1.out)).mono ?_
      rintro e w4 ⟨rfl, hb⟩
      have HB4 := Lib.hid (HB1.out.trans (hb.mono HB1.out.size))
      clear hb
      go_wp2_with fail
      refine (HH3.out w4).mono ?_
      rintro e w5 ⟨rfl, hb⟩
      have HB5 := Lib.hid (HB4.out.trans (hb.mono HB4.out.size))
      clear hb
      go_wp2
      go_ret
      exact ⟨rfl, HB5.out⟩
  · have hd : decide ((s.size : Int) > 1000) = true := by simp; omega
    go_enter Tryd.func5, Tryd.ntmps5
    go_wp2_with fail
    refine H0.out.mono ?_
    rintro e w1 ⟨rfl, hb⟩
    have HB1 := Lib.hid hb
    clear hb
    go_wp2
    go_ret
    exact ⟨rfl, HB1.out⟩

end Go.Proofs.YtidnhpgodcdgiaaDoor
