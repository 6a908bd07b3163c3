/-
  hacklelaw06.RxparseTakes: its walk: true for every text. No condition.
-/
import Derived.Test.YtngagijcdehjpaaEsc6
import Derived.Test.YtngagijcdehjpaaAlive6
namespace Go.Proofs.Ytngagijcdehjpaa
open Go.RowKit
def loS : ByteArray := ⟨#[48, 49, 50, 51, 52, 53, 54, 55, 56, 57, 97, 98, 99, 100, 101, 102]⟩
def upS : ByteArray := ⟨#[48, 49, 50, 51, 52, 53, 54, 55, 56, 57, 65, 66, 67, 68, 69, 70]⟩
theorem lo_ext : ∀ n : Fin 16, (loS.extract n.val (n.val + 1)).data.toList = [loD n.val] := by decide +kernel
theorem up_ext : ∀ n : Fin 16, (upS.extract n.val (n.val + 1)).data.toList = [upD n.val] := by decide +kernel
theorem step_text (l : List UInt8) (b : UInt8) : (((⟨(enc l).toArray⟩ : ByteArray) ++ ⟨#[92, 120]⟩) ++ loS.extract (b.toNat / 16) (b.toNat / 16 + 1)) ++ upS.extract (b.toNat % 16) (b.toNat % 16 + 1) = ⟨(enc (l ++ [b])).toArray⟩ := by
  have hb := UInt8.toNat_lt b
  have h1 := lo_ext ⟨b.toNat / 16, by omega⟩
  have h2 := up_ext ⟨b.toNat % 16, by omega⟩
  apply ByteArray.ext
  apply Array.toList_inj.1
  simp only [ByteArray.data_append, Array.toList_append] at h1 h2 ⊢
  rw [h1, h2, enc_snoc]
  simp [encB]

set_option maxHeartbeats 2000000 in
theorem rxparseTakes_any (s : ByteArray) (w : World) : Calls Try.prog 5 #[.string s] w fun e w' => e = .returned (.bool true) ∧ Below w.heap.size w w' := by
  have ha := alive6_any
  by_cases hs : 90 < s.size
  · have e1 : decide (90 < (s.size : Int)) = true := by simp; omega
    go_enter Try.func5, Try.ntmps5
    go_wp2_with (first
      | (go_at_call 6; (with_reducible refine (ha _).mono ?_); rintro e w1 ⟨rfl, hb1⟩))
    go_ret
    exact ⟨rfl, hb1⟩
  have e1 : decide (90 < (s.size : Int)) = false := by simp; omega
  have hs9 : s.size ≤ 90 := by omega
  have hl := size_list s
  go_enter Try.func5, Try.ntmps5
  go_wp2_with (first
    | (go_at_call 6; (with_reducible refine (ha _).mono ?_); rintro e w1 ⟨rfl, hb1⟩; have HB1 := Lib.hid hb1; clear hb1))
  go_loopw [3, 4] (fun x i wr => ∃ j : Nat, x = .string ⟨(enc (s.data.toList.take j)).toArray⟩ ∧ i = .int .i64 j ∧ j ≤ s.size ∧ Hid (Below w.heap.size w wr)) (fun _ i _ => s.size - (intOf i).toNat)
  case atStart => exact ⟨0, rfl, rfl, Nat.zero_le _, HB1⟩
  case round =>
    obtain ⟨j, rfl, rfl, hj, HB⟩ := hrel
    by_cases hp : j < s.size
    · have hdl : decide ((j : Int) < (s.size : Int)) = true := by simp; omega
      have hixj := idx_bt 9 Try.underlying9 s j hp
      have hk1 : IntKind.i64.wrap ((j : Int) + 1) = ((j + 1 : Nat) : Int) := by rw [IntKind.wrap_i64]; omega
      have hbj := bt_list s j hp
      have htk := List.take_append_getElem (l := s.data.toList) (i := j) (by rw [hl]; exact hp)
      generalize s.data.toList[j]'(by rw [hl]; exact hp) = b at hbj htk
      have hst := step_text (s.data.toList.take j) b
      rw [htk] at hst
      have hb := UInt8.toNat_lt b
      have hzs : (⟨(enc (s.data.toList.take j)).toArray⟩ : ByteArray).size ≤ 360 := by
        rw [← size_list]
        simp only [enc_length, List.length_take]
        omega
      generalize hz : (⟨(enc (s.data.toList.take j)).toArray⟩ : ByteArray) = z at *
      generalize hz' : (⟨(enc (s.data.toList.take (j + 1))).toArray⟩ : ByteArray) = z' at *
      rw [hbj] at hixj
      have HZ := Lib.hid hz'
      clear hz hz' htk hbj
      obtain ⟨h, hh, h16, hhe⟩ : ∃ h : Nat, (b.toNat : Int) / 16 = (h : Int) ∧ h < 16 ∧ h = b.toNat / 16 := ⟨b.toNat / 16, by omega, by omega, rfl⟩
      obtain ⟨r, hr, r16, hre⟩ : ∃ r : Nat, (b.toNat : Int) % 16 = (r : Int) ∧ r < 16 ∧ r = b.toNat % 16 := ⟨b.toNat % 16, by omega, by omega, rfl⟩
      rw [← hhe, ← hre] at hst
      unfold loS upS at hst
      have HST := Lib.hid hst
      clear hst hhe hre hb
      go_wp2_with (go_quiet (fail))
      refine ⟨⟨j + 1, ?_, by go_num, hp, Lib.hid (Go.Proofs.Ytngagijcdehjpaa.Below.drewN HB.out _)⟩, by simp [intOf]; omega⟩
      rw [HST.out, HZ.out]
    · have hdl : decide ((j : Int) < (s.size : Int)) = false := by simp; omega
      obtain rfl : j = s.size := by omega
      rw [← hl, List.take_length]
      have hL9 : s.data.toList.length ≤ 90 := by omega
      have p1 := fun W => parse_nil ⟨(enc s.data.toList).toArray⟩ W
      rw [parse_esc (s := ⟨(enc s.data.toList).toArray⟩) hL9 (by simp)] at p1
      have p2 := fun W => parse_nil ((⟨#[46]⟩ ++ ⟨(enc s.data.toList).toArray⟩) ++ ⟨#[91, 94, 93]⟩) W
      rw [parse_dot (s := (⟨#[46]⟩ ++ ⟨(enc s.data.toList).toArray⟩) ++ ⟨#[91, 94, 93]⟩) hL9 (by simp [ByteArray.data_append])] at p2
      have ok1 := (tree_facts (escL s.data.toList) (by simp [escL]; omega)).2.2
      have ok2 := (tree_facts (dotL s.data.toList) (by simp [dotL, escL]; omega)).2.2
      have t1 := takes_esc s.data.toList
      have t2 := takes_dot s.data.toList 10 255
      generalize treeOf (escL s.data.toList) = T1 at *
      generalize treeOf (dotL s.data.toList) = T2 at *
      have hT1 := fun W v (h : T1.At W v) => refTakes_any T1 v s (by omega) W ok1 h
      simp only [t1] at hT1
      have hus : ((⟨#[10]⟩ ++ s) ++ ⟨#[255]⟩ : ByteArray).size ≤ 1073741824 := by
        rw [← size_list]
        simp [ByteArray.data_append]
        omega
      have hT2 := fun W v (h : T2.At W v) => refTakes_any T2 v ((⟨#[10]⟩ ++ s) ++ ⟨#[255]⟩) hus W ok2 h
      have hul : ((⟨#[10]⟩ ++ s) ++ ⟨#[255]⟩ : ByteArray).data.toList = 10 :: (s.data.toList ++ [255]) := by simp [ByteArray.data_append]
      rw [hul, t2] at hT2
      have hts : (⟨(enc s.data.toList).toArray⟩ : ByteArray).size ≤ 360 := by
        rw [← size_list]
        simp only [enc_length]
        omega
      generalize (⟨(enc s.data.toList).toArray⟩ : ByteArray) = t0 at *
      generalize hu : ((⟨#[46]⟩ ++ t0) ++ ⟨#[91, 94, 93]⟩ : ByteArray) = u at *
      generalize hx : ((⟨#[10]⟩ ++ s) ++ ⟨#[255]⟩ : ByteArray) = x at *
      clear ok1 ok2 t1 t2 hul hus hl hL9
      go_wp2_with (first
        | (go_at_call 11; (with_reducible refine (p1 _).mono ?_); rintro e w4 ⟨hb4, v, rfl, hat⟩; obtain ⟨A1, n1, c1, rfl⟩ := hat.form; have hb4' := (HB.out.trans (hb4.mono HB.out.size)); have HB4 := Lib.hid (hb4'.alloc hb4'.size (.cells (reL T1.kind T1.set A1 n1 c1 T1.lo T1.hi).toArray 31)); have HR4 := Lib.hid (BlkIs.new w4 31 (reL T1.kind T1.set A1 n1 c1 T1.lo T1.hi).toArray); have HT4 := Lib.hid (hat.step ((Below.refl w4.heap.size w4).alloc (Nat.le_refl _) (.cells (reL T1.kind T1.set A1 n1 c1 T1.lo T1.hi).toArray 31))); clear hat hb4 hb4'; unfold reV reL; unfold reL at HB4 HR4 HT4)
        | rw [hu]
        | rw [hx]
        | (go_at_call 11; (with_reducible refine (p2 _).mono ?_); rintro e w5 ⟨hb5, v, rfl, hat⟩; obtain ⟨A2, n2, c2, rfl⟩ := hat.form; have hb5' := (HB4.out.trans (hb5.mono HB4.out.size)); have HB5 := Lib.hid (hb5'.alloc hb5'.size (.cells (reL T2.kind T2.set A2 n2 c2 T2.lo T2.hi).toArray 31)); have hal := (Below.refl w5.heap.size w5).alloc (Nat.le_refl _) (.cells (reL T2.kind T2.set A2 n2 c2 T2.lo T2.hi).toArray 31); have HR5 := Lib.hid ((HR4.out.step hb5).step hal); have HN5 := Lib.hid (BlkIs.new w5 31 (reL T2.kind T2.set A2 n2 c2 T2.lo T2.hi).toArray); have HTa := Lib.hid ((HT4.out.step hb5).step hal); have HTb := Lib.hid (hat.step hal); clear hat hb5 hb5' hal; unfold reV reL; unfold reL at HB5 HR5 HN5; unfold reV reL at HTb HTa; obtain ⟨k0, k1, k2, k3, k4, k5, k6, k7⟩ := HR5.out.eight)
        | (go_at_call 14; (with_reducible refine (hT1 _ _ HTa.out).mono ?_); rintro e w6 ⟨rfl, hb6⟩; obtain ⟨m0, m1, m2, m3, m4, m5, m6, m7⟩ := (HN5.out.step hb6).eight)
        | (go_at_call 14; (with_reducible refine (hT2 _ _ (HTb.out.step hb6)).mono ?_); rintro e w7 ⟨rfl, hb7⟩))
      go_ret
      exact ⟨rfl, (HB5.out.trans (hb6.mono HB5.out.size)).trans (hb7.mono (Nat.le_trans HB5.out.size hb6.size))⟩
end Go.Proofs.Ytngagijcdehjpaa
