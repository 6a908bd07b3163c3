/-
  WHAT hackleref07's set ANSWERS: a Set, written: a contract. No condition.
-/
import Derived.Test.YtkladjjeacjgpaaDoorQRw1
import Derived.Test.YtkladjjeacjgpaaDoorQRw2
import Derived.Test.YtkladjjeacjgpaaDoorQRef1d
namespace Go.Proofs.YtkladjjeacjgpaaDoor
open Go.RowKit

theorem byB_signs {b : Nat} (hb : b < 256) : (⟨(refOneL [124, 42, 43, 63, 123, 125, 40, 41, 91, 93, 46, 60, 62, 47, 92] b).toArray⟩ : ByteArray) = byB signsB (b : Int) := by
  have := one_signs ⟨b, hb⟩
  unfold byB
  rw [Int.toNat_natCast, ← this]
theorem byB_class {b : Nat} (hb : b < 256) : (⟨(refOneL [91, 93, 94, 45, 47, 92] b).toArray⟩ : ByteArray) = byB classB (b : Int) := by
  have := one_class ⟨b, hb⟩
  unfold byB
  rw [Int.toNat_natCast, ← this]
theorem accR_snoc (pre : List (Int × Int)) (x : Int × Int) : accR (pre ++ [x]) = stepR (accR pre) x := by unfold accR; rw [List.foldl_append]; rfl
theorem accR_size (pre : List (Int × Int)) : (accR pre).size ≤ 1 + 9 * pre.length := by
  have := acc_size pre ⟨#[91]⟩
  have e : (ByteArray.mk #[91]).size = 1 := rfl
  unfold accR
  omega
theorem row_byte {u : World} {B : Nat} {A : Option Addr} {l : List Nat} (h : ByteRow u B A l) {b off : Nat} (hA : A = some ⟨b, off, none⟩) {i : Nat} (hi : i < l.length) : u.cell? ⟨b, off + i, none⟩ = some (.int .u8 (l[i] : Int)) := by
  obtain ⟨b', off', e, _, h2⟩ := h (by intro e; rw [e] at hi; simp at hi)
  rw [hA] at e
  cases e
  exact h2 i _ (List.getElem?_eq_getElem hi)

attribute [local irreducible] FreeW

theorem rowB_step {w w' : World} {A : Option Addr} {l : List Nat} (h : ByteRow w w.heap.size A l) (hb : Below w.heap.size w w') : ByteRow w' w'.heap.size A l := fun hl => by
  obtain ⟨b, off, h1, h2, h3⟩ := h hl
  exact ⟨b, off, h1, Nat.lt_of_lt_of_le h2 hb.size, fun k x hx => (hb.cell (p := ⟨b, off + k, none⟩) h2).trans (h3 k x hx)⟩
theorem step_lt {acc : ByteArray} {x y : Nat} (h : x < y) : ((acc ++ byB classB (x : Int)) ++ ⟨#[45]⟩) ++ byB classB (y : Int) = stepR acc ((x : Int), (y : Int)) := by
  unfold stepR
  rw [if_pos (by show (x : Int) < (y : Int); omega)]
  simp only [ByteArray.append_assoc]
theorem step_eq {acc : ByteArray} {x : Nat} : acc ++ byB classB (x : Int) = stepR acc ((x : Int), (x : Int)) := by
  unfold stepR
  rw [if_neg (by show ¬ (x : Int) < (x : Int); omega)]
theorem set_step {m : Nat → Bool} {j q : Nat} {acc : ByteArray} (hp : j < (mems m 256).length) (hjq : j ≤ q) (hq : q < (mems m 256).length)
    (hr : ∀ t (h : t < (mems m 256).length), j ≤ t → t ≤ q → (mems m 256)[t] = (mems m 256)[j] + (t - j)) (he : ∀ h : q + 1 < (mems m 256).length, (mems m 256)[q + 1] ≠ (mems m 256)[q] + 1)
    (h : ∃ pre f, rangesOf m = pre ++ rangesFrom m f (byteOr (mems m 256) j) ∧ acc = accR pre ∧ f + pre.length = 257 ∧ pre.length ≤ j) :
    (∃ pre f, rangesOf m = pre ++ rangesFrom m f (byteOr (mems m 256) (q + 1)) ∧ stepR acc (((mems m 256)[j] : Int), ((mems m 256)[q] : Int)) = accR pre ∧ f + pre.length = 257 ∧ pre.length ≤ q + 1) ∧ (stepR acc (((mems m 256)[j] : Int), ((mems m 256)[q] : Int))).size ≤ 2400 := by
  obtain ⟨pre, f, h1, rfl, h3, h4⟩ := h
  have hlen := mems_len m 256
  obtain ⟨f', rfl⟩ : ∃ f', f = f' + 1 := ⟨f - 1, by omega⟩
  rw [ranges_run hp hjq hq hr he] at h1
  rw [← accR_snoc]
  refine ⟨⟨pre ++ [_], f', by rw [h1, List.append_assoc]; rfl, rfl, by rw [List.length_append, List.length_singleton]; omega, by rw [List.length_append, List.length_singleton]; omega⟩, ?_⟩
  have := accR_size (pre ++ [(((mems m 256)[j] : Int), ((mems m 256)[q] : Int))])
  rw [List.length_append, List.length_singleton] at this
  omega

set_option maxRecDepth 20000 in
set_option maxHeartbeats 8000000 in
theorem refSet_any (m : Nat → Bool) (w : World) : Calls Tryd.prog 31 #[setV m] w fun e w' => e = .returned (.string (setB m)) ∧ Below w.heap.size w w' := by
  have hb1 : Below w.heap.size w (w.alloc (.cells (set4 m).toArray 24)) := (Below.refl _ _).alloc (Nat.le_refl _) _
  have HC := Lib.hid (refBytes_any m (w.alloc (.cells (set4 m).toArray 24)))
  have HB1 := Lib.hid (And.intro hb1 (BlkIs.new w 24 (set4 m).toArray))
  have HON := Lib.hid (fun (b : Nat) (hb : b < 256) u => refOne_any ⟨#[124, 42, 43, 63, 123, 125, 40, 41, 91, 93, 46, 60, 62, 47, 92]⟩ (by decide) b hb u)
  have HOC := Lib.hid (fun (b : Nat) (hb : b < 256) u => refOne_any ⟨#[91, 93, 94, 45, 47, 92]⟩ (by decide) b hb u)
  have hcnt := cnt_mems m 256
  have hL256 := mems_len m 256
  obtain ⟨R, hR⟩ : ∃ R, R = setB m := ⟨_, rfl⟩
  rw [← hR]
  unfold setB at hR
  rw [hcnt] at hR
  have HR := Lib.hid hR
  clear hb1 hcnt hR
  unfold setV at *
  unfold set4 at *
  by_cases h1 : (mems m 256).length = 1
  · have hr := HR.out
    rw [if_pos h1, next_start] at hr
    have h0 : 0 < (mems m 256).length := by omega
    have hb0 := (mems_in h0).1
    have hby : byteOr (mems m 256) 0 = ((mems m 256)[0] : Int) := by unfold byteOr; rw [dif_pos h0]
    rw [hby, show IntKind.u8.wrap ((mems m 256)[0] : Int) = ((mems m 256)[0] : Int) by rw [IntKind.wrap_u8]; omega, ← byB_signs hb0] at hr
    have HRR := Lib.hid hr
    have HCC := Lib.hid (HON.out (mems m 256)[0] hb0)
    have hcell := fun u B A b off (h : ByteRow u B A (mems m 256)) (hA : A = some ⟨b, off, none⟩) => row_byte h hA h0
    have hex := fun u B A (h : ByteRow u B A (mems m 256)) => (h (by intro e; rw [e] at h0; simp at h0))
    have HCELL := Lib.hid hcell
    have HEX := Lib.hid hex
    clear hr hcell hby hex
    have hcv : IntKind.i64.wrap (((mems m 256)[0] : Nat) : Int) = (((mems m 256)[0] : Nat) : Int) := by rw [IntKind.wrap_i64]; omega
    generalize (mems m 256)[0] = x at *
    unfold BytesIs at HC
    rw [h1] at HC
    go_enter Tryd.func31, Tryd.ntmps31
    go_wp2_with fail
    go_at_call 48
    refine HC.out.mono ?_
    rintro e u1 ⟨A, c, rfl, hrow, hb2⟩
    obtain ⟨b, off, rfl, _, _⟩ := HEX.out _ _ _ hrow
    have hc0 := HCELL.out _ _ _ _ _ hrow rfl
    rw [Nat.add_zero] at hc0
    have HB2 := Lib.hid (HB1.out.1.trans (hb2.mono HB1.out.1.size))
    clear hrow hb2
    go_wp2_with fail
    go_at_call 49
    refine (HCC.out _).mono ?_
    rintro e u2 ⟨rfl, hb3⟩
    have HB3 := Lib.hid (HB2.out.trans (hb3.mono HB2.out.size))
    clear hb3
    go_wp2
    go_ret
    exact ⟨by rw [HRR.out]; rfl, HB3.out⟩
  by_cases h2 : (mems m 256).length = 256
  · have hr := HR.out
    rw [if_neg h1, if_pos h2] at hr
    have HRR := Lib.hid hr
    clear hr
    unfold BytesIs at HC
    rw [h2] at HC
    go_enter Tryd.func31, Tryd.ntmps31
    go_wp2_with fail
    go_at_call 48
    refine HC.out.mono ?_
    rintro e u1 ⟨A, c, rfl, hrow, hb2⟩
    have HB2 := Lib.hid (HB1.out.1.trans (hb2.mono HB1.out.1.size))
    clear hrow hb2
    go_wp2
    go_ret
    exact ⟨by rw [HRR.out]; rfl, HB2.out⟩
  have hr := HR.out
  rw [if_neg h1, if_neg h2] at hr
  have HRR := Lib.hid hr
  clear hr HR HON
  obtain ⟨n, hn⟩ : ∃ n, n = (mems m 256).length := ⟨_, rfl⟩
  have e1 : ((n : Int) == 1) = false := by simp; omega
  have e2 : ((n : Int) == 256) = false := by simp; omega
  have hn256 : n ≤ 256 := by omega
  have HN := Lib.hid hn
  unfold BytesIs at HC
  rw [← hn] at HC
  clear h1 h2 hn hL256
  go_enter Tryd.func31, Tryd.ntmps31
  go_wp2_with fail
  go_at_call 48
  refine HC.out.mono ?_
  rintro e u1 ⟨A, c, rfl, hrow, hb2⟩
  have HB2 := Lib.hid (And.intro (HB1.out.1.trans (hb2.mono HB1.out.1.size)) hrow)
  clear hrow hb2
  go_wp2
  go_loopw [4, 5] (fun s i wr => ∃ (j : Nat) (acc : ByteArray), s = .string acc ∧ i = .int .i64 j ∧ j ≤ n ∧ acc.size ≤ 2400 ∧ Hid (Below w.heap.size w wr ∧ ByteRow wr wr.heap.size A (mems m 256) ∧ ∃ pre f, rangesOf m = pre ++ rangesFrom m f (byteOr (mems m 256) j) ∧ acc = accR pre ∧ f + pre.length = 257 ∧ pre.length ≤ j)) (fun _ i _ => n - (intOf i).toNat)
  case atStart => exact ⟨0, accR [], rfl, rfl, Nat.zero_le _, by decide, Lib.hid ⟨HB2.out.1, HB2.out.2, [], 257, by rw [List.nil_append, ← next_start]; rfl, rfl, rfl, Nat.le_refl _⟩⟩
  case round =>
    obtain ⟨j, acc, rfl, rfl, hj, hacc, HH⟩ := hrel
    by_cases hp : j < n
    · have hdl : decide ((j : Int) < (n : Int)) = true := by simp; omega
      have HA := Lib.hid (fun (k : Nat) (hk : k < n) => (mems_in (m := m) (i := k) (by rw [← HN.out]; exact hk)))
      obtain ⟨b, off, hAe, _, _⟩ := HH.out.2.1 (by intro e; have := HN.out; rw [e] at this; simp at this; omega)
      subst hAe
      have HCELL := Lib.hid (fun (u : World) (k : Nat) (hk : k < n) (h : ByteRow u u.heap.size (some ⟨b, off, none⟩) (mems m 256)) => row_byte h rfl (i := k) (by rw [← HN.out]; exact hk))
      obtain ⟨wo, hwo⟩ : ∃ wo : World, wo = wr := ⟨_, rfl⟩
      subst hwo
      go_wp2
      go_loopw [6] (fun k ur => ∃ q : Nat, k = .int .i64 q ∧ j ≤ q ∧ q < n ∧ Hid (Below wo.heap.size wo ur ∧ ByteRow ur ur.heap.size (some ⟨b, off, none⟩) (mems m 256) ∧ ∀ t (h : t < (mems m 256).length) (hj' : j < (mems m 256).length), j ≤ t → t ≤ q → (mems m 256)[t] = (mems m 256)[j] + (t - j))) (fun k _ => n - (intOf k).toNat)
      case atStart =>
        refine ⟨j, rfl, Nat.le_refl _, hp, Lib.hid ⟨Below.refl _ _, HH.out.2.1, ?_⟩⟩
        intro t h h' h3 h4
        obtain rfl : t = j := by omega
        omega
      case round =>
        obtain ⟨q, rfl, hjq, hq, HK⟩ := hrel
        have hk1 : IntKind.i64.wrap ((q : Int) + 1) = ((q + 1 : Nat) : Int) := by rw [IntKind.wrap_i64]; omega
        by_cases hq1 : q + 1 < n
        · have hd1 : decide (((q + 1 : Nat) : Int) < (n : Int)) = true := by simp; omega
          have hd1n : decide ((q : Int) + 1 < (n : Int)) = true := by simp; omega
          have hi1n : (q : Int) + 1 < (n : Int) := by omega
          have hi1 : ((q + 1 : Nat) : Int) < (n : Int) := by omega
          have hi0 : (q : Int) < (n : Int) := by omega
          obtain ⟨x, hx⟩ : ∃ x, x = (mems m 256)[q]'(by rw [← HN.out]; exact hq) := ⟨_, rfl⟩
          obtain ⟨y, hy⟩ : ∃ y, y = (mems m 256)[q + 1]'(by rw [← HN.out]; exact hq1) := ⟨_, rfl⟩
          have hxy : x < y := by rw [hx, hy]; exact mems_mono (by omega) _
          have hy256 : y < 256 := by rw [hy]; exact (HA.out (q + 1) hq1).1
          have hw8 : IntKind.u8.wrap ((x : Int) + 1) = ((x + 1 : Nat) : Int) := by rw [IntKind.wrap_u8]; omega
          have HXX := Lib.hid (And.intro hx hy)
          clear hx hy
          by_cases hyx : y = x + 1
          · have e3 : ((y : Int) == ((x + 1 : Nat) : Int)) = true := by rw [hyx]; simp
            go_wp2_with fail
            refine wp_region_reads 70 (fun u => ByteRow u u.heap.size (some ⟨b, off, none⟩) (mems m 256) ∧ Below wo.heap.size wo u) (by kernel_rfl) (by kernel_rfl) rfl ⟨rowB_step HK.out.2.1 (Below.refl _ _).drew, HK.out.1.drew⟩ (fun u u' h hb => ⟨rowB_step h.1 hb, h.2.trans (hb.mono h.2.size)⟩) ?_
            repeat
              refine freeW_step fun K hK => ?_
              (first
                | (refine freeW_yes 5 32 true rfl rfl ?_ ?_; (focus (go_simp; done)))
                | skip)
              go_simp
              apply Exists.intro
              refine ⟨fun u h1 h2 => ?_, hK _ ?_⟩
              · have h1' := Lib.hid h1
                clear h1 h2
                have k0 := HCELL.out _ q hq h1'.out
                have k1 := HCELL.out _ (q + 1) hq1 h1'.out
                rw [← HXX.out.1] at k0
                rw [← HXX.out.2] at k1
                unfold freeAt
                go_simp
                first
                  | exact free_val
                  | (apply free_call
                     first
                       | fail
                     )
              clear hK K
            refine freeW_nil ?_
            intro u hu _
            have HU := Lib.hid hu
            clear hu
            go_wp2
            refine ⟨⟨q + 1, by go_num, by omega, hq1, Lib.hid ⟨HU.out.2, HU.out.1, ?_⟩⟩, by simp [intOf]; omega⟩
            intro t h h' h3 h4
            by_cases ht : t = q + 1
            · subst ht
              have := HK.out.2.2 q (by omega) h' hjq (Nat.le_refl _)
              rw [← HXX.out.2]
              rw [← HXX.out.1] at this
              omega
            · exact HK.out.2.2 t h h' h3 (by omega)
          · have e3 : ((y : Int) == ((x + 1 : Nat) : Int)) = false := by simp; omega
            go_wp2_with fail
            refine wp_region_reads 70 (fun u => ByteRow u u.heap.size (some ⟨b, off, none⟩) (mems m 256) ∧ Below wo.heap.size wo u) (by kernel_rfl) (by kernel_rfl) rfl ⟨rowB_step HK.out.2.1 (Below.refl _ _).drew, HK.out.1.drew⟩ (fun u u' h hb => ⟨rowB_step h.1 hb, h.2.trans (hb.mono h.2.size)⟩) ?_
            repeat
              refine freeW_step fun K hK => ?_
              (first
                | (refine freeW_yes 5 32 true rfl rfl ?_ ?_; (focus (go_simp; done)))
                | skip)
              go_simp
              apply Exists.intro
              refine ⟨fun u h1 h2 => ?_, hK _ ?_⟩
              · have h1' := Lib.hid h1
                clear h1 h2
                have k0 := HCELL.out _ q hq h1'.out
                have k1 := HCELL.out _ (q + 1) hq1 h1'.out
                rw [← HXX.out.1] at k0
                rw [← HXX.out.2] at k1
                unfold freeAt
                go_simp
                first
                  | exact free_val
                  | (apply free_call
                     first
                       | fail
                     )
              clear hK K
            refine freeW_nil ?_
            intro u hu _
            have HKE := Lib.hid (And.intro hu.2 (And.intro hu.1 HK.out.2.2))
            have HNE := Lib.hid (show ∀ h : q + 1 < (mems m 256).length, (mems m 256)[q + 1] ≠ (mems m 256)[q] + 1 from fun h => by rw [← HXX.out.1, ← HXX.out.2]; exact hyx)
            clear hu hyx hxy hy256 hw8 HXX
            have HE := Lib.hid (set_step (acc := acc) (by rw [← HN.out]; exact hp) hjq (by rw [← HN.out]; exact hq) (fun t h h3 h4 => HKE.out.2.2 t h (by rw [← HN.out]; exact hp) h3 h4) HNE.out HH.out.2.2)
            have hj0 := HCELL.out _ j hp HKE.out.2.1
            have hjx := HA.out j hp
            have hqx := HA.out q hq
            obtain ⟨x, hx⟩ : ∃ x, x = (mems m 256)[j]'(by rw [← HN.out]; exact hp) := ⟨_, rfl⟩
            obtain ⟨y, hy⟩ : ∃ y, y = (mems m 256)[q]'(by rw [← HN.out]; exact hq) := ⟨_, rfl⟩
            have hxy := HKE.out.2.2 q (by rw [← HN.out]; exact hq) (by rw [← HN.out]; exact hp) hjq (Nat.le_refl _)
            rw [← hx, ← hy] at hxy
            rw [← hx] at hj0 hjx
            rw [← hy] at hqx
            have hex := HE.out
            rw [← hx, ← hy] at hex
            have HQC := Lib.hid (fun (v : World) (h : ByteRow v v.heap.size (some ⟨b, off, none⟩) (mems m 256)) => (show v.cell? ⟨b, off + q, none⟩ = some (.int .u8 (y : Int)) from by rw [hy]; exact HCELL.out v q hq h))
            clear hx hy HE
            have HO1 := Lib.hid (HOC.out x hjx.1)
            have HO2 := Lib.hid (HOC.out y hqx.1)
            rw [byB_class hjx.1] at HO1
            rw [byB_class hqx.1] at HO2
            have hs1 := byB_size classB (x : Int)
            have hs2 := byB_size classB (y : Int)
            have hcx : IntKind.i64.wrap ((x : Nat) : Int) = ((x : Nat) : Int) := by rw [IntKind.wrap_i64]; have := hjx.1; omega
            have hcy : IntKind.i64.wrap ((y : Nat) : Int) = ((y : Nat) : Int) := by rw [IntKind.wrap_i64]; have := hqx.1; omega
            have hkq : IntKind.i64.wrap ((q : Int) + 1) = ((q + 1 : Nat) : Int) := by rw [IntKind.wrap_i64]; omega
            have hjn : (j : Int) < (n : Int) := by omega
            have hqn : (q : Int) < (n : Int) := by omega
            have hzz : (ByteArray.mk #[45]).size = 1 := rfl
            have HXY := Lib.hid (And.intro hxy hex)
            clear hxy hex hjx hqx
            generalize hbx : byB classB (x : Int) = bx at *
            generalize hby : byB classB (y : Int) = by' at *
            have HBX := Lib.hid (And.intro hbx hby)
            clear hbx hby
            by_cases hgt : j < q
            · have e7 : decide ((q : Int) > (j : Int)) = true := by simp; omega
              go_wp2_with fail
              go_at_call 49
              refine (HO1.out _).mono ?_
              rintro e v1 ⟨rfl, hb3⟩
              have HKF := Lib.hid (And.intro (HKE.out.1.trans (hb3.mono HKE.out.1.size)) (rowB_step HKE.out.2.1 hb3))
              have hq0 := HQC.out v1 HKF.out.2
              clear hb3 hj0
              go_wp2_with fail
              go_at_call 49
              refine (HO2.out _).mono ?_
              rintro e v2 ⟨rfl, hb4⟩
              have HKG := Lib.hid (And.intro (HKF.out.1.trans (hb4.mono HKF.out.1.size)) (rowB_step HKF.out.2 hb4))
              clear hb4 hq0
              go_wp2
              have hst := step_lt (acc := acc) (x := x) (y := y) (by have := HXY.out.1; omega)
              rw [HBX.out.1, HBX.out.2] at hst
              rw [hst]
              exact ⟨⟨q + 1, _, rfl, by go_num, hq, HXY.out.2.2, Lib.hid ⟨HH.out.1.trans (HKG.out.1.mono HH.out.1.size), HKG.out.2, HXY.out.2.1⟩⟩, by simp [intOf]; omega⟩
            · have e7 : decide ((q : Int) > (j : Int)) = false := by simp; omega
              go_wp2_with fail
              go_at_call 49
              refine (HO1.out _).mono ?_
              rintro e v1 ⟨rfl, hb3⟩
              have HKF := Lib.hid (And.intro (HKE.out.1.trans (hb3.mono HKE.out.1.size)) (rowB_step HKE.out.2.1 hb3))
              clear hb3 hj0
              go_wp2
              have hyx : y = x := by have := HXY.out.1; omega
              have hst := step_eq (acc := acc) (x := x)
              rw [HBX.out.1] at hst
              rw [hst]
              have hz := HXY.out.2
              rw [hyx] at hz
              exact ⟨⟨q + 1, _, rfl, by go_num, hq, hz.2, Lib.hid ⟨HH.out.1.trans (HKF.out.1.mono HH.out.1.size), HKF.out.2, hz.1⟩⟩, by simp [intOf]; omega⟩
        · have hd1 : decide (((q + 1 : Nat) : Int) < (n : Int)) = false := by simp; omega
          have hd1n : decide ((q : Int) + 1 < (n : Int)) = false := by simp; omega
          go_wp2_with fail
          refine wp_region_reads 70 (fun u => ByteRow u u.heap.size (some ⟨b, off, none⟩) (mems m 256) ∧ Below wo.heap.size wo u) (by kernel_rfl) (by kernel_rfl) rfl ⟨rowB_step HK.out.2.1 (Below.refl _ _).drew, HK.out.1.drew⟩ (fun u u' h hb => ⟨rowB_step h.1 hb, h.2.trans (hb.mono h.2.size)⟩) ?_
          repeat
            refine freeW_step fun K hK => ?_
            first
              | ((first
                    | (refine freeW_no 5 32 true rfl rfl ?_ ?_; (focus (go_simp; done))))
                 have HK := Go.Lib.hid hK
                 clear hK
                 go_simp
                 have hK := HK.out
                 clear HK
                 refine hK _ ?_
                 clear hK K)
              | (skip
                 (first
                   | skip)
                 go_simp
                 apply Exists.intro
                 refine ⟨fun u h1 h2 => ?_, hK _ ?_⟩
                 · have h1' := Lib.hid h1
                   clear h1 h2
                   unfold freeAt
                   go_simp
                   first
                     | exact free_val
                     | (apply free_call
                        first
                          | fail
                        )
                 clear hK K)
          refine freeW_nil ?_
          intro u hu _
          have HKE := Lib.hid (And.intro hu.2 (And.intro hu.1 HK.out.2.2))
          have HNE := Lib.hid (show ∀ h : q + 1 < (mems m 256).length, (mems m 256)[q + 1] ≠ (mems m 256)[q] + 1 from fun h => absurd (by rw [HN.out]; exact h) hq1)
          clear hu
          have HE := Lib.hid (set_step (acc := acc) (by rw [← HN.out]; exact hp) hjq (by rw [← HN.out]; exact hq) (fun t h h3 h4 => HKE.out.2.2 t h (by rw [← HN.out]; exact hp) h3 h4) HNE.out HH.out.2.2)
          have hj0 := HCELL.out _ j hp HKE.out.2.1
          have hjx := HA.out j hp
          have hqx := HA.out q hq
          obtain ⟨x, hx⟩ : ∃ x, x = (mems m 256)[j]'(by rw [← HN.out]; exact hp) := ⟨_, rfl⟩
          obtain ⟨y, hy⟩ : ∃ y, y = (mems m 256)[q]'(by rw [← HN.out]; exact hq) := ⟨_, rfl⟩
          have hxy := HKE.out.2.2 q (by rw [← HN.out]; exact hq) (by rw [← HN.out]; exact hp) hjq (Nat.le_refl _)
          rw [← hx, ← hy] at hxy
          rw [← hx] at hj0 hjx
          rw [← hy] at hqx
          have hex := HE.out
          rw [← hx, ← hy] at hex
          have HQC := Lib.hid (fun (v : World) (h : ByteRow v v.heap.size (some ⟨b, off, none⟩) (mems m 256)) => (show v.cell? ⟨b, off + q, none⟩ = some (.int .u8 (y : Int)) from by rw [hy]; exact HCELL.out v q hq h))
          clear hx hy HE
          have HO1 := Lib.hid (HOC.out x hjx.1)
          have HO2 := Lib.hid (HOC.out y hqx.1)
          rw [byB_class hjx.1] at HO1
          rw [byB_class hqx.1] at HO2
          have hs1 := byB_size classB (x : Int)
          have hs2 := byB_size classB (y : Int)
          have hcx : IntKind.i64.wrap ((x : Nat) : Int) = ((x : Nat) : Int) := by rw [IntKind.wrap_i64]; have := hjx.1; omega
          have hcy : IntKind.i64.wrap ((y : Nat) : Int) = ((y : Nat) : Int) := by rw [IntKind.wrap_i64]; have := hqx.1; omega
          have hkq : IntKind.i64.wrap ((q : Int) + 1) = ((q + 1 : Nat) : Int) := by rw [IntKind.wrap_i64]; omega
          have hjn : (j : Int) < (n : Int) := by omega
          have hqn : (q : Int) < (n : Int) := by omega
          have hzz : (ByteArray.mk #[45]).size = 1 := rfl
          have HXY := Lib.hid (And.intro hxy hex)
          clear hxy hex hjx hqx
          generalize hbx : byB classB (x : Int) = bx at *
          generalize hby : byB classB (y : Int) = by' at *
          have HBX := Lib.hid (And.intro hbx hby)
          clear hbx hby
          by_cases hgt : j < q
          · have e7 : decide ((q : Int) > (j : Int)) = true := by simp; omega
            go_wp2_with fail
            go_at_call 49
            refine (HO1.out _).mono ?_
            rintro e v1 ⟨rfl, hb3⟩
            have HKF := Lib.hid (And.intro (HKE.out.1.trans (hb3.mono HKE.out.1.size)) (rowB_step HKE.out.2.1 hb3))
            have hq0 := HQC.out v1 HKF.out.2
            clear hb3 hj0
            go_wp2_with fail
            go_at_call 49
            refine (HO2.out _).mono ?_
            rintro e v2 ⟨rfl, hb4⟩
            have HKG := Lib.hid (And.intro (HKF.out.1.trans (hb4.mono HKF.out.1.size)) (rowB_step HKF.out.2 hb4))
            clear hb4 hq0
            go_wp2
            have hst := step_lt (acc := acc) (x := x) (y := y) (by have := HXY.out.1; omega)
            rw [HBX.out.1, HBX.out.2] at hst
            rw [hst]
            exact ⟨⟨q + 1, _, rfl, by go_num, hq, HXY.out.2.2, Lib.hid ⟨HH.out.1.trans (HKG.out.1.mono HH.out.1.size), HKG.out.2, HXY.out.2.1⟩⟩, by simp [intOf]; omega⟩
          · have e7 : decide ((q : Int) > (j : Int)) = false := by simp; omega
            go_wp2_with fail
            go_at_call 49
            refine (HO1.out _).mono ?_
            rintro e v1 ⟨rfl, hb3⟩
            have HKF := Lib.hid (And.intro (HKE.out.1.trans (hb3.mono HKE.out.1.size)) (rowB_step HKE.out.2.1 hb3))
            clear hb3 hj0
            go_wp2
            have hyx : y = x := by have := HXY.out.1; omega
            have hst := step_eq (acc := acc) (x := x)
            rw [HBX.out.1] at hst
            rw [hst]
            have hz := HXY.out.2
            rw [hyx] at hz
            exact ⟨⟨q + 1, _, rfl, by go_num, hq, hz.2, Lib.hid ⟨HH.out.1.trans (HKF.out.1.mono HH.out.1.size), HKF.out.2, hz.1⟩⟩, by simp [intOf]; omega⟩
    · have hdl : decide ((j : Int) < (n : Int)) = false := by simp; omega
      obtain ⟨pre, f, h1, h2, h3, h4⟩ := HH.out.2.2
      rw [ranges_end (by rw [← HN.out]; exact hp), List.append_nil] at h1
      have hacc2 : accR (rangesOf m) = acc := by rw [h1, h2]
      have HACC := Lib.hid hacc2
      have hz2 : (ByteArray.mk #[93]).size = 1 := rfl
      clear h1 h2 h3 h4 hacc2
      go_wp2
      go_ret
      refine ⟨?_, HH.out.1⟩
      rw [HRR.out, HACC.out]
      rfl
end Go.Proofs.YtkladjjeacjgpaaDoor

