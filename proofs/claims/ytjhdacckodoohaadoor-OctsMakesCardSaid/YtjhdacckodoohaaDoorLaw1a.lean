/-
  WHAT hacklelaw01's alive AND OctsTwo ANSWER: true. Condition: the table of math/bits lies as it is laid.
-/
import Derived.Test.YtjhdacckodoohaaDoorRef1c
import Derived.Test.YtjhdacckodoohaaDoorRef1d
namespace Go.Proofs.YtjhdacckodoohaaDoor
open Go.RowKit

def TrueIs (w : World) : Ending → World → Prop := fun e w' => e = .returned (.bool true) ∧ Below w.heap.size w w'

theorem alive_1 : cntN (sRange 97 122) 256 = 26 := by decide +kernel
theorem alive_2 : nextS (sOf [5, 9]) 6 = 9 := by decide +kernel
theorem alive_3 : nextS (sOf [5]) 6 = -1 := by decide +kernel

set_option maxHeartbeats 1000000 in
theorem alive_any (w : World) (hT : Tab w) : Calls Tryd.prog 7 #[] w (TrueIs w) := by
  have hc := count_any (sRange 97 122)
  rw [alive_1] at hc
  have h5 : ∀ (u : World), Tab u → Calls Tryd.prog 22 #[setV (sOf [5, 9]), .int .i64 6] u fun e w' => e = .returned (.int .i64 9) ∧ Below u.heap.size u w' := fun u hu => by
    have := next_any (sOf [5, 9]) 6 (by decide) u hu
    rwa [alive_2] at this
  have h6 : ∀ (u : World), Tab u → Calls Tryd.prog 22 #[setV (sOf [5]), .int .i64 6] u fun e w' => e = .returned (.int .i64 (-1)) ∧ Below u.heap.size u w' := fun u hu => by
    have := next_any (sOf [5]) 6 (by decide) u hu
    rwa [alive_3] at this
  have HT := Lib.hid hT
  have HC := Lib.hid hc
  have H5 := Lib.hid h5
  have H6 := Lib.hid h6
  clear hT hc h5 h6
  go_enter Tryd.func7, Tryd.ntmps7
  go_wp2_with fail
  refine (range_any 97 122 (by decide) (by decide) _).mono ?_
  rintro e w1 ⟨rfl, hb1⟩
  go_wp2_with fail
  refine (HC.out _).mono ?_
  rintro e w2 ⟨rfl, hb2⟩
  have hB2 := hb1.trans (hb2.mono hb1.size)
  have HB2 := Lib.hid hB2
  clear hb1 hb2 hB2
  go_wp2_with fail
  refine (of_two 5 9 _ _ _ (by decide) (by decide) (by simp) (by go_simp) (by go_simp)).mono ?_
  rintro e w3 ⟨rfl, hb3⟩
  have hB3 := (HB2.out.alloc HB2.out.size _).trans (hb3.mono (by simp; have := HB2.out.size; omega))
  have HB3 := Lib.hid hB3
  clear hb3 hB3
  go_wp2_with fail
  refine (H5.out _ (HT.out.step HB3.out)).mono ?_
  rintro e w4 ⟨rfl, hb4⟩
  have hB4 := HB3.out.trans (hb4.mono HB3.out.size)
  have HB4 := Lib.hid hB4
  clear hb4 hB4
  go_wp2_with fail
  refine (of_one 5 _ _ _ (by decide) (by simp) (by go_simp)).mono ?_
  rintro e w5 ⟨rfl, hb5⟩
  have hB5 := (HB4.out.alloc HB4.out.size _).trans (hb5.mono (by simp; have := HB4.out.size; omega))
  have HB5 := Lib.hid hB5
  clear hb5 hB5
  go_wp2_with fail
  refine (H6.out _ (HT.out.step HB5.out)).mono ?_
  rintro e w6 ⟨rfl, hb6⟩
  have hB6 := HB5.out.trans (hb6.mono HB5.out.size)
  go_wp2
  go_ret
  exact ⟨rfl, hB6⟩

theorem eql_true {m n : Nat → Bool} (h : ∀ b, b < 256 → m b = n b) (w : World) : (binOp .eql 27 (setV m) (setV n)).run Tryd.prog w = .ok (.bool true) w := by
  rw [eql_set, setEq_of h]

/-- what is held of the world, in a region: it has grown; two sets lie in blocks g and k -/
theorem held_two {w2 W W' : World} {g k : Nat} {t : TypeId} {a b c d p q r s : Value} (hx : BlkIs w2 g t #[a, b, c, d]) (hy : BlkIs w2 k t #[p, q, r, s])
    (h : Below w2.heap.size w2 W ∧ W.cell? ⟨g, 0, none⟩ = some a ∧ W.cell? ⟨g, 1, none⟩ = some b ∧ W.cell? ⟨g, 2, none⟩ = some c ∧ W.cell? ⟨g, 3, none⟩ = some d ∧
      W.cell? ⟨k, 0, none⟩ = some p ∧ W.cell? ⟨k, 1, none⟩ = some q ∧ W.cell? ⟨k, 2, none⟩ = some r ∧ W.cell? ⟨k, 3, none⟩ = some s) (hb : Below W.heap.size W W') :
    Below w2.heap.size w2 W' ∧ W'.cell? ⟨g, 0, none⟩ = some a ∧ W'.cell? ⟨g, 1, none⟩ = some b ∧ W'.cell? ⟨g, 2, none⟩ = some c ∧ W'.cell? ⟨g, 3, none⟩ = some d ∧
      W'.cell? ⟨k, 0, none⟩ = some p ∧ W'.cell? ⟨k, 1, none⟩ = some q ∧ W'.cell? ⟨k, 2, none⟩ = some r ∧ W'.cell? ⟨k, 3, none⟩ = some s :=
  have hb2 := h.1.trans (hb.mono h.1.size)
  have hx2 := (hx.step hb2).four
  have hy2 := (hy.step hb2).four
  ⟨hb2, hx2.1, hx2.2.1, hx2.2.2.1, hx2.2.2.2.1, hy2.1, hy2.2.1, hy2.2.2.1, hy2.2.2.2.1⟩

theorem two_0 (m n : Nat → Bool) (w : World) : Calls Tryd.prog 13 #[setV m, setV n, .int .i64 0] w fun e w' => e = .returned (setV (sTwo m n 0)) ∧ Below w.heap.size w w' := two_any m n 0 (.inl rfl) w
theorem two_1 (m n : Nat → Bool) (w : World) : Calls Tryd.prog 13 #[setV m, setV n, .int .i64 1] w fun e w' => e = .returned (setV (sTwo m n 1)) ∧ Below w.heap.size w w' := two_any m n 1 (.inr (.inl rfl)) w
theorem two_2 (m n : Nat → Bool) (w : World) : Calls Tryd.prog 13 #[setV m, setV n, .int .i64 2] w fun e w' => e = .returned (setV (sTwo m n 2)) ∧ Below w.heap.size w w' := two_any m n 2 (.inr (.inr rfl)) w
theorem refRange_all (w : World) : Calls Tryd.prog 11 #[.int .i64 0, .int .i64 255] w fun e w' => e = .returned (setV (sRange 0 255)) ∧ Below w.heap.size w w' := refRange_any 0 255 (by decide) w

set_option maxRecDepth 100000 in
set_option maxHeartbeats 2000000 in
theorem octsTwo_any (m n : Nat → Bool) (c : Nat) (hc : c < 256) (w : World) (hT : Tab w) :
    Calls Tryd.prog 4 #[setV m, setV n, .int .u8 c] w (TrueIs w) := by
  have q0 := eql_true (m := sOr m n) (n := sTwo m n 0) (fun b _ => by simp [sOr, sTwo])
  have q1 := eql_true (m := sAnd m n) (n := sTwo m n 1) (fun b _ => by simp [sAnd, sTwo])
  have q2 := eql_true (m := sLess m n) (n := sTwo m n 2) (fun b _ => by simp [sLess, sTwo])
  have q3 := eql_true (m := sNot m) (n := sTwo (sRange 0 255) m 2) (fun b hb => by
    have : (b : Int) ≤ 255 := by omega
    simp [sNot, sTwo, sRange, this])
  have hcw : IntKind.i64.wrap (c : Int) = (c : Int) := by rw [IntKind.wrap_i64]; omega
  have hal := alive_any
  have hcm : ∀ u : World, Calls Tryd.prog 18 #[setV m, .int .i64 (c : Nat)] u fun e w' => e = .returned (.bool (m c)) ∧ Below u.heap.size u w' := fun u => refHas_any m c hc u
  have hcn : ∀ u : World, Calls Tryd.prog 17 #[setV m, .int .u8 (c : Nat)] u fun e w' => e = .returned (.bool (m c)) ∧ Below u.heap.size u w' := fun u => has_any m c hc u
  generalize m c = mc at *
  have HT := Lib.hid hT
  have HA := Lib.hid hal
  have HC := Lib.hid hcm
  have HD := Lib.hid hcn
  clear hT hal hcm hcn
  go_enter Tryd.func4, Tryd.ntmps4
  go_wp2_with fail
  have hx0 := (BlkIs.new w 27 #[.int .u64 (wd m 0 : Nat), .int .u64 (wd m 1 : Nat), .int .u64 (wd m 2 : Nat), .int .u64 (wd m 3 : Nat)]).alloc (.cells #[.int .u64 (wd n 0 : Nat), .int .u64 (wd n 1 : Nat), .int .u64 (wd n 2 : Nat), .int .u64 (wd n 3 : Nat)] 27)
  have hy0 := BlkIs.new (w.alloc (.cells #[.int .u64 (wd m 0 : Nat), .int .u64 (wd m 1 : Nat), .int .u64 (wd m 2 : Nat), .int .u64 (wd m 3 : Nat)] 27)) 27 #[.int .u64 (wd n 0 : Nat), .int .u64 (wd n 1 : Nat), .int .u64 (wd n 2 : Nat), .int .u64 (wd n 3 : Nat)]
  rw [World.size_alloc] at hy0
  have hB0 : Below w.heap.size w ((w.alloc (.cells #[.int .u64 (wd m 0 : Nat), .int .u64 (wd m 1 : Nat), .int .u64 (wd m 2 : Nat), .int .u64 (wd m 3 : Nat)] 27)).alloc (.cells #[.int .u64 (wd n 0 : Nat), .int .u64 (wd n 1 : Nat), .int .u64 (wd n 2 : Nat), .int .u64 (wd n 3 : Nat)] 27)) := ((Below.refl _ _).alloc (Nat.le_refl _) _).alloc (by simp) _
  refine (HA.out _ (HT.out.step hB0)).mono ?_
  rintro e w2 ⟨rfl, hb2⟩
  have HB := Lib.hid (hB0.trans (hb2.mono hB0.size))
  have HX := Lib.hid (hx0.step hb2)
  have HY := Lib.hid (hy0.step hb2)
  clear hx0 hy0 hB0 hb2
  go_wp2_with fail
  refine wp_region_reads 52 (fun u => BlkIs u w.heap.size 27 #[.int .u64 (wd m 0 : Nat), .int .u64 (wd m 1 : Nat), .int .u64 (wd m 2 : Nat), .int .u64 (wd m 3 : Nat)] ∧ BlkIs u (w.heap.size + 1) 27 #[.int .u64 (wd n 0 : Nat), .int .u64 (wd n 1 : Nat), .int .u64 (wd n 2 : Nat), .int .u64 (wd n 3 : Nat)])
    (by kernel_rfl) (by kernel_rfl) rfl ⟨HX.out.drew, HY.out.drew⟩ (fun u u' h hb => ⟨h.1.step hb, h.2.step hb⟩) ?_
  repeat
    refine freeW_step fun K hK => ?_
    go_simp
    first
      | (refine hK _ ?_; clear hK K)
      | (apply Exists.intro
         refine ⟨fun u h1 h2 => ?_, hK _ ?_⟩
         obtain ⟨c0, c1, c2, c3, _⟩ := h1.four
         obtain ⟨d0, d1, d2, d3, _⟩ := h2.four
         unfold freeAt
         go_simp
         first
           | exact free_val
           | (apply free_call
              first
                | (go_at_call 12; exact any_any _ _ _)
                | (go_at_call_of 13 (Value.int .i64 0); exact two_0 _ _ _)
                | (go_at_call 14; exact both_any _ _ _)
                | (go_at_call_of 13 (Value.int .i64 1); exact two_1 _ _ _)
                | (go_at_call 15; exact less_any _ _ _)
                | (go_at_call_of 13 (Value.int .i64 2); exact two_2 _ _ _)
                | (go_at_call 16; exact not_any _ _)
                | (go_at_call 11; exact refRange_all _)
                | (go_at_call 17; exact HD.out _)
                | (go_at_call 18; exact HC.out _))
         clear hK K)
  refine freeW_nil ?_
  intro u _ hb
  have hB := HB.out.trans (hb.mono HB.out.size)
  have HE := Lib.hid hB
  clear hB hb
  go_wp2
  go_ret
  exact ⟨rfl, HE.out⟩

end Go.Proofs.YtjhdacckodoohaaDoor
