/-
  WHAT hackleref04's Begins ANSWERS at a ReRep, where it answers rightly at its Sub. Condition: the text has at most 2^30 bytes.
-/
import Derived.Test.YtfodpkciahkehaaBegins2
namespace Go.Proofs.Ytfodpkciahkehaa
open Go.RowKit

set_option maxHeartbeats 8000000 in
set_option maxRecDepth 20000 in
theorem begins_k4 (s : ByteArray) (n : Nat) (hn : n = s.size + 1) (m : Nat → Bool) (t : Tree) (lo hi : Int) (b o : Nat) (c : Nat) (V : Bool) (w : World) (g0 : Nat) (f : Nat → Bool) (hf0 : BlkIs w g0 4 (bl n f))
    (cs : List Value) (hcat : Tree.At w t (.agg cs.toArray)) (hrow : w.rangeAt b o cs)
    (ih : ∀ (v : Value) (w : World) (g0 : Nat) (f : Nat → Bool), Tree.At w t v → BlkIs w g0 4 (bl n f) → Calls Try.prog 19 #[v, .string s, .slice (some ⟨g0, 0, none⟩) n n] w (BoolIs (t.begins s.data.toList f) w))
    (ie : ∀ (v : Value) (w : World) (g0 : Nat) (f : Nat → Bool), Tree.At w t v → BlkIs w g0 4 (bl n f) → Calls Try.prog 37 #[v, .string s, .slice (some ⟨g0, 0, none⟩) n n] w (EndsIs n (t.ends s.data.toList f) w))
    (iv : ∀ u, Below w.heap.size w u → Calls Try.prog 36 #[reV 4 m (some ⟨b, o, none⟩) 1 c lo hi] u (BoolIs V u))
    (hs30 : s.size ≤ 1073741824) (hlo : 0 ≤ lo ∧ lo ≤ 64 ∧ (hi = -1 ∨ lo ≤ hi ∧ hi ≤ 64)) :
    Calls Try.prog 19 #[reV 4 m (some ⟨b, o, none⟩) 1 c lo hi, .string s, .slice (some ⟨g0, 0, none⟩) n n] w (BoolIs (if V then false else if f s.size then true else beginsRep (t.begins s.data.toList) (t.ends s.data.toList) s.size (mostOf s.data.toList lo hi) f) w) := by
  have hB0 : Below w.heap.size w (w.alloc (.cells (reL 4 m (some ⟨b, o, none⟩) 1 c lo hi).toArray 27)) := (Below.refl _ _).alloc (Nat.le_refl _) _
  have hX0 := BlkIs.new w 27 (reL 4 m (some ⟨b, o, none⟩) 1 c lo hi).toArray
  have HB0 := Lib.hid (And.intro hB0 (And.intro hX0 (hf0.alloc (.cells (reL 4 m (some ⟨b, o, none⟩) 1 c lo hi).toArray 27))))
  have hsn : s.size < n := by omega
  have hsi : (s.size : Int) < (n : Int) := by omega
  have HN := Lib.hid hn
  have IE := Lib.hid ie
  have IV := Lib.hid iv
  clear ie iv
  have IH := Lib.hid ih
  clear ih
  clear hB0 hX0 hn
  unfold BoolIs at *
  unfold reV reL at *
  clear hf0
  obtain ⟨A', n', c', rfl⟩ := hcat.eight
  have hrows := fun (u : World) (hu : Below w.heap.size w u) => row_eight hrow hu
  have hbs := fun (u : World) (hu : Below w.heap.size w u) (g : Nat) (f' : Nat → Bool) (hf' : BlkIs u g 4 (bl n f')) => IH.out _ u g f' (hcat.step hu) hf'
  have hes := fun (u : World) (hu : Below w.heap.size w u) (g : Nat) (f' : Nat → Bool) (hf' : BlkIs u g 4 (bl n f')) => IE.out _ u g f' (hcat.step hu) hf'
  unfold reL at hbs hes
  unfold EndsIs at hes
  generalize t.ends s.data.toList = E at *
  generalize t.begins s.data.toList = B at *
  obtain ⟨lo', rfl⟩ : ∃ z : Nat, lo = (z : Int) := ⟨lo.toNat, by omega⟩
  have hlo64 : lo' ≤ 64 := by omega
  obtain ⟨M, hM⟩ : ∃ M, mostOf s.data.toList (lo' : Int) hi = M := ⟨_, rfl⟩
  rw [hM]
  have hlen2 : s.data.toList.length = s.size := rfl
  have hMle : M ≤ 1073742000 := by
    rw [← hM]; unfold mostOf
    split <;> omega
  have HRW := Lib.hid hrows
  have HBS := Lib.hid hbs
  have HES := Lib.hid hes
  have hM2 : (hi < 0 ∧ M = lo' + s.size + 1) ∨ (0 ≤ hi ∧ hi = (M : Int)) := by
    rw [← hM]; unfold mostOf
    split <;> omega
  have hiv := IV.out _ HB0.out.1
  have HIV := Lib.hid hiv
  clear hiv
  clear hrow hrows hcat hbs hes hM hlen2 IV IH IE
  cases V with
  | true =>
    go_enter Try.func19, Try.ntmps19
    go_wp2_with fail
    refine HIV.out.mono ?_
    rintro e w1 ⟨rfl, hb1⟩
    have HB1 := Lib.hid (HB0.out.1.trans (hb1.mono HB0.out.1.size))
    clear hb1
    go_wp2
    go_ret
    exact ⟨rfl, HB1.out⟩
  | false =>
  rw [if_neg (by simp)]
  by_cases hfn : f s.size = true
  · rw [if_pos hfn]
    go_enter Try.func19, Try.ntmps19
    go_wp2_with fail
    refine HIV.out.mono ?_
    rintro e w1 ⟨rfl, hb1⟩
    have HB1 := Lib.hid (HB0.out.1.trans (hb1.mono HB0.out.1.size))
    have d0 := bl_range (HB0.out.2.2.step hb1) hsn
    rw [hfn] at d0
    clear hb1
    go_wp2
    go_ret
    exact ⟨rfl, HB1.out⟩
  rw [if_neg hfn]
  have hfn : f s.size = false := by simpa using hfn
  obtain ⟨R, hR⟩ : ∃ R, beginsRep B E s.size M f = R := ⟨_, rfl⟩
  rw [hR]
  have HR := Lib.hid hR
  clear hR
  rcases hM2 with ⟨hneg, hM2⟩ | ⟨hneg, hM2⟩
  · have e0 : decide (hi < 0) = true := by simp [hneg]
    have e1 : IntKind.i64.wrap ((lo' : Int) + (s.size : Int)) = (lo' : Int) + (s.size : Int) := by rw [IntKind.wrap_i64]; omega
    have e2 : IntKind.i64.wrap ((lo' : Int) + (s.size : Int) + 1) = (M : Int) := by rw [IntKind.wrap_i64]; omega
    clear hM2
    go_enter Try.func19, Try.ntmps19
    go_wp2_with fail
    refine HIV.out.mono ?_
    rintro e w1 ⟨rfl, hb1⟩
    have HB1 := Lib.hid (And.intro (HB0.out.1.trans (hb1.mono HB0.out.1.size)) (And.intro (HB0.out.2.1.step hb1) (HB0.out.2.2.step hb1)))
    have hbl := HB1.out.2.1
    unfold reL at hbl
    obtain ⟨_, _, _, _, _, c5, c6, c7⟩ := hbl.eight
    have d0 := bl_range HB1.out.2.2 hsn
    rw [hfn] at d0
    clear hb1 hbl
    go_wp2
    clear c5 c6 c7 d0
    go_loopw [2, 11] (fun x i wr => ∃ (q g : Nat) (f' : Nat → Bool), x = .slice (some ⟨g, 0, none⟩) n n ∧ i = .int .i64 q ∧ q ≤ M ∧ Hid (Below w.heap.size w wr ∧ BlkIs wr w.heap.size 27 (reL 4 m (some ⟨b, o, none⟩) 1 c (lo' : Int) hi).toArray ∧ BlkIs wr g 4 (bl n f') ∧ beginsRep B E s.size (M - q) f' = R)) (fun _ i _ => M - (intOf i).toNat)
    case atStart => exact ⟨0, g0, f, rfl, rfl, Nat.zero_le _, Lib.hid ⟨HB1.out.1, HB1.out.2.1, HB1.out.2.2, HR.out⟩⟩
    case round =>
      obtain ⟨q, g, f', rfl, rfl, hq, HH⟩ := hrel
      by_cases hp : q < M
      · have hdl : decide ((q : Int) < (M : Int)) = true := by simp; omega
        have hk1 : IntKind.i64.wrap ((q : Int) + 1) = ((q + 1 : Nat) : Int) := by rw [IntKind.wrap_i64]; omega
        have hbl := HH.out.2.1
        unfold reL at hbl
        obtain ⟨_, _, _, _, _, c5, _, _⟩ := hbl.eight
        obtain ⟨r0, r1, r2, r3, r4, r5, r6, r7⟩ := HRW.out _ HH.out.1
        have hcall := HBS.out wr HH.out.1 g _ HH.out.2.2.1
        have hst : beginsRep B E s.size (M - q) f' = (B f' || beginsRep B E s.size (M - (q + 1)) (E f')) := by
          rw [show M - q = (M - (q + 1)) + 1 by omega]; rfl
        have HD := Lib.hid (hst.symm.trans HH.out.2.2.2)
        clear hst hbl
        by_cases hx : B f' = true
        · rw [hx] at hcall
          have HC := Lib.hid hcall
          have HA := Lib.hid (show R = true by rw [← HD.out, hx]; rfl)
          clear hcall hx
          go_wp2_with fail
          refine HC.out.mono ?_
          rintro e w2 ⟨rfl, hb2⟩
          have HB2 := Lib.hid hb2
          clear hb2
          go_wp2
          go_ret
          rw [HA.out]
          exact ⟨rfl, HH.out.1.trans (HB2.out.mono HH.out.1.size)⟩
        · have hx2 : B f' = false := by simpa using hx
          rw [hx2] at hcall
          have HC := Lib.hid hcall
          have HA := Lib.hid (show beginsRep B E s.size (M - (q + 1)) (E f') = R by rw [← HD.out, hx2]; rfl)
          clear hcall hx hx2
          go_wp2_with fail
          refine HC.out.mono ?_
          rintro e w2 ⟨rfl, hb2⟩
          have HB2 := Lib.hid (And.intro (HH.out.1.trans (hb2.mono HH.out.1.size)) (And.intro (HH.out.2.1.step hb2) (HH.out.2.2.1.step hb2)))
          have hbl := HB2.out.2.1
          unfold reL at hbl
          clear c5 r0 r1 r2 r3 r4 r5 r6 r7 hb2
          obtain ⟨_, _, _, _, _, c5, _, _⟩ := hbl.eight
          obtain ⟨r0, r1, r2, r3, r4, r5, r6, r7⟩ := HRW.out _ HB2.out.1
          have HC2 := Lib.hid (HES.out _ HB2.out.1 g _ HB2.out.2.2)
          clear hbl
          go_wp2_with fail
          refine HC2.out.mono ?_
          rintro e w3 ⟨g3, rfl, hg3, hbl3, hb3⟩
          have HB3 := Lib.hid (And.intro (HB2.out.1.trans (hb3.mono HB2.out.1.size)) (And.intro (HB2.out.2.1.step hb3) hbl3))
          clear hg3 hbl3 hb3
          go_wp2
          exact ⟨⟨q + 1, g3, _, rfl, by go_num, hp, Lib.hid ⟨HB3.out.1, HB3.out.2.1, HB3.out.2.2, HA.out⟩⟩, by simp [intOf]; omega⟩
      · have hdl : decide ((q : Int) < (M : Int)) = false := by simp; omega
        obtain rfl : q = M := by omega
        have HA := Lib.hid (show f' s.size = R by
          have h := HH.out.2.2.2
          rw [Nat.sub_self] at h
          exact h)
        have d0 := bl_range HH.out.2.2.1 hsn
        go_wp2
        go_ret
        rw [← HA.out]
        exact ⟨rfl, HH.out.1⟩
  · have e0 : decide (hi < 0) = false := by simp; omega
    subst hM2
    go_enter Try.func19, Try.ntmps19
    go_wp2_with fail
    refine HIV.out.mono ?_
    rintro e w1 ⟨rfl, hb1⟩
    have HB1 := Lib.hid (And.intro (HB0.out.1.trans (hb1.mono HB0.out.1.size)) (And.intro (HB0.out.2.1.step hb1) (HB0.out.2.2.step hb1)))
    have hbl := HB1.out.2.1
    unfold reL at hbl
    obtain ⟨_, _, _, _, _, c5, c6, c7⟩ := hbl.eight
    have d0 := bl_range HB1.out.2.2 hsn
    rw [hfn] at d0
    clear hb1 hbl
    go_wp2
    clear c5 c6 c7 d0
    go_loopw [2, 11] (fun x i wr => ∃ (q g : Nat) (f' : Nat → Bool), x = .slice (some ⟨g, 0, none⟩) n n ∧ i = .int .i64 q ∧ q ≤ M ∧ Hid (Below w.heap.size w wr ∧ BlkIs wr w.heap.size 27 (reL 4 m (some ⟨b, o, none⟩) 1 c (lo' : Int) (M : Int)).toArray ∧ BlkIs wr g 4 (bl n f') ∧ beginsRep B E s.size (M - q) f' = R)) (fun _ i _ => M - (intOf i).toNat)
    case atStart => exact ⟨0, g0, f, rfl, rfl, Nat.zero_le _, Lib.hid ⟨HB1.out.1, HB1.out.2.1, HB1.out.2.2, HR.out⟩⟩
    case round =>
      obtain ⟨q, g, f', rfl, rfl, hq, HH⟩ := hrel
      by_cases hp : q < M
      · have hdl : decide ((q : Int) < (M : Int)) = true := by simp; omega
        have hk1 : IntKind.i64.wrap ((q : Int) + 1) = ((q + 1 : Nat) : Int) := by rw [IntKind.wrap_i64]; omega
        have hbl := HH.out.2.1
        unfold reL at hbl
        obtain ⟨_, _, _, _, _, c5, _, _⟩ := hbl.eight
        obtain ⟨r0, r1, r2, r3, r4, r5, r6, r7⟩ := HRW.out _ HH.out.1
        have hcall := HBS.out wr HH.out.1 g _ HH.out.2.2.1
        have hst : beginsRep B E s.size (M - q) f' = (B f' || beginsRep B E s.size (M - (q + 1)) (E f')) := by
          rw [show M - q = (M - (q + 1)) + 1 by omega]; rfl
        have HD := Lib.hid (hst.symm.trans HH.out.2.2.2)
        clear hst hbl
        by_cases hx : B f' = true
        · rw [hx] at hcall
          have HC := Lib.hid hcall
          have HA := Lib.hid (show R = true by rw [← HD.out, hx]; rfl)
          clear hcall hx
          go_wp2_with fail
          refine HC.out.mono ?_
          rintro e w2 ⟨rfl, hb2⟩
          have HB2 := Lib.hid hb2
          clear hb2
          go_wp2
          go_ret
          rw [HA.out]
          exact ⟨rfl, HH.out.1.trans (HB2.out.mono HH.out.1.size)⟩
        · have hx2 : B f' = false := by simpa using hx
          rw [hx2] at hcall
          have HC := Lib.hid hcall
          have HA := Lib.hid (show beginsRep B E s.size (M - (q + 1)) (E f') = R by rw [← HD.out, hx2]; rfl)
          clear hcall hx hx2
          go_wp2_with fail
          refine HC.out.mono ?_
          rintro e w2 ⟨rfl, hb2⟩
          have HB2 := Lib.hid (And.intro (HH.out.1.trans (hb2.mono HH.out.1.size)) (And.intro (HH.out.2.1.step hb2) (HH.out.2.2.1.step hb2)))
          have hbl := HB2.out.2.1
          unfold reL at hbl
          clear c5 r0 r1 r2 r3 r4 r5 r6 r7 hb2
          obtain ⟨_, _, _, _, _, c5, _, _⟩ := hbl.eight
          obtain ⟨r0, r1, r2, r3, r4, r5, r6, r7⟩ := HRW.out _ HB2.out.1
          have HC2 := Lib.hid (HES.out _ HB2.out.1 g _ HB2.out.2.2)
          clear hbl
          go_wp2_with fail
          refine HC2.out.mono ?_
          rintro e w3 ⟨g3, rfl, hg3, hbl3, hb3⟩
          have HB3 := Lib.hid (And.intro (HB2.out.1.trans (hb3.mono HB2.out.1.size)) (And.intro (HB2.out.2.1.step hb3) hbl3))
          clear hg3 hbl3 hb3
          go_wp2
          exact ⟨⟨q + 1, g3, _, rfl, by go_num, hp, Lib.hid ⟨HB3.out.1, HB3.out.2.1, HB3.out.2.2, HA.out⟩⟩, by simp [intOf]; omega⟩
      · have hdl : decide ((q : Int) < (M : Int)) = false := by simp; omega
        obtain rfl : q = M := by omega
        have HA := Lib.hid (show f' s.size = R by
          have h := HH.out.2.2.2
          rw [Nat.sub_self] at h
          exact h)
        have d0 := bl_range HH.out.2.2.1 hsn
        go_wp2
        go_ret
        rw [← HA.out]
        exact ⟨rfl, HH.out.1⟩

end Go.Proofs.Ytfodpkciahkehaa
