/-
  WHAT hackleref04's Begins ANSWERS at a ReByte. Condition: the text has at most 2^30 bytes.
-/
import Derived.Test.YtgbljnnmhmlifaaQG36
import Derived.Test.YtgbljnnmhmlifaaQG06
namespace Go.Proofs.Ytgbljnnmhmlifaa
open Go.RowKit
attribute [local irreducible] FreeW

theorem freeW_skip {P : Program} {C : World → Prop} {o : Oper} {a : Act} {ops : Array Oper} {K : Act → Prop} (i d : Nat) (b : Bool) (hg : o.guard = some (i, b)) (hi : (ops[i]?).bind (·.dst) = some d) (hv : a.tmps.getD d undef = undef) (h1 : K (a.put o.dst undef)) :
    if Region.wanted o (yielded ops a.tmps) = true then ∃ v, (∀ w, C w → freeAt P o a w v) ∧ K (a.put o.dst v) else K (a.put o.dst undef) := by
  rw [if_neg]
  · exact h1
  · unfold Region.wanted yielded
    rw [hg]
    cases h : a.tmps[d]? with
    | none => simp [hi, h]
    | some x =>
      rw [Array.getD_eq_getD_getElem?, h] at hv
      have hx : x = undef := hv
      subst hx
      simp [hi, h, undef]

set_option maxHeartbeats 8000000 in
set_option maxRecDepth 20000 in
theorem begins_k1 (s : ByteArray) (n : Nat) (hs30 : s.size ≤ 1073741824) (hn : n = s.size + 1) (m : Nat → Bool) (l : List Tree) (lo hi : Int) (A : Option Addr) (c : Nat) (w : World) (g0 : Nat) (f : Nat → Bool) (hf0 : BlkIs w g0 4 (bl n f)) :
    Calls Try.prog 42 #[reV 1 m A l.length c lo hi, .string s, .slice (some ⟨g0, 0, none⟩) n n] w (BoolIs (if setEq m (fun _ => false) then false else f s.size || (decide (0 < s.size) && (f (s.size - 1) && m (byteAt s.data.toList (s.size - 1))))) w) := by
  have hB0 : Below w.heap.size w (w.alloc (.cells (reL 1 m A l.length c lo hi).toArray 39)) := (Below.refl _ _).alloc (Nat.le_refl _) _
  have hX0 := BlkIs.new w 39 (reL 1 m A l.length c lo hi).toArray
  have HB0 := Lib.hid (And.intro hB0 (And.intro hX0 (hf0.alloc (.cells (reL 1 m A l.length c lo hi).toArray 39))))
  have hsn : s.size < n := by omega
  have hsi : (s.size : Int) < (n : Int) := by omega
  have HN := Lib.hid hn
  clear hB0 hX0 hn
  have he := eql_set m (fun _ => false)
  rw [set0_build] at he
  unfold BoolIs at *
  unfold setV at he
  unfold reV reL at *
  clear hf0
  generalize setEq m (fun _ => false) = q at *
  cases q with
  | true =>
    go_enter Try.func42, Try.ntmps42
    go_wp2
    go_ret
    exact ⟨rfl, HB0.out.1⟩
  | false =>
  rw [if_neg (by simp)]
  obtain ⟨hq0, hq1⟩ : (0 < s.size → (s.size - 1 < n)) ∧ True := ⟨fun h => by omega, trivial⟩
  by_cases hpos : 0 < s.size
  · have hl1 : s.size - 1 < s.size := by omega
    have hl1n : s.size - 1 < n := by omega
    have hl1i : ((s.size - 1 : Nat) : Int) < (n : Int) := by omega
    have hb1 : byteAt s.data.toList (s.size - 1) = (s[s.size - 1]'hl1).toNat := by
      rw [Lib.getD_at s (s.size - 1) hl1]; rfl
    have hx1 : (s[s.size - 1]'hl1).toNat < 256 := by have := UInt8.toNat_lt (s[s.size - 1]'hl1); omega
    have hi1 := idx_byte 9 Try.underlying9 s (s.size - 1) hl1 (P := Try.prog)
    have hk1 : IntKind.i64.wrap (((s[s.size - 1]'hl1).toNat : Nat) : Int) = (((s[s.size - 1]'hl1).toNat : Nat) : Int) := by rw [IntKind.wrap_i64]; omega
    have hw1 : IntKind.i64.wrap ((s.size : Int) - 1) = ((s.size - 1 : Nat) : Int) := by rw [IntKind.wrap_i64]; omega
    have dpos : decide ((s.size : Int) > 0) = true := decide_eq_true (by omega)
    have dpos2 : decide (0 < s.size) = true := decide_eq_true hpos
    have HC := Lib.hid (fun u => refHas_any m (s[s.size - 1]'hl1).toNat hx1 u)
    have HCE := Lib.hid (fun (u : World) (h1 : BlkIs u w.heap.size 39 (reL 1 m A l.length c lo hi).toArray) (h2 : BlkIs u g0 4 (bl n f)) =>
      (⟨bl_range h2 hsn, bl_range h2 hl1n, h1.cell 1, h1.cell 2, h1.cell 3, h1.cell 4⟩ : u.cell? ⟨g0, s.size, none⟩ = some (.bool (f s.size)) ∧ u.cell? ⟨g0, s.size - 1, none⟩ = some (.bool (f (s.size - 1))) ∧
        u.cell? ⟨w.heap.size, 1, none⟩ = some (.int .u64 (wd m 0 : Nat)) ∧ u.cell? ⟨w.heap.size, 2, none⟩ = some (.int .u64 (wd m 1 : Nat)) ∧ u.cell? ⟨w.heap.size, 3, none⟩ = some (.int .u64 (wd m 2 : Nat)) ∧ u.cell? ⟨w.heap.size, 4, none⟩ = some (.int .u64 (wd m 3 : Nat))))
    rw [dpos2, Bool.true_and, hb1]
    unfold setV at HC
    clear hb1 hq0 hq1
    generalize f s.size = x at *
    generalize f (s.size - 1) = y at *
    generalize hmz : m (s[s.size - 1]'hl1).toNat = z at *
    clear hmz
    cases x <;> cases y <;> cases z
    all_goals (
      go_enter Try.func42, Try.ntmps42
      go_wp2_with fail
      refine wp_region_reads 139 (fun u => Below w.heap.size w u ∧ BlkIs u w.heap.size 39 (reL 1 m A l.length c lo hi).toArray ∧ BlkIs u g0 4 (bl n f)) (by kernel_rfl) (by kernel_rfl) rfl ⟨HB0.out.1.drew, HB0.out.2.1.drew, HB0.out.2.2.drew⟩ (fun u u' h hb => ⟨h.1.trans (hb.mono h.1.size), h.2.1.step hb, h.2.2.step hb⟩) ?_
      clear he
      repeat
        refine freeW_step fun K hK => ?_
        first
          | ((first
                | (refine freeW_no 4 32 false rfl rfl ?_ ?_; (focus (go_simp; done)))
                | (refine freeW_no 7 35 true rfl rfl ?_ ?_; (focus (go_simp; done)))
                | (refine freeW_no 14 42 true rfl rfl ?_ ?_; (focus (go_simp; done)))
                | (refine freeW_skip 7 35 true rfl rfl ?_ ?_; (focus (go_simp; done)))
                | (refine freeW_skip 14 42 true rfl rfl ?_ ?_; (focus (go_simp; done))))
             have HK := Go.Lib.hid hK
             clear hK
             go_simp
             have hK := HK.out
             clear HK
             refine hK _ ?_
             clear hK K)
          | (skip
             (first
               | (refine freeW_yes 4 32 false rfl rfl ?_ ?_; (focus (go_simp; done)))
               | (refine freeW_yes 7 35 true rfl rfl ?_ ?_; (focus (go_simp; done)))
               | (refine freeW_yes 14 42 true rfl rfl ?_ ?_; (focus (go_simp; done)))
               | skip)
             go_simp
             apply Exists.intro
             refine ⟨fun u h1 h2 h3 => ?_, hK _ ?_⟩
             · obtain ⟨d0, d1, b1, b2, b3, b4⟩ := HCE.out u h2 h3
               clear h1 h2 h3
               unfold freeAt
               go_simp
               first
                 | exact free_val
                 | (apply free_call
                    first
                      | (go_at_call 52; exact HC.out _)
                    )
             clear hK K)
      refine freeW_nil ?_
      intro u hu _
      have HU := Lib.hid hu
      clear hu
      go_wp2
      go_ret
      exact ⟨rfl, HU.out.1⟩)
  · have hz : s.size = 0 := by omega
    have dpos : decide ((s.size : Int) > 0) = false := decide_eq_false (by omega)
    have dpos2 : decide (0 < s.size) = false := decide_eq_false hpos
    have HC := Lib.hid (fun u => refHas_any m 0 (by decide) u)
    have HCE := Lib.hid (fun (u : World) (h1 : BlkIs u w.heap.size 39 (reL 1 m A l.length c lo hi).toArray) (h2 : BlkIs u g0 4 (bl n f)) =>
      (⟨bl_range h2 hsn, trivial, h1.cell 1, h1.cell 2, h1.cell 3, h1.cell 4⟩ : u.cell? ⟨g0, s.size, none⟩ = some (.bool (f s.size)) ∧ True ∧
        u.cell? ⟨w.heap.size, 1, none⟩ = some (.int .u64 (wd m 0 : Nat)) ∧ u.cell? ⟨w.heap.size, 2, none⟩ = some (.int .u64 (wd m 1 : Nat)) ∧ u.cell? ⟨w.heap.size, 3, none⟩ = some (.int .u64 (wd m 2 : Nat)) ∧ u.cell? ⟨w.heap.size, 4, none⟩ = some (.int .u64 (wd m 3 : Nat))))
    rw [dpos2, Bool.false_and, Bool.or_false]
    clear hq0 hq1 hpos hz
    generalize f s.size = x at *
    cases x
    all_goals (
      go_enter Try.func42, Try.ntmps42
      go_wp2_with fail
      refine wp_region_reads 139 (fun u => Below w.heap.size w u ∧ BlkIs u w.heap.size 39 (reL 1 m A l.length c lo hi).toArray ∧ BlkIs u g0 4 (bl n f)) (by kernel_rfl) (by kernel_rfl) rfl ⟨HB0.out.1.drew, HB0.out.2.1.drew, HB0.out.2.2.drew⟩ (fun u u' h hb => ⟨h.1.trans (hb.mono h.1.size), h.2.1.step hb, h.2.2.step hb⟩) ?_
      clear he
      repeat
        refine freeW_step fun K hK => ?_
        first
          | ((first
                | (refine freeW_no 4 32 false rfl rfl ?_ ?_; (focus (go_simp; done)))
                | (refine freeW_no 7 35 true rfl rfl ?_ ?_; (focus (go_simp; done)))
                | (refine freeW_no 14 42 true rfl rfl ?_ ?_; (focus (go_simp; done)))
                | (refine freeW_skip 7 35 true rfl rfl ?_ ?_; (focus (go_simp; done)))
                | (refine freeW_skip 14 42 true rfl rfl ?_ ?_; (focus (go_simp; done))))
             have HK := Go.Lib.hid hK
             clear hK
             go_simp
             have hK := HK.out
             clear HK
             refine hK _ ?_
             clear hK K)
          | (skip
             (first
               | (refine freeW_yes 4 32 false rfl rfl ?_ ?_; (focus (go_simp; done)))
               | (refine freeW_yes 7 35 true rfl rfl ?_ ?_; (focus (go_simp; done)))
               | (refine freeW_yes 14 42 true rfl rfl ?_ ?_; (focus (go_simp; done)))
               | skip)
             go_simp
             apply Exists.intro
             refine ⟨fun u h1 h2 h3 => ?_, hK _ ?_⟩
             · obtain ⟨d0, d1, b1, b2, b3, b4⟩ := HCE.out u h2 h3
               clear h1 h2 h3
               unfold freeAt
               go_simp
               first
                 | exact free_val
                 | (apply free_call
                    first
                      | (go_at_call 52; exact HC.out _)
                    )
             clear hK K)
      refine freeW_nil ?_
      intro u hu _
      have HU := Lib.hid hu
      clear hu
      go_wp2
      go_ret
      exact ⟨rfl, HU.out.1⟩)

end Go.Proofs.Ytgbljnnmhmlifaa

namespace Go.Proofs.Ytgbljnnmhmlifaa
open Go.RowKit

set_option maxHeartbeats 8000000 in
set_option maxRecDepth 20000 in
theorem begins_k4 (s : ByteArray) (n : Nat) (hn : n = s.size + 1) (m : Nat → Bool) (t : Tree) (lo hi : Int) (b o : Nat) (c : Nat) (V : Bool) (w : World) (g0 : Nat) (f : Nat → Bool) (hf0 : BlkIs w g0 4 (bl n f))
    (cs : List Value) (hcat : Tree.At w t (.agg cs.toArray)) (hrow : w.rangeAt b o cs)
    (ih : ∀ (v : Value) (w : World) (g0 : Nat) (f : Nat → Bool), Tree.At w t v → BlkIs w g0 4 (bl n f) → Calls Try.prog 42 #[v, .string s, .slice (some ⟨g0, 0, none⟩) n n] w (BoolIs (t.begins s.data.toList f) w))
    (ie : ∀ (v : Value) (w : World) (g0 : Nat) (f : Nat → Bool), Tree.At w t v → BlkIs w g0 4 (bl n f) → Calls Try.prog 51 #[v, .string s, .slice (some ⟨g0, 0, none⟩) n n] w (EndsIs n (t.ends s.data.toList f) w))
    (iv : ∀ u, Below w.heap.size w u → Calls Try.prog 53 #[reV 4 m (some ⟨b, o, none⟩) 1 c lo hi] u (BoolIs V u))
    (hs30 : s.size ≤ 1073741824) (hlo : 0 ≤ lo ∧ lo ≤ 64 ∧ (hi = -1 ∨ lo ≤ hi ∧ hi ≤ 64)) :
    Calls Try.prog 42 #[reV 4 m (some ⟨b, o, none⟩) 1 c lo hi, .string s, .slice (some ⟨g0, 0, none⟩) n n] w (BoolIs (if V then false else if f s.size then true else beginsRep (t.begins s.data.toList) (t.ends s.data.toList) s.size (mostOf s.data.toList lo hi) f) w) := by
  have hB0 : Below w.heap.size w (w.alloc (.cells (reL 4 m (some ⟨b, o, none⟩) 1 c lo hi).toArray 39)) := (Below.refl _ _).alloc (Nat.le_refl _) _
  have hX0 := BlkIs.new w 39 (reL 4 m (some ⟨b, o, none⟩) 1 c lo hi).toArray
  have HB0 := Lib.hid (And.intro hB0 (And.intro hX0 (hf0.alloc (.cells (reL 4 m (some ⟨b, o, none⟩) 1 c lo hi).toArray 39))))
  have hsn : s.size < n := by omega
  have hsi : (s.size : Int) < (n : Int) := by omega
  have HN := Lib.hid hn
  have IE := Lib.hid ie
  have IV := Lib.hid iv
  clear ie iv
  have IH := Lib.hid ih
  clear ih
  clear hB0 hX0 hn
  unfold BoolIs at *
  unfold reV reL at *
  clear hf0
  obtain ⟨A', n', c', rfl⟩ := hcat.eight
  have hrows := fun (u : World) (hu : Below w.heap.size w u) => row_eight hrow hu
  have hbs := fun (u : World) (hu : Below w.heap.size w u) (g : Nat) (f' : Nat → Bool) (hf' : BlkIs u g 4 (bl n f')) => IH.out _ u g f' (hcat.step hu) hf'
  have hes := fun (u : World) (hu : Below w.heap.size w u) (g : Nat) (f' : Nat → Bool) (hf' : BlkIs u g 4 (bl n f')) => IE.out _ u g f' (hcat.step hu) hf'
  unfold reL at hbs hes
  unfold EndsIs at hes
  generalize t.ends s.data.toList = E at *
  generalize t.begins s.data.toList = B at *
  obtain ⟨lo', rfl⟩ : ∃ z : Nat, lo = (z : Int) := ⟨lo.toNat, by omega⟩
  have hlo64 : lo' ≤ 64 := by omega
  obtain ⟨M, hM⟩ : ∃ M, mostOf s.data.toList (lo' : Int) hi = M := ⟨_, rfl⟩
  rw [hM]
  have hlen2 : s.data.toList.length = s.size := rfl
  have hMle : M ≤ 1073742000 := by
    rw [← hM]; unfold mostOf
    split <;> omega
  have HRW := Lib.hid hrows
  have HBS := Lib.hid hbs
  have HES := Lib.hid hes
  have hM2 : (hi < 0 ∧ M = lo' + s.size + 1) ∨ (0 ≤ hi ∧ hi = (M : Int)) := by
    rw [← hM]; unfold mostOf
    split <;> omega
  have hiv := IV.out _ HB0.out.1
  have HIV := Lib.hid hiv
  clear hiv
  clear hrow hrows hcat hbs hes hM hlen2 IV IH IE
  cases V with
  | true =>
    go_enter Try.func42, Try.ntmps42
    go_wp2_with fail
    refine HIV.out.mono ?_
    rintro e w1 ⟨rfl, hb1⟩
    have HB1 := Lib.hid (HB0.out.1.trans (hb1.mono HB0.out.1.size))
    clear hb1
    go_wp2
    go_ret
    exact ⟨rfl, HB1.out⟩
  | false =>
  rw [if_neg (by simp)]
  by_cases hfn : f s.size = true
  · rw [if_pos hfn]
    go_enter Try.func42, Try.ntmps42
    go_wp2_with fail
    refine HIV.out.mono ?_
    rintro e w1 ⟨rfl, hb1⟩
    have HB1 := Lib.hid (HB0.out.1.trans (hb1.mono HB0.out.1.size))
    have d0 := bl_range (HB0.out.2.2.step hb1) hsn
    rw [hfn] at d0
    clear hb1
    go_wp2
    go_ret
    exact ⟨rfl, HB1.out⟩
  rw [if_neg hfn]
  have hfn : f s.size = false := by simpa using hfn
  obtain ⟨R, hR⟩ : ∃ R, beginsRep B E s.size M f = R := ⟨_, rfl⟩
  rw [hR]
  have HR := Lib.hid hR
  clear hR
  rcases hM2 with ⟨hneg, hM2⟩ | ⟨hneg, hM2⟩
  · have e0 : decide (hi < 0) = true := by simp [hneg]
    have e1 : IntKind.i64.wrap ((lo' : Int) + (s.size : Int)) = (lo' : Int) + (s.size : Int) := by rw [IntKind.wrap_i64]; omega
    have e2 : IntKind.i64.wrap ((lo' : Int) + (s.size : Int) + 1) = (M : Int) := by rw [IntKind.wrap_i64]; omega
    clear hM2
    go_enter Try.func42, Try.ntmps42
    go_wp2_with fail
    refine HIV.out.mono ?_
    rintro e w1 ⟨rfl, hb1⟩
    have HB1 := Lib.hid (And.intro (HB0.out.1.trans (hb1.mono HB0.out.1.size)) (And.intro (HB0.out.2.1.step hb1) (HB0.out.2.2.step hb1)))
    have hbl := HB1.out.2.1
    unfold reL at hbl
    obtain ⟨_, _, _, _, _, c5, c6, c7⟩ := hbl.eight
    have d0 := bl_range HB1.out.2.2 hsn
    rw [hfn] at d0
    clear hb1 hbl
    go_wp2
    clear c5 c6 c7 d0
    go_loopw [2, 11] (fun x i wr => ∃ (q g : Nat) (f' : Nat → Bool), x = .slice (some ⟨g, 0, none⟩) n n ∧ i = .int .i64 q ∧ q ≤ M ∧ Hid (Below w.heap.size w wr ∧ BlkIs wr w.heap.size 39 (reL 4 m (some ⟨b, o, none⟩) 1 c (lo' : Int) hi).toArray ∧ BlkIs wr g 4 (bl n f') ∧ beginsRep B E s.size (M - q) f' = R)) (fun _ i _ => M - (intOf i).toNat)
    case atStart => exact ⟨0, g0, f, rfl, rfl, Nat.zero_le _, Lib.hid ⟨HB1.out.1, HB1.out.2.1, HB1.out.2.2, HR.out⟩⟩
    case round =>
      obtain ⟨q, g, f', rfl, rfl, hq, HH⟩ := hrel
      by_cases hp : q < M
      · have hdl : decide ((q : Int) < (M : Int)) = true := by simp; omega
        have hk1 : IntKind.i64.wrap ((q : Int) + 1) = ((q + 1 : Nat) : Int) := by rw [IntKind.wrap_i64]; omega
        have hbl := HH.out.2.1
        unfold reL at hbl
        obtain ⟨_, _, _, _, _, c5, _, _⟩ := hbl.eight
        obtain ⟨r0, r1, r2, r3, r4, r5, r6, r7⟩ := HRW.out _ HH.out.1
        have hcall := HBS.out wr HH.out.1 g _ HH.out.2.2.1
        have hst : beginsRep B E s.size (M - q) f' = (B f' || beginsRep B E s.size (M - (q + 1)) (E f')) := by
          rw [show M - q = (M - (q + 1)) + 1 by omega]; rfl
        have HD := Lib.hid (hst.symm.trans HH.out.2.2.2)
        clear hst hbl
        by_cases hx : B f' = true
        · rw [hx] at hcall
          have HC := Lib.hid hcall
          have HA := Lib.hid (show R = true by rw [← HD.out, hx]; rfl)
          clear hcall hx
          go_wp2_with fail
          refine HC.out.mono ?_
          rintro e w2 ⟨rfl, hb2⟩
          have HB2 := Lib.hid hb2
          clear hb2
          go_wp2
          go_ret
          rw [HA.out]
          exact ⟨rfl, HH.out.1.trans (HB2.out.mono HH.out.1.size)⟩
        · have hx2 : B f' = false := by simpa using hx
          rw [hx2] at hcall
          have HC := Lib.hid hcall
          have HA := Lib.hid (show beginsRep B E s.size (M - (q + 1)) (E f') = R by rw [← HD.out, hx2]; rfl)
          clear hcall hx hx2
          go_wp2_with fail
          refine HC.out.mono ?_
          rintro e w2 ⟨rfl, hb2⟩
          have HB2 := Lib.hid (And.intro (HH.out.1.trans (hb2.mono HH.out.1.size)) (And.intro (HH.out.2.1.step hb2) (HH.out.2.2.1.step hb2)))
          have hbl := HB2.out.2.1
          unfold reL at hbl
          clear c5 r0 r1 r2 r3 r4 r5 r6 r7 hb2
          obtain ⟨_, _, _, _, _, c5, _, _⟩ := hbl.eight
          obtain ⟨r0, r1, r2, r3, r4, r5, r6, r7⟩ := HRW.out _ HB2.out.1
          have HC2 := Lib.hid (HES.out _ HB2.out.1 g _ HB2.out.2.2)
          clear hbl
          go_wp2_with fail
          refine HC2.out.mono ?_
          rintro e w3 ⟨g3, rfl, hg3, hbl3, hb3⟩
          have HB3 := Lib.hid (And.intro (HB2.out.1.trans (hb3.mono HB2.out.1.size)) (And.intro (HB2.out.2.1.step hb3) hbl3))
          clear hg3 hbl3 hb3
          go_wp2
          exact ⟨⟨q + 1, g3, _, rfl, by go_num, hp, Lib.hid ⟨HB3.out.1, HB3.out.2.1, HB3.out.2.2, HA.out⟩⟩, by simp [intOf]; omega⟩
      · have hdl : decide ((q : Int) < (M : Int)) = false := by simp; omega
        obtain rfl : q = M := by omega
        have HA := Lib.hid (show f' s.size = R by
          have h := HH.out.2.2.2
          rw [Nat.sub_self] at h
          exact h)
        have d0 := bl_range HH.out.2.2.1 hsn
        go_wp2
        go_ret
        rw [← HA.out]
        exact ⟨rfl, HH.out.1⟩
  · have e0 : decide (hi < 0) = false := by simp; omega
    subst hM2
    go_enter Try.func42, Try.ntmps42
    go_wp2_with fail
    refine HIV.out.mono ?_
    rintro e w1 ⟨rfl, hb1⟩
    have HB1 := Lib.hid (And.intro (HB0.out.1.trans (hb1.mono HB0.out.1.size)) (And.intro (HB0.out.2.1.step hb1) (HB0.out.2.2.step hb1)))
    have hbl := HB1.out.2.1
    unfold reL at hbl
    obtain ⟨_, _, _, _, _, c5, c6, c7⟩ := hbl.eight
    have d0 := bl_range HB1.out.2.2 hsn
    rw [hfn] at d0
    clear hb1 hbl
    go_wp2
    clear c5 c6 c7 d0
    go_loopw [2, 11] (fun x i wr => ∃ (q g : Nat) (f' : Nat → Bool), x = .slice (some ⟨g, 0, none⟩) n n ∧ i = .int .i64 q ∧ q ≤ M ∧ Hid (Below w.heap.size w wr ∧ BlkIs wr w.heap.size 39 (reL 4 m (some ⟨b, o, none⟩) 1 c (lo' : Int) (M : Int)).toArray ∧ BlkIs wr g 4 (bl n f') ∧ beginsRep B E s.size (M - q) f' = R)) (fun _ i _ => M - (intOf i).toNat)
    case atStart => exact ⟨0, g0, f, rfl, rfl, Nat.zero_le _, Lib.hid ⟨HB1.out.1, HB1.out.2.1, HB1.out.2.2, HR.out⟩⟩
    case round =>
      obtain ⟨q, g, f', rfl, rfl, hq, HH⟩ := hrel
      by_cases hp : q < M
      · have hdl : decide ((q : Int) < (M : Int)) = true := by simp; omega
        have hk1 : IntKind.i64.wrap ((q : Int) + 1) = ((q + 1 : Nat) : Int) := by rw [IntKind.wrap_i64]; omega
        have hbl := HH.out.2.1
        unfold reL at hbl
        obtain ⟨_, _, _, _, _, c5, _, _⟩ := hbl.eight
        obtain ⟨r0, r1, r2, r3, r4, r5, r6, r7⟩ := HRW.out _ HH.out.1
        have hcall := HBS.out wr HH.out.1 g _ HH.out.2.2.1
        have hst : beginsRep B E s.size (M - q) f' = (B f' || beginsRep B E s.size (M - (q + 1)) (E f')) := by
          rw [show M - q = (M - (q + 1)) + 1 by omega]; rfl
        have HD := Lib.hid (hst.symm.trans HH.out.2.2.2)
        clear hst hbl
        by_cases hx : B f' = true
        · rw [hx] at hcall
          have HC := Lib.hid hcall
          have HA := Lib.hid (show R = true by rw [← HD.out, hx]; rfl)
          clear hcall hx
          go_wp2_with fail
          refine HC.out.mono ?_
          rintro e w2 ⟨rfl, hb2⟩
          have HB2 := Lib.hid hb2
          clear hb2
          go_wp2
          go_ret
          rw [HA.out]
          exact ⟨rfl, HH.out.1.trans (HB2.out.mono HH.out.1.size)⟩
        · have hx2 : B f' = false := by simpa using hx
          rw [hx2] at hcall
          have HC := Lib.hid hcall
          have HA := Lib.hid (show beginsRep B E s.size (M - (q + 1)) (E f') = R by rw [← HD.out, hx2]; rfl)
          clear hcall hx hx2
          go_wp2_with fail
          refine HC.out.mono ?_
          rintro e w2 ⟨rfl, hb2⟩
          have HB2 := Lib.hid (And.intro (HH.out.1.trans (hb2.mono HH.out.1.size)) (And.intro (HH.out.2.1.step hb2) (HH.out.2.2.1.step hb2)))
          have hbl := HB2.out.2.1
          unfold reL at hbl
          clear c5 r0 r1 r2 r3 r4 r5 r6 r7 hb2
          obtain ⟨_, _, _, _, _, c5, _, _⟩ := hbl.eight
          obtain ⟨r0, r1, r2, r3, r4, r5, r6, r7⟩ := HRW.out _ HB2.out.1
          have HC2 := Lib.hid (HES.out _ HB2.out.1 g _ HB2.out.2.2)
          clear hbl
          go_wp2_with fail
          refine HC2.out.mono ?_
          rintro e w3 ⟨g3, rfl, hg3, hbl3, hb3⟩
          have HB3 := Lib.hid (And.intro (HB2.out.1.trans (hb3.mono HB2.out.1.size)) (And.intro (HB2.out.2.1.step hb3) hbl3))
          clear hg3 hbl3 hb3
          go_wp2
          exact ⟨⟨q + 1, g3, _, rfl, by go_num, hp, Lib.hid ⟨HB3.out.1, HB3.out.2.1, HB3.out.2.2, HA.out⟩⟩, by simp [intOf]; omega⟩
      · have hdl : decide ((q : Int) < (M : Int)) = false := by simp; omega
        obtain rfl : q = M := by omega
        have HA := Lib.hid (show f' s.size = R by
          have h := HH.out.2.2.2
          rw [Nat.sub_self] at h
          exact h)
        have d0 := bl_range HH.out.2.2.1 hsn
        go_wp2
        go_ret
        rw [← HA.out]
        exact ⟨rfl, HH.out.1⟩

end Go.Proofs.Ytgbljnnmhmlifaa

namespace Go.Proofs.Ytgbljnnmhmlifaa
open Go.RowKit

theorem refBegins_any (s : ByteArray) (hs30 : s.size ≤ 1073741824) (n : Nat) (hn : n = s.size + 1) : ∀ (T : Tree) (v : Value) (w : World) (g0 : Nat) (f : Nat → Bool), T.ok = true → Tree.At w T v → BlkIs w g0 4 (bl n f) →
    Calls Try.prog 42 #[v, .string s, .slice (some ⟨g0, 0, none⟩) n n] w (BoolIs (T.begins s.data.toList f) w) := by
  intro T
  induction T using Tree.ind with
  | h k m l lo hi ih =>
    intro v w g0 f hok hat hf
    have hvoid := fun u (hu : Below w.heap.size w u) => refVoid_any (.node k m l lo hi) v u hok (hat.step hu)
    obtain ⟨A, c, rfl, hc, hs⟩ := hat.open
    obtain ⟨hoks, hn'⟩ := ok_open hok
    have hkind := okNode_kind hn'
    have ih' := fun t ht v w g0 f => ih t ht v w g0 f (hoks t ht)
    have ie := fun t ht v w g0 f => refEnds_any s hs30 n hn t v w g0 f (hoks t ht)
    unfold Tree.begins
    rcases hkind with ⟨rfl, hl⟩ | ⟨rfl, hl⟩ | ⟨rfl, hl⟩ | ⟨rfl, hl⟩ | ⟨rfl, hl, hlo⟩
    · rw [if_pos rfl]
      exact begins_k0 s n hn m l lo hi A c w g0 f hf
    · rw [if_neg (by decide), if_pos rfl]
      exact begins_k1 s n hs30 hn m l lo hi A c w g0 f hf
    · rw [if_neg (by decide), if_neg (by decide), if_pos rfl]
      rw [void_2] at hvoid
      exact begins_k2 s n hn m l lo hi A c hc _ w g0 f hf hs ih' ie hvoid
    · rw [if_neg (by decide), if_neg (by decide), if_neg (by decide), if_pos rfl]
      exact begins_k3 s n hn m l lo hi A c hc w g0 f hf hs ih'
    · rw [if_neg (by decide), if_neg (by decide), if_neg (by decide), if_neg (by decide)]
      rw [void_4] at hvoid
      obtain ⟨t, rfl⟩ : ∃ t, l = [t] := by
        match l, hl with
        | [t], _ => exact ⟨t, rfl⟩
      obtain ⟨b, o, rfl, hbw, hg⟩ := hs (by simp)
      obtain ⟨cs, hcat, hlen, hrow⟩ := hg 0 (by simp)
      rw [show o + 0 * 8 = o by omega] at hrow
      exact begins_k4 s n hn m t lo hi b o c _ w g0 f hf cs hcat hrow (ih' t (by simp)) (ie t (by simp)) hvoid hs30 hlo

end Go.Proofs.Ytgbljnnmhmlifaa

