/-
  THE READER OF FRAGMENTS of package rxparse: a contract. Condition: a text has at most 400 bytes.
-/
import Derived.Test.YtngagijcdehjpaaPd1
namespace Go.Proofs.Ytngagijcdehjpaa
open Go.RowKit
section
variable {pb : Nat} {s : ByteArray} {F : Value} {fr : Frs} {W W' : World} {i o j o' : Nat}

theorem row_nine {W W' : World} {b o : Nat} {k lo hi : Int} {m : Nat → Bool} {A : Option Addr} {n c : Nat} {x : Value} (h : W.rangeAt b o (x :: reL k m A n c lo hi)) (hb : Below W.heap.size W W') :
    W'.cell? ⟨b, o, none⟩ = some x ∧ W'.cell? ⟨b, o + 1, none⟩ = some (.int .i64 k) ∧ W'.cell? ⟨b, o + 2, none⟩ = some (.int .u64 (wd m 0 : Nat)) ∧ W'.cell? ⟨b, o + 3, none⟩ = some (.int .u64 (wd m 1 : Nat)) ∧ W'.cell? ⟨b, o + 4, none⟩ = some (.int .u64 (wd m 2 : Nat)) ∧
    W'.cell? ⟨b, o + 5, none⟩ = some (.int .u64 (wd m 3 : Nat)) ∧ W'.cell? ⟨b, o + 6, none⟩ = some (.slice A n c) ∧ W'.cell? ⟨b, o + 7, none⟩ = some (.int .i64 lo) ∧ W'.cell? ⟨b, o + 8, none⟩ = some (.int .i64 hi) := by
  have h' := rangeAt_step h (by simp) hb
  exact ⟨h' 0 _ rfl, h' 1 _ rfl, h' 2 _ rfl, h' 3 _ rfl, h' 4 _ rfl, h' 5 _ rfl, h' 6 _ rfl, h' 7 _ rfl, h' 8 _ rfl⟩
theorem nameP_eq {j j' : Nat} (h : nameP s i = .ok (j, j')) : j' = j ∧ i < j := by
  unfold nameP at h
  split at h
  · simp [bad] at h
  · rename_i hn
    injection h with h; injection h with h1 h2
    have := nameF_ge (s := s) i (s.size - i) i
    omega
theorem findF_cons (x : List UInt8 × Tree) (r : Frs) (l : List UInt8) (i j : Nat) : findF (x :: r) l i j = if x.1 = l then .ok (x.2, j) else findF r l i j := by
  unfold findF
  by_cases h : x.1 = l <;> simp [h]
theorem load_zero {w : World} {g : Nat} {t : TypeId} (h : BlkIs w g t zeroL.toArray) : (loadVar 31 ⟨g, 0, none⟩).run Try.prog w = .ok (reV 0 (fun _ => false) none 0 0 0 0) w := by
  rw [zeroL_is] at h; exact load_re h

def zeroF : List Value := .string ⟨#[]⟩ :: zeroL
set_option maxRecDepth 100000 in
theorem info_frag : (Try.prog.info? 42).map (·.size) = some 9 := by kernel_rfl
theorem frag_all {x : ByteArray} {k lo hi : Int} {m : Nat → Bool} {A : Option Addr} {n c : Nat} : (Value.string x :: reL k m A n c lo hi).toArray.all (·.oneCell') = true := by simp [reL, Value.oneCell']
theorem frag_store {w : World} {g : Nat} {t : TypeId} {x : ByteArray} {k lo hi : Int} {m : Nat → Bool} {A : Option Addr} {n c : Nat} {cs : Array Value} (h : BlkIs w g t cs) (hs : cs.size = 9) :
    BlkIs (w.setCells g 0 (Value.string x :: reL k m A n c lo hi)) g t (Value.string x :: reL k m A n c lo hi).toArray := h.fill (new := (Value.string x :: reL k m A n c lo hi).toArray) (by rw [hs]; rfl)
theorem nine_cells {w : World} {g : Nat} {t : TypeId} {x : Value} {k lo hi : Int} {m : Nat → Bool} {A : Option Addr} {n c : Nat} (h : BlkIs w g t (x :: reL k m A n c lo hi).toArray) :
    w.cell? ⟨g, 0, none⟩ = some x ∧ w.cell? ⟨g, 1, none⟩ = some (.int .i64 k) ∧ w.cell? ⟨g, 2, none⟩ = some (.int .u64 (wd m 0 : Nat)) ∧ w.cell? ⟨g, 3, none⟩ = some (.int .u64 (wd m 1 : Nat)) ∧ w.cell? ⟨g, 4, none⟩ = some (.int .u64 (wd m 2 : Nat)) ∧
    w.cell? ⟨g, 5, none⟩ = some (.int .u64 (wd m 3 : Nat)) ∧ w.cell? ⟨g, 6, none⟩ = some (.slice A n c) ∧ w.cell? ⟨g, 7, none⟩ = some (.int .i64 lo) ∧ w.cell? ⟨g, 8, none⟩ = some (.int .i64 hi) :=
  ⟨h.cell 0, h.cell 1, h.cell 2, h.cell 3, h.cell 4, h.cell 5, h.cell 6, h.cell 7, h.cell 8⟩
set_option maxHeartbeats 400000 in
theorem fragment_any (h : Sf pb s F fr W i o) (hb : sgnAt s i = 13) : Calls Try.prog 57 #[ptrP pb] W (EndsAs pb s F W (encTree pb W.heap.size) o (fragP s fr i)) := by
  have hb60 := sgn_angle hb
  have hp := h.lt
  have k60 : ∀ W W0, St pb s F W0 W i o → Calls Try.prog 58 #[ptrP pb, .int .u8 60] W fun e W' => e = .returned (.tuple #[]) ∧ St pb s F W0 W' (i + 1) o := fun _ _ h => mustY 60 h hb60
  have hN := fun W W0 (h : St pb s F W0 W (i + 1) o) => name_any h
  have hA := h.alloc (.cells zeroL.toArray 31)
  have hSA := h.st.alloc (.cells zeroL.toArray 31)
  have hz := zero_new W
  have HA := Lib.hid hA
  have HSA := Lib.hid hSA
  have HZ := Lib.hid hz
  obtain ⟨c0, c1, c2, c3, f0, f1, f2, f3⟩ := hSA.cells
  clear hA hSA hz
  unfold fragP
  rcases hl : nameP s (i + 1) with q | ⟨j, j'⟩
  · simp only [hl] at hN
    simp only [Res.then]
    unfold zeroL at *
    go_enter Try.func57, Try.ntmps57
    go_wp2_with (first
      | (go_at_call 58; (with_reducible refine (k60 _ _ HSA.out).mono ?_); rintro e W1 ⟨rfl, g1⟩)
      | (go_at_call 64; (with_reducible refine (hN _ _ g1).mono ?_); rintro e W2 ⟨rfl, hk⟩))
    exact ⟨rfl, rfl, hk⟩
  · obtain ⟨rfl, hij⟩ := nameP_eq hl
    simp only [hl] at hN
    simp only [Res.then]
    cases h62 : isAt s j' 62
    · rw [if_neg (by decide)]
      have k62 : ∀ W W0, St pb s F W0 W j' o → Calls Try.prog 58 #[ptrP pb, .int .u8 62] W fun e W' => e = .panicked [{ v := fltV (j', 2), recovered := false }] ∧ Kept pb W0 W' := fun _ _ h => mustN 62 h h62
      unfold zeroL at *
      go_enter Try.func57, Try.ntmps57
      go_wp2_with (first
        | (go_at_call 58; (with_reducible refine (k60 _ _ HSA.out).mono ?_); rintro e W1 ⟨rfl, g1⟩)
        | (go_at_call 64; (with_reducible refine (hN _ _ g1).mono ?_); rintro e W2 ⟨⟨v, rfl, rfl⟩, g2⟩)
        | (go_at_call 58; (with_reducible refine (k62 _ _ g2).mono ?_); rintro e W3 ⟨rfl, hk⟩))
      exact ⟨rfl, rfl, hk⟩
    · rw [if_pos rfl]
      have k62 : ∀ W W0, St pb s F W0 W j' o → Calls Try.prog 58 #[ptrP pb, .int .u8 62] W fun e W' => e = .returned (.tuple #[]) ∧ St pb s F W0 W' (j' + 1) o := fun _ _ h => mustY 62 h h62
      obtain ⟨A, c, rfl, hfc, hfr⟩ := h.2
      have HFR := Lib.hid hfr
      have HH := Lib.hid h
      clear hfr h
      generalize hR : findF fr (cutL s (i + 1) j') i (j' + 1) = R
      have HRR := Lib.hid hR
      have hnm : (s.extract (i + 1) j').toList = cutL s (i + 1) j' := by rw [Lib.toList_data]; exact Lib.extract_data s (i + 1) j'
      clear hR
      unfold zeroL at *
      go_enter Try.func57, Try.ntmps57
      go_wp2_with (first
        | (go_at_call 58; (with_reducible refine (k60 _ _ HSA.out.self).mono ?_); rintro e W1 ⟨rfl, g1⟩)
        | (go_at_call 64; (with_reducible refine (hN _ _ g1).mono ?_); rintro e W2 ⟨⟨v, rfl, rfl⟩, g2⟩)
        | (go_at_call 58; (with_reducible refine (k62 _ _ g2).mono ?_); rintro e W3 ⟨rfl, g3⟩; obtain ⟨d0, d1, d2, d3, z0, z1, z2, z3⟩ := g3.cells))
      have hz3 : BlkIs W3 W.heap.size 31 zeroL.toArray := HZ.out.kept g3.kept (Nat.ne_of_gt hp)
      have hs3 := HSA.out.back g3
      have hfr3 := ((HH.out.to hs3).2)
      have hsz3 : W.heap.size < W3.heap.size := hz3.lt
      have hp3 : pb < W3.heap.size := g3.is.lt
      have HZ3 := Lib.hid hz3
      have HS3 := Lib.hid hs3
      have HF3 := Lib.hid hfr3
      clear hz3 hs3 hfr3 d0 d1 d2 d3 z0 z1 z2 z3 g1 g2 g3 k60 k62 hN
      generalize hnmE : s.extract (i + 1) j' = nme at *
      generalize cutL s (i + 1) j' = nml at *
      go_loopw [22] (fun ix wr => ∃ q : Nat, ix = .int .i64 q ∧ q ≤ fr.length ∧ Hid (Below W3.heap.size W3 wr ∧ findF (fr.drop q) nml i (j' + 1) = R)) (fun ix _ => fr.length - (intOf ix).toNat)
      case atStart => exact ⟨0, rfl, Nat.zero_le _, Lib.hid ⟨Below.refl _ _, by simpa using HRR.out⟩⟩
      case round =>
        obtain ⟨q, rfl, hq, HJ⟩ := hrel
        by_cases hp2 : q < fr.length
        · have hdl : decide ((q : Int) < (fr.length : Int)) = true := by simp; omega
          obtain ⟨A', c', hA', hxx, hx⟩ := HF3.out
          clear hxx
          obtain ⟨b, bo, rfl, hg⟩ := hx (by intro e; subst e; simp at hp2)
          injection hA' with hA1 hA2 hA3
          subst hA1 hA3
          obtain ⟨cs, hat, hlen, hrow⟩ := hg q hp2
          obtain ⟨A2, n2, c2, rfl⟩ := hat.eight
          have hrow' : W3.rangeAt b (bo + q * 9) (.string ⟨(fr[q]).1.toArray⟩ :: reL (fr[q]).2.kind (fr[q]).2.set A2 n2 c2 (fr[q]).2.lo (fr[q]).2.hi) := fun j v hv => hide_less _ _ (hrow j v hv)
          obtain ⟨r0, r1, r2, r3, r4, r5, r6, r7, r8⟩ := row_nine hrow' HJ.out.1
          have hR := HJ.out.2
          rw [List.drop_eq_getElem_cons hp2, findF_cons] at hR
          have henc : encTree pb W3.heap.size W3 (fr[q]).2 (reV (fr[q]).2.kind (fr[q]).2.set A2 n2 c2 (fr[q]).2.lo (fr[q]).2.hi) := hat.sub (hide_sub fun n h1 h2 => by
            rw [frm_no] at h1
            rw [Hd_no]
            exact ⟨⟨Or.inl h1, by simp⟩, rfl⟩)
          have HE := Lib.hid henc
          have HR := Lib.hid hR
          clear hg hrow hrow' hat hx henc hR
          generalize fr[q] = f at *
          have hnew := BlkIs.new wr 42 zeroF.toArray
          have hst := frag_store (x := ⟨f.1.toArray⟩) (k := f.2.kind) (m := f.2.set) (A := A2) (n := n2) (c := c2) (lo := f.2.lo) (hi := f.2.hi) hnew rfl
          have hbl : Below wr.heap.size wr ((wr.alloc (.cells zeroF.toArray 42)).setCells wr.heap.size 0 (Value.string ⟨f.1.toArray⟩ :: reL f.2.kind f.2.set A2 n2 c2 f.2.lo f.2.hi)) := below_setCells _ (Nat.le_refl _) _ _ _ ((Below.refl _ _).alloc (Nat.le_refl _) _)
          have hth := hnew.there
          have htl : (⟨f.1.toArray⟩ : ByteArray).toList = f.1 := by rw [Lib.toList_data]
          obtain ⟨wy, hwy⟩ : ∃ wy, wy = (wr.alloc (.cells zeroF.toArray 42)).setCells wr.heap.size 0 (Value.string ⟨f.1.toArray⟩ :: reL f.2.kind f.2.set A2 n2 c2 f.2.lo f.2.hi) := ⟨_, rfl⟩
          rw [← hwy] at hst hbl
          have HTH := Lib.hid hth
          have HBL := Lib.hid hbl
          have HWY := Lib.hid hwy
          have HST := Lib.hid hst
          clear hnew hst hbl hth hwy
          unfold zeroF zeroL at *
          have hk1 : IntKind.i64.wrap ((q : Int) + 1) = ((q + 1 : Nat) : Int) := by rw [IntKind.wrap_i64]; omega
          by_cases hmt : f.1 = nml
          · have e9 : ((⟨f.1.toArray⟩ : ByteArray).toList == nme.toList) = true := by rw [htl, hnm, hmt]; simp
            rw [htl] at e9
            have hy3 := HJ.out.1.trans (HBL.out.mono HJ.out.1.size)
            have hZy := HZ3.out.step hy3
            have hSy := HS3.out.step hy3
            have henc := HE.out.kept (W' := wy) (Kept.below hy3 (Nat.le_of_lt hp3)) (Nat.le_refl _) hp3
            have hend := tree_ends hp hsz3 henc hSy
            have hR := HR.out
            rw [if_pos hmt] at hR
            rw [hR] at hend
            have HEND := Lib.hid hend
            have HZY := Lib.hid hZy
            clear hend henc hSy hZy hy3 hR hmt hlen htl hnm hfc
            go_wp2_with (first
              | (refine wpList_store_mid rfl 42 (.tmp 6) (.tmp 25) rfl wr.heap.size 0 (Value.string ⟨f.1.toArray⟩ :: reL f.2.kind f.2.set A2 n2 c2 f.2.lo f.2.hi).toArray rfl rfl HTH.out info_frag frag_all ?_; rw [← HWY.out]; clear HWY; obtain ⟨n0, n1, n2', n3, n4, n5, n6, n7, n8⟩ := nine_cells HST.out)
              | (refine wpList_store_mid rfl 31 (.tmp 2) (.tmp 31) rfl W.heap.size 0 (reL f.2.kind f.2.set A2 n2 c2 f.2.lo f.2.hi).toArray rfl rfl HZY.out.there info_re8 reL_all ?_))
            exact bodyPost_ret (results_cell1 rfl rfl (load_re (store_re HZY.out rfl))) rfl HEND.out
          · have e9 : ((⟨f.1.toArray⟩ : ByteArray).toList == nme.toList) = false := by rw [htl, hnm]; simpa using hmt
            rw [htl] at e9
            have HM := Lib.hid hmt
            clear hmt htl hnm hlen hfc
            go_wp2_with (first
              | (refine wpList_store_mid rfl 42 (.tmp 6) (.tmp 25) rfl wr.heap.size 0 (Value.string ⟨f.1.toArray⟩ :: reL f.2.kind f.2.set A2 n2 c2 f.2.lo f.2.hi).toArray rfl rfl HTH.out info_frag frag_all ?_; rw [← HWY.out]; clear HWY; obtain ⟨n0, n1, n2', n3, n4, n5, n6, n7, n8⟩ := nine_cells HST.out))
            refine ⟨⟨q + 1, by go_num, hp2, Lib.hid ⟨HJ.out.1.trans (HBL.out.mono HJ.out.1.size), ?_⟩⟩, by simp [intOf]; omega⟩
            rw [← HR.out, if_neg HM.out]
        · have hdl : decide ((q : Int) < (fr.length : Int)) = false := by simp; omega
          obtain rfl : q = fr.length := by omega
          have hR := HJ.out.2
          rw [List.drop_length] at hR
          have hS3 := HS3.out.step HJ.out.1
          have HEND := Lib.hid hS3.kept
          have HR := Lib.hid hR
          clear hR hS3 hnm hfc
          go_wp2
          refine ⟨rfl, ?_⟩
          rw [← HR.out]
          exact ⟨rfl, HEND.out⟩
end
end Go.Proofs.Ytngagijcdehjpaa

