/-
  THE READERS OF GROUPS, ALTERNATIVES AND THE WHOLE of package rxparse, at every depth: contracts. Condition: a text has at most 400 bytes.
-/
import Derived.Test.YtngagijcdehjpaaPd6
namespace Go.Proofs.Ytngagijcdehjpaa
open Go.RowKit
section
variable {pb : Nat} {s : ByteArray} {F : Value} {fr : Frs} {W W' W0 : World} {i o j o' d : Nat}
theorem St.opens (h : St pb s F W0 W i o) (k : Nat) : St pb s F W0 (W.setCell ⟨pb, 2, none⟩ (.int .i64 (k : Nat))) i k := ⟨h.1.trans (Kept.put _ _ _ _), h.2.1.opens k, h.2.2⟩
theorem St.opens1 (h : St pb s F W0 W i o) : St pb s F W0 (W.setCell ⟨pb, 2, none⟩ (.int .i64 ((o : Int) + 1))) i (o + 1) := h.opens (o + 1)
/-- what the reader of alternatives answers -/
def AltC (pb : Nat) (s : ByteArray) (F : Value) (fr : Frs) (o d : Nat) : Prop := ∀ W i, Sf pb s F fr W i o → Calls Try.prog 27 #[ptrP pb] W (EndsAs pb s F W (encTree pb W.heap.size) o (altsP s fr d i))
theorem group_none : GrpC pb s F fr 30 (grpP s fr 0) := by
  intro W i h hb
  have HSA := Lib.hid (h.st.alloc (.cells zeroL.toArray 31))
  obtain ⟨c0, c1, c2, c3, f0, f1, f2, f3⟩ := HSA.out.cells
  clear h
  unfold grpP
  unfold zeroL at *
  go_enter Try.func56, Try.ntmps56
  go_wp2
  exact ⟨rfl, rfl, HSA.out.kept⟩
set_option maxHeartbeats 2000000 in
theorem group_some (hA : AltC pb s F fr (o + 1) d) (ho : o < 30) : GrpC pb s F fr o (grpP s fr (d + 1)) := by
  intro W i h hb
  have hb40 := sgn_paren hb
  have hp := h.lt
  have hpz : W.heap.size ≠ pb := Nat.ne_of_gt hp
  have HA := Lib.hid (h.alloc (.cells zeroL.toArray 31))
  have HSA := Lib.hid (h.st.alloc (.cells zeroL.toArray 31))
  have HZ := Lib.hid (zero_new W)
  have hsz : W.heap.size < (W.alloc (.cells zeroL.toArray 31)).heap.size := by simp
  obtain ⟨c0, c1, c2, c3, f0, f1, f2, f3⟩ := HSA.out.cells
  have e30 : ((o : Int) == 30) = false := by simp; omega
  have ew : wrap64 ((o : Int) + 1) = (o : Int) + 1 := by unfold wrap64; omega
  have ew3 : wrap64 ((o : Int) + 1 - 1) = (o : Int) := by unfold wrap64; omega
  have ew4 : wrap64 (o : Int) = (o : Int) := by unfold wrap64; omega
  have k40 : ∀ W W0, St pb s F W0 W i o → Calls Try.prog 58 #[ptrP pb, .int .u8 40] W fun e W' => e = .returned (.tuple #[]) ∧ St pb s F W0 W' (i + 1) o := fun _ _ h => mustY 40 h hb40
  have hA' := fun W (h : Sf pb s F fr W (i + 1) (o + 1)) => hA W (i + 1) h
  clear h hA
  rw [grpP]
  rcases hl : altsP s fr d (i + 1) with q | ⟨T, k⟩
  · simp only [hl] at hA'
    simp only [Res.then]
    unfold zeroL at *
    go_enter Try.func56, Try.ntmps56
    go_wp2_with (first
      | (go_at_call 58; (with_reducible refine (k40 _ _ HSA.out.self).mono ?_); rintro e W1 ⟨rfl, g1⟩; obtain ⟨c0', c1', c2', c3', f0', f1', f2', f3'⟩ := g1.cells; have HS1 := Lib.hid g1.opens1)
      | (go_at_call 27; (with_reducible refine (hA' _ (HA.out.to HS1.out)).mono ?_); rintro e W2 ⟨rfl, hk⟩))
    exact ⟨rfl, rfl, HSA.out.kept.trans (HS1.out.kept.trans hk)⟩
  simp only [hl] at hA'
  simp only [Res.then]
  cases h41 : isAt s k 41
  · rw [if_neg (by decide)]
    have k41 : ∀ W W0, St pb s F W0 W k (o + 1) → Calls Try.prog 58 #[ptrP pb, .int .u8 41] W fun e W' => e = .panicked [{ v := fltV (k, 2), recovered := false }] ∧ Kept pb W0 W' := fun _ _ h => mustN 41 h h41
    unfold zeroL at *
    go_enter Try.func56, Try.ntmps56
    go_wp2_with (first
      | (go_at_call 58; (with_reducible refine (k40 _ _ HSA.out.self).mono ?_); rintro e W1 ⟨rfl, g1⟩; obtain ⟨c0', c1', c2', c3', f0', f1', f2', f3'⟩ := g1.cells; have HS1 := Lib.hid g1.opens1)
      | (go_at_call 27; (with_reducible refine (hA' _ (HA.out.to HS1.out)).mono ?_); rintro e W2 ⟨⟨v, rfl, henc⟩, g2⟩; obtain ⟨A, n, c, rfl⟩ := henc.at.form; have HL := Lib.hid (laid hp ((HZ.out.kept HS1.out.kept hpz).kept g2.kept hpz) henc (HSA.out.back (HS1.out.back g2))); have HTH := Lib.hid (BlkIs.new W2 31 zeroL.toArray).there; have HSL : Hid (W.heap.size < (W1.setCell ⟨pb, 2, none⟩ (.int .i64 ((o : Int) + 1))).heap.size) := Lib.hid (by have := HS1.out.kept.1.size; omega); unfold zeroL at HTH HL; clear henc)
      | (refine wpList_store_mid rfl 31 (.tmp 3) (.tmp 25) rfl W2.heap.size 0 (reL T.kind T.set A n c T.lo T.hi).toArray rfl rfl HTH.out info_re8 reL_all ?_; clear HTH; have hlz := HL.out; clear HL; revert hlz; generalize World.setCells _ _ _ _ = Wb; intro hlz; obtain ⟨b1, b2, b3, b4, b5⟩ := hlz; have B1 := Lib.hid b1; have B2 := Lib.hid b2; have B3 := Lib.hid b3; have B4 := Lib.hid b4; clear b1 b2 b3 b4)
      | (go_at_call 58; (with_reducible refine (k41 _ _ B4.out).mono ?_); rintro e W3 ⟨rfl, hk⟩))
    exact ⟨rfl, rfl, hk⟩
  · rw [if_pos rfl]
    have k41 : ∀ W W0, St pb s F W0 W k (o + 1) → Calls Try.prog 58 #[ptrP pb, .int .u8 41] W fun e W' => e = .returned (.tuple #[]) ∧ St pb s F W0 W' (k + 1) (o + 1) := fun _ _ h => mustY 41 h h41
    unfold zeroL at *
    go_enter Try.func56, Try.ntmps56
    go_wp2_with (first
      | (go_at_call 58; (with_reducible refine (k40 _ _ HSA.out.self).mono ?_); rintro e W1 ⟨rfl, g1⟩; obtain ⟨c0', c1', c2', c3', f0', f1', f2', f3'⟩ := g1.cells; have HS1 := Lib.hid g1.opens1)
      | (go_at_call 27; (with_reducible refine (hA' _ (HA.out.to HS1.out)).mono ?_); rintro e W2 ⟨⟨v, rfl, henc⟩, g2⟩; obtain ⟨A, n, c, rfl⟩ := henc.at.form; have HL := Lib.hid (laid hp ((HZ.out.kept HS1.out.kept hpz).kept g2.kept hpz) henc (HSA.out.back (HS1.out.back g2))); have HTH := Lib.hid (BlkIs.new W2 31 zeroL.toArray).there; have HSL : Hid (W.heap.size < (W1.setCell ⟨pb, 2, none⟩ (.int .i64 ((o : Int) + 1))).heap.size) := Lib.hid (by have := HS1.out.kept.1.size; omega); unfold zeroL at HTH HL; clear henc)
      | (refine wpList_store_mid rfl 31 (.tmp 3) (.tmp 25) rfl W2.heap.size 0 (reL T.kind T.set A n c T.lo T.hi).toArray rfl rfl HTH.out info_re8 reL_all ?_; clear HTH; have hlz := HL.out; clear HL; revert hlz; generalize World.setCells _ _ _ _ = Wb; intro hlz; obtain ⟨b1, b2, b3, b4, b5⟩ := hlz; have B1 := Lib.hid b1; have B2 := Lib.hid b2; have B3 := Lib.hid b3; have B4 := Lib.hid b4; clear b1 b2 b3 b4)
      | (go_at_call 58; (with_reducible refine (k41 _ _ B4.out.self).mono ?_); rintro e W3 ⟨rfl, g3⟩; obtain ⟨c0', c1', c2', c3', f0', f1', f2', f3'⟩ := g3.cells; have c2'' : W3.cell? ⟨pb, 2, none⟩ = some (.int .i64 ((o : Int) + 1)) := c2'; clear c2'; have HS3 := Lib.hid (g3.opens o); have B5 := Lib.hid ((B1.out.kept g3.kept b5).far (p := ⟨pb, 2, none⟩) b5 (.int .i64 (o : Nat))); have B6 := Lib.hid ((B2.out.kept g3.kept hpz).far (p := ⟨pb, 2, none⟩) hpz (.int .i64 (o : Nat))))
      | (refine wpList_load_mid rfl 31 (.tmp 3) rfl W2.heap.size 0 rfl (reL T.kind T.set A n c T.lo T.hi) _ B5.out.range Try.underlying31 rfl info_re8 ?_)
      | (refine wpList_store_mid rfl 31 (.tmp 2) (.tmp 35) rfl W.heap.size 0 (reL T.kind T.set A n c T.lo T.hi).toArray rfl rfl (there8 B6.out rfl) info_re8 reL_all ?_))
    exact bodyPost_ret (results_cell1 rfl rfl (load_re (store_re B6.out rfl))) rfl (tree_ends hp HSL.out (B3.out.kept HS3.out.kept (Nat.le_refl _) (Nat.lt_trans hp HSL.out)) (B4.out.back HS3.out))
end
end Go.Proofs.Ytngagijcdehjpaa

