/-
  WHAT Print OF PACKAGE rxprint ANSWERS: a contract. Condition: the tree has at most 2^20 nodes; math/bits' table lies where it lies.
-/
import Derived.Test.YtkladjjeacjgpaaDoorQTwr
import Derived.Test.YtkladjjeacjgpaaDoorQTst
namespace Go.Proofs.YtkladjjeacjgpaaDoor
open Go.RowKit

/-- a tree's text -/
def textOf (T : Tree) : ByteArray := T.text setB
def printed (T : Tree) : Value := if T.mayN then (if (textOf T).size > 400 then .tuple #[.string ⟨#[]⟩, .int .i64 4] else .tuple #[.string (textOf T), .int .i64 0]) else .tuple #[.string ⟨#[]⟩, .int .i64 1]

set_option maxRecDepth 20000 in
set_option maxHeartbeats 8000000 in
theorem print_any (T : Tree) (v : Value) (w : World) (hat : T.At w v) (hn : T.nodes ≤ 1048576) (hT : Tab w) : Calls Tryd.prog 16 #[v] w fun e w' => e = .returned (printed T) ∧ Below w.heap.size w w' := by
  obtain ⟨A, n, c, rfl⟩ := hat.form
  have hb1 : Below w.heap.size w (w.alloc (.cells (reL T.kind T.set A n c T.lo T.hi).toArray 27)) := (Below.refl _ _).alloc (Nat.le_refl _) _
  have hbx := BlkIs.new w 27 (reL T.kind T.set A n c T.lo T.hi).toArray
  have HB1 := Lib.hid hb1
  have HBX := Lib.hid hbx
  have HM := Lib.hid (may_any T _ (w.alloc (.cells (reL T.kind T.set A n c T.lo T.hi).toArray 27)) (hat.step hb1) (Nat.le_trans (deep_nodes T) (by omega)))
  have HW := Lib.hid (fun (h : T.mayN = true) (u : World) (hu : Below w.heap.size w u) => written_any setB setB_size w (fun m u hu => setText_any m u (hT.step hu)) T _ u hu (hat.step hu) (mayN_ok h).1 hn)
  have hsz : T.mayN = true → (textOf T).size ≤ 4294967296 := fun h => by
    have := text_size setB setB_size T (mayN_ok h).1
    unfold textOf; omega
  have HSZ := Lib.hid hsz
  obtain ⟨k0, k1, k2, k3, k4, k5, k6, k7⟩ := hbx.eight
  obtain ⟨R, hR⟩ : ∃ R, R = printed T := ⟨_, rfl⟩
  rw [← hR]
  unfold printed at hR
  have HRR := Lib.hid hR
  clear hb1 hbx hat hT hsz hR
  unfold WrittenIs at HW
  change Hid (∀ (h : T.mayN = true) (u : World) (hu : Below w.heap.size w u), Calls Tryd.prog 30 #[reV T.kind T.set A n c T.lo T.hi] u fun e w' => e = .returned (.string (textOf T)) ∧ Below u.heap.size u w') at HW
  unfold reV reL at *
  generalize textOf T = z at *
  cases hm : T.mayN with
  | false =>
    rw [hm] at HM
    have hr := HRR.out
    rw [hm, if_neg (by simp)] at hr
    have HRE := Lib.hid hr
    clear hr
    go_enter Tryd.func16, Tryd.ntmps16
    go_wp2_with fail
    go_at_call 20
    refine HM.out.mono ?_
    rintro e u1 ⟨rfl, hb2⟩
    have HB2 := Lib.hid (HB1.out.trans (hb2.mono HB1.out.size))
    clear hb2 k0 k1 k2 k3 k4 k5 k6 k7
    go_wp2
    refine bodyPost_ret (results_tmp2 rfl _ _ _) rfl ⟨?_, HB2.out⟩
    exact congrArg Ending.returned HRE.out.symm
  | true =>
    rw [hm] at HM
    have hr := HRR.out
    rw [hm, if_pos rfl] at hr
    have HRE := Lib.hid hr
    have HWW := Lib.hid (HW.out hm)
    have hzs := HSZ.out hm
    clear hr
    go_enter Tryd.func16, Tryd.ntmps16
    go_wp2_with fail
    go_at_call 20
    refine HM.out.mono ?_
    rintro e u1 ⟨rfl, hb2⟩
    have HB2 := Lib.hid (HB1.out.trans (hb2.mono HB1.out.size))
    clear k0 k1 k2 k3 k4 k5 k6 k7
    obtain ⟨k0, k1, k2, k3, k4, k5, k6, k7⟩ := (HBX.out.step hb2).eight
    clear hb2
    go_wp2_with fail
    go_at_call 30
    refine (HWW.out u1 HB2.out).mono ?_
    rintro e u2 ⟨rfl, hb3⟩
    have HB3 := Lib.hid (HB2.out.trans (hb3.mono HB2.out.size))
    clear hb3
    by_cases hgt : z.size > 400
    · have e1 : decide ((z.size : Int) > 400) = true := decide_eq_true (by omega)
      have hr := HRE.out
      rw [if_pos hgt] at hr
      have HRF := Lib.hid hr
      clear hr
      go_wp2
      refine bodyPost_ret (results_tmp2 rfl _ _ _) rfl ⟨?_, HB3.out⟩
      exact congrArg Ending.returned HRF.out.symm
    · have e1 : decide ((z.size : Int) > 400) = false := decide_eq_false (by omega)
      have hr := HRE.out
      rw [if_neg hgt] at hr
      have HRF := Lib.hid hr
      clear hr
      go_wp2
      refine bodyPost_ret (results_tmp2 rfl _ _ _) rfl ⟨?_, HB3.out⟩
      exact congrArg Ending.returned HRF.out.symm

end Go.Proofs.YtkladjjeacjgpaaDoor

