/-
  hacklelaw07.RxprintWrites' WALK: it answers true. Condition: the tree has at most 2^20 nodes; math/bits' table lies where it lies.
-/
import Derived.Test.YtkladjjeacjgpaaDoorQTal7
import Derived.Test.YtkladjjeacjgpaaDoorQRt3
import Derived.Test.YtkladjjeacjgpaaDoorQG07
namespace Go.Proofs.YtkladjjeacjgpaaDoor
open Go.RowKit

theorem in_start7 {w : World} {T : Tree} {A : Option Addr} {n c : Nat} (h : T.At w (reV T.kind T.set A n c T.lo T.hi)) : InBox w T w.heap.size A n c (w.alloc (.cells (reL T.kind T.set A n c T.lo T.hi).toArray 27)) :=
  ⟨h.step ((Below.refl _ _).alloc (Nat.le_refl _) _), BlkIs.new _ _ _, (Below.refl _ _).alloc (Nat.le_refl _) _⟩

set_option maxRecDepth 20000 in
set_option maxHeartbeats 8000000 in
theorem writes_any (T : Tree) (v : Value) (w : World) (hat : T.At w v) (hn : T.nodes ≤ 1048576) (hT : Tab w) :
    Calls Tryd.prog 5 #[v] w fun e w' => e = .returned (.bool true) ∧ Below w.heap.size w w' := by
  obtain ⟨A, n, c, rfl⟩ := hat.form
  have H0 := Lib.hid (in_start7 hat)
  have HA := Lib.hid (alive7_any _ (hT.step H0.out.2.2))
  have HG := Lib.hid (fun u (h : InBox w T w.heap.size A n c u) => great_any T _ u h.1)
  have hm := fun u (h : InBox w T w.heap.size A n c u) => refMayRe_any T _ u h.1
  rw [may_few (by omega)] at hm
  have HM := Lib.hid hm
  have HP := Lib.hid (fun u (h : InBox w T w.heap.size A n c u) => print_any T _ u h.1 hn (hT.step h.2.2))
  have HTX := Lib.hid (fun (hmay : T.mayN = true) u (h : InBox w T w.heap.size A n c u) => refText_any T (mayN_ok hmay).1 hn _ u h.1)
  have hz : T.mayN = true → (textOf T).size ≤ 8589934592 := fun h => text_in T (mayN_ok h).1 hn
  unfold printed at HP
  clear hat hT hm hn
  unfold reV reL at *
  generalize textOf T = z at *
  by_cases hg : T.great = true
  · rw [hg] at HG
    clear HP HTX HM hz hg
    go_enter Tryd.func5, Tryd.ntmps5
    go_wp2_with (first
      | (go_at_call 6; go_must (refine HA.out.mono ?_); rintro e w1 ⟨rfl, hb⟩; have HX := Lib.hid (H0.out.step hb); clear hb; obtain ⟨c0, c1, c2, c3, c4, c5, c6, c7⟩ := HX.out.2.1.eight)
      | (go_at_call 7; go_must (refine (HG.out _ HX.out).mono ?_); rintro e w2 ⟨rfl, hb⟩; have HX := Lib.hid (HX.out.step hb); clear hb c0 c1 c2 c3 c4 c5 c6 c7))
    go_ret
    exact ⟨rfl, HX.out.2.2⟩
  have hg' : T.great = false := by simpa using hg
  rw [hg'] at HG
  clear hg hg'
  cases hmay : T.mayN with
  | false =>
    rw [hmay] at HM
    simp only [hmay, Bool.false_eq_true, if_false] at HP
    clear HTX hz hmay
    go_enter Tryd.func5, Tryd.ntmps5
    go_wp2_with (first
      | (go_at_call 6; go_must (refine HA.out.mono ?_); rintro e w1 ⟨rfl, hb⟩; have HX := Lib.hid (H0.out.step hb); clear hb; obtain ⟨c0, c1, c2, c3, c4, c5, c6, c7⟩ := HX.out.2.1.eight)
      | (go_at_call 7; go_must (refine (HG.out _ HX.out).mono ?_); rintro e w2 ⟨rfl, hb⟩; have HX := Lib.hid (HX.out.step hb); clear hb c0 c1 c2 c3 c4 c5 c6 c7; obtain ⟨c0, c1, c2, c3, c4, c5, c6, c7⟩ := HX.out.2.1.eight)
      | (go_at_call 16; go_must (refine (HP.out _ HX.out).mono ?_); rintro e w2 ⟨rfl, hb⟩; have HX := Lib.hid (HX.out.step hb); clear hb c0 c1 c2 c3 c4 c5 c6 c7; obtain ⟨c0, c1, c2, c3, c4, c5, c6, c7⟩ := HX.out.2.1.eight)
      | (go_at_call 9; go_must (refine (HM.out _ HX.out).mono ?_); rintro e w2 ⟨rfl, hb⟩; have HX := Lib.hid (HX.out.step hb); clear hb c0 c1 c2 c3 c4 c5 c6 c7))
    go_ret
    exact ⟨rfl, HX.out.2.2⟩
  | true =>
    rw [hmay] at HM
    have HT2 := Lib.hid (HTX.out hmay)
    have hzs := hz hmay
    by_cases hbig : z.size > 400
    · simp only [hmay, hbig, if_true] at HP
      have e1 : decide ((z.size : Int) > 400) = true := decide_eq_true (by omega)
      clear HTX hz hmay hbig
      go_enter Tryd.func5, Tryd.ntmps5
      go_wp2_with (first
        | (go_at_call 6; go_must (refine HA.out.mono ?_); rintro e w1 ⟨rfl, hb⟩; have HX := Lib.hid (H0.out.step hb); clear hb; obtain ⟨c0, c1, c2, c3, c4, c5, c6, c7⟩ := HX.out.2.1.eight)
        | (go_at_call 7; go_must (refine (HG.out _ HX.out).mono ?_); rintro e w2 ⟨rfl, hb⟩; have HX := Lib.hid (HX.out.step hb); clear hb c0 c1 c2 c3 c4 c5 c6 c7; obtain ⟨c0, c1, c2, c3, c4, c5, c6, c7⟩ := HX.out.2.1.eight)
        | (go_at_call 16; go_must (refine (HP.out _ HX.out).mono ?_); rintro e w2 ⟨rfl, hb⟩; have HX := Lib.hid (HX.out.step hb); clear hb c0 c1 c2 c3 c4 c5 c6 c7; obtain ⟨c0, c1, c2, c3, c4, c5, c6, c7⟩ := HX.out.2.1.eight)
        | (go_at_call 9; go_must (refine (HM.out _ HX.out).mono ?_); rintro e w2 ⟨rfl, hb⟩; have HX := Lib.hid (HX.out.step hb); clear hb c0 c1 c2 c3 c4 c5 c6 c7; obtain ⟨c0, c1, c2, c3, c4, c5, c6, c7⟩ := HX.out.2.1.eight)
        | (go_at_call 17; go_must (refine (HT2.out _ HX.out).mono ?_); rintro e w2 ⟨rfl, hb⟩; have HX := Lib.hid (HX.out.step hb); clear hb c0 c1 c2 c3 c4 c5 c6 c7))
      go_ret
      exact ⟨rfl, HX.out.2.2⟩
    · simp only [hmay, hbig, if_true, if_false] at HP
      have e1 : decide ((z.size : Int) > 400) = false := decide_eq_false (by omega)
      clear HTX hz hmay hbig
      go_enter Tryd.func5, Tryd.ntmps5
      go_wp2_with (first
        | (go_at_call 6; go_must (refine HA.out.mono ?_); rintro e w1 ⟨rfl, hb⟩; have HX := Lib.hid (H0.out.step hb); clear hb; obtain ⟨c0, c1, c2, c3, c4, c5, c6, c7⟩ := HX.out.2.1.eight)
        | (go_at_call 7; go_must (refine (HG.out _ HX.out).mono ?_); rintro e w2 ⟨rfl, hb⟩; have HX := Lib.hid (HX.out.step hb); clear hb c0 c1 c2 c3 c4 c5 c6 c7; obtain ⟨c0, c1, c2, c3, c4, c5, c6, c7⟩ := HX.out.2.1.eight)
        | (go_at_call 16; go_must (refine (HP.out _ HX.out).mono ?_); rintro e w2 ⟨rfl, hb⟩; have HX := Lib.hid (HX.out.step hb); clear hb c0 c1 c2 c3 c4 c5 c6 c7; obtain ⟨c0, c1, c2, c3, c4, c5, c6, c7⟩ := HX.out.2.1.eight)
        | (go_at_call 9; go_must (refine (HM.out _ HX.out).mono ?_); rintro e w2 ⟨rfl, hb⟩; have HX := Lib.hid (HX.out.step hb); clear hb c0 c1 c2 c3 c4 c5 c6 c7; obtain ⟨c0, c1, c2, c3, c4, c5, c6, c7⟩ := HX.out.2.1.eight)
        | (go_at_call 17; go_must (refine (HT2.out _ HX.out).mono ?_); rintro e w2 ⟨rfl, hb⟩; have HX := Lib.hid (HX.out.step hb); clear hb c0 c1 c2 c3 c4 c5 c6 c7))
      go_ret
      exact ⟨rfl, HX.out.2.2⟩
end Go.Proofs.YtkladjjeacjgpaaDoor

