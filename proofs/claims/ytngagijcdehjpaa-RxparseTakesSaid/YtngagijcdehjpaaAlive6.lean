/-
  THE EXAMPLES OF CHAPTER 6, AND NAMES: hacklelaw06's alive, hackleref06's MayName, hacklelaw06.RxparseNames: contracts. No condition.
-/
import Derived.Test.YtngagijcdehjpaaPd10
namespace Go.Proofs.Ytngagijcdehjpaa
open Go.RowKit

def isAlt (r : Except (Nat × Nat) Tree) : Bool := match r with | .ok T => decide (T.kind = 3) && decide (T.sub.length = 2) | .error _ => false
def isErr (p c : Nat) (r : Except (Nat × Nat) Tree) : Bool := match r with | .ok _ => false | .error q => decide (q = (p, c))
theorem isAlt_of {r : Except (Nat × Nat) Tree} (h : isAlt r = true) : ∃ m l lo hi, r = .ok (.node 3 m l lo hi) ∧ l.length = 2 := by
  match r, h with
  | .ok (.node k m l lo hi), h =>
    unfold isAlt at h
    rw [Bool.and_eq_true] at h
    have hk : k = 3 := of_decide_eq_true h.1
    have h2 : l.length = 2 := of_decide_eq_true h.2
    subst hk
    exact ⟨m, l, lo, hi, rfl, h2⟩
theorem isErr_of {p c : Nat} {r : Except (Nat × Nat) Tree} (h : isErr p c r = true) : r = .error (p, c) := by
  match r, h with
  | .error q, h => simp [isErr] at h; rw [h]
theorem ex1 : ∃ m l lo hi, parseP ⟨#[97, 124, 98, 42]⟩ [] = .ok (.node 3 m l lo hi) ∧ l.length = 2 := isAlt_of (by decide +kernel)
theorem ex2 : parseP ⟨#[97, 123, 51, 44, 50, 125]⟩ [] = .error (1, 2) := isErr_of (by decide +kernel)
theorem ex3 : parseP ⟨#[91, 122, 45, 97, 93]⟩ [] = .error (3, 2) := isErr_of (by decide +kernel)
theorem frs_nil (W : World) : FrsAt W [] (.slice none 0 0) := ⟨none, 0, rfl, ⟨Nat.le_refl _, by decide⟩, fun h => absurd rfl h⟩
theorem parse_nil (s : ByteArray) (W : World) : Calls Try.prog 11 #[.string s, .slice none 0 0] W fun e W' => Below W.heap.size W W' ∧ ParsedAs (parseP s []) e W' := parse_any s _ [] W (frs_nil W)

set_option maxHeartbeats 1000000 in
theorem alive6_any (w : World) : Calls Try.prog 6 #[] w fun e w' => e = .returned (.bool true) ∧ Below w.heap.size w w' := by
  obtain ⟨m, l, lo, hi, h1, hl⟩ := ex1
  have p1 := fun W => parse_nil ⟨#[97, 124, 98, 42]⟩ W
  have p2 := fun W => parse_nil ⟨#[97, 123, 51, 44, 50, 125]⟩ W
  have p3 := fun W => parse_nil ⟨#[91, 122, 45, 97, 93]⟩ W
  simp only [h1] at p1
  simp only [ex2] at p2
  simp only [ex3] at p3
  go_enter Try.func6, Try.ntmps6
  go_wp2_with (first
    | (go_at_call 11; (with_reducible refine (p1 _).mono ?_); rintro e w1 ⟨hb1, v, rfl, hat⟩; obtain ⟨A, c, rfl, _, _⟩ := hat.open; rw [hl]; unfold reV reL; have HB1 := Lib.hid (BlkIs.new w1 31 (reL 3 m A 2 c lo hi).toArray); clear hat)
    | (go_at_call 11; (with_reducible refine (p2 _).mono ?_); rintro e w2 ⟨hb2, rfl⟩; have HB2 := Lib.hid ((HB1.out.step hb2).alloc (.cells (reL 0 (fun _ => false) none 0 0 0 0).toArray 31)); unfold reV reL; unfold reL at HB2)
    | (go_at_call 11; (with_reducible refine (p3 _).mono ?_); rintro e w3 ⟨hb3, rfl⟩; obtain ⟨c0, c1, c2, c3, c4, c5, c6, c7⟩ := ((HB2.out.step hb3).alloc (.cells (reL 0 (fun _ => false) none 0 0 0 0).toArray 31)).eight; unfold reV reL; unfold reL at c0 c1 c2 c3 c4 c5 c6 c7))
  go_ret
  have k1 := hb1.alloc hb1.size (.cells (reL 3 m A 2 c lo hi).toArray 31)
  have k2 := k1.trans (hb2.mono k1.size)
  have k3 := k2.alloc k2.size (.cells (reL 0 (fun _ => false) none 0 0 0 0).toArray 31)
  have k4 := k3.trans (hb3.mono k3.size)
  exact ⟨rfl, k4.alloc k4.size _⟩

set_option maxHeartbeats 1000000 in
theorem refMayName_any (s : ByteArray) (w : World) : Calls Try.prog 8 #[.string s] w fun e w' => e = .returned (.bool (nameB s.data.toList)) ∧ w' = w := by
  have hl := size_list s
  by_cases h0 : s.size = 0
  · obtain rfl : s = ⟨#[]⟩ := by
      cases s with | mk d => have : d.size = 0 := h0; rw [Array.eq_empty_of_size_eq_zero this]
    go_enter Try.func8, Try.ntmps8
    go_wp2
    go_ret
    exact ⟨rfl, rfl⟩
  have hne : s.data.toList ≠ [] := by intro e; rw [e] at hl; simp at hl; omega
  have e0 : decide ((s.size : Int) < 1) = false := by simp; omega
  by_cases h1 : 24 < s.size
  · have hn : nameB s.data.toList = false := by
      unfold nameB; rw [hl, decide_eq_false (by omega : ¬ s.size ≤ 24)]; simp
    have e1 : decide (24 < (s.size : Int)) = true := by simp; omega
    rw [hn]
    clear hn hne
    go_enter Try.func8, Try.ntmps8
    go_wp2
    go_ret
    exact ⟨rfl, rfl⟩
  have e1 : decide (24 < (s.size : Int)) = false := by simp; omega
  have hp0 : 0 < s.size := by omega
  have hix : ∀ w, (Instr.index 9 (.string s) (.int .i64 0)).run Try.prog w = .ok (.int .u8 (bt s 0 : Nat)) w := fun w => idx_bt 9 Try.underlying9 s 0 hp0 w
  have hb0 := bt_list s 0 hp0
  have hhd : s.data.toList.headD 0 = s.data.toList[0]'(by rw [hl]; exact hp0) := by
    rw [List.headD_eq_head?_getD, List.head?_eq_getElem?, List.getElem?_eq_getElem (by rw [hl]; exact hp0)]; rfl
  have hn : nameB s.data.toList = (letB (bt s 0) && okTo s s.size) := by
    unfold nameB
    rw [okTo_all, hhd, ← hb0, hl, decide_eq_true hne, decide_eq_true (by omega : s.size ≤ 24)]
    simp
  have hok1 : okTo s 1 = (letB (bt s 0) || numB (bt s 0)) := by
    rw [okTo_succ s 0 hp0]; rfl
  rw [hn]
  clear hn hhd hb0 hne
  by_cases h2 : 97 ≤ bt s 0
  · have e2 : decide ((bt s 0 : Int) < 97) = false := by simp; omega
    by_cases h3 : bt s 0 ≤ 122
    · have e3 : decide (122 < (bt s 0 : Int)) = false := by simp; omega
      have hlt : letB (bt s 0) = true := by simp [letB]; omega
      rw [hlt] at hok1 ⊢
      rw [Bool.true_and]
      have HO := Lib.hid hok1
      clear hok1 hlt
      go_enter Try.func8, Try.ntmps8
      go_wp2
      go_loopw [3] (fun i wr => ∃ j : Nat, i = .int .i64 j ∧ 1 ≤ j ∧ j ≤ s.size ∧ Hid (wr = w ∧ okTo s j = true)) (fun i _ => s.size - (intOf i).toNat)
      case atStart => exact ⟨1, rfl, Nat.le_refl _, by omega, Lib.hid ⟨rfl, HO.out⟩⟩
      case round =>
        obtain ⟨j, rfl, hj1, hj, HH⟩ := hrel
        obtain ⟨rfl, hall⟩ := HH.out
        by_cases hp : j < s.size
        · have hdl : decide ((j : Int) < (s.size : Int)) = true := by simp; omega
          have hixj := idx_bt 9 Try.underlying9 s j hp
          have hk1 : IntKind.i64.wrap ((j : Int) + 1) = ((j + 1 : Nat) : Int) := by rw [IntKind.wrap_i64]; omega
          have hsu := okTo_succ s j hp
          rw [hall, Bool.true_and] at hsu
          have HT := Lib.hid hsu
          clear hsu hall hix e2 e3
          generalize hbj : bt s j = b at *
          by_cases g1 : 97 ≤ b
          · have a1 : decide (97 ≤ (b : Int)) = true := by simp; omega
            by_cases g2 : b ≤ 122
            · have a2 : decide ((b : Int) ≤ 122) = true := by simp; omega
              clear hbj
              go_wp2
              refine ⟨⟨j + 1, by go_num, by omega, hp, Lib.hid ⟨trivial, ?_⟩⟩, by simp [intOf]; omega⟩
              rw [HT.out]
              simp [letB, numB]; omega
            · have a2 : decide ((b : Int) ≤ 122) = false := by simp; omega
              have a3 : decide (48 ≤ (b : Int)) = true := by simp; omega
              have a4 : decide ((b : Int) ≤ 57) = false := by simp; omega
              have hbad := okTo_bad s j hp (by rw [hbj]; simp [letB]; omega) (by rw [hbj]; simp [numB]; omega)
              have HBAD := Lib.hid hbad
              clear hbj hbad
              go_wp2
              go_ret
              exact ⟨by rw [HBAD.out]; rfl, rfl⟩
          · have a1 : decide (97 ≤ (b : Int)) = false := by simp; omega
            by_cases g3 : 48 ≤ b
            · have a3 : decide (48 ≤ (b : Int)) = true := by simp; omega
              by_cases g4 : b ≤ 57
              · have a4 : decide ((b : Int) ≤ 57) = true := by simp; omega
                clear hbj
                go_wp2
                refine ⟨⟨j + 1, by go_num, by omega, hp, Lib.hid ⟨trivial, ?_⟩⟩, by simp [intOf]; omega⟩
                rw [HT.out]
                simp [letB, numB]; omega
              · have a4 : decide ((b : Int) ≤ 57) = false := by simp; omega
                have hbad := okTo_bad s j hp (by rw [hbj]; simp [letB]; omega) (by rw [hbj]; simp [numB]; omega)
                have HBAD := Lib.hid hbad
                clear hbj hbad
                go_wp2
                go_ret
                exact ⟨by rw [HBAD.out]; rfl, rfl⟩
            · have a3 : decide (48 ≤ (b : Int)) = false := by simp; omega
              have hbad := okTo_bad s j hp (by rw [hbj]; simp [letB]; omega) (by rw [hbj]; simp [numB]; omega)
              have HBAD := Lib.hid hbad
              clear hbj hbad
              go_wp2
              go_ret
              exact ⟨by rw [HBAD.out]; rfl, rfl⟩
        · have hdl : decide ((j : Int) < (s.size : Int)) = false := by simp; omega
          obtain rfl : j = s.size := by omega
          have HBAD := Lib.hid hall
          clear hall
          go_wp2
          go_ret
          exact ⟨by rw [HBAD.out]; rfl, rfl⟩
    · have e3 : decide (122 < (bt s 0 : Int)) = true := by simp; omega
      have hlt : letB (bt s 0) = false := by simp [letB]; omega
      rw [hlt, Bool.false_and]
      clear hok1 hlt
      go_enter Try.func8, Try.ntmps8
      go_wp2
      go_ret
      exact ⟨rfl, rfl⟩
  · have e2 : decide ((bt s 0 : Int) < 97) = true := by simp; omega
    have hlt : letB (bt s 0) = false := by simp [letB]; omega
    rw [hlt, Bool.false_and]
    clear hok1 hlt
    go_enter Try.func8, Try.ntmps8
    go_wp2
    go_ret
    exact ⟨rfl, rfl⟩

theorem rxparseNames_any (s : ByteArray) (w : World) : Calls Try.prog 3 #[.string s] w fun e w' => e = .returned (.bool true) ∧ Below w.heap.size w w' := by
  have ha := alive6_any
  have h1 := fun W => mayName_any s W
  have h2 := fun W => refMayName_any s W
  generalize nameB s.data.toList = z at *
  by_cases hs : 1000 < s.size
  · have e1 : decide (1000 < (s.size : Int)) = true := by simp; omega
    go_enter Try.func3, Try.ntmps3
    go_wp2_with (first
      | (go_at_call 6; (with_reducible refine (ha _).mono ?_); rintro e w1 ⟨rfl, hb1⟩))
    go_ret
    exact ⟨rfl, hb1⟩
  · have e1 : decide (1000 < (s.size : Int)) = false := by simp; omega
    go_enter Try.func3, Try.ntmps3
    go_wp2_with (first
      | (go_at_call 6; (with_reducible refine (ha _).mono ?_); rintro e w1 ⟨rfl, hb1⟩)
      | (go_at_call 7; (with_reducible refine (h1 _).mono ?_); rintro e w2 ⟨rfl, hb2⟩)
      | (go_at_call 8; (with_reducible refine (h2 _).mono ?_); rintro e w3 ⟨rfl, rfl⟩))
    go_ret
    exact ⟨by simp, hb1.trans (hb2.mono hb1.size)⟩
end Go.Proofs.Ytngagijcdehjpaa

