/-
  NAMES OF FRAGMENTS: MayName, and the readers of names, of numbers between { and } and of fragments of package rxparse: contracts. Condition: a text has at most 400 bytes.
-/
import Derived.Test.YtngagijcdehjpaaPc4
import Derived.Laws.IdiomStrings
namespace Go.Proofs.Ytngagijcdehjpaa
open Go.RowKit

theorem size_list (s : ByteArray) : s.data.toList.length = s.size := by rw [Array.length_toList]; rfl
theorem bt_list (s : ByteArray) (i : Nat) (h : i < s.size) : bt s i = ((s.data.toList[i]'(by rw [size_list]; exact h)).toNat) := by
  unfold bt; rw [dif_pos h]; rfl
theorem bytes_cell (s : ByteArray) (w : World) (cap : Nat) (e : TypeId) (z : Nat × Nat) (j : Nat) (h : j < s.size) : (w.alloc (.cells (bytesRow s cap) e z)).cell? ⟨w.heap.size, j, none⟩ = some (.int .u8 (bt s j : Nat)) := by
  rw [cell_of_row (w.alloc (.cells (bytesRow s cap) e z)) w.heap.size j (bytesRow s cap) e z (by show (w.heap.push _)[w.heap.size]? = _; simp)]
  unfold bytesRow
  have h' : j < s.data.size := h
  rw [Array.getElem?_append_left (by rw [Array.size_map]; exact h'), Array.getElem?_map, Array.getElem?_eq_getElem h']
  unfold bt; rw [dif_pos h]; rfl
def okTo (s : ByteArray) (j : Nat) : Bool := (s.data.toList.take j).all fun c => letB c.toNat || numB c.toNat
theorem okTo_succ (s : ByteArray) (j : Nat) (h : j < s.size) : okTo s (j + 1) = (okTo s j && (letB (bt s j) || numB (bt s j))) := by
  unfold okTo
  rw [bt_list s j h, ← List.take_append_getElem (l := s.data.toList) (i := j) (by rw [size_list]; exact h), List.all_append, List.all_cons, List.all_nil, Bool.and_true]
theorem okTo_all (s : ByteArray) : okTo s s.size = s.data.toList.all fun c => letB c.toNat || numB c.toNat := by
  unfold okTo; rw [← size_list, List.take_length]
theorem okTo_bad (s : ByteArray) (j : Nat) (h : j < s.size) (h1 : letB (bt s j) = false) (h2 : numB (bt s j) = false) : okTo s s.size = false := by
  rw [okTo_all, List.all_eq_false]
  refine ⟨s.data.toList[j]'(by rw [size_list]; exact h), List.getElem_mem _, ?_⟩
  rw [← bt_list s j h, h1, h2]; decide
set_option maxHeartbeats 1000000 in
theorem mayName_any (s : ByteArray) (w : World) : Calls Try.prog 7 #[.string s] w fun e w' => e = .returned (.bool (nameB s.data.toList)) ∧ Below w.heap.size w w' := by
  have hl := size_list s
  by_cases h0 : s.size = 0
  · obtain rfl : s = ⟨#[]⟩ := by
      cases s with | mk d => have : d.size = 0 := h0; rw [Array.eq_empty_of_size_eq_zero this]
    go_enter Try.func7, Try.ntmps7
    go_wp2
    go_ret
    exact ⟨rfl, Below.refl _ _⟩
  have hne : s.data.toList ≠ [] := by intro e; rw [e] at hl; simp at hl; omega
  have e0 : s.toList.isEmpty = false := by
    rw [Lib.toList_data]
    cases hc : s.data.toList with
    | nil => exact absurd hc hne
    | cons a r => rfl
  by_cases h1 : 24 < s.size
  · have hn : nameB s.data.toList = false := by
      unfold nameB; rw [hl, decide_eq_false (by omega : ¬ s.size ≤ 24)]; simp
    have e1 : decide (24 < (s.size : Int)) = true := by simp; omega
    rw [hn]
    go_enter Try.func7, Try.ntmps7
    go_wp2
    go_ret
    exact ⟨rfl, Below.refl _ _⟩
  have e1 : decide (24 < (s.size : Int)) = false := by simp; omega
  have hp0 : 0 < s.size := by omega
  have hix : ∀ w, (Instr.index 9 (.string s) (.int .i64 0)).run Try.prog w = .ok (.int .u8 (bt s 0 : Nat)) w := fun w => idx_bt 9 Try.underlying9 s 0 hp0 w
  have hb0 := bt_list s 0 hp0
  have hhd : s.data.toList.headD 0 = s.data.toList[0]'(by rw [hl]; exact hp0) := by
    rw [List.headD_eq_head?_getD, List.head?_eq_getElem?, List.getElem?_eq_getElem (by rw [hl]; exact hp0)]; rfl
  have hn : nameB s.data.toList = (letB (bt s 0) && okTo s s.size) := by
    unfold nameB
    rw [okTo_all, hhd, ← hb0, hl, decide_eq_true hne, decide_eq_true (by omega : s.size ≤ 24)]
    simp
  have hL := fun w => isLetter_any (bt s 0) (bt_lt s 0) w
  by_cases h2 : letB (bt s 0) = true
  · rw [hn, h2, Bool.true_and]
    rw [h2] at hL
    have hcv := run_bytes_of_string (P := Try.prog) w 9 40 5 s Try.underlying9 Try.underlying40 Try.underlying5
    have hcap : s.size ≤ grownCap w s.size 0 5 := grownCap_ge w s.size 0 _
    generalize grownCap w s.size 0 5 = cap at hcv hcap
    have hcell := fun j h => bytes_cell s w.drew cap 5 ((bytesRow s cap).size, (bytesRow s cap).size + 1) j h
    have hbel : Below w.heap.size w (w.drew.alloc (.cells (bytesRow s cap) 5 ((bytesRow s cap).size, (bytesRow s cap).size + 1))) := (Go.Proofs.Ytngagijcdehjpaa.Below.drewN (Below.refl _ w) 1).alloc (Nat.le_refl _) _
    have hfr : w.drew.heap.size = w.heap.size := rfl
    rw [hfr] at hcell
    generalize w.drew.alloc (.cells (bytesRow s cap) 5 ((bytesRow s cap).size, (bytesRow s cap).size + 1)) = Wc at hcv hcell hbel
    have HC := Lib.hid hcell
    have HB := Lib.hid hbel
    clear hcell hbel hcap hne hhd hb0 hn hfr
    go_enter Try.func7, Try.ntmps7
    go_wp2_with (go_at_call 15; refine (hL _).mono ?_; rintro e w' ⟨rfl, rfl⟩)
    go_loopw [21] (fun i wr => ∃ j : Nat, i = .int .i64 j ∧ j ≤ s.size ∧ Hid (wr = Wc ∧ okTo s j = true)) (fun i _ => s.size - (intOf i).toNat)
    case atStart => exact ⟨0, rfl, Nat.zero_le _, Lib.hid ⟨rfl, rfl⟩⟩
    case round =>
      obtain ⟨j, rfl, hj, HH⟩ := hrel
      obtain ⟨rfl, hall⟩ := HH.out
      by_cases hp : j < s.size
      · have hdl : decide ((j : Int) < (s.size : Int)) = true := by simp; omega
        have hcj := HC.out j hp
        have hk1 : IntKind.i64.wrap ((j : Int) + 1) = ((j + 1 : Nat) : Int) := by rw [IntKind.wrap_i64]; omega
        have hLj := fun w => isLetter_any (bt s j) (bt_lt s j) w
        have hDj := fun w => isDigit_any (bt s j) (bt_lt s j) w
        have hsu := okTo_succ s j hp
        rw [hall, Bool.true_and] at hsu
        have HT := Lib.hid hsu
        clear hsu hall
        cases h3 : letB (bt s j)
        · rw [h3] at hLj
          cases h4 : numB (bt s j)
          · rw [h4] at hDj
            have hbad := okTo_bad s j hp h3 h4
            go_wp2_with (first
              | (go_at_call 15; refine (hLj _).mono ?_; rintro e w1 ⟨rfl, rfl⟩)
              | (go_at_call 16; refine (hDj _).mono ?_; rintro e w2 ⟨rfl, rfl⟩))
            go_ret
            exact ⟨by rw [hbad]; rfl, HB.out⟩
          · rw [h4] at hDj
            go_wp2_with (first
              | (go_at_call 15; refine (hLj _).mono ?_; rintro e w1 ⟨rfl, rfl⟩)
              | (go_at_call 16; refine (hDj _).mono ?_; rintro e w2 ⟨rfl, rfl⟩))
            refine ⟨⟨j + 1, by go_num, hp, Lib.hid ⟨trivial, ?_⟩⟩, by simp [intOf]; omega⟩
            rw [HT.out, h3, h4]; rfl
        · rw [h3] at hLj
          go_wp2_with (go_at_call 15; refine (hLj _).mono ?_; rintro e w1 ⟨rfl, rfl⟩)
          refine ⟨⟨j + 1, by go_num, hp, Lib.hid ⟨trivial, ?_⟩⟩, by simp [intOf]; omega⟩
          rw [HT.out, h3]; rfl
      · have hdl : decide ((j : Int) < (s.size : Int)) = false := by simp; omega
        obtain rfl : j = s.size := by omega
        go_wp2
        go_ret
        exact ⟨rfl, HB.out⟩
  · have h2' : letB (bt s 0) = false := by simpa using h2
    rw [hn, h2', Bool.false_and]
    rw [h2'] at hL
    clear hn h2 hhd hb0 hne
    go_enter Try.func7, Try.ntmps7
    go_wp2_with (go_at_call 15; refine (hL _).mono ?_; rintro e w' ⟨rfl, rfl⟩)
    go_ret
    exact ⟨rfl, Below.refl _ _⟩
end Go.Proofs.Ytngagijcdehjpaa

