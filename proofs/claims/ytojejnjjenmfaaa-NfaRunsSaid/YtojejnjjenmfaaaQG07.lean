/-
  WHAT nfa's Begin, Go, Tag ANSWER, of any automaton, may it be or not: contracts; the first places, by marks. No condition but that it lies there, and that the row is no longer than 2^30.
-/
import Derived.Lib.Strings
import Derived.Test.YtojejnjjenmfaaaQNf9
namespace Go.Proofs.Ytojejnjjenmfaaa
open Go.RowKit

theorem NfaAt.form {W : World} {N : Nf} {v : Value} (h : NfaAt W N v) : ∃ A0 A1 A2 A3 A4 c0 c1 c2 c3 c4, v = .agg #[.slice A0 N.sets.length c0, .slice A1 N.rules.length c1, .slice A2 N.first.length c2, .slice A3 N.follow.length c3, .slice A4 N.ends.length c4, .int .i64 N.empty] := by
  obtain ⟨v0, v1, v2, v3, v4, rfl, ⟨A0, c0, rfl, _, _⟩, ⟨A1, c1, rfl, _, _⟩, ⟨A2, c2, rfl, _, _⟩, ⟨A3, c3, rfl, _, _⟩, ⟨A4, c4, rfl, _, _⟩⟩ := h
  exact ⟨A0, A1, A2, A3, A4, c0, c1, c2, c3, c4, rfl⟩
theorem rises_in {all : Int} : ∀ (l : List Int) (a : Int), risesB all a l = true → ∀ p ∈ l, a < p ∧ p < all
  | [], _, _, p, hp => by cases hp
  | x :: r, a, h, p, hp => by
    unfold risesB at h
    simp only [Bool.and_eq_true, decide_eq_true_eq] at h
    rcases List.mem_cons.1 hp with rfl | hp
    · exact h.1
    · have := rises_in r x h.2 p hp
      omega
theorem rises_len {all : Int} : ∀ (l : List Int) (a : Int), risesB all a l = true → l = [] ∨ (l.length : Int) + a < all
  | [], _, _ => .inl rfl
  | x :: r, a, h => by
    unfold risesB at h
    simp only [Bool.and_eq_true, decide_eq_true_eq] at h
    refine .inr ?_
    rcases rises_len r x h.2 with rfl | h2
    · simp; omega
    · simp only [List.length_cons]; omega
structure MayIs (N : Nf) : Prop where
  small : N.sets.length ≤ 2000
  rules : N.rules.length = N.sets.length
  follow : N.follow.length = N.sets.length
  ends : N.ends.length = N.sets.length
  rule : ∀ r ∈ N.rules, 0 ≤ r ∧ r < 40
  row : ∀ r ∈ N.follow, risesB N.sets.length (-1) r = true
  first : risesB N.sets.length (-1) N.first = true
  empty : -1 ≤ N.empty ∧ N.empty < 40
theorem may_is {N : Nf} (h : N.may = true) : MayIs N := by
  unfold Nf.may Nf.sized Nf.rest okR at h
  simp only [Bool.and_eq_true, decide_eq_true_eq, beq_iff_eq, List.all_eq_true] at h
  obtain ⟨⟨⟨h1, h2⟩, h3, h4⟩, h5, h6, h7, h8, h9⟩ := h
  exact ⟨h1, h2, h3, h4, h5, h6, h7, h8, h9⟩
theorem MayIs.firsts {N : Nf} (h : MayIs N) : (∀ p ∈ N.first, 0 ≤ p ∧ p < (N.sets.length : Int)) ∧ N.first.length ≤ 2000 := by
  refine ⟨fun p hp => by have := rises_in _ _ h.first p hp; omega, ?_⟩
  have hs := h.small
  rcases rises_len _ _ h.first with e | e
  · rw [e]; simp
  · omega
theorem MayIs.rows {N : Nf} (h : MayIs N) : ∀ r ∈ N.follow, ∀ x ∈ r, 0 ≤ x ∧ x < (N.sets.length : Int) := fun r hr x hx => by
  have := rises_in _ _ (h.row r hr) x hx; omega
theorem MayIs.ruleAt {N : Nf} (h : MayIs N) (p : Int) : 0 ≤ N.ruleAt p ∧ N.ruleAt p < 40 := by
  unfold Nf.ruleAt
  rw [List.getD_eq_getElem?_getD]
  by_cases e : p.toNat < N.rules.length
  · rw [List.getElem?_eq_getElem e]; exact h.rule _ (List.getElem_mem e)
  · rw [List.getElem?_eq_none (by omega)]; simp

set_option maxRecDepth 20000 in
set_option maxHeartbeats 4000000 in
theorem Begin_any (N : Nf) (c : Nat) (hc : c < 256) (v : Value) (w : World) (h : NfaAt w N v) :
    Calls Try.prog 23 #[v, .int .u8 c] w fun e w' => ∃ v', e = .returned v' ∧ IntsV w' (if N.may then beginL N c else []) v' ∧ Below w.heap.size w w' := by
  obtain ⟨A0, A1, A2, A3, A4, c0, c1, c2, c3, c4, rfl⟩ := h.form
  have hb0 : Below w.heap.size w (w.alloc (.cells #[.slice A0 N.sets.length c0, .slice A1 N.rules.length c1, .slice A2 N.first.length c2, .slice A3 N.follow.length c3, .slice A4 N.ends.length c4, .int .i64 N.empty] 30)) := (Below.refl _ _).alloc (Nat.le_refl _) _
  have hbx := BlkIs.new w 30 #[.slice A0 N.sets.length c0, .slice A1 N.rules.length c1, .slice A2 N.first.length c2, .slice A3 N.follow.length c3, .slice A4 N.ends.length c4, .int .i64 N.empty]
  obtain ⟨W1, hW1⟩ : ∃ W1, w.alloc (.cells #[.slice A0 N.sets.length c0, .slice A1 N.rules.length c1, .slice A2 N.first.length c2, .slice A3 N.follow.length c3, .slice A4 N.ends.length c4, .int .i64 N.empty] 30) = W1 := ⟨_, rfl⟩
  rw [hW1] at hb0 hbx
  have HAT := Lib.hid h
  have H0 := Lib.hid (And.intro hb0 hbx)
  have HM := Lib.hid (fun (u : World) (hu : Below w.heap.size w u) => mayN_any N _ u (h.step hu))
  have HBG := Lib.hid (fun (hm : N.may = true) (u : World) (hu : Below w.heap.size w u) => begin_any N c hc _ u (h.step hu) (may_is hm).firsts.1 (by have := (may_is hm).firsts.2; omega))
  obtain ⟨d0, d1, d2, d3, d4, d5⟩ := six hbx
  clear h hb0 hbx
  cases hm : N.may with
  | false =>
    rw [hm] at HM
    clear HBG HAT
    go_enter Try.func23, Try.ntmps23
    go_wp2_with fail
    go_at_call 16
    refine (HM.out _ H0.out.1).mono ?_
    rintro e u ⟨rfl, hbu⟩
    have HU := Lib.hid (H0.out.1.trans (hbu.mono H0.out.1.size))
    clear hbu
    go_wp2
    go_ret
    exact ⟨_, rfl, IntsV.nil _, HU.out⟩
  | true =>
    rw [hm] at HM
    have HB2 := Lib.hid (HBG.out hm)
    clear HBG HAT
    go_enter Try.func23, Try.ntmps23
    go_wp2_with fail
    go_at_call 16
    refine (HM.out _ H0.out.1).mono ?_
    rintro e u ⟨rfl, hbu⟩
    have HU := Lib.hid (And.intro (H0.out.1.trans (hbu.mono H0.out.1.size)) (H0.out.2.step hbu))
    clear hbu d0 d1 d2 d3 d4 d5
    obtain ⟨d0, d1, d2, d3, d4, d5⟩ := six HU.out.2
    go_wp2_with fail
    go_at_call 47
    refine (HB2.out _ HU.out.1).mono ?_
    rintro e u2 ⟨v', rfl, hri, hbu⟩
    have HV := Lib.hid (And.intro hri.ints (HU.out.1.trans (hbu.mono HU.out.1.size)))
    clear hbu hri d0 d1 d2 d3 d4 d5
    go_wp2
    go_ret
    exact ⟨_, rfl, HV.out.1, HV.out.2⟩

set_option maxRecDepth 20000 in
set_option maxHeartbeats 4000000 in
theorem Go_any (N : Nf) (at' : List Int) (c : Nat) (hc : c < 256) (v va : Value) (w : World) (h : NfaAt w N v) (ha : IntsV w at' va) :
    Calls Try.prog 24 #[v, va, .int .u8 c] w fun e w' => ∃ v', e = .returned v' ∧ IntsV w' (if risesB N.sets.length (-1) at' && N.may then keepTo N.sets.length (markF N at') N c else []) v' ∧ Below w.heap.size w w' := by
  obtain ⟨A0, A1, A2, A3, A4, c0, c1, c2, c3, c4, rfl⟩ := h.form
  have hb0 : Below w.heap.size w (w.alloc (.cells #[.slice A0 N.sets.length c0, .slice A1 N.rules.length c1, .slice A2 N.first.length c2, .slice A3 N.follow.length c3, .slice A4 N.ends.length c4, .int .i64 N.empty] 30)) := (Below.refl _ _).alloc (Nat.le_refl _) _
  have hbx := BlkIs.new w 30 #[.slice A0 N.sets.length c0, .slice A1 N.rules.length c1, .slice A2 N.first.length c2, .slice A3 N.follow.length c3, .slice A4 N.ends.length c4, .int .i64 N.empty]
  obtain ⟨W1, hW1⟩ : ∃ W1, w.alloc (.cells #[.slice A0 N.sets.length c0, .slice A1 N.rules.length c1, .slice A2 N.first.length c2, .slice A3 N.follow.length c3, .slice A4 N.ends.length c4, .int .i64 N.empty] 30) = W1 := ⟨_, rfl⟩
  rw [hW1] at hb0 hbx
  have HAT := Lib.hid h
  have H0 := Lib.hid (And.intro hb0 hbx)
  have HM := Lib.hid (fun (u : World) (hu : Below w.heap.size w u) => mayN_any N _ u (h.step hu))
  have hai := ha
  obtain ⟨Aa, ca, rfl, hca, hga⟩ := ha
  have HRS := Lib.hid (fun (u : World) (hu : Below w.heap.size w u) => rising_any at' (.slice Aa at'.length ca) N.sets.length u (hai.step hu))
  have HCC := Lib.hid (fun (hr : risesB N.sets.length (-1) at' = true) (hm : N.may = true) (u : World) (hu : Below w.heap.size w u) => step_any N at' c hc _ _ u (h.step hu) (hai.step hu) (fun p hp => by have := rises_in _ _ hr p hp; omega) (may_is hm).follow (may_is hm).rows (by have := (may_is hm).small; omega))
  obtain ⟨d0, d1, d2, d3, d4, d5⟩ := six hbx
  clear h hb0 hbx hai hga
  cases hr : risesB N.sets.length (-1) at' with
  | false =>
    rw [hr] at HRS
    clear HCC HAT HM
    go_enter Try.func24, Try.ntmps24
    go_wp2_with fail
    go_at_call 45
    refine (HRS.out _ H0.out.1).mono ?_
    rintro e u ⟨rfl, rfl⟩
    go_wp2
    go_ret
    exact ⟨_, rfl, IntsV.nil _, H0.out.1⟩
  | true =>
    rw [hr] at HRS
    cases hm : N.may with
    | false =>
      rw [hm] at HM
      clear HCC HAT
      go_enter Try.func24, Try.ntmps24
      go_wp2_with fail
      go_at_call 45
      refine (HRS.out _ H0.out.1).mono ?_
      rintro e u ⟨rfl, rfl⟩
      go_wp2_with fail
      go_at_call 16
      refine (HM.out _ H0.out.1).mono ?_
      rintro e u2 ⟨rfl, hbu⟩
      have HU := Lib.hid (H0.out.1.trans (hbu.mono H0.out.1.size))
      clear hbu
      go_wp2
      go_ret
      exact ⟨_, rfl, IntsV.nil _, HU.out⟩
    | true =>
      rw [hm] at HM
      have HC2 := Lib.hid (HCC.out hr hm)
      clear HCC HAT
      go_enter Try.func24, Try.ntmps24
      go_wp2_with fail
      go_at_call 45
      refine (HRS.out _ H0.out.1).mono ?_
      rintro e u ⟨rfl, rfl⟩
      go_wp2_with fail
      go_at_call 16
      refine (HM.out _ H0.out.1).mono ?_
      rintro e u2 ⟨rfl, hbu⟩
      have HU := Lib.hid (And.intro (H0.out.1.trans (hbu.mono H0.out.1.size)) (H0.out.2.step hbu))
      clear hbu d0 d1 d2 d3 d4 d5
      obtain ⟨d0, d1, d2, d3, d4, d5⟩ := six HU.out.2
      go_wp2_with fail
      go_at_call 48
      refine (HC2.out _ HU.out.1).mono ?_
      rintro e u3 ⟨v', rfl, hri, hbu⟩
      have HV := Lib.hid (And.intro hri.ints (HU.out.1.trans (hbu.mono HU.out.1.size)))
      clear hbu hri d0 d1 d2 d3 d4 d5
      go_wp2
      go_ret
      exact ⟨_, rfl, HV.out.1, HV.out.2⟩

set_option maxRecDepth 20000 in
set_option maxHeartbeats 4000000 in
theorem Tag_any (N : Nf) (at' : List Int) (v va : Value) (w : World) (h : NfaAt w N v) (ha : IntsV w at' va) :
    Calls Try.prog 25 #[v, va] w fun e w' => e = .returned (.int .i64 (if risesB N.sets.length (-1) at' && N.may then tagL N at' else -1)) ∧ Below w.heap.size w w' := by
  obtain ⟨A0, A1, A2, A3, A4, c0, c1, c2, c3, c4, rfl⟩ := h.form
  have hb0 : Below w.heap.size w (w.alloc (.cells #[.slice A0 N.sets.length c0, .slice A1 N.rules.length c1, .slice A2 N.first.length c2, .slice A3 N.follow.length c3, .slice A4 N.ends.length c4, .int .i64 N.empty] 30)) := (Below.refl _ _).alloc (Nat.le_refl _) _
  have hbx := BlkIs.new w 30 #[.slice A0 N.sets.length c0, .slice A1 N.rules.length c1, .slice A2 N.first.length c2, .slice A3 N.follow.length c3, .slice A4 N.ends.length c4, .int .i64 N.empty]
  obtain ⟨W1, hW1⟩ : ∃ W1, w.alloc (.cells #[.slice A0 N.sets.length c0, .slice A1 N.rules.length c1, .slice A2 N.first.length c2, .slice A3 N.follow.length c3, .slice A4 N.ends.length c4, .int .i64 N.empty] 30) = W1 := ⟨_, rfl⟩
  rw [hW1] at hb0 hbx
  have HAT := Lib.hid h
  have H0 := Lib.hid (And.intro hb0 hbx)
  have HM := Lib.hid (fun (u : World) (hu : Below w.heap.size w u) => mayN_any N _ u (h.step hu))
  have hai := ha
  obtain ⟨Aa, ca, rfl, hca, hga⟩ := ha
  have HRS := Lib.hid (fun (u : World) (hu : Below w.heap.size w u) => rising_any at' (.slice Aa at'.length ca) N.sets.length u (hai.step hu))
  have HCC := Lib.hid (fun (hr : risesB N.sets.length (-1) at' = true) (hm : N.may = true) (u : World) (hu : Below w.heap.size w u) => tag_any N at' _ _ u (h.step hu) (hai.step hu) (fun p hp => by have := rises_in _ _ hr p hp; have := (may_is hm).rules; omega) (by rw [(may_is hm).ends, (may_is hm).rules]))
  obtain ⟨d0, d1, d2, d3, d4, d5⟩ := six hbx
  clear h hb0 hbx hai hga
  cases hr : risesB N.sets.length (-1) at' with
  | false =>
    rw [hr] at HRS
    clear HCC HAT HM
    go_enter Try.func25, Try.ntmps25
    go_wp2_with fail
    go_at_call 45
    refine (HRS.out _ H0.out.1).mono ?_
    rintro e u ⟨rfl, rfl⟩
    go_wp2
    go_ret
    exact ⟨rfl, H0.out.1⟩
  | true =>
    rw [hr] at HRS
    cases hm : N.may with
    | false =>
      rw [hm] at HM
      clear HCC HAT
      go_enter Try.func25, Try.ntmps25
      go_wp2_with fail
      go_at_call 45
      refine (HRS.out _ H0.out.1).mono ?_
      rintro e u ⟨rfl, rfl⟩
      go_wp2_with fail
      go_at_call 16
      refine (HM.out _ H0.out.1).mono ?_
      rintro e u2 ⟨rfl, hbu⟩
      have HU := Lib.hid (H0.out.1.trans (hbu.mono H0.out.1.size))
      clear hbu
      go_wp2
      go_ret
      exact ⟨rfl, HU.out⟩
    | true =>
      rw [hm] at HM
      have HC2 := Lib.hid (HCC.out hr hm)
      clear HCC HAT
      go_enter Try.func25, Try.ntmps25
      go_wp2_with fail
      go_at_call 45
      refine (HRS.out _ H0.out.1).mono ?_
      rintro e u ⟨rfl, rfl⟩
      go_wp2_with fail
      go_at_call 16
      refine (HM.out _ H0.out.1).mono ?_
      rintro e u2 ⟨rfl, hbu⟩
      have HU := Lib.hid (And.intro (H0.out.1.trans (hbu.mono H0.out.1.size)) (H0.out.2.step hbu))
      clear hbu d0 d1 d2 d3 d4 d5
      obtain ⟨d0, d1, d2, d3, d4, d5⟩ := six HU.out.2
      go_wp2_with fail
      go_at_call 49
      refine (HC2.out _ HU.out.1).mono ?_
      rintro e u3 ⟨rfl, hbu⟩
      have HV := Lib.hid (HU.out.1.trans (hbu.mono HU.out.1.size))
      clear hbu d0 d1 d2 d3 d4 d5
      go_wp2
      go_ret
      exact ⟨rfl, HV.out⟩
end Go.Proofs.Ytojejnjjenmfaaa

/-
  WHAT nfa's Run ANSWERS, of any automaton and any text: a contract. No condition but that it lies there.
-/
namespace Go.Proofs.Ytojejnjjenmfaaa
open Go.RowKit

def b8 (s : ByteArray) (i : Nat) : Nat := if h : i < s.size then (s[i]'h).toNat else 0
theorem b8_lt (s : ByteArray) (i : Nat) : b8 s i < 256 := by
  unfold b8; split
  · exact UInt8.toNat_lt _
  · decide
/-- the places behind the first j bytes -/
def atTo (N : Nf) (s : ByteArray) : Nat → List Int
  | 0 => []
  | 1 => beginL N (b8 s 0)
  | j + 2 => keepTo N.sets.length (markF N (atTo N s (j + 1))) N (b8 s (j + 1))
theorem atTo_succ (N : Nf) (s : ByteArray) {j : Nat} (h : 1 ≤ j) : atTo N s (j + 1) = keepTo N.sets.length (markF N (atTo N s j)) N (b8 s j) := by
  obtain ⟨k, rfl⟩ : ∃ k, j = k + 1 := ⟨j - 1, by omega⟩
  rfl
theorem keep_in {k : Nat} {f : Nat → Bool} {N : Nf} {c : Nat} : ∀ p ∈ keepTo k f N c, 0 ≤ p ∧ p < (k : Int) := fun p hp => by
  unfold keepTo at hp
  obtain ⟨i, hi, rfl⟩ := List.mem_map.1 hp
  have := List.mem_range.1 (List.mem_filter.1 hi).1
  omega
theorem keep_nil (k : Nat) (N : Nf) (c : Nat) : keepTo k (markF N []) N c = [] := by
  unfold keepTo markF
  simp
theorem atTo_in {N : Nf} (h : MayIs N) (s : ByteArray) : ∀ j, ∀ p ∈ atTo N s j, 0 ≤ p ∧ p < (N.sets.length : Int)
  | 0 => fun p hp => by cases hp
  | 1 => fun p hp => by
    unfold atTo beginL at hp
    exact h.firsts.1 p (List.mem_filter.1 hp).1
  | j + 2 => fun p hp => by
    unfold atTo at hp
    exact keep_in p hp
theorem atTo_none {N : Nf} (s : ByteArray) {j : Nat} (h : 1 ≤ j) (he : atTo N s j = []) : ∀ n, atTo N s (j + n) = []
  | 0 => he
  | n + 1 => by
    rw [show j + (n + 1) = (j + n) + 1 by omega, atTo_succ N s (by omega), atTo_none s h he n, keep_nil]
theorem IntsV.len0 {W : World} {l : List Int} {v : Value} (h : IntsV W l v) : ∃ A c, v = .slice A l.length c := by
  obtain ⟨A, c, rfl, _, _⟩ := h
  exact ⟨A, c, rfl⟩
/-- what Run answers -/
def ranL (N : Nf) (s : ByteArray) : List Int := if N.may then atTo N s s.size else []
def ranT (N : Nf) (s : ByteArray) : Int := if N.may then (if s.size = 0 then N.empty else tagL N (atTo N s s.size)) else -1

set_option maxRecDepth 20000 in
set_option maxHeartbeats 8000000 in
theorem Run_any (N : Nf) (s : ByteArray) (hs : s.size ≤ 1073741824) (v : Value) (w : World) (h : NfaAt w N v) :
    Calls Try.prog 18 #[v, .string s] w fun e w' => ∃ v', e = .returned (.tuple #[v', .int .i64 (ranT N s)]) ∧ IntsV w' (ranL N s) v' ∧ Below w.heap.size w w' := by
  obtain ⟨A0, A1, A2, A3, A4, c0, c1, c2, c3, c4, rfl⟩ := h.form
  have hb0 : Below w.heap.size w (w.alloc (.cells #[.slice A0 N.sets.length c0, .slice A1 N.rules.length c1, .slice A2 N.first.length c2, .slice A3 N.follow.length c3, .slice A4 N.ends.length c4, .int .i64 N.empty] 30)) := (Below.refl _ _).alloc (Nat.le_refl _) _
  have hbx := BlkIs.new w 30 #[.slice A0 N.sets.length c0, .slice A1 N.rules.length c1, .slice A2 N.first.length c2, .slice A3 N.follow.length c3, .slice A4 N.ends.length c4, .int .i64 N.empty]
  obtain ⟨W1, hW1⟩ : ∃ W1, w.alloc (.cells #[.slice A0 N.sets.length c0, .slice A1 N.rules.length c1, .slice A2 N.first.length c2, .slice A3 N.follow.length c3, .slice A4 N.ends.length c4, .int .i64 N.empty] 30) = W1 := ⟨_, rfl⟩
  rw [hW1] at hb0 hbx
  have HAT := Lib.hid h
  have H0 := Lib.hid (And.intro hb0 hbx)
  have HM := Lib.hid (fun (u : World) (hu : Below w.heap.size w u) => mayN_any N _ u (h.step hu))
  obtain ⟨d0, d1, d2, d3, d4, d5⟩ := six hbx
  obtain ⟨R, hR⟩ : ∃ R, R = ranL N s := ⟨_, rfl⟩
  obtain ⟨Q, hQ⟩ : ∃ Q, Q = ranT N s := ⟨_, rfl⟩
  rw [← hR, ← hQ]
  unfold ranL at hR
  unfold ranT at hQ
  clear h hb0 hbx
  cases hm : N.may with
  | false =>
    rw [hm] at HM hR hQ
    simp only [Bool.false_eq_true, if_false] at hR hQ
    have HRQ := Lib.hid (And.intro hR hQ)
    clear hR hQ HAT
    go_enter Try.func18, Try.ntmps18
    go_wp2_with fail
    go_at_call 16
    refine (HM.out _ H0.out.1).mono ?_
    rintro e u ⟨rfl, hbu⟩
    have HU := Lib.hid (H0.out.1.trans (hbu.mono H0.out.1.size))
    clear hbu
    go_wp2
    exact bodyPost_ret (results_tmp2 rfl _ _ _) rfl ⟨.slice none 0 0, by rw [HRQ.out.2]; rfl, by rw [HRQ.out.1]; exact IntsV.nil _, HU.out⟩
  | true =>
    rw [hm] at HM hR hQ
    simp only [if_true] at hR hQ
    have hmi := may_is hm
    have HMI := Lib.hid hmi
    by_cases hz : s.size = 0
    · obtain rfl : s = ⟨#[]⟩ := by
        apply ByteArray.ext
        exact Array.eq_empty_of_size_eq_zero hz
      rw [if_pos hz] at hQ
      have HRQ := Lib.hid (And.intro (show R = [] from hR) hQ)
      clear hR hQ HAT hz hs hmi
      go_enter Try.func18, Try.ntmps18
      go_wp2_with fail
      go_at_call 16
      refine (HM.out _ H0.out.1).mono ?_
      rintro e u ⟨rfl, hbu⟩
      have HU := Lib.hid (And.intro (H0.out.1.trans (hbu.mono H0.out.1.size)) (H0.out.2.step hbu))
      clear hbu d0 d1 d2 d3 d4 d5
      obtain ⟨d0, d1, d2, d3, d4, d5⟩ := six HU.out.2
      go_wp2_with fail
      go_region
      go_wp2
      exact bodyPost_ret (results_tmp2 rfl _ _ _) rfl ⟨.slice none 0 0, by rw [HRQ.out.2]; rfl, by rw [HRQ.out.1]; exact IntsV.nil _, HU.out.1.drew⟩
    · rw [if_neg hz] at hQ
      have hpos : 0 < s.size := by omega
      have e0 : s.toList.isEmpty = false := by
        rw [Lib.toList_data]
        cases hcs : s.data.toList with
        | nil =>
          have hl : s.data.toList.length = s.size := by rw [Array.length_toList]; rfl
          rw [hcs] at hl
          simp at hl
          omega
        | cons a r => rfl
      have HBG := Lib.hid (fun (u : World) (hu : Below w.heap.size w u) => begin_any N (b8 s 0) (b8_lt s 0) _ u (HAT.out.step hu) hmi.firsts.1 (by have := hmi.firsts.2; omega))
      have HST := Lib.hid (fun (j : Nat) (va : Value) (u : World) (hu : Below w.heap.size w u) (ha : IntsV u (atTo N s j) va) => step_any N (atTo N s j) (b8 s j) (b8_lt s j) _ va u (HAT.out.step hu) ha (atTo_in hmi s j) hmi.follow hmi.rows (by have := hmi.small; omega))
      have HTG := Lib.hid (fun (j : Nat) (va : Value) (u : World) (hu : Below w.heap.size w u) (ha : IntsV u (atTo N s j) va) => tag_any N (atTo N s j) _ va u (HAT.out.step hu) ha (fun p hp => by have := atTo_in hmi s j p hp; have := hmi.rules; omega) (by rw [hmi.ends, hmi.rules]))
      have hix : ∀ (j : Nat), j < s.size → ∀ u : World, (Instr.index 9 (.string s) (.int .i64 (j : Nat))).run Try.prog u = .ok (.int .u8 (b8 s j : Nat)) u := fun j hj u => by
        have := idx_byte 9 Try.underlying9 s j hj u (P := Try.prog)
        rw [this]; unfold b8; rw [dif_pos hj]
      have hix0 : ∀ u : World, (Instr.index 9 (.string s) (.int .i64 0)).run Try.prog u = .ok (.int .u8 (b8 s 0 : Nat)) u := fun u => hix 0 hpos u
      have HIX := Lib.hid hix
      have HRQ := Lib.hid (And.intro hR hQ)
      clear hR hQ HAT hz hmi hix
      go_enter Try.func18, Try.ntmps18
      go_wp2_with fail
      go_at_call 16
      refine (HM.out _ H0.out.1).mono ?_
      rintro e u ⟨rfl, hbu⟩
      have HU := Lib.hid (And.intro (H0.out.1.trans (hbu.mono H0.out.1.size)) (H0.out.2.step hbu))
      clear hbu d0 d1 d2 d3 d4 d5
      go_wp2_with fail
      refine wp_region_held_drew (S := fun u => Below w.heap.size w u ∧ BlkIs u w.heap.size 30 #[.slice A0 N.sets.length c0, .slice A1 N.rules.length c1, .slice A2 N.first.length c2, .slice A3 N.follow.length c3, .slice A4 N.ends.length c4, .int .i64 N.empty]) (by kernel_rfl) ⟨HU.out.1.drew, HU.out.2.drew⟩ ?_
      intro hS0
      refine wpAnyH_take (i := 0) (v := .agg #[.slice A0 N.sets.length c0, .slice A1 N.rules.length c1, .slice A2 N.first.length c2, .slice A3 N.follow.length c3, .slice A4 N.ends.length c4, .int .i64 N.empty]) rfl (by kernel_rfl) (by kernel_rfl) (by kernel_rfl) (fun _ _ _ h => h) (.inl ⟨rfl, fun u hu => by
        obtain ⟨d0, d1, d2, d3, d4, d5⟩ := six hu.2
        go_simp⟩) hS0 ?_
      refine wpAnyH_take (i := 1) (v := .string s) rfl (by kernel_rfl) (by kernel_rfl) (by kernel_rfl) (fun _ _ _ h => h) (.inl ⟨rfl, fun u hu => by go_simp⟩) hS0 ?_
      refine wpAnyH_take (i := 2) (v := .int .u8 (b8 s 0 : Nat)) rfl (by kernel_rfl) (by kernel_rfl) (by kernel_rfl) (fun _ _ _ h => h) (.inl ⟨rfl, fun u hu => by go_simp⟩) hS0 ?_
      refine wpAnyH_ready (rs := [3]) (by kernel_rfl) (by simp) ?_
      refine AllReadyH.cons rfl (fun K hK => ?_) AllReadyH.nil
      go_simp
      go_at_call 47
      refine (HBG.out _ hS0.1).mono ?_
      rintro e u5 ⟨v5, rfl, hri5, hb5⟩
      refine hK.out _ _ ⟨hS0.1.trans (hb5.mono hS0.1.size), hS0.2.step hb5⟩ (fun hS1 => ?_)
      have HI5 := Lib.hid (show IntsV u5 (atTo N s 1) v5 from hri5.ints)
      clear hK K hS0 hb5 hri5
      refine wpAnyH_ready (rs := [4]) (by kernel_rfl) (by simp) ?_
      refine AllReadyH.cons rfl (fun K hK => ?_) AllReadyH.nil
      go_simp
      refine hK.out _ _ hS1 (fun hS2 => ?_)
      clear hK K
      refine wpAnyH_done (by kernel_rfl) ?_ _
      have HS2 := Lib.hid (And.intro hS2 HI5.out)
      clear hS1 hS2 HI5
      go_wp2
      go_loopw [6, 7] (fun x i wr => ∃ j : Nat, i = .int .i64 j ∧ 1 ≤ j ∧ j ≤ s.size ∧ Hid ((Below w.heap.size w wr ∧ BlkIs wr w.heap.size 30 #[.slice A0 N.sets.length c0, .slice A1 N.rules.length c1, .slice A2 N.first.length c2, .slice A3 N.follow.length c3, .slice A4 N.ends.length c4, .int .i64 N.empty]) ∧ IntsV wr (atTo N s j) x)) (fun _ i _ => s.size - (intOf i).toNat)
      case atStart => exact ⟨1, rfl, Nat.le_refl _, hpos, HS2⟩
      case round =>
        obtain ⟨j, rfl, hj1, hj, HH⟩ := hrel
        obtain ⟨Ax, cx, rfl⟩ := HH.out.2.len0
        obtain ⟨d0, d1, d2, d3, d4, d5⟩ := six HH.out.1.2
        by_cases hp : j < s.size ∧ 0 < (atTo N s j).length
        · have hk1 : IntKind.i64.wrap ((j : Int) + 1) = ((j + 1 : Nat) : Int) := by rw [IntKind.wrap_i64]; omega
          have hp1 := hp.1
          have hdl : decide ((j : Int) < (s.size : Int)) = true := by simp; omega
          have hdn : decide (((atTo N s j).length : Int) > 0) = true := by simp; omega
          have hdm : decide (0 < ((atTo N s j).length : Int)) = true := by simp; omega
          have hdo : decide (0 < (atTo N s j).length) = true := by simp; omega
          have hixj := HIX.out j hp1
          have HCS := Lib.hid (fun (u : World) (hu : Below w.heap.size w u) (ha : IntsV u (atTo N s j) (.slice Ax (atTo N s j).length cx)) => HST.out j _ u hu ha)
          have hsu := atTo_succ N s hj1
          rw [← hsu] at HCS
          clear hp hsu d0 d1 d2 d3 d4 d5
          generalize (atTo N s j).length = nx at *
          generalize b8 s j = bj at *
          obtain ⟨d0, d1, d2, d3, d4, d5⟩ := six HH.out.1.2
          go_wp2_with fail
          refine wp_region_held_drew (S := fun u => (Below w.heap.size w u ∧ BlkIs u w.heap.size 30 #[.slice A0 N.sets.length c0, .slice A1 N.rules.length c1, .slice A2 N.first.length c2, .slice A3 N.follow.length c3, .slice A4 N.ends.length c4, .int .i64 N.empty]) ∧ IntsV u (atTo N s j) (.slice Ax nx cx)) (by kernel_rfl) ⟨⟨HH.out.1.1.drew, HH.out.1.2.drew⟩, HH.out.2.step (Below.refl _ _).drew⟩ ?_
          clear d0 d1 d2 d3 d4 d5
          intro hS0
          refine wpAnyH_take (i := 0) (v := .agg #[.slice A0 N.sets.length c0, .slice A1 N.rules.length c1, .slice A2 N.first.length c2, .slice A3 N.follow.length c3, .slice A4 N.ends.length c4, .int .i64 N.empty]) rfl (by kernel_rfl) (by kernel_rfl) (by kernel_rfl) (fun _ _ _ h => h) (.inl ⟨rfl, fun u hu => by
            obtain ⟨d0, d1, d2, d3, d4, d5⟩ := six hu.1.2
            go_simp⟩) hS0 ?_
          refine wpAnyH_take (i := 1) (v := .slice Ax nx cx) rfl (by kernel_rfl) (by kernel_rfl) (by kernel_rfl) (fun _ _ _ h => h) (.inl ⟨rfl, fun u hu => by go_simp⟩) hS0 ?_
          refine wpAnyH_take (i := 2) (v := .string s) rfl (by kernel_rfl) (by kernel_rfl) (by kernel_rfl) (fun _ _ _ h => h) (.inl ⟨rfl, fun u hu => by go_simp⟩) hS0 ?_
          refine wpAnyH_take (i := 3) (v := .int .i64 (j : Int)) rfl (by kernel_rfl) (by kernel_rfl) (by kernel_rfl) (fun _ _ _ h => h) (.inl ⟨rfl, fun u hu => by go_simp⟩) hS0 ?_
          refine wpAnyH_take (i := 4) (v := .int .u8 (bj : Nat)) rfl (by kernel_rfl) (by kernel_rfl) (by kernel_rfl) (fun _ _ _ h => h) (.inl ⟨rfl, fun u hu => by go_simp⟩) hS0 ?_
          refine wpAnyH_ready (rs := [5]) (by kernel_rfl) (by simp) ?_
          refine AllReadyH.cons rfl (fun K hK => ?_) AllReadyH.nil
          go_simp
          go_at_call 48
          refine (HCS.out _ hS0.1.1 hS0.2).mono ?_
          rintro e u5 ⟨v5, rfl, hri5, hb5⟩
          refine hK.out _ _ ⟨⟨hS0.1.1.trans (hb5.mono hS0.1.1.size), hS0.1.2.step hb5⟩, hS0.2.step hb5⟩ (fun hS1 => ?_)
          have HI5 := Lib.hid hri5.ints
          clear hK K hS0 hb5 hri5
          refine wpAnyH_ready (rs := [6]) (by kernel_rfl) (by simp) ?_
          refine AllReadyH.cons rfl (fun K hK => ?_) AllReadyH.nil
          go_simp
          refine hK.out _ _ hS1 (fun hS2 => ?_)
          clear hK K
          refine wpAnyH_done (by kernel_rfl) ?_ _
          have HS2 := Lib.hid (And.intro hS2.1 HI5.out)
          clear hS1 hS2 HI5
          go_wp2
          exact ⟨⟨j + 1, rfl, by omega, hp1, HS2⟩, by simp [intOf]; omega⟩
        · have HEND := Lib.hid (show atTo N s s.size = atTo N s j by
            by_cases hjs : j < s.size
            · have : atTo N s j = [] := by
                have : ¬ 0 < (atTo N s j).length := fun h => hp ⟨hjs, h⟩
                exact List.eq_nil_of_length_eq_zero (by omega)
              have h2 := atTo_none s hj1 this (s.size - j)
              rw [show j + (s.size - j) = s.size by omega] at h2
              rw [h2, this]
            · rw [show j = s.size by omega])
          have HCT := Lib.hid (fun (u : World) (hu : Below w.heap.size w u) (ha : IntsV u (atTo N s j) (.slice Ax (atTo N s j).length cx)) => HTG.out j _ u hu ha)
          have HFIN := Lib.hid (show tagL N (atTo N s j) = Q by rw [HRQ.out.2, HEND.out])
          have HFIR := Lib.hid (show R = atTo N s j by rw [HRQ.out.1, HEND.out])
          rw [HFIN.out] at HCT
          by_cases hjs : j < s.size
          · have hdl : decide ((j : Int) < (s.size : Int)) = true := by simp; omega
            have hl0 : ¬ 0 < (atTo N s j).length := fun h => hp ⟨hjs, h⟩
            have hdn : decide (((atTo N s j).length : Int) > 0) = false := decide_eq_false (by omega)
            have hdm : decide (0 < ((atTo N s j).length : Int)) = false := decide_eq_false (by omega)
            have hdo : decide (0 < (atTo N s j).length) = false := decide_eq_false hl0
            clear hp hl0
            generalize (atTo N s j).length = nx at *
            go_wp2_with fail
            go_at_call 49
            refine (HCT.out _ HH.out.1.1 HH.out.2).mono ?_
            rintro e u9 ⟨rfl, hb9⟩
            have HV := Lib.hid (And.intro (HH.out.2.step hb9) (HH.out.1.1.trans (hb9.mono HH.out.1.1.size)))
            clear hb9
            go_wp2
            exact bodyPost_ret (results_tmp2 rfl _ _ _) rfl ⟨_, rfl, by rw [HFIR.out]; exact HV.out.1, HV.out.2⟩
          · have hdl : decide ((j : Int) < (s.size : Int)) = false := by simp; omega
            clear hp
            generalize (atTo N s j).length = nx at *
            go_wp2_with fail
            go_at_call 49
            refine (HCT.out _ HH.out.1.1 HH.out.2).mono ?_
            rintro e u9 ⟨rfl, hb9⟩
            have HV := Lib.hid (And.intro (HH.out.2.step hb9) (HH.out.1.1.trans (hb9.mono HH.out.1.1.size)))
            clear hb9
            go_wp2
            exact bodyPost_ret (results_tmp2 rfl _ _ _) rfl ⟨_, rfl, by rw [HFIR.out]; exact HV.out.1, HV.out.2⟩
end Go.Proofs.Ytojejnjjenmfaaa

/-
  THE FIRST PLACES, BY MARKS: where they rise, the reference's first step and nfa's begin say the same. Pure.
-/
namespace Go.Proofs.Ytojejnjjenmfaaa
open Go.RowKit

theorem filter_first (k pn : Nat) (P : Nat → Bool) (hk : pn < k) (hp : P pn = true) (hl : ∀ q, q < pn → P q = false) : (List.range k).filter P = pn :: (List.range k).filter fun (q : Nat) => decide (pn < q) && P q := by
  obtain ⟨b, rfl⟩ : ∃ b, k = (pn + 1) + b := ⟨k - (pn + 1), by omega⟩
  rw [List.range_add, List.filter_append, List.filter_append]
  have h1 : (List.range (pn + 1)).filter P = [pn] := by
    rw [List.range_succ, List.filter_append]
    have : (List.range pn).filter P = [] := List.filter_eq_nil_iff.2 fun q hq => by
      rw [hl q (List.mem_range.1 hq)]; simp
    rw [this]
    simp [hp]
  have h2 : (List.range (pn + 1)).filter (fun q => decide (pn < q) && P q) = [] := List.filter_eq_nil_iff.2 fun q hq => by
    have := List.mem_range.1 hq
    have : decide (pn < q) = false := decide_eq_false (by omega)
    rw [this]; simp
  have h3 : ((List.range b).map (pn + 1 + ·)).filter P = ((List.range b).map (pn + 1 + ·)).filter fun q => decide (pn < q) && P q := by
    apply List.filter_congr
    intro q hq
    obtain ⟨i, _, rfl⟩ := List.mem_map.1 hq
    have : decide (pn < pn + 1 + i) = true := decide_eq_true (by omega)
    rw [this]; simp
  rw [h1, h2, h3]
  rfl
theorem hasI_mem {l : List Int} {q : Nat} : hasI l q = true ↔ (q : Int) ∈ l := by
  unfold hasI
  rw [List.any_eq_true]
  constructor
  · rintro ⟨x, hx, e⟩
    have : x = (q : Int) := by simpa using e
    rw [← this]; exact hx
  · intro h
    exact ⟨_, h, by simp⟩
theorem rise_range (k : Nat) : ∀ (l : List Int) (a : Int), -1 ≤ a → risesB k a l = true → l = ((List.range k).filter fun (q : Nat) => decide (a < (q : Int)) && hasI l q).map fun (q : Nat) => (q : Int)
  | [], a, _, _ => by
    have : ((List.range k).filter fun (q : Nat) => decide (a < (q : Int)) && hasI [] q) = [] := List.filter_eq_nil_iff.2 fun q _ => by simp [hasI]
    rw [this]; rfl
  | p :: r, a, ha, h => by
    have hin := rises_in _ _ h
    unfold risesB at h
    simp only [Bool.and_eq_true, decide_eq_true_eq] at h
    obtain ⟨pn, rfl⟩ := Int.eq_ofNat_of_zero_le (show 0 ≤ p by omega)
    have hr := rises_in _ _ h.2
    rw [filter_first k pn _ (by omega) (by rw [decide_eq_true h.1.1, hasI_mem.2 (by simp)]; rfl) (fun q hq => by
      rw [Bool.eq_false_iff]
      intro e
      rw [Bool.and_eq_true] at e
      have hm := hasI_mem.1 e.2
      rcases List.mem_cons.1 hm with e2 | hm
      · omega
      · have := (hr _ hm).1; omega)]
    rw [List.map_cons]
    congr 1
    have ih := rise_range k r (pn : Int) (by omega) h.2
    have e : ((List.range k).filter fun (q : Nat) => decide (pn < q) && (decide (a < (q : Int)) && hasI ((pn : Int) :: r) q)) = (List.range k).filter fun (q : Nat) => decide ((pn : Int) < (q : Int)) && hasI r q := by
      apply List.filter_congr
      intro q _
      by_cases hq : pn < q
      · have e1 : decide ((pn : Int) < (q : Int)) = true := decide_eq_true (by omega)
        have e2 : decide (a < (q : Int)) = true := decide_eq_true (by omega)
        have e3 : hasI ((pn : Int) :: r) q = hasI r q := by
          unfold hasI
          rw [List.any_cons]
          have : ((pn : Int) == (q : Int)) = false := by simp; omega
          rw [this]; simp
        rw [decide_eq_true hq, e1, e2, e3]; simp
      · have e1 : decide ((pn : Int) < (q : Int)) = false := decide_eq_false (by omega)
        rw [decide_eq_false hq, e1]; simp
    rw [e]
    exact ih
theorem begin_marks (N : Nf) (c : Nat) (h : risesB N.sets.length (-1) N.first = true) : beginL N c = keepTo N.sets.length (marks0 N true) N c := by
  have hr := rise_range N.sets.length N.first (-1) (by omega) h
  unfold beginL keepTo
  conv => lhs; rw [hr]
  rw [List.filter_map, List.filter_filter]
  congr 1
  apply List.filter_congr
  intro q _
  have e : decide ((-1 : Int) < (q : Int)) = true := decide_eq_true (by omega)
  simp only [Function.comp, marks0, e, Bool.true_and, Bool.and_comm]
theorem marks_begin (N : Nf) (c : Nat) : keepTo N.sets.length (marksS N true []) N c = keepTo N.sets.length (marks0 N true) N c := by
  congr 1
  funext q
  unfold marksS markF
  simp
theorem marks_go (N : Nf) (at' : List Int) : marksS N false at' = markF N at' := by
  funext q
  unfold marksS marks0
  simp
/-- the reference's places behind j bytes are nfa's -/
theorem ref_at (N : Nf) (h : MayIs N) (s : ByteArray) (j : Nat) : keepTo N.sets.length (marksS N (decide (j = 0)) (atTo N s j)) N (b8 s j) = atTo N s (j + 1) := by
  cases j with
  | zero =>
    show keepTo N.sets.length (marksS N true []) N (b8 s 0) = beginL N (b8 s 0)
    rw [marks_begin, begin_marks N _ h.first]
  | succ j =>
    have : decide (j + 1 = 0) = false := by simp
    rw [this, marks_go]
    rfl
end Go.Proofs.Ytojejnjjenmfaaa

/-
  WHAT hacklelaw08.Of AND hackleref08.Rising ANSWER: contracts. No condition.
-/
namespace Go.Proofs.Ytojejnjjenmfaaa
open Go.RowKit

theorem info_nfa : (Try.prog.info? 30).map (·.size) = some 6 := by kernel_rfl
theorem load_nfa {w : World} {g : Nat} {t : TypeId} {a b c d e f : Value} (h : BlkIs w g t #[a, b, c, d, e, f]) : (loadVar 30 ⟨g, 0, none⟩).run Try.prog w = .ok (.agg #[a, b, c, d, e, f]) w :=
  run_loadVar_mid (P := Try.prog) w g 0 30 [a, b, c, d, e, f] _ h.range Try.underlying30 rfl info_nfa
theorem below_cells8 {B : Nat} {w0 : World} (g : Nat) : ∀ (vs : List Value) (o : Nat) (w : World), B ≤ g → Below B w0 w → Below B w0 (w.setCells g o vs)
  | [], _, _, _, h => h
  | x :: vs, o, _, hB, h => below_cells8 g vs (o + 1) _ hB (h.setCell (p := ⟨g, o, none⟩) hB x)
set_option maxRecDepth 20000 in
set_option maxHeartbeats 2000000 in
theorem of8_any (A0 A1 A2 A3 A4 : Option Addr) (n0 n1 n2 n3 n4 c0 c1 c2 c3 c4 : Nat) (em : Int) (w : World) :
    Calls Try.prog 21 #[.agg #[.slice A0 n0 c0, .slice A1 n1 c1, .slice A2 n2 c2, .slice A3 n3 c3, .slice A4 n4 c4, .int .i64 em]] w fun e w' => e = .returned (.agg #[.slice A0 n0 c0, .slice A1 n1 c1, .slice A2 n2 c2, .slice A3 n3 c3, .slice A4 n4 c4, .int .i64 em]) ∧ Below w.heap.size w w' := by
  have hb0 : Below w.heap.size w (w.alloc (.cells #[.slice A0 n0 c0, .slice A1 n1 c1, .slice A2 n2 c2, .slice A3 n3 c3, .slice A4 n4 c4, .int .i64 em] 42)) := (Below.refl _ _).alloc (Nat.le_refl _) _
  have hb1 := hb0.alloc (by simp) (.cells #[.slice none 0 0, .slice none 0 0, .slice none 0 0, .slice none 0 0, .slice none 0 0, .int .i64 0] 30)
  have HB := Lib.hid hb1
  clear hb0 hb1
  go_enter Try.func21, Try.ntmps21
  have hz := BlkIs.new (w.alloc (.cells #[.slice A0 n0 c0, .slice A1 n1 c1, .slice A2 n2 c2, .slice A3 n3 c3, .slice A4 n4 c4, .int .i64 em] 42)) 30 #[.slice none 0 0, .slice none 0 0, .slice none 0 0, .slice none 0 0, .slice none 0 0, .int .i64 0]
  rw [World.size_alloc] at hz
  have hth : World.there _ (w.heap.size + 1) 0 ([Value.slice A0 n0 c0, .slice A1 n1 c1, .slice A2 n2 c2, .slice A3 n3 c3, .slice A4 n4 c4, .int .i64 em]).toArray.size := hz.there
  have hal : ([Value.slice A0 n0 c0, .slice A1 n1 c1, .slice A2 n2 c2, .slice A3 n3 c3, .slice A4 n4 c4, .int .i64 em]).toArray.all (·.oneCell') = true := by simp [Value.oneCell']
  have hin : (Try.prog.info? 30).map (·.size) = some ([Value.slice A0 n0 c0, .slice A1 n1 c1, .slice A2 n2 c2, .slice A3 n3 c3, .slice A4 n4 c4, .int .i64 em]).toArray.size := info_nfa
  have hfl := hz.fill (new := ([Value.slice A0 n0 c0, .slice A1 n1 c1, .slice A2 n2 c2, .slice A3 n3 c3, .slice A4 n4 c4, .int .i64 em]).toArray) rfl
  have hl := load_nfa hfl
  have hb9 := below_cells8 (w0 := w) (B := w.heap.size) (w.heap.size + 1) [Value.slice A0 n0 c0, .slice A1 n1 c1, .slice A2 n2 c2, .slice A3 n3 c3, .slice A4 n4 c4, .int .i64 em] 0 _ (by omega) HB.out
  go_wp2_with ((with_reducible refine wpList_store_mid ?_ 30 (.tmp 2) (.tmp 15) ?_ (w.heap.size + 1) 0 ([Value.slice A0 n0 c0, .slice A1 n1 c1, .slice A2 n2 c2, .slice A3 n3 c3, .slice A4 n4 c4, .int .i64 em]).toArray ?_ ?_ hth hin hal ?_); exact rfl; exact rfl; exact rfl; exact rfl)
  exact ⟨rfl, _, results_cell1 rfl rfl hl, ⟨rfl, hb9⟩⟩
set_option maxRecDepth 20000 in
set_option maxHeartbeats 2000000 in
theorem refRising8_any (l : List Int) (v : Value) (A0 A1 A2 A3 A4 : Option Addr) (n0 n1 n2 n3 n4 c0 c1 c2 c3 c4 : Nat) (em : Int) (w : World) (hv : IntsV w l v) :
    Calls Try.prog 29 #[.agg #[.slice A0 n0 c0, .slice A1 n1 c1, .slice A2 n2 c2, .slice A3 n3 c3, .slice A4 n4 c4, .int .i64 em], v] w fun e w' => e = .returned (.bool (risesB n0 (-1) l)) ∧ Below w.heap.size w w' := by
  have hb0 : Below w.heap.size w (w.alloc (.cells #[.slice A0 n0 c0, .slice A1 n1 c1, .slice A2 n2 c2, .slice A3 n3 c3, .slice A4 n4 c4, .int .i64 em] 42)) := (Below.refl _ _).alloc (Nat.le_refl _) _
  have hbx := BlkIs.new w 42 #[.slice A0 n0 c0, .slice A1 n1 c1, .slice A2 n2 c2, .slice A3 n3 c3, .slice A4 n4 c4, .int .i64 em]
  have HR := Lib.hid (refRising_any l v A0 A1 A2 A3 A4 n0 n1 n2 n3 n4 c0 c1 c2 c3 c4 em _ (hv.step hb0))
  obtain ⟨Aa, ca, rfl⟩ := hv.len0
  obtain ⟨d0, d1, d2, d3, d4, d5⟩ := six hbx
  have HB := Lib.hid hb0
  clear hb0 hbx hv
  go_enter Try.func29, Try.ntmps29
  go_wp2_with fail
  go_at_call 53
  refine HR.out.mono ?_
  rintro e u ⟨rfl, hbu⟩
  have HU := Lib.hid (HB.out.trans (hbu.mono HB.out.size))
  clear hbu
  go_wp2
  go_ret
  exact ⟨rfl, HU.out⟩
end Go.Proofs.Ytojejnjjenmfaaa

