/-
  WHAT THE SMALL FUNCTIONS OF PACKAGE rxparse ANSWER: contracts. No condition but that a text is no longer than a machine holds.
-/
import Derived.Test.YtngagijcdehjpaaPars
import Derived.Lib.Bytealg
import Derived.BigQuiet
import Derived.WalkLawsBesides
namespace Go.Proofs.Ytngagijcdehjpaa
open Go.RowKit

theorem isLetter_any (b : Nat) (hb : b < 256) (w : World) : Calls Try.prog 15 #[.int .u8 b] w fun e w' => e = .returned (.bool (letB b)) ∧ w' = w := by
  unfold letB
  by_cases h1 : 97 ≤ b
  · have e1 : decide ((97 : Int) ≤ (b : Int)) = true := by simp; omega
    have e2 : decide (97 ≤ b) = true := by simpa using h1
    go_enter Try.func15, Try.ntmps15
    go_wp2
    go_ret
    simp [h1]; omega
  · have e1 : decide ((97 : Int) ≤ (b : Int)) = false := by simp; omega
    have e2 : decide (97 ≤ b) = false := by simpa using h1
    go_enter Try.func15, Try.ntmps15
    go_wp2
    go_ret
    simp [e2]
theorem isDigit_any (b : Nat) (hb : b < 256) (w : World) : Calls Try.prog 16 #[.int .u8 b] w fun e w' => e = .returned (.bool (numB b)) ∧ w' = w := by
  unfold numB
  by_cases h1 : 48 ≤ b
  · have e1 : decide ((48 : Int) ≤ (b : Int)) = true := by simp; omega
    have e2 : decide (48 ≤ b) = true := by simpa using h1
    go_enter Try.func16, Try.ntmps16
    go_wp2
    go_ret
    simp [h1]; omega
  · have e1 : decide ((48 : Int) ≤ (b : Int)) = false := by simp; omega
    have e2 : decide (48 ≤ b) = false := by simpa using h1
    go_enter Try.func16, Try.ntmps16
    go_wp2
    go_ret
    simp [e2]

/-- what strings.IndexByte tells of the signs -/
def sgnL : List UInt8 := [124, 42, 43, 63, 123, 125, 40, 41, 91, 93, 46, 60, 62, 47, 92, 94, 45]
theorem sgn_is : ∀ b : Fin 256, ¬ (b.val < 32 ∨ 126 < b.val) → (sgn b.val : Int) = (if 0 ≤ Lib.indexByte sgnL (UInt8.ofNat b.val) then 2 + Lib.indexByte sgnL (UInt8.ofNat b.val) else 1) ∧ Lib.indexByte sgnL (UInt8.ofNat b.val) ≤ 16 := by decide +kernel
set_option maxRecDepth 100000 in
theorem indexByte_any (s : ByteArray) (c : Int) (w : World) : Calls Try.prog 60 #[.string s, .int .u8 c] w fun e w' => e = .returned (.int .i64 (Lib.indexByte s.data.toList c.toNat.toUInt8)) ∧ w' = w := by
  have h : ∀ w, (callFunc 71 #[.string s, .int .u8 c]).run Try.prog w = .ok (.value (.int .i64 (Lib.indexByte s.data.toList c.toNat.toUInt8))) w := fun w => by
    rw [run_callFunc_extern Try.func71 (by kernel_rfl) (by kernel_rfl) (by kernel_rfl) (by kernel_rfl), Lib.run_indexByteString]
    rfl
  go_enter Try.func60, Try.ntmps60
  go_wp2
  go_ret
  exact ⟨rfl, rfl⟩
set_option maxRecDepth 100000 in
theorem signOf_any (b : Nat) (hb : b < 256) (w : World) : Calls Try.prog 49 #[.int .u8 b] w fun e w' => e = .returned (.int .i64 (sgn b : Nat)) ∧ w' = w := by
  by_cases h0 : b < 32 ∨ 126 < b
  · have e0 : sgn b = 0 := by unfold sgn; rw [if_pos h0]
    rw [e0]
    by_cases h1 : b < 32
    · have e1 : decide ((b : Int) < 32) = true := by simp; omega
      go_enter Try.func49, Try.ntmps49
      go_wp2_with (fail)
      go_ret
      exact ⟨rfl, rfl⟩
    · have e1 : decide ((b : Int) < 32) = false := by simp; omega
      have e2 : decide (126 < (b : Int)) = true := by simp; omega
      go_enter Try.func49, Try.ntmps49
      go_wp2_with (fail)
      go_ret
      exact ⟨rfl, rfl⟩
  · obtain ⟨e0, hk⟩ := sgn_is ⟨b, hb⟩ h0
    have hix := indexByte_any ⟨#[124, 42, 43, 63, 123, 125, 40, 41, 91, 93, 46, 60, 62, 47, 92, 94, 45]⟩ (b : Int) w
    have e4 : Lib.indexByte ([124, 42, 43, 63, 123, 125, 40, 41, 91, 93, 46, 60, 62, 47, 92, 94, 45] : List UInt8) (b : Int).toNat.toUInt8 = Lib.indexByte sgnL (UInt8.ofNat b) := rfl
    have e5 := Lib.indexByte_ge sgnL (UInt8.ofNat b)
    simp only [e4] at hix
    simp only at e0 hk
    rw [e0]
    generalize Lib.indexByte sgnL (UInt8.ofNat b) = k at *
    have e1 : decide ((b : Int) < 32) = false := by simp; omega
    have e2 : decide (126 < (b : Int)) = false := by simp; omega
    clear e0
    by_cases h3 : 0 ≤ k
    · have e3 : decide (0 ≤ k) = true := by simpa using h3
      have e6 : wrap64 (2 + k) = 2 + k := by unfold wrap64; omega
      rw [if_pos h3]
      go_enter Try.func49, Try.ntmps49
      go_wp2_with (go_at_call 60; refine hix.mono ?_; rintro e w' ⟨rfl, rfl⟩)
      go_ret
      exact ⟨rfl, rfl⟩
    · have e3 : decide (0 ≤ k) = false := by simp; omega
      rw [if_neg h3]
      go_enter Try.func49, Try.ntmps49
      go_wp2_with (go_at_call 60; refine hix.mono ?_; rintro e w' ⟨rfl, rfl⟩)
      go_ret
      exact ⟨rfl, rfl⟩

/-- a parser in block pb: its text, its place, how many ( are open, its fragments -/
def PIs (W : World) (pb : Nat) (s : ByteArray) (i o : Nat) (F : Value) : Prop := BlkIs W pb 47 #[.string s, .int .i64 (i : Nat), .int .i64 (o : Nat), F]
/-- all but the parser is as it was -/
def Kept (pb : Nat) (W W' : World) : Prop := Below pb W W' ∧ ∀ k, pb < k → k < W.heap.size → W'.heap[k]? = W.heap[k]?
theorem PIs.lt {W : World} {pb i o : Nat} {s : ByteArray} {F : Value} (h : PIs W pb s i o F) : pb < W.heap.size := BlkIs.lt h
theorem PIs.to {W : World} {pb i o : Nat} {s : ByteArray} {F : Value} (h : PIs W pb s i o F) (j : Nat) : PIs (W.setCell ⟨pb, 1, none⟩ (.int .i64 (j : Nat))) pb s j o F := by
  have := BlkIs.put h 1 (.int .i64 (j : Nat))
  simpa [PIs] using this
theorem PIs.to1 {W : World} {pb i o : Nat} {s : ByteArray} {F : Value} (h : PIs W pb s i o F) : PIs (W.setCell ⟨pb, 1, none⟩ (.int .i64 ((i : Int) + 1))) pb s (i + 1) o F := h.to (i + 1)
theorem PIs.opens {W : World} {pb i o : Nat} {s : ByteArray} {F : Value} (h : PIs W pb s i o F) (j : Nat) : PIs (W.setCell ⟨pb, 2, none⟩ (.int .i64 (j : Nat))) pb s i j F := by
  have := BlkIs.put h 2 (.int .i64 (j : Nat))
  simpa [PIs] using this
theorem PIs.draw {W : World} {pb i o : Nat} {s : ByteArray} {F : Value} (h : PIs W pb s i o F) (m : Nat) : PIs (W.drewN m) pb s i o F := h
theorem PIs.step {W W' : World} {pb i o : Nat} {s : ByteArray} {F : Value} (h : PIs W pb s i o F) (hb : Below W.heap.size W W') : PIs W' pb s i o F := BlkIs.step h hb
theorem Kept.refl (pb : Nat) (W : World) : Kept pb W W := ⟨Below.refl _ _, fun _ _ _ => rfl⟩
theorem Kept.trans {pb : Nat} {A B C : World} (h : Kept pb A B) (k : Kept pb B C) : Kept pb A C :=
  ⟨h.1.trans k.1, fun n h1 h2 => (k.2 n h1 (Nat.lt_of_lt_of_le h2 h.1.size)).trans (h.2 n h1 h2)⟩
theorem Kept.below {pb : Nat} {W W' : World} (hb : Below W.heap.size W W') (h : pb ≤ W.heap.size) : Kept pb W W' := ⟨hb.mono h, fun k _ hk => hb.block k hk⟩
theorem Kept.drewN (pb : Nat) (W : World) (m : Nat) : Kept pb W (W.drewN m) := ⟨⟨rfl, rfl, rfl, Nat.le_refl _, fun _ _ => rfl⟩, fun _ _ _ => rfl⟩
theorem Kept.put (pb : Nat) (W : World) (i : Nat) (u : Value) : Kept pb W (W.setCell ⟨pb, i, none⟩ u) :=
  ⟨(Below.refl _ _).setCell (p := ⟨pb, i, none⟩) (Nat.le_refl _) u, fun k h1 _ => Below.heap_setCell W ⟨pb, i, none⟩ u k (by show k ≠ pb; omega)⟩
theorem Kept.alloc (pb : Nat) (W : World) (o : Obj) (h : pb ≤ W.heap.size) : Kept pb W (W.alloc o) := Kept.below ((Below.refl _ _).alloc (Nat.le_refl _) o) h
theorem Below.drewN {B : Nat} {a w : World} (h : Below B a w) (m : Nat) : Below B a (w.drewN m) := ⟨h.os, h.tape, h.output, h.size, h.block⟩

theorem idx_bt (t : TypeId) (ht : (Try.prog).underlying t = some .string) (s : ByteArray) (i : Nat) (hi : i < s.size) (w : World) :
    (Instr.index t (.string s) (.int .i64 (i : Nat))).run Try.prog w = .ok (.int .u8 (bt s i : Nat)) w := by
  rw [run_index_string w t s .i64 _ ht, dif_pos ⟨by omega, by omega⟩]
  simp [bt, hi]

theorem next_any (W : World) (pb : Nat) (s : ByteArray) (i o : Nat) (F : Value) (h : PIs W pb s i o F) (hi : i ≤ s.size) :
    Calls Try.prog 42 #[.pointer (some ⟨pb, 0, none⟩)] W fun e w' => e = .returned (.int .i64 (sgnAt s i : Nat)) ∧ ∃ m, w' = W.drewN m := by
  obtain ⟨c0, c1, c2, c3, f0, f1, f2, f3⟩ := BlkIs.four h
  unfold sgnAt
  by_cases hl : i < s.size
  · have e1 : ((i : Int) == (s.size : Int)) = false := by simp; omega
    have hix := idx_bt 9 Try.underlying9 s i hl
    rw [if_pos hl]
    go_enter Try.func42, Try.ntmps42
    have hso := fun w => (signOf_any (bt s i) (bt_lt s i) w)
    go_wp2_with (go_quiet (fail))
    generalize hW1 : W.drewN nq = W1
    obtain ⟨c0', c1', c2', c3', f0', f1', f2', f3'⟩ := BlkIs.four (show PIs W1 pb s i o F from hW1 ▸ h.draw nq)
    clear c0 c1 c2 c3 f0 f1 f2 f3
    go_quiet (first | (go_at_call 49; refine Calls.quiet_of_same (hso _)))
    go_wp2
    go_ret
    subst hW1
    exact ⟨rfl, _, World.drewN_drewN _ _ _⟩
  · have e1 : ((i : Int) == (s.size : Int)) = true := by simp; omega
    rw [if_neg hl]
    go_enter Try.func42, Try.ntmps42
    go_wp2_with (go_quiet (fail))
    go_ret
    exact ⟨rfl, _, rfl⟩

/-- what a parser panics with -/
def fltV (q : Nat × Nat) : Value := .iface 45 (.agg #[.int .i64 (q.1 : Nat), .int .i64 (q.2 : Nat)])
/-- a reader's answer is r -/
def Ans {α : Type} (pb : Nat) (s : ByteArray) (o : Nat) (F : Value) (W : World) (enc : World → α → Value → Prop) (r : Res α) (e : Ending) (W' : World) : Prop :=
  Kept pb W W' ∧ match r with
    | .ok (a, j) => (∃ v, e = .returned v ∧ enc W' a v) ∧ PIs W' pb s j o F
    | .error q => e = .panicked [{ v := fltV q, recovered := false }]
theorem Ans.ok {α : Type} {pb : Nat} {s : ByteArray} {o : Nat} {F : Value} {W : World} {enc : World → α → Value → Prop} {a : α} {j : Nat} {e : Ending} {W' : World} (h : Ans pb s o F W enc (.ok (a, j)) e W') :
    Kept pb W W' ∧ (∃ v, e = .returned v ∧ enc W' a v) ∧ PIs W' pb s j o F := h
theorem Ans.bad {α : Type} {pb : Nat} {s : ByteArray} {o : Nat} {F : Value} {W : World} {enc : World → α → Value → Prop} {q : Nat × Nat} {e : Ending} {W' : World} (h : Ans pb s o F W enc (.error q) e W') :
    Kept pb W W' ∧ e = .panicked [{ v := fltV q, recovered := false }] := h
def encInt (_ : World) (n : Nat) (v : Value) : Prop := v = .int .i64 (n : Nat)
def encByte (_ : World) (n : Nat) (v : Value) : Prop := v = .int .u8 (n : Nat) ∧ n < 256
def encUnit (_ : World) (_ : Unit) (v : Value) : Prop := v = .tuple #[]
def encSet (_ : World) (m : Nat → Bool) (v : Value) : Prop := v = setV m
abbrev ptrP (pb : Nat) : Value := .pointer (some ⟨pb, 0, none⟩)

theorem take_any (W : World) (pb : Nat) (s : ByteArray) (i o : Nat) (F : Value) (h : PIs W pb s i o F) (hi : i < s.size) (hs : s.size ≤ 400) :
    Calls Try.prog 52 #[ptrP pb] W (Ans pb s o F W encByte (.ok (bt s i, i + 1))) := by
  obtain ⟨c0, c1, c2, c3, f0, f1, f2, f3⟩ := BlkIs.four h
  have hix := idx_bt 9 Try.underlying9 s i hi
  have e1 : wrap64 ((i : Int) + 1) = (i : Int) + 1 := by unfold wrap64; omega
  go_enter Try.func52, Try.ntmps52
  go_wp2_with (go_quiet (fail))
  go_ret
  exact ⟨(Kept.drewN pb W nq).trans (Kept.put _ _ _ _), ⟨_, rfl, rfl, bt_lt s i⟩, (h.draw nq).to1⟩

/-- 'the byte b stands next' -/
theorem took_any (W : World) (pb : Nat) (s : ByteArray) (i o : Nat) (F : Value) (b : Nat) (h : PIs W pb s i o F) (hi : i ≤ s.size) (hs : s.size ≤ 400) :
    Calls Try.prog 36 #[ptrP pb, .int .u8 b] W (fun e W' => e = .returned (.bool (isAt s i b)) ∧ PIs W' pb s (if isAt s i b = true then i + 1 else i) o F ∧ Kept pb W W') := by
  obtain ⟨c0, c1, c2, c3, f0, f1, f2, f3⟩ := BlkIs.four h
  have e1 : wrap64 ((i : Int) + 1) = (i : Int) + 1 := by unfold wrap64; omega
  unfold isAt
  by_cases hl : i < s.size
  · have hix := idx_bt 9 Try.underlying9 s i hl
    have e2 : decide ((i : Int) < (s.size : Int)) = true := by simp; omega
    have e3 : decide (i < s.size) = true := by simpa using hl
    rw [e3, Bool.true_and]
    by_cases hb : bt s i = b
    · have e4 : ((bt s i : Int) == (b : Int)) = true := by simp; omega
      have e5 : decide (bt s i = b) = true := by simpa using hb
      rw [e5, if_pos rfl]
      go_enter Try.func36, Try.ntmps36
      go_wp2_with (go_quiet (fail))
      go_ret
      exact ⟨rfl, (h.draw nq).to1, (Kept.drewN pb W nq).trans (Kept.put _ _ _ _)⟩
    · have e4 : ((bt s i : Int) == (b : Int)) = false := by simp; omega
      have e5 : decide (bt s i = b) = false := by simpa using hb
      rw [e5, if_neg (by decide)]
      go_enter Try.func36, Try.ntmps36
      go_wp2_with (go_quiet (fail))
      go_ret
      exact ⟨rfl, h.draw nq, Kept.drewN pb W nq⟩
  · have e2 : decide ((i : Int) < (s.size : Int)) = false := by simp; omega
    have e3 : decide (i < s.size) = false := by simpa using hl
    rw [e3, Bool.false_and, if_neg (by decide)]
    go_enter Try.func36, Try.ntmps36
    go_wp2_with (go_quiet (fail))
    go_ret
    exact ⟨rfl, h.draw nq, Kept.drewN pb W nq⟩

set_option maxRecDepth 100000 in
theorem info_flt : (Try.prog.info? 45).map (·.size) = some 2 := by kernel_rfl
theorem load_flt {w : World} {g : Nat} {t : TypeId} {a b : Value} (h : BlkIs w g t #[a, b]) : (loadVar 45 ⟨g, 0, none⟩).run Try.prog w = .ok (.agg #[a, b]) w :=
  run_loadVar_mid (P := Try.prog) w g 0 45 [a, b] _ h.range Try.underlying45 rfl info_flt

set_option maxRecDepth 100000 in
theorem wrong_any (W : World) (pb : Nat) (s : ByteArray) (i o : Nat) (F : Value) (h : PIs W pb s i o F) :
    Calls Try.prog 28 #[ptrP pb] W (fun e W' => e = .returned (.agg #[.int .i64 (i : Nat), .int .i64 2]) ∧ Below W.heap.size W W') := by
  obtain ⟨c0, c1, c2, c3, f0, f1, f2, f3⟩ := BlkIs.four h
  have hn := BlkIs.new W 45 #[.int .i64 (i : Nat), .int .i64 2]
  have c1a := (BlkIs.four (BlkIs.alloc h (.cells #[.int .i64 0, .int .i64 0] 45))).2.1
  have hl := load_flt hn
  have HL := Lib.hid hl
  clear hl hn
  go_enter Try.func28, Try.ntmps28
  go_wp2
  have hh := HL.out
  refine bodyPost_ret (v := .agg #[.int .i64 (i : Nat), .int .i64 2]) ?_ rfl ?_
  · exact results_cell1 rfl rfl hh
  exact ⟨rfl, (Below.refl _ _).alloc (Nat.le_refl _) _⟩

theorem must_any (W : World) (pb : Nat) (s : ByteArray) (i o : Nat) (F : Value) (b : Nat) (h : PIs W pb s i o F) (hi : i ≤ s.size) (hs : s.size ≤ 400) :
    Calls Try.prog 58 #[ptrP pb, .int .u8 b] W (Ans pb s o F W encUnit (if isAt s i b = true then .ok ((), i + 1) else bad i 2)) := by
  have ht := took_any W pb s i o F b h hi hs
  by_cases hb : isAt s i b = true
  · rw [if_pos hb]
    rw [if_pos hb, hb] at ht
    go_enter Try.func58, Try.ntmps58
    go_wp2_with (go_at_call 36; refine ht.mono ?_; rintro e W' ⟨rfl, hp, hk⟩)
    go_end0
    exact ⟨hk, ⟨_, rfl, rfl⟩, hp⟩
  · rw [if_neg hb]
    rw [if_neg hb] at ht
    simp only [hb] at ht
    go_enter Try.func58, Try.ntmps58
    go_wp2_with (first | (go_at_call 36; refine ht.mono ?_; rintro e W' ⟨rfl, hp, hk⟩) | (go_at_call 28; refine (wrong_any _ pb s i o F hp).mono ?_; rintro e W2 ⟨rfl, hb2⟩))
    exact ⟨rfl, hk.trans (Kept.below hb2 (Nat.le_of_lt hp.lt)), rfl⟩

theorem valueAt_any (W : World) (pb : Nat) (s : ByteArray) (i o : Nat) (F : Value) (b : Nat) (hb : b = 10 ∨ b = 16) (h : PIs W pb s i o F) (hi : i ≤ s.size) :
    Calls Try.prog 66 #[ptrP pb, .int .i64 (b : Nat)] W fun e w' => e = .returned (.int .i64 (if i < s.size then dig (bt s i) b else -1)) ∧ ∃ m, w' = W.drewN m := by
  obtain ⟨c0, c1, c2, c3, f0, f1, f2, f3⟩ := BlkIs.four h
  by_cases hl : i < s.size
  · have e1 : ((i : Int) == (s.size : Int)) = false := by simp; omega
    have hix := idx_bt 9 Try.underlying9 s i hl
    have hso := fun w => digit_any (bt s i) (bt_lt s i) (b : Int) w
    have e2 : digZ (bt s i) (b : Int) = dig (bt s i) b := by unfold digZ isB; rcases hb with rfl | rfl <;> rfl
    rw [if_pos hl]
    rw [e2] at hso
    go_enter Try.func66, Try.ntmps66
    go_wp2_with (go_quiet (fail))
    generalize hW1 : W.drewN nq = W1
    obtain ⟨c0', c1', c2', c3', f0', f1', f2', f3'⟩ := BlkIs.four (show PIs W1 pb s i o F from hW1 ▸ h.draw nq)
    clear c0 c1 c2 c3 f0 f1 f2 f3
    go_quiet (first | (go_at_call 70; refine Calls.quiet_of_same (hso _)))
    go_wp2
    go_ret
    subst hW1
    exact ⟨rfl, _, World.drewN_drewN _ _ _⟩
  · have e1 : ((i : Int) == (s.size : Int)) = true := by simp; omega
    rw [if_neg hl]
    go_enter Try.func66, Try.ntmps66
    go_wp2_with (go_quiet (fail))
    go_ret
    exact ⟨rfl, _, rfl⟩

theorem digit_reads (W : World) (pb : Nat) (s : ByteArray) (i o : Nat) (F : Value) (b : Nat) (hb : b = 10 ∨ b = 16) (h : PIs W pb s i o F) (hi : i ≤ s.size) (hs : s.size ≤ 400) :
    Calls Try.prog 65 #[ptrP pb, .int .i64 (b : Nat)] W (Ans pb s o F W encInt (digP s b i)) := by
  have hv := valueAt_any W pb s i o F b hb h hi
  unfold digP
  by_cases hd : i < s.size ∧ 0 ≤ dig (bt s i) b
  · rw [if_pos hd]
    rw [if_pos hd.1] at hv
    obtain ⟨n, hn⟩ : ∃ n : Nat, dig (bt s i) b = (n : Int) := ⟨(dig (bt s i) b).toNat, by omega⟩
    rw [hn] at hv ⊢
    have e1 : decide ((n : Int) < 0) = false := by simp
    have e2 : wrap64 ((i : Int) + 1) = (i : Int) + 1 := by unfold wrap64; omega
    obtain ⟨c0, c1, c2, c3, f0, f1, f2, f3⟩ := BlkIs.four h
    go_enter Try.func65, Try.ntmps65
    go_wp2_with (go_at_call 66; refine hv.mono ?_; rintro e W' ⟨rfl, m, rfl⟩)
    go_ret
    exact ⟨(Kept.drewN pb W m).trans (Kept.put _ _ _ _), ⟨_, rfl, rfl⟩, (h.draw m).to1⟩
  · rw [if_neg hd]
    obtain ⟨z, hz, hneg⟩ : ∃ z : Int, (if i < s.size then dig (bt s i) b else -1) = z ∧ z < 0 := by
      by_cases hl : i < s.size
      · rw [if_pos hl]; exact ⟨_, rfl, by omega⟩
      · rw [if_neg hl]; exact ⟨_, rfl, by decide⟩
    rw [hz] at hv
    have e1 : decide (z < 0) = true := by simpa using hneg
    go_enter Try.func65, Try.ntmps65
    go_wp2_with (first | (go_at_call 66; refine hv.mono ?_; rintro e W' ⟨rfl, m, rfl⟩) | (go_at_call 28; refine (wrong_any _ pb s i o F (h.draw m)).mono ?_; rintro e W2 ⟨rfl, hb2⟩))
    exact ⟨rfl, (Kept.drewN pb W m).trans (Kept.below hb2 (Nat.le_of_lt h.lt)), rfl⟩
end Go.Proofs.Ytngagijcdehjpaa

