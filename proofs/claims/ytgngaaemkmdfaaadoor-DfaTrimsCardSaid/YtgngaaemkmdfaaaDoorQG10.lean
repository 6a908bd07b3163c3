/-
  THE SUBSETS OF AN AUTOMATON WITH CHOICES, BY PLAIN FUNCTIONS: the states are rows of places in the order in which they are found. Pure.
-/
import Derived.Laws.IdiomStrings
import Derived.Test.YtgngaaemkmdfaaaDoorQG09
import Derived.Test.YtgngaaemkmdfaaaDoorQG08
namespace Go.Proofs.YtgngaaemkmdfaaaDoor
section
open Go.RowKit

def findL (L : List (List Int)) (x : List Int) : Option Nat := (List.range L.length).find? fun i => decide (1 ≤ i) && decide (L.getD i [] = x)
def stepX (N : Nf) (L : List (List Int)) (at' b : Nat) : List Int := keepTo N.sets.length (marksS N (decide (at' = 0)) (L.getD at' [])) N b
def oneX (L : List (List Int)) (x : List Int) : Int × List (List Int) := if x = [] then (-1, L) else match findL L x with
  | some i => ((i : Int), L)
  | none => ((L.length : Int), L ++ [x])
def rowTo (N : Nf) (lb : Nat → Nat) (at' : Nat) (L : List (List Int)) : Nat → List Int × List (List Int)
  | 0 => ([], L)
  | k + 1 => let r := rowTo N lb at' L k; let s := oneX r.2 (stepX N r.2 at' (lb k)); (r.1 ++ [s.1], s.2)
def subTo (N : Nf) (lb : Nat → Nat) (C : Nat) : Nat → Option (List (List Int) × List (List Int))
  | 0 => some ([[]], [])
  | n + 1 => match subTo N lb C n with
    | none => none
    | some (L, R) => if n < L.length then (let r := rowTo N lb n L C; if 600 < r.2.length then none else some (r.2, R ++ [r.1])) else some (L, R)
def subZ (N : Nf) (lb : Nat → Nat) (C : Nat) : Option (List (List Int) × List (List Int)) := subTo N lb C 601

theorem oneX_pre (L : List (List Int)) (x : List Int) : ∃ l, (oneX L x).2 = L ++ l := by
  unfold oneX
  split
  · exact ⟨[], by simp⟩
  · split
    · exact ⟨[], by simp⟩
    · exact ⟨_, rfl⟩
theorem rowTo_len (N : Nf) (lb : Nat → Nat) (a : Nat) (L : List (List Int)) : ∀ k, (rowTo N lb a L k).1.length = k
  | 0 => rfl
  | k + 1 => by simp only [rowTo, List.length_append, rowTo_len N lb a L k]; rfl
theorem rowTo_pre (N : Nf) (lb : Nat → Nat) (a : Nat) (L : List (List Int)) : ∀ k, ∃ l, (rowTo N lb a L k).2 = L ++ l
  | 0 => ⟨[], by simp [rowTo]⟩
  | k + 1 => by
    obtain ⟨l, h⟩ := rowTo_pre N lb a L k
    obtain ⟨l', h'⟩ := oneX_pre (rowTo N lb a L k).2 (stepX N (rowTo N lb a L k).2 a (lb k))
    exact ⟨l ++ l', by simp only [rowTo]; rw [h', h, List.append_assoc]⟩
theorem rowTo_mono (N : Nf) (lb : Nat → Nat) (a : Nat) (L : List (List Int)) (k : Nat) : ∀ n, (rowTo N lb a L k).2.length ≤ (rowTo N lb a L (k + n)).2.length
  | 0 => Nat.le_refl _
  | n + 1 => by
    refine Nat.le_trans (rowTo_mono N lb a L k n) ?_
    obtain ⟨l, h⟩ := oneX_pre (rowTo N lb a L (k + n)).2 (stepX N (rowTo N lb a L (k + n)).2 a (lb (k + n)))
    show (rowTo N lb a L (k + n)).2.length ≤ (oneX (rowTo N lb a L (k + n)).2 (stepX N (rowTo N lb a L (k + n)).2 a (lb (k + n)))).2.length
    rw [h]; simp
theorem rowTo_at (N : Nf) (lb : Nat → Nat) (a : Nat) (L : List (List Int)) (k : Nat) (i : Nat) (h : i < L.length) : (rowTo N lb a L k).2.getD i [] = L.getD i [] := by
  obtain ⟨l, e⟩ := rowTo_pre N lb a L k
  rw [e, List.getD_eq_getElem?_getD, List.getD_eq_getElem?_getD, List.getElem?_append_left h]
theorem stepX_same (N : Nf) (lb : Nat → Nat) (a : Nat) (L : List (List Int)) (k b : Nat) (h : a < L.length) : stepX N (rowTo N lb a L k).2 a b = stepX N L a b := by
  unfold stepX; rw [rowTo_at N lb a L k a h]
theorem subTo_small (N : Nf) (lb : Nat → Nat) (C : Nat) : ∀ n L R, subTo N lb C n = some (L, R) → 1 ≤ L.length ∧ L.length ≤ 600 ∧ (R.length = min n L.length)
  | 0, L, R, h => by
    simp only [subTo, Option.some.injEq, Prod.mk.injEq] at h
    obtain ⟨rfl, rfl⟩ := h
    simp
  | n + 1, L, R, h => by
    simp only [subTo] at h
    cases hs : subTo N lb C n with
    | none => rw [hs] at h; cases h
    | some p =>
      obtain ⟨L0, R0⟩ := p
      rw [hs] at h
      obtain ⟨h1, h2, h3⟩ := subTo_small N lb C n L0 R0 hs
      obtain ⟨l, e⟩ := rowTo_pre N lb n L0 C
      simp only at h
      split at h
      · split at h
        · cases h
        · simp only [Option.some.injEq, Prod.mk.injEq] at h
          obtain ⟨rfl, rfl⟩ := h
          have : (rowTo N lb n L0 C).2.length = L0.length + l.length := by rw [e]; simp
          refine ⟨by omega, by omega, ?_⟩
          simp only [List.length_append, List.length_cons, List.length_nil]
          omega
      · simp only [Option.some.injEq, Prod.mk.injEq] at h
        obtain ⟨rfl, rfl⟩ := h
        refine ⟨h1, h2, ?_⟩
        omega
theorem subTo_end (N : Nf) (lb : Nat → Nat) (C n : Nat) {L R : List (List Int)} (h : subTo N lb C n = some (L, R)) (hn : L.length ≤ n) : ∀ d, subTo N lb C (n + d) = some (L, R)
  | 0 => h
  | d + 1 => by
    show (match subTo N lb C (n + d) with
      | none => none
      | some (L, R) => if n + d < L.length then (let r := rowTo N lb (n + d) L C; if 600 < r.2.length then none else some (r.2, R ++ [r.1])) else some (L, R)) = _
    rw [subTo_end N lb C n h hn d]
    simp only
    rw [if_neg (by omega)]
theorem subTo_none (N : Nf) (lb : Nat → Nat) (C n : Nat) (h : subTo N lb C n = none) : ∀ d, subTo N lb C (n + d) = none
  | 0 => h
  | d + 1 => by
    show (match subTo N lb C (n + d) with
      | none => none
      | some (L, R) => if n + d < L.length then (let r := rowTo N lb (n + d) L C; if 600 < r.2.length then none else some (r.2, R ++ [r.1])) else some (L, R)) = _
    rw [subTo_none N lb C n h d]
theorem subZ_some (N : Nf) (lb : Nat → Nat) (C n : Nat) {L R : List (List Int)} (h : subTo N lb C n = some (L, R)) (hn : L.length ≤ n) : subZ N lb C = some (L, R) := by
  unfold subZ
  rcases Nat.le_total n 601 with hle | hle
  · have := subTo_end N lb C n h hn (601 - n)
    rwa [show n + (601 - n) = 601 by omega] at this
  · cases h6 : subTo N lb C 601 with
    | none =>
      have := subTo_none N lb C 601 h6 (n - 601)
      rw [show 601 + (n - 601) = n by omega, h] at this
      cases this
    | some p =>
      obtain ⟨L0, R0⟩ := p
      have hs := subTo_small N lb C 601 L0 R0 h6
      have := subTo_end N lb C 601 h6 (by omega) (n - 601)
      rw [show 601 + (n - 601) = n by omega, h] at this
      exact this.symm
theorem subZ_none (N : Nf) (lb : Nat → Nat) (C n : Nat) (h : subTo N lb C n = none) : subZ N lb C = none := by
  unfold subZ
  rcases Nat.le_total n 601 with hle | hle
  · have := subTo_none N lb C n h (601 - n)
    rwa [show n + (601 - n) = 601 by omega] at this
  · cases h6 : subTo N lb C 601 with
    | none => rfl
    | some p =>
      obtain ⟨L0, R0⟩ := p
      have hs := subTo_small N lb C 601 L0 R0 h6
      have := subTo_end N lb C 601 h6 (by omega) (n - 601)
      rw [show 601 + (n - 601) = n by omega, h] at this
      cases this
def Kept (N : Nf) (x : List Int) : Prop := x = [] ∨ ∃ f b, x = keepTo N.sets.length f N b
theorem rowTo_kept (N : Nf) (lb : Nat → Nat) (a : Nat) (L : List (List Int)) (hL : ∀ x ∈ L, Kept N x) : ∀ k, ∀ x ∈ (rowTo N lb a L k).2, Kept N x
  | 0 => hL
  | k + 1 => by
    have ih := rowTo_kept N lb a L hL k
    intro x hx
    simp only [rowTo, oneX] at hx
    split at hx
    · exact ih x hx
    · split at hx
      · exact ih x hx
      · rcases List.mem_append.1 hx with h | h
        · exact ih x h
        · rw [List.mem_singleton] at h
          exact .inr ⟨_, _, h⟩
theorem subTo_kept (N : Nf) (lb : Nat → Nat) (C : Nat) : ∀ n L R, subTo N lb C n = some (L, R) → ∀ x ∈ L, Kept N x
  | 0, L, R, h => by
    simp only [subTo, Option.some.injEq, Prod.mk.injEq] at h
    obtain ⟨rfl, rfl⟩ := h
    intro x hx
    rw [List.mem_singleton] at hx
    exact .inl hx
  | n + 1, L, R, h => by
    simp only [subTo] at h
    cases hs : subTo N lb C n with
    | none => rw [hs] at h; cases h
    | some p =>
      obtain ⟨L0, R0⟩ := p
      rw [hs] at h
      have ih := subTo_kept N lb C n L0 R0 hs
      simp only at h
      split at h
      · split at h
        · cases h
        · simp only [Option.some.injEq, Prod.mk.injEq] at h
          obtain ⟨rfl, rfl⟩ := h
          exact rowTo_kept N lb n L0 ih C
      · simp only [Option.some.injEq, Prod.mk.injEq] at h
        obtain ⟨rfl, rfl⟩ := h
        exact ih
end

section
open Go.RowKit

def textB (f : Nat → Bool) (i : Nat) : Nat := (wd f (i / 8) >>> (8 * (i % 8))) % 256
theorem textB_lt (f : Nat → Bool) (i : Nat) : textB f i < 256 := Nat.mod_lt _ (by decide)
theorem textB_bit (f : Nat → Bool) (i j : Nat) (hj : j < 8) : (textB f i).testBit j = f (8 * i + j) := by
  unfold textB
  rw [show 256 = 2 ^ 8 from rfl, Nat.testBit_mod_two_pow, Nat.testBit_shiftRight, wd_testBit]
  have h1 : 8 * (i % 8) + j < 64 := by omega
  have h2 : 64 * (i / 8) + (8 * (i % 8) + j) = 8 * i + j := by omega
  rw [h2]
  simp [hj, h1]
theorem textB_inj {f g : Nat → Bool} (h : ∀ i, i < 256 → textB f i = textB g i) {p : Nat} (hp : p < 2048) : f p = g p := by
  have e := textB_bit f (p / 8) (p % 8) (by omega)
  rw [h (p / 8) (by omega), textB_bit g (p / 8) (p % 8) (by omega)] at e
  rw [show 8 * (p / 8) + p % 8 = p by omega] at e
  exact e.symm
def textR (f : Nat → Bool) : ByteArray := ⟨((List.range 256).map fun i => UInt8.ofNat (textB f i)).toArray⟩
theorem textR_inj {f g : Nat → Bool} (h : textR f = textR g) {p : Nat} (hp : p < 2048) : f p = g p := by
  refine textB_inj (fun i hi => ?_) hp
  unfold textR at h
  have h2 := congrArg (fun b : ByteArray => b.data.toList[i]?) h
  simp only [List.getElem?_map, List.getElem?_range hi, Option.map_some, Option.some.injEq] at h2
  have h3 := congrArg UInt8.toNat h2
  simp only [UInt8.toNat_ofNat'] at h3
  rwa [Nat.mod_eq_of_lt (textB_lt f i), Nat.mod_eq_of_lt (textB_lt g i)] at h3
def setOf (x : List Int) : Nat → Bool := fun p => hasI x p
theorem kept_set {N : Nf} {x y : List Int} (hn : N.sets.length ≤ 2000) (hx : Kept N x) (hy : Kept N y) (h : textR (setOf x) = textR (setOf y)) : x = y := by
  have form : ∀ z, Kept N z → z = ((List.range N.sets.length).filter fun q => hasI z q).map fun (q : Nat) => (q : Int) := by
    intro z hz
    rcases hz with rfl | ⟨f, b, rfl⟩
    · have : ((List.range N.sets.length).filter fun q => hasI [] q) = [] := List.filter_eq_nil_iff.2 fun q _ => by simp [hasI]
      rw [this]; rfl
    · conv => lhs; unfold keepTo
      congr 1
      apply List.filter_congr
      intro q hq
      rw [Bool.eq_iff_iff, hasI_mem]
      unfold keepTo
      constructor
      · intro e
        exact List.mem_map.2 ⟨q, List.mem_filter.2 ⟨hq, e⟩, rfl⟩
      · intro e
        obtain ⟨q', hq', e'⟩ := List.mem_map.1 e
        have : q' = q := by omega
        subst this
        exact (List.mem_filter.1 hq').2
  rw [form x hx, form y hy]
  congr 1
  apply List.filter_congr
  intro q hq
  exact textR_inj h (by have := List.mem_range.1 hq; omega)
end

section
open Go.RowKit

theorem rowP_put (f : Nat → Bool) (p : Nat) : putV (rowP f) (0 + p / 64) (rowP (plus f p) (p / 64)) = rowP (plus f p) := by
  funext i; unfold putV
  by_cases h : i = 0 + p / 64
  · subst h; rw [if_pos rfl, Nat.zero_add]
  · rw [if_neg h]; unfold rowP; rw [wd_plus_far f (by omega)]
theorem setOf_succ (l : List Int) (j : Nat) (h : j < l.length) (p : Nat) (hp : l[j] = (p : Int)) : setOf (l.take (j + 1)) = plus (setOf (l.take j)) p := by
  funext q
  unfold setOf plus
  rw [hasI_succ l j h q, hp]
  congr 1
  rw [Bool.eq_iff_iff]
  simp only [beq_iff_eq, decide_eq_true_eq]
  omega
set_option maxRecDepth 20000 in
set_option maxHeartbeats 4000000 in
theorem rowOf_any (l : List Int) (v : Value) (w : World) (hv : IntsV w l v) (hin : ∀ p ∈ l, 0 ≤ p ∧ p < 2048) :
    Calls Tryd.prog 47 #[v] w fun e w' => e = .returned (.agg (rowA (setOf l))) ∧ Below w.heap.size w w' := by
  have z := zeroRw
  obtain ⟨Av, cv, rfl, hc, hs⟩ := hv
  have HS := Lib.hid hs
  have HIN := Lib.hid (fun (j : Nat) (h : j < l.length) => hin _ (List.getElem_mem h))
  obtain ⟨Wa, hWa⟩ : ∃ Wa, (w.alloc (.cells (rowA fun _ => false) 76)) = Wa := ⟨_, rfl⟩
  obtain ⟨Wb, hWb⟩ : ∃ Wb, (Wa.alloc (.cells (rowA fun _ => false) 76)) = Wb := ⟨_, rfl⟩
  have hsz : Wa.heap.size = w.heap.size + 1 := by rw [← hWa]; simp
  have hr : BlkF Wb w.heap.size 76 32 (rowP fun _ => false) := by rw [← hWb, ← hWa]; exact BlkIs.alloc (newF w _ _) _
  have hl : BlkF Wb (w.heap.size + 1) 76 32 (rowP (setOf (l.take 0))) := by rw [← hWb, ← hsz]; exact newF Wa _ _
  have hbb : Below w.heap.size w Wb := by rw [← hWb, ← hWa]; exact ((Below.refl _ _).alloc (Nat.le_refl _) _).alloc (by simp) _
  have HB := Lib.hid (And.intro hr (And.intro hl hbb))
  clear hr hl hbb hs hin
  go_enter Tryd.func47, Tryd.ntmps47
  go_wp2
  go_loopw [5, 8] (fun _ i wr => ∃ k : Nat, i = .int .i64 k ∧ k ≤ l.length ∧ Hid (BlkF wr w.heap.size 76 32 (rowP fun _ => false) ∧ BlkF wr (w.heap.size + 1) 76 32 (rowP (setOf (l.take k))) ∧ Below w.heap.size w wr)) (fun _ i _ => l.length - (intOf i).toNat)
  case atStart => exact ⟨0, rfl, Nat.zero_le _, HB⟩
  case round =>
    obtain ⟨k, rfl, hk, HH⟩ := hrel
    by_cases hp : k < l.length
    · have hk1 : IntKind.i64.wrap ((k : Int) + 1) = ((k + 1 : Nat) : Int) := by rw [IntKind.wrap_i64]; omega
      have hdl : decide ((k : Int) < (l.length : Int)) = true := by simp; omega
      obtain ⟨b, o, rfl, hlt, hg⟩ := HS.out (by intro e; subst e; simp at hp)
      have hcell := (HH.out.2.2.cell (p := ⟨b, o + k, none⟩) hlt).trans (hg k hp)
      obtain ⟨p, hpe⟩ := Int.eq_ofNat_of_zero_le (HIN.out k hp).1
      have hpl : p < 2048 := by have := (HIN.out k hp).2; omega
      have hsu := setOf_succ l k hp p hpe
      rw [hpe] at hcell
      have HA := Lib.hid (rowAdd_any (w.heap.size + 1) 0 32 76 _ (setOf (l.take k)) p wr HH.out.2.1 (rowF_has _) hpl)
      rw [rowP_put, ← hsu] at HA
      clear hg hpe hsu
      go_wp2_with fail
      go_at_call 67
      refine HA.out.mono ?_
      rintro e u ⟨rfl, hb, hw⟩
      have HN := Lib.hid (show BlkF u w.heap.size 76 32 (rowP fun _ => false) ∧ BlkF u (w.heap.size + 1) 76 32 (rowP (setOf (l.take (k + 1)))) ∧ Below w.heap.size w u from ⟨hw.blk (by omega) HH.out.1, hb, hw.2.1 _ _ (by omega) HH.out.2.2⟩)
      clear hb hw
      go_wp2
      exact ⟨⟨k + 1, rfl, hp, HN⟩, by simp [intOf]; omega⟩
    · have hdl : decide ((k : Int) < (l.length : Int)) = false := by simp; omega
      obtain rfl : k = l.length := by omega
      rw [List.take_length] at HH
      have HRO := Lib.hid (BlkF.row HH.out.2.1 (rowF_has _))
      go_wp2_with (first
        | (refine wpList_loadRw rfl _ rfl rfl HRO.out ?_)
        | (refine wpList_store_all rfl 76 _ _ rfl rfl rfl HH.out.1 (by rw [rowA_size, cellsN_size]) (by rw [rowA_size]; exact infoRw) (rowA_one _) ?_; intro w9 hb9 hw9))
      have hl9 : (loadVar 76 ⟨w.heap.size, 0, none⟩).run Tryd.prog w9 = .ok (.agg (rowA (setOf l))) w9 := loadVarRw (BlkF.row (t := 76) (N := 32) (F := rowP (setOf l)) hb9 (rowF_has _))
      exact ⟨rfl, _, results_cell1 rfl rfl hl9, ⟨rfl, hw9.2.1 _ _ (Nat.le_refl _) HH.out.2.2⟩⟩
def takesTo (N : Nf) (b n : Nat) : Nat → Bool := fun p => decide (p < n) && N.setAt p b
theorem takesTo_yes (N : Nf) (b n : Nat) (h : N.setAt n b = true) : takesTo N b (n + 1) = plus (takesTo N b n) n := by
  funext q; unfold takesTo plus
  by_cases e : q = n
  · subst e; simp [h]
  · have : decide (q < n + 1) = decide (q < n) := by rw [Bool.eq_iff_iff]; simp; omega
    rw [this, decide_eq_false e, Bool.or_false]
theorem takesTo_no (N : Nf) (b n : Nat) (h : N.setAt n b = false) : takesTo N b (n + 1) = takesTo N b n := by
  funext q; unfold takesTo
  by_cases e : q = n
  · subst e; simp [h]
  · have : decide (q < n + 1) = decide (q < n) := by rw [Bool.eq_iff_iff]; simp; omega
    rw [this]
set_option maxRecDepth 20000 in
set_option maxHeartbeats 4000000 in
theorem takers_any (N : Nf) (b : Nat) (hb : b < 256) (g : Nat) (v0 : Value) (w : World) (hc : w.cell? ⟨g, 259, none⟩ = some v0) (hs : SetsV w N.sets v0) (hn : N.sets.length ≤ 2000) :
    Calls Tryd.prog 48 #[.pointer (some ⟨g, 0, none⟩), .int .u8 b] w fun e w' => e = .returned (.agg (rowA (takesTo N b N.sets.length))) ∧ Below w.heap.size w w' := by
  have z := zeroRw
  obtain ⟨Av, cv, rfl, hcc, hs⟩ := hs
  have hgl : g < w.heap.size := World.block_lt_of_cell? w ⟨g, 259, none⟩ hc
  obtain ⟨Wa, hWa⟩ : ∃ Wa, (w.alloc (.cells (rowA fun _ => false) 76)) = Wa := ⟨_, rfl⟩
  obtain ⟨Wb, hWb⟩ : ∃ Wb, (Wa.alloc (.cells (rowA fun _ => false) 76)) = Wb := ⟨_, rfl⟩
  have hsz : Wa.heap.size = w.heap.size + 1 := by rw [← hWa]; simp
  have hr : BlkF Wb w.heap.size 76 32 (rowP fun _ => false) := by rw [← hWb, ← hWa]; exact BlkIs.alloc (newF w _ _) _
  have hl : BlkF Wb (w.heap.size + 1) 76 32 (rowP (takesTo N b 0)) := by
    rw [← hWb, ← hsz, show takesTo N b 0 = fun _ => false by funext q; unfold takesTo; simp]; exact newF Wa _ _
  have hbb : Below w.heap.size w Wb := by rw [← hWb, ← hWa]; exact ((Below.refl _ _).alloc (Nat.le_refl _) _).alloc (by simp) _
  have hcb := (hbb.cell (p := ⟨g, 259, none⟩) hgl).trans hc
  have HB := Lib.hid (And.intro hr (And.intro hl hbb))
  have HS := Lib.hid (fun (pn : Nat) (h : pn < N.sets.length) => (show ∃ b o, Av = some ⟨b, o, none⟩ ∧ ∀ u : World, Below w.heap.size w u → u.cell? ⟨b, o + pn * 4, none⟩ = some (.int .u64 (wd (N.setAt pn) 0 : Nat)) ∧ u.cell? ⟨b, o + pn * 4 + 1, none⟩ = some (.int .u64 (wd (N.setAt pn) 1 : Nat)) ∧ u.cell? ⟨b, o + pn * 4 + 2, none⟩ = some (.int .u64 (wd (N.setAt pn) 2 : Nat)) ∧ u.cell? ⟨b, o + pn * 4 + 3, none⟩ = some (.int .u64 (wd (N.setAt pn) 3 : Nat)) by
    obtain ⟨b, o, e1, l1, g1⟩ := hs (by intro e; rw [e] at h; simp at h)
    have es : N.setAt pn = N.sets[pn] := by unfold Nf.setAt; simp [h]
    rw [es]
    exact ⟨b, o, e1, fun u hu => ⟨(hu.cell (p := ⟨b, o + pn * 4, none⟩) l1).trans (g1 pn h 0 (by decide)), (hu.cell (p := ⟨b, o + pn * 4 + 1, none⟩) l1).trans (g1 pn h 1 (by decide)), (hu.cell (p := ⟨b, o + pn * 4 + 2, none⟩) l1).trans (g1 pn h 2 (by decide)), (hu.cell (p := ⟨b, o + pn * 4 + 3, none⟩) l1).trans (g1 pn h 3 (by decide))⟩⟩))
  have HHAS := Lib.hid (fun (m : Nat → Bool) (u : World) => has_any m b hb u)
  unfold setV at HHAS
  clear hr hl hbb hs hc
  go_enter Tryd.func48, Tryd.ntmps48
  go_wp2
  go_loopw [6, 7, 14] (fun _ _ i wr => ∃ k : Nat, i = .int .i64 k ∧ k ≤ N.sets.length ∧ Hid (BlkF wr w.heap.size 76 32 (rowP fun _ => false) ∧ BlkF wr (w.heap.size + 1) 76 32 (rowP (takesTo N b k)) ∧ Below w.heap.size w wr)) (fun _ _ i _ => N.sets.length - (intOf i).toNat)
  case atStart => exact ⟨0, rfl, Nat.zero_le _, HB⟩
  case round =>
    obtain ⟨k, rfl, hk, HH⟩ := hrel
    by_cases hp : k < N.sets.length
    · have hk1 : IntKind.i64.wrap ((k : Int) + 1) = ((k + 1 : Nat) : Int) := by rw [IntKind.wrap_i64]; omega
      have hdl : decide ((k : Int) < (N.sets.length : Int)) = true := by simp; omega
      obtain ⟨bs, o, rfl, hcl⟩ := HS.out k hp
      obtain ⟨s0, s1, s2, s3⟩ := hcl wr HH.out.2.2
      have HHB := Lib.hid (HHAS.out (N.setAt k))
      have hyes := takesTo_yes N b k
      have hno := takesTo_no N b k
      clear hcl
      have hwr9 : w.heap.size < wr.heap.size ∧ w.heap.size + 1 < wr.heap.size := ⟨BlkIs.lt HH.out.1, BlkIs.lt HH.out.2.1⟩
      have HBX := Lib.hid ((Below.refl wr.heap.size wr).alloc (Nat.le_refl _) (.cells #[.int .u64 (wd (N.setAt k) 0 : Nat), .int .u64 (wd (N.setAt k) 1 : Nat), .int .u64 (wd (N.setAt k) 2 : Nat), .int .u64 (wd (N.setAt k) 3 : Nat)] 51))
      generalize hst : N.setAt k = st at *
      cases hbt : st b with
      | true =>
        rw [hbt] at hyes HHB
        have hye := Lib.hid (hyes rfl)
        clear hyes hno hbt HS HHAS
        go_wp2_with fail
        go_at_call 68
        refine (HHB.out _).mono ?_
        rintro e u ⟨rfl, hbu⟩
        have hbu2 := HBX.out.trans (hbu.mono HBX.out.size)
        have HH2 := Lib.hid (show BlkF u w.heap.size 76 32 (rowP fun _ => false) ∧ BlkF u (w.heap.size + 1) 76 32 (rowP (takesTo N b k)) ∧ Below w.heap.size w u from ⟨BlkIs.step HH.out.1 hbu2, BlkIs.step HH.out.2.1 hbu2, HH.out.2.2.trans (hbu2.mono HH.out.2.2.size)⟩)
        have HA := Lib.hid (rowAdd_any (w.heap.size + 1) 0 32 76 _ (takesTo N b k) k u HH2.out.2.1 (rowF_has _) (by omega))
        rw [rowP_put, ← hye.out] at HA
        clear hbu hbu2 s0 s1 s2 s3
        go_wp2_with fail
        go_at_call 67
        refine HA.out.mono ?_
        rintro e u2 ⟨rfl, hb, hw⟩
        have HN := Lib.hid (show BlkF u2 w.heap.size 76 32 (rowP fun _ => false) ∧ BlkF u2 (w.heap.size + 1) 76 32 (rowP (takesTo N b (k + 1))) ∧ Below w.heap.size w u2 from ⟨hw.blk (by omega) HH2.out.1, hb, hw.2.1 _ _ (by omega) HH2.out.2.2⟩)
        clear hb hw
        go_wp2
        exact ⟨⟨k + 1, rfl, hp, HN⟩, by simp [intOf]; omega⟩
      | false =>
        rw [hbt] at hno HHB
        have hne := Lib.hid (hno rfl)
        clear hyes hno hbt HS HHAS
        go_wp2_with fail
        go_at_call 68
        refine (HHB.out _).mono ?_
        rintro e u ⟨rfl, hbu⟩
        have hbu2 := HBX.out.trans (hbu.mono HBX.out.size)
        have HN := Lib.hid (show BlkF u w.heap.size 76 32 (rowP fun _ => false) ∧ BlkF u (w.heap.size + 1) 76 32 (rowP (takesTo N b (k + 1))) ∧ Below w.heap.size w u from ⟨BlkIs.step HH.out.1 hbu2, by rw [hne.out]; exact BlkIs.step HH.out.2.1 hbu2, HH.out.2.2.trans (hbu2.mono HH.out.2.2.size)⟩)
        clear hbu hbu2 s0 s1 s2 s3
        go_wp2
        exact ⟨⟨k + 1, rfl, hp, HN⟩, by simp [intOf]; omega⟩
    · have hdl : decide ((k : Int) < (N.sets.length : Int)) = false := by simp; omega
      obtain rfl : k = N.sets.length := by omega
      have HRO := Lib.hid (BlkF.row HH.out.2.1 (rowF_has _))
      go_wp2_with (first
        | (refine wpList_loadRw rfl _ rfl rfl HRO.out ?_)
        | (refine wpList_store_all rfl 76 _ _ rfl rfl rfl HH.out.1 (by rw [rowA_size, cellsN_size]) (by rw [rowA_size]; exact infoRw) (rowA_one _) ?_; intro w9 hb9 hw9))
      have hl9 : (loadVar 76 ⟨w.heap.size, 0, none⟩).run Tryd.prog w9 = .ok (.agg (rowA (takesTo N b N.sets.length))) w9 := loadVarRw (BlkF.row (t := 76) (N := 32) (F := rowP (takesTo N b N.sets.length)) hb9 (rowF_has _))
      exact ⟨rfl, _, results_cell1 rfl rfl hl9, ⟨rfl, hw9.2.1 _ _ (Nat.le_refl _) HH.out.2.2⟩⟩
end

section
open Go.RowKit

def textF (f : Nat → Bool) (n : Nat) : Nat → Value := fun i => if i < n then .int .u8 (textB f i : Nat) else .int .u8 0
theorem textF_put (f : Nat → Bool) (n : Nat) : putV (textF f n) n (.int .u8 (textB f n : Nat)) = textF f (n + 1) := by
  funext i; unfold putV textF
  by_cases h : i = n
  · subst h; rw [if_pos rfl, if_pos (by omega)]
  · rw [if_neg h]
    by_cases h2 : i < n
    · rw [if_pos h2, if_pos (by omega)]
    · rw [if_neg h2, if_neg (by omega)]
theorem zeroTx (w : World) : (zeroValue 22).run Tryd.prog w = .ok (.agg (cellsN 256 fun _ => .int .u8 0)) w :=
  (zero_of_info (P := Tryd.prog) (t := 22) (v := .agg (cellsN 256 fun _ => .int .u8 0)) (n := 256) (by kernel_rfl)).1 w
theorem textF_none (f : Nat → Bool) : (fun _ => Value.int .u8 0) = textF f 0 := by
  funext i; unfold textF; rw [if_neg (by omega)]
theorem text_val (f : Nat → Bool) (k j : Nat) (hj : j < 8) : IntKind.u8.wrap (((wd f k : Nat) : Int) / 2 ^ (8 * j)) = (textB f (k * 8 + j) : Nat) := by
  have e : (((wd f k : Nat) : Int) / 2 ^ (8 * j)) = ((wd f k >>> (8 * j) : Nat) : Int) := by
    rw [Nat.shiftRight_eq_div_pow, Int.natCast_ediv, Int.natCast_pow]; rfl
  unfold textB
  rw [e, IntKind.wrap_u8, show (k * 8 + j) / 8 = k by omega, show (k * 8 + j) % 8 = j by omega]
  omega
theorem text_conv (f : Nat → Bool) (W : World) (g : Nat) (h : BlkF W g 22 256 (textF f 256)) : (convert 160 9 (.slice (some ⟨g, 0, none⟩) 256 256)).run Tryd.prog W = .ok (.string (textR f)) W := by
  have hl : ((List.range 256).map fun i => UInt8.ofNat (textB f i)).length = 256 := by simp
  have := run_convert_bytes_back (P := Tryd.prog) W 160 9 5 ⟨g, 0, none⟩ 256 ((List.range 256).map fun i => UInt8.ofNat (textB f i)) Tryd.underlying160 Tryd.underlying5 Tryd.underlying9 (fun j hj => by
    rw [hl] at hj
    rw [Addr.add_lit, Nat.zero_add, h.cell hj]
    unfold textF
    rw [if_pos hj]
    simp only [List.getElem_map, List.getElem_range, UInt8.toNat_ofNat']
    rw [Nat.mod_eq_of_lt (textB_lt f j)])
  rw [hl] at this
  exact this
set_option maxRecDepth 20000 in
set_option maxHeartbeats 4000000 in
theorem rowText_any (g o : Nat) (f : Nat → Bool) (w : World) (hr : RowAt w g o f) :
    Calls Tryd.prog 73 #[.pointer (some ⟨g, o, none⟩)] w fun e w' => e = .returned (.string (textR f)) ∧ Below w.heap.size w w' := by
  have z := zeroTx
  obtain ⟨Wa, hWa⟩ : ∃ Wa, (w.alloc (.cells (cellsN 256 fun _ => .int .u8 0) 22)) = Wa := ⟨_, rfl⟩
  have hbb : Below w.heap.size w Wa := by rw [← hWa]; exact (Below.refl _ _).alloc (Nat.le_refl _) _
  have hra := hr.step hbb
  have hl : BlkF Wa w.heap.size 22 256 (textF f 0) := by rw [← hWa, ← textF_none]; exact BlkIs.new w _ _
  have HR := Lib.hid hra
  have HB := Lib.hid (And.intro hl hbb)
  clear hr hra hl hbb
  go_enter Tryd.func73, Tryd.ntmps73
  go_wp2_with (refine wpList_loadWs rfl _ rfl rfl HR.out ?_)
  go_loopw [4, 5, 6, 11, 15] (fun _ _ _ i _ wr => ∃ k : Nat, i = .int .i64 k ∧ k ≤ 32 ∧ Hid (BlkF wr w.heap.size 22 256 (textF f (k * 8)) ∧ Below w.heap.size w wr)) (fun _ _ _ i _ _ => 32 - (intOf i).toNat)
  case atStart => exact ⟨0, rfl, by decide, HB⟩
  case round =>
    obtain ⟨k, rfl, hk, HH⟩ := hrel
    by_cases hp : k < 32
    · have hk1 : IntKind.i64.wrap ((k : Int) + 1) = ((k + 1 : Nat) : Int) := by rw [IntKind.wrap_i64]; omega
      have hdl : decide ((k : Int) < 32) = true := by simp; omega
      have hix := fun u => idxRw f hp u
      unfold rowP at hix
      go_wp2
      go_loopw [6, 15] (fun _ i wz => ∃ j : Nat, i = .int .i64 j ∧ j ≤ 8 ∧ Hid (BlkF wz w.heap.size 22 256 (textF f (k * 8 + j)) ∧ Below w.heap.size w wz)) (fun _ i _ => 8 - (intOf i).toNat)
      case atStart => exact ⟨0, rfl, by decide, HH⟩
      case round =>
        obtain ⟨j, rfl, hj, HJ⟩ := hrel
        by_cases hq : j < 8
        · have hk2 : IntKind.i64.wrap ((j : Int) + 1) = ((j + 1 : Nat) : Int) := by rw [IntKind.wrap_i64]; omega
          have hk3 : IntKind.i64.wrap ((k : Int) * 8) = ((k * 8 : Nat) : Int) := by rw [IntKind.wrap_i64]; omega
          have hk4 : IntKind.i64.wrap (((k * 8 : Nat) : Int) + (j : Int)) = ((k * 8 + j : Nat) : Int) := by rw [IntKind.wrap_i64]; omega
          have hk5 : IntKind.i64.wrap (8 * (j : Int)) = ((8 * j : Nat) : Int) := by rw [IntKind.wrap_i64]; omega
          have hdq : decide ((j : Int) < 8) = true := by simp; omega
          have hc := BlkF.cell HJ.out.1 (i := k * 8 + j) (by omega)
          have hfz := BlkIs.frozen HJ.out.1 (k * 8 + j)
          have hv := text_val f k j hq
          have hin : k * 8 + j < 256 := by omega
          have HN := Lib.hid (show BlkF (wr.setCell ⟨w.heap.size, k * 8 + j, none⟩ (.int .u8 (textB f (k * 8 + j) : Nat))) w.heap.size 22 256 (textF f (k * 8 + (j + 1))) ∧ Below w.heap.size w (wr.setCell ⟨w.heap.size, k * 8 + j, none⟩ (.int .u8 (textB f (k * 8 + j) : Nat))) from ⟨by rw [← Nat.add_assoc, ← textF_put]; exact HJ.out.1.put _ _, HJ.out.2.setCell (p := ⟨w.heap.size, k * 8 + j, none⟩) (Nat.le_refl _) _⟩)
          go_wp2
          exact ⟨⟨j + 1, rfl, hq, HN⟩, by simp [intOf]; omega⟩
        · have hdq : decide ((j : Int) < 8) = false := by simp; omega
          obtain rfl : j = 8 := by omega
          go_wp2
          exact ⟨⟨k + 1, rfl, hp, by rw [show (k + 1) * 8 = k * 8 + 8 by omega]; exact HJ⟩, by simp [intOf]; omega⟩
    · have hdl : decide ((k : Int) < 32) = false := by simp; omega
      obtain rfl : k = 32 := by omega
      have hcv := text_conv f wr w.heap.size HH.out.1
      go_wp2
      go_ret
      exact ⟨rfl, HH.out.2⟩
end
end Go.Proofs.YtgngaaemkmdfaaaDoor
