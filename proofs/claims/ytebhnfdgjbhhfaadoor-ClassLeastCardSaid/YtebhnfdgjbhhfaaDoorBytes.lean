/-
  WHAT Bytes OF PACKAGE octs ANSWERS: a contract. Condition: the table of math/bits lies as it is laid.
-/
import Derived.Test.YtebhnfdgjbhhfaaDoorNext
import Derived.Maps.AppendAt
import Derived.OwnWalkIn
namespace Go.Proofs.YtebhnfdgjbhhfaaDoor
open Go.RowKit

/-- a slice of bytes in new memory -/
def BytesIs (l : List Nat) (w : World) : Ending → World → Prop := fun e w' =>
  ∃ A c, e = .returned (.slice A l.length c) ∧ ByteRow w' w'.heap.size A l ∧ Below w.heap.size w w'

theorem info5 : (Tryd.prog.info? 5).map (fun i => (i.zero, i.size, i.bytes)) = some (some (.int .u8 0), 1, 1) := by kernel_rfl

theorem eql_empty (m : Nat → Bool) (w : World) : (binOp .eql 35 (setV m) (.agg #[.int .u64 0, .int .u64 0, .int .u64 0, .int .u64 0])).run Tryd.prog w = .ok (.bool (setEq m (sOf []))) w := by
  have h := eql_set m (sOf []) w
  simp only [setV, wd_none] at h
  exact h

theorem cnt_mems (m : Nat → Bool) : ∀ t, cntN m t = (mems m t).length
  | 0 => rfl
  | t + 1 => by
    have ih := cnt_mems m t
    show cntN m t + (if m t then 1 else 0) = _
    unfold mems at *
    rw [List.range_succ, List.filter_append, List.length_append, ih, List.filter_cons]
    cases m t <;> simp

theorem byteRow_own {w : World} {base : Nat} {e : TypeId} {v : Value} {l : List Nat} (h : w.ownsRow base e 1 v l.length (l.map fun (x : Nat) => Value.int .u8 (x : Int))) :
    ∃ A c, v = .slice A l.length c ∧ ByteRow w w.heap.size A l := by
  rcases h.2 with ⟨rfl, hn⟩ | ⟨g, cap, cur, rfl, _, hh, _⟩
  · exact ⟨none, 0, by rw [hn], fun hne => absurd (List.eq_nil_of_length_eq_zero hn) hne⟩
  · refine ⟨_, _, rfl, fun _ => ⟨g, 0, rfl, (Array.getElem?_eq_some_iff.1 hh).1, fun k x hk => ?_⟩⟩
    have hlt : k < l.length := (List.getElem?_eq_some_iff.1 hk).1
    have := h.cellAt k (by omega)
    rw [Nat.zero_add, this, List.getElem?_map, hk]; rfl

attribute [local go_sem] Oper.semAt_some

set_option maxRecDepth 100000 in
set_option maxHeartbeats 1000000 in
theorem bytes_some (m : Nat → Bool) (hm : setEq m (sOf []) = false) (w : World) (hT : Tab w) :
    Calls Tryd.prog 32 #[setV m] w (BytesIs (mems m 256) w) := by
  obtain ⟨i0, hi, hz0, hz1, hz2⟩ := info_parts info5
  have hcl := cnt_mems m 256
  have hc256 := cntN_le m 256
  have hcount := count_any m
  generalize cntN m 256 = n at *
  have hmk : ∀ u : World, (Instr.makeSlice 52 (.int .i64 0) (.int .i64 (n : Int))).run Tryd.prog u =
      .ok (.slice (some ⟨u.heap.size, 0, none⟩) 0 n) (u.alloc (.cells (madeCells #[.int .u8 0] n) 5)) := fun u => by
    have h := run_make (P := Tryd.prog) u 52 5 i0 (.int .u8 0) Tryd.underlying52 hi hz0 .i64 .i64 0 (n : Int) (Int.le_refl _) (by omega) (by rw [hz2]; omega) (by omega)
    simpa [hz1, Value.cells] using h
  have HT := Lib.hid hT
  have HCL := Lib.hid hcl
  have HCO := Lib.hid hcount
  have HI0 := Lib.hid hi
  have hq := eql_empty m
  clear hT hcl hcount hi
  refine (callsIn_wide (n := 3)).1 ?_
  refine callsIn_of_wp_marks Tryd.func32 rfl trivial ?_ rfl
  simp only [Tryd.ntmps32, List.size_toArray, List.length_cons, List.length_nil, Nat.reduceAdd, Nat.reduceSub, Array.replicate_succ, Array.replicate_zero, List.push_toArray, List.append_toArray, List.nil_append, List.cons_append]
  refine wpIn_wide.2 ?_
  go_wp2_with (first
    | (go_at_call 35; go_must (refine (HCO.out _).mono ?_); rintro e w1 ⟨rfl, hb1⟩; obtain ⟨hc1, hf1, hz1'⟩ := belowStep (g := w.heap.size) hb1 (by simp))
    | (go_at_call 29; go_must (refine (each_any _ _).mono ?_); rintro e w2 ⟨B, rfl, hbox, hB0, hb2⟩))
  have hBw1 : Below w.heap.size w w1 := ((Below.refl _ _).alloc (Nat.le_refl _) _).trans (hb1.mono (by simp))
  have hlw : w.heap.size ≤ w1.heap.size := hBw1.size
  have hBw2 : Below w.heap.size w w2 := ((hBw1.alloc hlw _).alloc (by simp; omega) _).trans (hb2.mono (by simp; omega))
  have hT2 := HT.out.step hBw2
  have hpos := HT.out.pos
  have hl0 := Boxed.new (w1.alloc (.cells (madeCells #[.int .u8 0] n) 5)) 52 (.slice (some ⟨w1.heap.size, 0, none⟩) 0 n)
  rw [World.size_alloc] at hl0
  have hl2 : Boxed w2 (w1.heap.size + 1) 52 (.slice (some ⟨w1.heap.size, 0, none⟩) 0 n) := (hb2.block _ hl0.lt).trans hl0
  have hr0 := (World.ownsRow_made (base := w.heap.size) (e := 5) (size := 1) w1 (madeCells #[.int .u8 0] n) n hlw (by unfold maxLen; omega) (by simp [madeCells])).kept (World.grownBy_alloc _ (.cells #[.slice (some ⟨w1.heap.size, 0, none⟩) 0 n] 52) none) (.inr (by simp [Value.ownBlock]))
  have hr2 : w2.ownsRow w.heap.size 5 1 (.slice (some ⟨w1.heap.size, 0, none⟩) 0 n) 0 [] := hr0.kept (row := none) ⟨hb2.os, hb2.tape, hb2.output, hb2.size, fun i hi _ => hb2.block i hi⟩ (.inr (by simp [Value.ownBlock]))
  have HB := Lib.hid hbox
  have HT2 := Lib.hid hT2
  have HBW := Lib.hid hBw2
  have HL := Lib.hid hl2
  have HR := Lib.hid hr2
  generalize w1.heap.size = G at *
  clear hb1 hc1 hf1 hz1' hbox hB0 hb2 hBw1 hBw2 hT2 hl0 hl2 hr0 hr2 HT HCO hmk hq
  refine (wpIn_wide (n := 3)).1 ?_
  refine wpIn_rangeFunc_ownG rfl (by omega) (gf := 33) (lb := #[.pointer (some ⟨B, 0, none⟩)]) rfl trivial (enters_of Tryd.func33 (by kernel_rfl) rfl)
    (each_stops _ (by omega) B w.heap.size hpos m w2 HB.out HT2.out) belowK_t (belowK_b HBW.out.size) (Below.refl _ _) (fun _ => rfl)
    (fun pre W => (∃ v, Boxed W (G + 1) 52 v ∧ W.ownsRow w.heap.size 5 1 v pre.length (pre.map fun x => .int .u8 (x.1 : Nat))) ∧ Below w.heap.size w W)
    (fun _ _ _ => False) ?hI (fun _ _ _ _ _ h _ _ => h) ⟨⟨_, HL.out, HR.out⟩, HBW.out⟩
    (fun x => { tmps := #[setV m, .pointer (some ⟨w.heap.size, 0, none⟩), .slice none 0 0, .pointer (some ⟨G + 1, 0, none⟩), .int .u8 (x.1 : Nat), setV m, .agg #[.int .u64 0, .int .u64 0, .int .u64 0, .int .u64 0], .bool false, setV m, .int .i64 n, .slice (some ⟨G, 0, none⟩) 0 n, setV m,
      .func (.func 33) #[] #[.pointer (some ⟨B, 0, none⟩)], .int .u8 (x.1 : Nat), undef, undef, undef, undef, undef], defers := [] }) ?assign ?body ?done ?stop
  case hI =>
    rintro s A A' row ⟨⟨v, hv, hr⟩, hB⟩ hg hro
    have cells : ∀ k cs t, A.heap[k]? = some (.cells cs t (0, 0)) → some k ≠ row := fun k cs t hk e => by
      obtain ⟨_, o, ho, hc⟩ := hro k e.symm
      rw [hk] at ho; cases ho; cases hc
    refine ⟨⟨v, hv.kept hg (cells _ _ _ hv), hr.kept hg ?_⟩, ownFrom_below (β := Unit) (Nat.le_refl _) HBW.out.size () A A' row hB hg hro⟩
    rcases hr.2 with ⟨rfl, _⟩ | ⟨g, cap, cur, rfl, _, hh, _⟩
    · exact .inl rfl
    · exact .inr (cells _ _ _ hh)
  case assign =>
    intro l x W K hK
    gi_wp2
    exact hK
  case body =>
    rintro l pre x W ⟨⟨v, hv, hrow⟩, hB⟩ hlt
    have hc := hv.cell
    have hi := HI0.out
    gi_wp2_with (gi_at_builtin; refine wpListIn_append_own _ rfl _ _ 52 rfl w.heap.size 5 i0 (.int .u8 0) 1 1 Tryd.underlying52 hi hz0 hz1 hz2 rfl (by decide) _ _ _ rfl (hrow.alloc _) ⟨W.heap.size, 0, none⟩ 1 1 [.int .u8 (x.1 : Nat)] rfl rfl (cell_one_new _ _ _) (by simp [Value.oneCell']) (by unfold maxLen; omega) (by omega) (by have := hB.size; simp; omega) ?_; intro v' w3 hown' hgrow _; obtain ⟨g', cap', rfl⟩ := ownsRow_succ hown'; obtain ⟨hv1, hv2, hr2, hk2, hb2⟩ := hv.appended (by decide) hrow hB.size (by omega) hown' hgrow; have hc1 := hv1.cell; have hf1 := hv1.frozen)
    exact ⟨hk2.from _, hb2, ⟨_, hv2, by simpa using hr2⟩, hB.trans hb2⟩
  case done =>
    rintro D xs W hD hS ⟨⟨v, hv, hrow⟩, hB⟩ hK
    have hc := hv.cell
    have hrow2 := ownsRow_putObj hrow (.deferred none) hK rfl
    have hBe := hB.trans (belowK_b (w := w) (Nat.le_refl _) W D _ (.deferred none) (Nat.le_trans HBW.out.size hD) hK rfl rfl)
    have HRO := Lib.hid hrow2
    have HBE := Lib.hid hBe
    clear hrow2 hBe hrow hB
    go_wp2
    refine ⟨by simp, .inl ⟨_, _, rfl, run_takeDeferred hK, ?_⟩⟩
    have hlen : xs.length = (mems m 256).length := by rw [← hS, List.length_map]
    have hmap : (xs.map fun x => Value.int .u8 (x.1 : Nat)) = (mems m 256).map fun (x : Nat) => Value.int .u8 (x : Int) := by rw [← hS, List.map_map]; rfl
    have hro := HRO.out
    rw [hlen, hmap] at hro
    obtain ⟨A, c, rfl, hrow⟩ := byteRow_own hro
    exact ⟨_, results_tmp rfl _ _ _, A, c, rfl, hrow, HBE.out⟩
  case stop =>
    rintro D c pre W _ _ h _
    exact h.elim

theorem mems_empty {m : Nat → Bool} (h : setEq m (sOf []) = true) : mems m 256 = [] := by
  have h2 := setEq_iff.1 h
  unfold mems
  rw [List.filter_eq_nil_iff]
  intro b hb
  rw [h2 b (List.mem_range.1 hb)]
  simp [sOf]

set_option maxHeartbeats 400000 in
theorem bytes_none (m : Nat → Bool) (hm : setEq m (sOf []) = true) (w : World) : Calls Tryd.prog 32 #[setV m] w (BytesIs (mems m 256) w) := by
  rw [mems_empty hm]
  have hq := eql_empty m
  go_enter Tryd.func32, Tryd.ntmps32
  go_wp2
  go_ret
  exact ⟨none, 0, rfl, fun h => absurd rfl h, (Below.refl _ _).alloc (Nat.le_refl _) _⟩

theorem bytes_any (m : Nat → Bool) (w : World) (hT : Tab w) : Calls Tryd.prog 32 #[setV m] w (BytesIs (mems m 256) w) := by
  cases hm : setEq m (sOf [])
  · exact bytes_some m hm w hT
  · exact bytes_none m hm w

end Go.Proofs.YtebhnfdgjbhhfaaDoor

