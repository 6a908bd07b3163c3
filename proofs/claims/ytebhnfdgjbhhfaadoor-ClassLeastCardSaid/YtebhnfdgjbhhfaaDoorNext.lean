/-
  WHAT Next AND Bytes OF PACKAGE octs ANSWER: contracts. Condition: the table of math/bits lies as it is laid.
-/
import Derived.Test.YtebhnfdgjbhhfaaDoorEach
import Derived.Deep.RegionHeld3
namespace Go.Proofs.YtebhnfdgjbhhfaaDoor
open Go.RowKit

/-- a closure over the box of a set -/
def SeqIs (m : Nat → Bool) (w : World) : Ending → World → Prop := fun e w' =>
  ∃ B, e = .returned (.func (.func 33) #[] #[.pointer (some ⟨B, 0, none⟩)]) ∧ BlkIs w' B 35 #[.int .u64 (wd m 0 : Nat), .int .u64 (wd m 1 : Nat), .int .u64 (wd m 2 : Nat), .int .u64 (wd m 3 : Nat)] ∧ w.heap.size ≤ B ∧ Below w.heap.size w w'

theorem each_any (m : Nat → Bool) (w : World) : Calls Tryd.prog 29 #[setV m] w (SeqIs m w) := by
  go_enter Tryd.func29, Tryd.ntmps29
  go_wp2
  go_ret
  exact ⟨w.heap.size, rfl, BlkIs.new _ _ _, Nat.le_refl _, (Below.refl _ _).alloc (Nat.le_refl _) _⟩

theorem each_stops (n : Nat) (hn : 1 ≤ n) (B n₀ : Nat) (hn0 : 0 < n₀) (m : Nat → Bool) (w : World) (hbox : BlkIs w B 35 #[.int .u64 (wd m 0 : Nat), .int .u64 (wd m 1 : Nat), .int .u64 (wd m 2 : Nat), .int .u64 (wd m 3 : Nat)]) (hT : Tab w) :
    SeqStopsK Fence.wide n Tryd.prog 33 #[.pointer (some ⟨B, 0, none⟩)] (fun x : B256 => #[.int .u8 (x.1 : Nat)]) (Below n₀) (fun xs : List B256 => xs.map (fun x => x.1) = mems m 256) (fun pre : List B256 => pre.map (fun x => x.1) <+: mems m 256) 256 w :=
  fun l J Jx W hW _ _ hY h0 => each1_in n hn l B n₀ hn0 m J Jx hY W (hbox.step hW) (hT.step hW) h0

/-- the least byte of a set that isn't below k; -1, if there is none -/
def nextS (m : Nat → Bool) (k : Int) : Int := match mems (sLess m (sBelow k)) 256 with | [] => -1 | b :: _ => (b : Int)

/-- what is held of the world, in a region: it has grown; a set lies in block g -/
theorem held_box {w2 W W' : World} {g : Nat} {t : TypeId} {a b c d : Value} (hx : BlkIs w2 g t #[a, b, c, d])
    (h : Below w2.heap.size w2 W ∧ W.cell? ⟨g, 0, none⟩ = some a ∧ W.cell? ⟨g, 1, none⟩ = some b ∧ W.cell? ⟨g, 2, none⟩ = some c ∧ W.cell? ⟨g, 3, none⟩ = some d) (hb : Below W.heap.size W W') :
    Below w2.heap.size w2 W' ∧ W'.cell? ⟨g, 0, none⟩ = some a ∧ W'.cell? ⟨g, 1, none⟩ = some b ∧ W'.cell? ⟨g, 2, none⟩ = some c ∧ W'.cell? ⟨g, 3, none⟩ = some d :=
  have hb2 := h.1.trans (hb.mono h.1.size)
  have hx2 := (hx.step hb2).four
  ⟨hb2, hx2.1, hx2.2.1, hx2.2.2.1, hx2.2.2.2.1⟩

theorem blk_own {w w' : World} {g : Nat} {t : TypeId} {cs : Array Value} {row : Option Nat} (h : BlkIs w g t cs) (hg : w.grownBy w' row) (hr : ∀ r, row = some r → ∃ o : Obj, w.heap[r]? = some o ∧ o.isCells = false) : BlkIs w' g t cs := by
  refine (hg.block g h.lt (fun e => ?_)).trans h
  obtain ⟨o, ho, hn⟩ := hr g e.symm
  unfold BlkIs at h
  rw [h] at ho
  cases ho
  cases hn

theorem load_int {w : World} {g : Nat} {t : TypeId} {x : Int} (h : BlkIs w g t #[.int .i64 x]) : (loadVar 3 ⟨g, 0, none⟩).run Tryd.prog w = .ok (.int .i64 x) w := by
  have c := h.cell 0
  simp at c
  go_simp

attribute [local go_sem] Oper.semAt_some

set_option maxRecDepth 100000 in
set_option maxHeartbeats 1000000 in
theorem next_any (m : Nat → Bool) (k : Int) (hk : k ≤ 9223372036854775807) (w : World) (hT : Tab w) :
    Calls Tryd.prog 25 #[setV m, .int .i64 k] w fun e w' => e = .returned (.int .i64 (nextS m k)) ∧ Below w.heap.size w w' := by
  have HT := Lib.hid hT
  clear hT
  refine (callsIn_wide (n := 3)).1 ?_
  refine callsIn_of_wp_marks Tryd.func25 rfl trivial ?_ rfl
  simp only [Tryd.ntmps25, List.size_toArray, List.length_cons, List.length_nil, Nat.reduceAdd, Nat.reduceSub, Array.replicate_succ, Array.replicate_zero, List.push_toArray, List.append_toArray, List.nil_append, List.cons_append]
  refine wpIn_wide.2 ?_
  go_wp2
  have hx0 := (BlkIs.new w 35 #[.int .u64 (wd m 0 : Nat), .int .u64 (wd m 1 : Nat), .int .u64 (wd m 2 : Nat), .int .u64 (wd m 3 : Nat)]).alloc (.cells #[.int .i64 0] 3)
  have hr0 := BlkIs.new (w.alloc (.cells #[.int .u64 (wd m 0 : Nat), .int .u64 (wd m 1 : Nat), .int .u64 (wd m 2 : Nat), .int .u64 (wd m 3 : Nat)] 35)) 3 #[.int .i64 0]
  rw [World.size_alloc] at hr0
  have hB0 : Below w.heap.size w ((w.alloc (.cells #[.int .u64 (wd m 0 : Nat), .int .u64 (wd m 1 : Nat), .int .u64 (wd m 2 : Nat), .int .u64 (wd m 3 : Nat)] 35)).alloc (.cells #[.int .i64 0] 3)) := ((Below.refl _ _).alloc (Nat.le_refl _) _).alloc (by simp) _
  generalize (w.alloc (.cells #[.int .u64 (wd m 0 : Nat), .int .u64 (wd m 1 : Nat), .int .u64 (wd m 2 : Nat), .int .u64 (wd m 3 : Nat)] 35)).alloc (.cells #[.int .i64 0] 3) = w2 at *
  have HX := Lib.hid hx0
  have HR := Lib.hid hr0
  have HB := Lib.hid hB0
  clear hx0 hr0 hB0
  go_region_held3 (fun w' => Below w2.heap.size w2 w' ∧ w'.cell? ⟨w.heap.size, 0, none⟩ = some (.int .u64 (wd m 0 : Nat)) ∧ w'.cell? ⟨w.heap.size, 1, none⟩ = some (.int .u64 (wd m 1 : Nat)) ∧
      w'.cell? ⟨w.heap.size, 2, none⟩ = some (.int .u64 (wd m 2 : Nat)) ∧ w'.cell? ⟨w.heap.size, 3, none⟩ = some (.int .u64 (wd m 3 : Nat)))
    ((first
      | exact held_box HX.out (by assumption) hb1
      | exact ⟨(Below.refl _ _).drew, HX.out.four.1, HX.out.four.2.1, HX.out.four.2.2.1, HX.out.four.2.2.2.1⟩))
    ((first
      | (go_at_call 31; go_must (refine (below_any _ (by omega) _).mono ?_); rintro e w1 ⟨rfl, hb1⟩)
      | (go_at_call 30; go_must (refine (less_any _ _ _).mono ?_); rintro e w1 ⟨rfl, hb1⟩)
      | (go_at_call 29; go_must (refine (each_any _ _).mono ?_); rintro e w1 ⟨B, rfl, hbox, hB0, hb1⟩)))
  have hB1 : Below w2.heap.size w2 w1 := by
    have h := ‹Below w2.heap.size w2 w1 ∧ _›
    exact h.1
  have hres := HR.out.step hB1
  have hBw : Below w.heap.size w w1 := HB.out.trans (hB1.mono HB.out.size)
  have hTab := HT.out.step hBw
  have HX1 := Lib.hid hbox
  have HR1 := Lib.hid hres
  have HB1 := Lib.hid hBw
  have HT1 := Lib.hid hTab
  have hpos := HT.out.pos
  clear ‹Below w2.heap.size w2 w1 ∧ _› hbox hres hBw hTab hB1 hb1 hB0 HX HR HB HT
  generalize hms : sLess m (sBelow k) = ms at *
  have HMS := Lib.hid hms
  clear hms
  go_wp2
  refine (wpIn_wide (n := 3)).1 ?_
  refine wpIn_rangeFunc_ownF rfl (by omega) (gf := 33) (lb := #[.pointer (some ⟨B, 0, none⟩)]) rfl trivial (enters_of Tryd.func33 (by kernel_rfl) rfl)
    (each_stops _ (by omega) B w.heap.size hpos ms w1 HX1.out HT1.out) belowK_t (belowK_b (by simpa using HB1.out.size)) (Below.refl _ _) (fun _ => rfl)
    (fun pre W => pre = [] ∧ BlkIs W (w.heap.size + 1) 3 #[.int .i64 0] ∧ Below w.heap.size w W)
    (fun c pre W => c = .ret ∧ ∃ x : B256, pre = [x] ∧ BlkIs W (w.heap.size + 1) 3 #[.int .i64 (x.1 : Nat)] ∧ Below w.heap.size w W) ?hI ?hIx ⟨rfl, HR1.out, HB1.out⟩
    (fun x => { tmps := #[setV m, .int .i64 k, .pointer (some ⟨w.heap.size, 0, none⟩), undef, .pointer (some ⟨w.heap.size + 1, 0, none⟩), .int .u8 (x.1 : Nat), setV m, .int .i64 k, setV (sBelow k), setV ms, .func (.func 33) #[] #[.pointer (some ⟨B, 0, none⟩)], .int .u8 (x.1 : Nat), undef, undef], defers := [] }) ?assign ?body ?done ?stop
  case hI =>
    exact OwnFrom.and (Own.from (fun s A B row hs _ _ => hs) _) (OwnFrom.and (Own.from (fun s A B row hs hg hr => blk_own hs hg hr) _) (ownFrom_below (Nat.le_refl _) HB1.out.size))
  case hIx =>
    rintro c s A A' row ⟨hc, x, hs, hb, hB⟩ hg hr
    exact ⟨hc, x, hs, blk_own hb hg (fun r e => (hr r e).2), ownFrom_below (β := Unit) (Nat.le_refl _) HB1.out.size () A A' row hB hg hr⟩
  case assign =>
    intro l x W K hK
    gi_wp2
    exact hK
  case body =>
    rintro l pre x W ⟨rfl, hc, hB⟩ _
    obtain ⟨c0, f0⟩ : W.cell? ⟨w.heap.size + 1, 0, none⟩ = some (.int .i64 0) ∧ W.frozen? ⟨w.heap.size + 1, 0, none⟩ = false := ⟨hc.cell 0, hc.frozen 0⟩
    have hx := x.2
    gi_wp2
    exact ⟨KeepsOthers.setCell _ _ _, rfl, x, rfl, by simpa using hc.put 0 (.int .i64 (x.1 : Nat)), hB.setCell (p := ⟨w.heap.size + 1, 0, none⟩) (Nat.le_add_right _ _) _⟩
  case done =>
    rintro D xs W hD hS ⟨rfl, hc, hB⟩ hK
    obtain ⟨c0, f0⟩ : W.cell? ⟨w.heap.size + 1, 0, none⟩ = some (.int .i64 0) ∧ W.frozen? ⟨w.heap.size + 1, 0, none⟩ = false := ⟨hc.cell 0, hc.frozen 0⟩
    go_wp2
    have hK' := (KeepsOthers.setCell W ⟨w.heap.size + 1, 0, none⟩ (.int .i64 (-1))).same D _ hK rfl
    refine ⟨by simp, .inl ⟨_, _, rfl, run_takeDeferred hK', ?_⟩⟩
    have hb' : BlkIs (W.setCell ⟨w.heap.size + 1, 0, none⟩ (.int .i64 (-1))) (w.heap.size + 1) 3 #[.int .i64 (-1)] := by simpa using hc.put 0 (.int .i64 (-1))
    have hb2 := blk_own hb' (grownBy_putObj' _ D (.deferred none)) (fun r e => by cases e; exact ⟨_, hK', rfl⟩)
    have hl := load_int hb2
    refine ⟨_, results_cell1 (p := 4) (ty := 3) rfl rfl hl, ?_, ?_⟩
    · unfold nextS; rw [HMS.out, ← hS]; rfl
    · exact (hB.setCell (p := ⟨w.heap.size + 1, 0, none⟩) (Nat.le_add_right _ _) _).trans (belowK_b (w := w) (Nat.le_refl _) _ D _ _ (Nat.le_trans HB1.out.size hD) hK' rfl rfl)
  case stop =>
    rintro D c pre W hD hS ⟨rfl, x, rfl, hc, hB⟩ hK
    gi_wp2
    refine ⟨by simp, .inl ⟨_, _, rfl, run_takeDeferred hK, ?_⟩⟩
    have hb2 := blk_own hc (grownBy_putObj' _ D (.deferred none)) (fun r e => by cases e; exact ⟨_, hK, rfl⟩)
    have hl := load_int hb2
    refine ⟨_, results_cell1 (p := 4) (ty := 3) rfl rfl hl, ?_, ?_⟩
    · obtain ⟨r, hr⟩ := hS
      unfold nextS; rw [HMS.out, ← hr]; rfl
    · exact hB.trans (belowK_b (w := w) (Nat.le_refl _) _ D _ _ (Nat.le_trans HB1.out.size hD) hK rfl rfl)

end Go.Proofs.YtebhnfdgjbhhfaaDoor

