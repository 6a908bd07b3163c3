/-
  WHAT THE ITERATOR OF PACKAGE octs TELLS: the bytes of a set, rising: its contract, for every loop body that keeps what lay there. Condition: the table of math/bits lies as it is laid.
-/
import Derived.RangeFuncNested
import Derived.RangeFuncBound
import Derived.RangeFuncCalls
import Derived.RangeFuncLeaves
import Derived.Shelf.Abstract
import Derived.Shelf.RegionOpen
import Derived.WalkKit
import Derived.OwnWalkIn
import Derived.TacticsInMore
import Derived.LoopNIn
import Derived.LoopIn
import Derived.RangeFuncBox
import Derived.Deep.RegionHeld3
import Derived.Test.YtkladjjeacjgpaaDoorQRef1
import Derived.Test.YtkladjjeacjgpaaDoorQG02
namespace Go.Proofs.YtkladjjeacjgpaaDoor
open Go.RowKit

/-- the table of math/bits, in its variable -/
def Tab (w : World) : Prop := ∀ j, j < 64 → w.cell? ⟨0, j, none⟩ = some (.int .u8 (Lib.deBruijn64tab.getD j 0 : Nat))
theorem Tab.below {B : Nat} {w w' : World} (h : Tab w) (hb : Below B w w') (hB : 0 < B) : Tab w' := fun j hj => (hb.cell (p := ⟨0, j, none⟩) hB).trans (h j hj)
theorem Tab.pos {w : World} (h : Tab w) : 0 < w.heap.size := World.block_lt_of_cell? w _ (h 0 (by decide))
theorem Tab.step {w w' : World} (h : Tab w) (hb : Below w.heap.size w w') : Tab w' := h.below hb h.pos

set_option maxHeartbeats 1000000 in
theorem tz_core (x k idx : Nat) (w : World) (hx0 : ((x : Int) == 0) = false)
    (key : IntKind.u64.wrap (bits BinOp.and IntKind.u64 (x : Int) (IntKind.u64.wrap (-(x : Int))) * 285870213051353865) / 288230376151711744 = (idx : Int))
    (hi : idx < 64) (hk : k < 64) (hcell : w.cell? ⟨0, idx, none⟩ = some (.int .u8 k)) :
    Calls Tryd.prog 93 #[.int .u64 x] w fun e w' => e = .returned (.int .i64 k) ∧ w' = w := by
  go_enter Tryd.func93, Tryd.ntmps93
  go_wp2_with (simp only [key])
  go_ret
  exact ⟨rfl, rfl⟩

theorem tz_key (x a : Nat) (hx : x < 18446744073709551616) (hx0 : x ≠ 0) (hlow : x &&& (18446744073709551616 - x) = a) :
    IntKind.u64.wrap (bits BinOp.and IntKind.u64 (x : Int) (IntKind.u64.wrap (-(x : Int))) * 285870213051353865) / 288230376151711744 = ((a * 285870213051353865 % 18446744073709551616 / 288230376151711744 : Nat) : Int) := by
  have e1 : IntKind.u64.wrap (-(x : Int)) = ((18446744073709551616 - x : Nat) : Int) := by rw [IntKind.wrap_u64]; omega
  rw [e1, u64_and_nat x _ hx (by omega), hlow, IntKind.wrap_u64]
  omega

theorem tz_any (x : Nat) (hx : x < 18446744073709551616) (hx0 : x ≠ 0) (w : World) (hT : Tab w) :
    Calls Tryd.prog 93 #[.int .u64 x] w fun e w' => e = .returned (.int .i64 (Lib.ctz 64 x : Nat)) ∧ w = w' := by
  obtain ⟨hlow, hk⟩ := Lib.lowest_bit 64 x hx0 (by simpa using hx)
  obtain ⟨hi, htab⟩ := Lib.deBruijn64_at _ hk
  have hcell := hT _ hi
  rw [htab] at hcell
  exact (tz_core x _ _ w (by simp; omega) (tz_key x _ hx hx0 hlow) hi hk hcell).mono fun _ _ h => ⟨h.1, h.2.symm⟩

/-- a byte -/
abbrev B256 := { x : Nat // x < 256 }

theorem idx_any (m : Nat → Bool) (i : Nat) (hi : i < 4) (w : World) : (Instr.index 24 (setV m) (.int .i64 (i : Nat))).run Tryd.prog w = .ok (.int .u64 (wd m i : Nat)) w := by
  have h := idx_set m w
  have hc : i = 0 ∨ i = 1 ∨ i = 2 ∨ i = 3 := by omega
  rcases hc with rfl | rfl | rfl | rfl
  · exact h.1
  · exact h.2.1
  · exact h.2.2.1
  · exact h.2.2.2

attribute [local go_sem] Oper.semAt_some

set_option maxHeartbeats 1000000 in
theorem each1_in (n : Nat) (hn : 1 ≤ n) (l Bs n₀ : Nat) (hn0 : 0 < n₀) (m : Nat → Bool) (J Jx : List B256 → World → Prop)
    (hY : ∀ pre (x : B256) W, J pre W → pre.length < 256 → YieldAt Fence.wide (n - 1) Tryd.prog l #[.int .u8 x.1] W fun e W' =>
      (e = .returned (.bool true) ∧ J (pre ++ [x]) W' ∧ Below n₀ W W') ∨ (e = .returned (.bool false) ∧ Jx (pre ++ [x]) W'))
    (W : World) (hbox : BlkIs W Bs 24 #[.int .u64 (wd m 0 : Nat), .int .u64 (wd m 1 : Nat), .int .u64 (wd m 2 : Nat), .int .u64 (wd m 3 : Nat)]) (hT : Tab W) (h0 : J [] W) :
    CallsIn Fence.wide n Tryd.prog 92 #[.func (.yield l) #[] #[], .pointer (some ⟨Bs, 0, none⟩)] W fun e W' => (∃ v, e = .returned v) ∧
      ((∃ xs : List B256, xs.map (·.1) = mems m 256 ∧ J xs W') ∨ (∃ pre : List B256, pre.map (·.1) <+: mems m 256 ∧ Jx pre W')) := by
  obtain ⟨c0, c1, c2, c3, _⟩ := hbox.four
  have HY := Lib.hid hY
  have HT := Lib.hid hT
  have HJ := Lib.hid h0
  have HI := Lib.hid (idx_any m)
  clear hbox hY hT h0
  refine callsIn_of_wp Tryd.func92 rfl trivial ?_ rfl
  simp only [Tryd.ntmps92, List.size_toArray, List.length_cons, List.length_nil, Nat.reduceAdd, Nat.reduceSub, Array.replicate_succ, Array.replicate_zero, List.push_toArray, List.append_toArray, List.nil_append, List.cons_append]
  gi_wp2
  clear c0 c1 c2 c3
  gi_loopw [6] (fun s wr => ∃ (i : Nat) (pre : List B256), i ≤ 4 ∧ s = .int .i64 i ∧ Hid (pre.map (·.1) = mems m (64 * i) ∧ J pre wr ∧ Tab wr)) (fun s _ => 4 - (intOf s).toNat)
  case atStart =>
    exact ⟨0, [], by omega, rfl, Lib.hid ⟨rfl, HJ.out, HT.out⟩⟩
  case round =>
    obtain ⟨i, pre, hi, rfl, HH⟩ := hrel
    by_cases hlt : i < 4
    · have hix := HI.out i hlt
      have hdi : decide ((i : Int) < 4) = true := by simp; omega
      gi_wp2
      clear hix
      gi_loopw [4] (fun s wr => ∃ (y t : Nat) (pre : List B256), s = .int .u64 y ∧ y < 18446744073709551616 ∧ Hid (64 * i ≤ t ∧ t ≤ 64 * i + 64 ∧ y = wd (sFrom m t) i ∧ pre.map (·.1) = mems m t ∧ J pre wr ∧ Tab wr)) (fun s _ => (intOf s).toNat)
      case atStart =>
        refine ⟨wd m i, 64 * i, pre, rfl, wd_lt _ _, Lib.hid ⟨Nat.le_refl _, by omega, wd_congr fun j _ => ?_, HH.out.1, HH.out.2.1, HH.out.2.2⟩⟩
        simp [sFrom]
      case round =>
        obtain ⟨y, t, pre, rfl, hy, HH⟩ := hrel
        by_cases hz : y = 0
        · have b1 : ((y : Int) == 0) = true := by simp; omega
          have b2 : ((y : Int) != 0) = false := by simp; omega
          gi_wp2
          subst hz
          obtain ⟨h1, h2, h3, h4, h5, h6⟩ := HH.out
          exact ⟨⟨i + 1, pre, by omega, by go_num, Lib.hid ⟨by rw [h4, show 64 * (i + 1) = 64 * i + 64 by omega]; exact (mems_all h2 (fun c hc1 hc2 => no_bit h1 h3.symm c hc1 hc2)).symm, h5, h6⟩⟩, by simp [intOf]; omega⟩
        · obtain ⟨b, h1, h2, h3, h4, h5, h6⟩ := next_bit HH.out.1 HH.out.2.2.1 hz
          have b1 : ((y : Int) == 0) = false := by simp; omega
          have b2 : ((y : Int) != 0) = true := by simp; omega
          obtain ⟨g1, g2, g3, g4, g5, g6⟩ := HH.out
          have hb : b < 256 := by omega
          have htz := tz_any y hy hz wr g6
          rw [h3] at htz
          have hk : b - 64 * i < 64 := by omega
          have hsum : (i : Int) * 64 + ((b - 64 * i : Nat) : Int) = (b : Int) := by omega
          have hlen : pre.length < 256 := by
            have e : pre.length = (mems m t).length := by rw [← g4, List.length_map]
            have := List.length_filter_le m (List.range t)
            unfold mems at e
            rw [List.length_range] at this
            omega
          have hnext : (pre ++ [(⟨b, hb⟩ : B256)]).map (·.1) = mems m (b + 1) := by
            rw [List.map_append, g4, mems_step h1 h5 h4]; rfl
          obtain ⟨fn, tmps, assign, body, hy2, hR⟩ := HY.out pre ⟨b, hb⟩ wr g5 hlen
          have hpre : mems m (b + 1) <+: mems m 256 := mems_prefix (by omega)
          have hdec : y &&& (y - 1) < y := Nat.lt_of_le_of_lt Nat.and_le_right (by omega)
          have hand : bits .and .u64 (y : Int) ((y : Int) - 1) = ((y &&& (y - 1) : Nat) : Int) := by
            have := u64_and_nat y (y - 1) hy (by omega)
            rw [← this]; congr 1; omega
          have HTZ := Lib.hid htz
          have HR := Lib.hid hR
          have HN := Lib.hid hnext
          have HP := Lib.hid hpre
          have HD := Lib.hid hdec
          have H6 := Lib.hid h6
          have G6 := Lib.hid g6
          have HA := Lib.hid hand
          clear htz hR hnext hpre hdec h6 g6 g4 g5 g3 HH h3 h4 h5 hlen hand
          generalize hkk : b - 64 * i = k at *
          clear hkk
          dsimp only at hy2
          gi_wp2_with (first | (refine ⟨trivial, ?_⟩; gi_at_call 93; refine (callsIn_wide.2 HTZ.out).mono ?_; rintro e w' ⟨rfl, rfl⟩))
          refine HR.out.mono ?_
          have hy1 : 0 < y := Nat.pos_of_ne_zero hz
          rintro e W3 (⟨rfl, hJ3, hk3⟩ | ⟨rfl, hJx3⟩)
          · have HK3 := Lib.hid hk3
            clear hk3 hsum hy2
            have ha := HA.out
            gi_wp2
            exact ⟨⟨y &&& (y - 1), b + 1, _, rfl, Nat.lt_trans HD.out hy, Lib.hid ⟨by omega, by omega, H6.out, HN.out, hJ3, G6.out.below HK3.out hn0⟩⟩, by simpa [intOf] using HD.out⟩
          · gi_wp2
            refine bodyPost_ret (results_none rfl _ _ _) rfl ?_
            exact ⟨⟨_, rfl⟩, .inr ⟨_, by rw [HN.out]; exact HP.out, hJx3⟩⟩
    · have hi4 : i = 4 := by omega
      subst hi4
      gi_wp2
      go_end0
      exact ⟨⟨_, rfl⟩, .inl ⟨pre, HH.out.1, HH.out.2.1⟩⟩

end Go.Proofs.YtkladjjeacjgpaaDoor

/-
  WHAT Next AND Bytes OF PACKAGE octs ANSWER: contracts. Condition: the table of math/bits lies as it is laid.
-/
namespace Go.Proofs.YtkladjjeacjgpaaDoor
open Go.RowKit

/-- a closure over the box of a set -/
def SeqIs (m : Nat → Bool) (w : World) : Ending → World → Prop := fun e w' =>
  ∃ B, e = .returned (.func (.func 92) #[] #[.pointer (some ⟨B, 0, none⟩)]) ∧ BlkIs w' B 24 #[.int .u64 (wd m 0 : Nat), .int .u64 (wd m 1 : Nat), .int .u64 (wd m 2 : Nat), .int .u64 (wd m 3 : Nat)] ∧ w.heap.size ≤ B ∧ Below w.heap.size w w'

theorem each_any (m : Nat → Bool) (w : World) : Calls Tryd.prog 80 #[setV m] w (SeqIs m w) := by
  go_enter Tryd.func80, Tryd.ntmps80
  go_wp2
  go_ret
  exact ⟨w.heap.size, rfl, BlkIs.new _ _ _, Nat.le_refl _, (Below.refl _ _).alloc (Nat.le_refl _) _⟩

theorem each_stops (n : Nat) (hn : 1 ≤ n) (B n₀ : Nat) (hn0 : 0 < n₀) (m : Nat → Bool) (w : World) (hbox : BlkIs w B 24 #[.int .u64 (wd m 0 : Nat), .int .u64 (wd m 1 : Nat), .int .u64 (wd m 2 : Nat), .int .u64 (wd m 3 : Nat)]) (hT : Tab w) :
    SeqStopsK Fence.wide n Tryd.prog 92 #[.pointer (some ⟨B, 0, none⟩)] (fun x : B256 => #[.int .u8 (x.1 : Nat)]) (Below n₀) (fun xs : List B256 => xs.map (fun x => x.1) = mems m 256) (fun pre : List B256 => pre.map (fun x => x.1) <+: mems m 256) 256 w :=
  fun l J Jx W hW _ _ hY h0 => each1_in n hn l B n₀ hn0 m J Jx hY W (hbox.step hW) (hT.step hW) h0

/-- the least byte of a set that isn't below k; -1, if there is none -/
def nextS (m : Nat → Bool) (k : Int) : Int := match mems (sLess m (sBelow k)) 256 with | [] => -1 | b :: _ => (b : Int)

/-- what is held of the world, in a region: it has grown; a set lies in block g -/
theorem held_box {w2 W W' : World} {g : Nat} {t : TypeId} {a b c d : Value} (hx : BlkIs w2 g t #[a, b, c, d])
    (h : Below w2.heap.size w2 W ∧ W.cell? ⟨g, 0, none⟩ = some a ∧ W.cell? ⟨g, 1, none⟩ = some b ∧ W.cell? ⟨g, 2, none⟩ = some c ∧ W.cell? ⟨g, 3, none⟩ = some d) (hb : Below W.heap.size W W') :
    Below w2.heap.size w2 W' ∧ W'.cell? ⟨g, 0, none⟩ = some a ∧ W'.cell? ⟨g, 1, none⟩ = some b ∧ W'.cell? ⟨g, 2, none⟩ = some c ∧ W'.cell? ⟨g, 3, none⟩ = some d :=
  have hb2 := h.1.trans (hb.mono h.1.size)
  have hx2 := (hx.step hb2).four
  ⟨hb2, hx2.1, hx2.2.1, hx2.2.2.1, hx2.2.2.2.1⟩

theorem blk_own {w w' : World} {g : Nat} {t : TypeId} {cs : Array Value} {row : Option Nat} (h : BlkIs w g t cs) (hg : w.grownBy w' row) (hr : ∀ r, row = some r → ∃ o : Obj, w.heap[r]? = some o ∧ o.isCells = false) : BlkIs w' g t cs := by
  refine (hg.block g h.lt (fun e => ?_)).trans h
  obtain ⟨o, ho, hn⟩ := hr g e.symm
  unfold BlkIs at h
  rw [h] at ho
  cases ho
  cases hn

theorem load_int {w : World} {g : Nat} {t : TypeId} {x : Int} (h : BlkIs w g t #[.int .i64 x]) : (loadVar 3 ⟨g, 0, none⟩).run Tryd.prog w = .ok (.int .i64 x) w := by
  have c := h.cell 0
  simp at c
  go_simp

attribute [local go_sem] Oper.semAt_some

set_option maxRecDepth 100000 in
set_option maxHeartbeats 1000000 in
theorem next_any (m : Nat → Bool) (k : Int) (hk : k ≤ 9223372036854775807) (w : World) (hT : Tab w) :
    Calls Tryd.prog 64 #[setV m, .int .i64 k] w fun e w' => e = .returned (.int .i64 (nextS m k)) ∧ Below w.heap.size w w' := by
  have HT := Lib.hid hT
  clear hT
  refine (callsIn_wide (n := 3)).1 ?_
  refine callsIn_of_wp_marks Tryd.func64 rfl trivial ?_ rfl
  simp only [Tryd.ntmps64, List.size_toArray, List.length_cons, List.length_nil, Nat.reduceAdd, Nat.reduceSub, Array.replicate_succ, Array.replicate_zero, List.push_toArray, List.append_toArray, List.nil_append, List.cons_append]
  refine wpIn_wide.2 ?_
  go_wp2
  have hx0 := (BlkIs.new w 24 #[.int .u64 (wd m 0 : Nat), .int .u64 (wd m 1 : Nat), .int .u64 (wd m 2 : Nat), .int .u64 (wd m 3 : Nat)]).alloc (.cells #[.int .i64 0] 3)
  have hr0 := BlkIs.new (w.alloc (.cells #[.int .u64 (wd m 0 : Nat), .int .u64 (wd m 1 : Nat), .int .u64 (wd m 2 : Nat), .int .u64 (wd m 3 : Nat)] 24)) 3 #[.int .i64 0]
  rw [World.size_alloc] at hr0
  have hB0 : Below w.heap.size w ((w.alloc (.cells #[.int .u64 (wd m 0 : Nat), .int .u64 (wd m 1 : Nat), .int .u64 (wd m 2 : Nat), .int .u64 (wd m 3 : Nat)] 24)).alloc (.cells #[.int .i64 0] 3)) := ((Below.refl _ _).alloc (Nat.le_refl _) _).alloc (by simp) _
  generalize (w.alloc (.cells #[.int .u64 (wd m 0 : Nat), .int .u64 (wd m 1 : Nat), .int .u64 (wd m 2 : Nat), .int .u64 (wd m 3 : Nat)] 24)).alloc (.cells #[.int .i64 0] 3) = w2 at *
  have HX := Lib.hid hx0
  have HR := Lib.hid hr0
  have HB := Lib.hid hB0
  clear hx0 hr0 hB0
  go_region_held3 (fun w' => Below w2.heap.size w2 w' ∧ w'.cell? ⟨w.heap.size, 0, none⟩ = some (.int .u64 (wd m 0 : Nat)) ∧ w'.cell? ⟨w.heap.size, 1, none⟩ = some (.int .u64 (wd m 1 : Nat)) ∧
      w'.cell? ⟨w.heap.size, 2, none⟩ = some (.int .u64 (wd m 2 : Nat)) ∧ w'.cell? ⟨w.heap.size, 3, none⟩ = some (.int .u64 (wd m 3 : Nat)))
    ((first
      | exact held_box HX.out (by assumption) hb1
      | exact ⟨(Below.refl _ _).drew, HX.out.four.1, HX.out.four.2.1, HX.out.four.2.2.1, HX.out.four.2.2.2.1⟩))
    ((first
      | (go_at_call 82; go_must (refine (below_any _ (by omega) _).mono ?_); rintro e w1 ⟨rfl, hb1⟩)
      | (go_at_call 81; go_must (refine (less_any _ _ _).mono ?_); rintro e w1 ⟨rfl, hb1⟩)
      | (go_at_call 80; go_must (refine (each_any _ _).mono ?_); rintro e w1 ⟨B, rfl, hbox, hB0, hb1⟩)))
  have hB1 : Below w2.heap.size w2 w1 := by
    have h := ‹Below w2.heap.size w2 w1 ∧ _›
    exact h.1
  have hres := HR.out.step hB1
  have hBw : Below w.heap.size w w1 := HB.out.trans (hB1.mono HB.out.size)
  have hTab := HT.out.step hBw
  have HX1 := Lib.hid hbox
  have HR1 := Lib.hid hres
  have HB1 := Lib.hid hBw
  have HT1 := Lib.hid hTab
  have hpos := HT.out.pos
  clear ‹Below w2.heap.size w2 w1 ∧ _› hbox hres hBw hTab hB1 hb1 hB0 HX HR HB HT
  generalize hms : sLess m (sBelow k) = ms at *
  have HMS := Lib.hid hms
  clear hms
  go_wp2
  refine (wpIn_wide (n := 3)).1 ?_
  refine wpIn_rangeFunc_ownF rfl (by omega) (gf := 92) (lb := #[.pointer (some ⟨B, 0, none⟩)]) rfl trivial (enters_of Tryd.func92 (by kernel_rfl) rfl)
    (each_stops _ (by omega) B w.heap.size hpos ms w1 HX1.out HT1.out) belowK_t (belowK_b (by simpa using HB1.out.size)) (Below.refl _ _) (fun _ => rfl)
    (fun pre W => pre = [] ∧ BlkIs W (w.heap.size + 1) 3 #[.int .i64 0] ∧ Below w.heap.size w W)
    (fun c pre W => c = .ret ∧ ∃ x : B256, pre = [x] ∧ BlkIs W (w.heap.size + 1) 3 #[.int .i64 (x.1 : Nat)] ∧ Below w.heap.size w W) ?hI ?hIx ⟨rfl, HR1.out, HB1.out⟩
    (fun x => { tmps := #[setV m, .int .i64 k, .pointer (some ⟨w.heap.size, 0, none⟩), undef, .pointer (some ⟨w.heap.size + 1, 0, none⟩), .int .u8 (x.1 : Nat), setV m, .int .i64 k, setV (sBelow k), setV ms, .func (.func 92) #[] #[.pointer (some ⟨B, 0, none⟩)], .int .u8 (x.1 : Nat), undef, undef], defers := [] }) ?assign ?body ?done ?stop
  case hI =>
    exact OwnFrom.and (Own.from (fun s A B row hs _ _ => hs) _) (OwnFrom.and (Own.from (fun s A B row hs hg hr => blk_own hs hg hr) _) (ownFrom_below (Nat.le_refl _) HB1.out.size))
  case hIx =>
    rintro c s A A' row ⟨hc, x, hs, hb, hB⟩ hg hr
    exact ⟨hc, x, hs, blk_own hb hg (fun r e => (hr r e).2), ownFrom_below (β := Unit) (Nat.le_refl _) HB1.out.size () A A' row hB hg hr⟩
  case assign =>
    intro l x W K hK
    gi_wp2
    exact hK
  case body =>
    rintro l pre x W ⟨rfl, hc, hB⟩ _
    obtain ⟨c0, f0⟩ : W.cell? ⟨w.heap.size + 1, 0, none⟩ = some (.int .i64 0) ∧ W.frozen? ⟨w.heap.size + 1, 0, none⟩ = false := ⟨hc.cell 0, hc.frozen 0⟩
    have hx := x.2
    gi_wp2
    exact ⟨KeepsOthers.setCell _ _ _, rfl, x, rfl, by simpa using hc.put 0 (.int .i64 (x.1 : Nat)), hB.setCell (p := ⟨w.heap.size + 1, 0, none⟩) (Nat.le_add_right _ _) _⟩
  case done =>
    rintro D xs W hD hS ⟨rfl, hc, hB⟩ hK
    obtain ⟨c0, f0⟩ : W.cell? ⟨w.heap.size + 1, 0, none⟩ = some (.int .i64 0) ∧ W.frozen? ⟨w.heap.size + 1, 0, none⟩ = false := ⟨hc.cell 0, hc.frozen 0⟩
    go_wp2
    have hK' := (KeepsOthers.setCell W ⟨w.heap.size + 1, 0, none⟩ (.int .i64 (-1))).same D _ hK rfl
    refine ⟨by simp, .inl ⟨_, _, rfl, run_takeDeferred hK', ?_⟩⟩
    have hb' : BlkIs (W.setCell ⟨w.heap.size + 1, 0, none⟩ (.int .i64 (-1))) (w.heap.size + 1) 3 #[.int .i64 (-1)] := by simpa using hc.put 0 (.int .i64 (-1))
    have hb2 := blk_own hb' (grownBy_putObj' _ D (.deferred none)) (fun r e => by cases e; exact ⟨_, hK', rfl⟩)
    have hl := load_int hb2
    refine ⟨_, results_cell1 (p := 4) (ty := 3) rfl rfl hl, ?_, ?_⟩
    · unfold nextS; rw [HMS.out, ← hS]; rfl
    · exact (hB.setCell (p := ⟨w.heap.size + 1, 0, none⟩) (Nat.le_add_right _ _) _).trans (belowK_b (w := w) (Nat.le_refl _) _ D _ _ (Nat.le_trans HB1.out.size hD) hK' rfl rfl)
  case stop =>
    rintro D c pre W hD hS ⟨rfl, x, rfl, hc, hB⟩ hK
    gi_wp2
    refine ⟨by simp, .inl ⟨_, _, rfl, run_takeDeferred hK, ?_⟩⟩
    have hb2 := blk_own hc (grownBy_putObj' _ D (.deferred none)) (fun r e => by cases e; exact ⟨_, hK, rfl⟩)
    have hl := load_int hb2
    refine ⟨_, results_cell1 (p := 4) (ty := 3) rfl rfl hl, ?_, ?_⟩
    · obtain ⟨r, hr⟩ := hS
      unfold nextS; rw [HMS.out, ← hr]; rfl
    · exact hB.trans (belowK_b (w := w) (Nat.le_refl _) _ D _ _ (Nat.le_trans HB1.out.size hD) hK rfl rfl)

end Go.Proofs.YtkladjjeacjgpaaDoor

