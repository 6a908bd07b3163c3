/-
  WHAT THE ITERATOR OF PACKAGE octs TELLS: the bytes of a set, rising: its contract, for every loop body that keeps what lay there. Condition: the table of math/bits lies as it is laid.
-/
import Derived.RangeFuncNested
import Derived.RangeFuncBound
import Derived.RangeFuncCalls
import Derived.RangeFuncLeaves
import Derived.Shelf.Abstract
import Derived.Shelf.RegionOpen
import Derived.WalkKit
import Derived.OwnWalkIn
import Derived.TacticsInMore
import Derived.LoopNIn
import Derived.LoopIn
import Derived.RangeFuncBox
import Derived.Test.YtebhnfdgjbhhfaaDoorRef1
import Derived.Test.YtebhnfdgjbhhfaaDoorFree
import Derived.Test.YtebhnfdgjbhhfaaDoorIter
namespace Go.Proofs.YtebhnfdgjbhhfaaDoor
open Go.RowKit

/-- the table of math/bits, in its variable -/
def Tab (w : World) : Prop := ∀ j, j < 64 → w.cell? ⟨0, j, none⟩ = some (.int .u8 (Lib.deBruijn64tab.getD j 0 : Nat))
theorem Tab.below {B : Nat} {w w' : World} (h : Tab w) (hb : Below B w w') (hB : 0 < B) : Tab w' := fun j hj => (hb.cell (p := ⟨0, j, none⟩) hB).trans (h j hj)
theorem Tab.pos {w : World} (h : Tab w) : 0 < w.heap.size := World.block_lt_of_cell? w _ (h 0 (by decide))
theorem Tab.step {w w' : World} (h : Tab w) (hb : Below w.heap.size w w') : Tab w' := h.below hb h.pos

set_option maxHeartbeats 1000000 in
theorem tz_core (x k idx : Nat) (w : World) (hx0 : ((x : Int) == 0) = false)
    (key : IntKind.u64.wrap (bits BinOp.and IntKind.u64 (x : Int) (IntKind.u64.wrap (-(x : Int))) * 285870213051353865) / 288230376151711744 = (idx : Int))
    (hi : idx < 64) (hk : k < 64) (hcell : w.cell? ⟨0, idx, none⟩ = some (.int .u8 k)) :
    Calls Tryd.prog 34 #[.int .u64 x] w fun e w' => e = .returned (.int .i64 k) ∧ w' = w := by
  go_enter Tryd.func34, Tryd.ntmps34
  go_wp2_with (simp only [key])
  go_ret
  exact ⟨rfl, rfl⟩

theorem tz_key (x a : Nat) (hx : x < 18446744073709551616) (hx0 : x ≠ 0) (hlow : x &&& (18446744073709551616 - x) = a) :
    IntKind.u64.wrap (bits BinOp.and IntKind.u64 (x : Int) (IntKind.u64.wrap (-(x : Int))) * 285870213051353865) / 288230376151711744 = ((a * 285870213051353865 % 18446744073709551616 / 288230376151711744 : Nat) : Int) := by
  have e1 : IntKind.u64.wrap (-(x : Int)) = ((18446744073709551616 - x : Nat) : Int) := by rw [IntKind.wrap_u64]; omega
  rw [e1, u64_and_nat x _ hx (by omega), hlow, IntKind.wrap_u64]
  omega

theorem tz_any (x : Nat) (hx : x < 18446744073709551616) (hx0 : x ≠ 0) (w : World) (hT : Tab w) :
    Calls Tryd.prog 34 #[.int .u64 x] w fun e w' => e = .returned (.int .i64 (Lib.ctz 64 x : Nat)) ∧ w = w' := by
  obtain ⟨hlow, hk⟩ := Lib.lowest_bit 64 x hx0 (by simpa using hx)
  obtain ⟨hi, htab⟩ := Lib.deBruijn64_at _ hk
  have hcell := hT _ hi
  rw [htab] at hcell
  exact (tz_core x _ _ w (by simp; omega) (tz_key x _ hx hx0 hlow) hi hk hcell).mono fun _ _ h => ⟨h.1, h.2.symm⟩

/-- a byte -/
abbrev B256 := { x : Nat // x < 256 }

theorem idx_any (m : Nat → Bool) (i : Nat) (hi : i < 4) (w : World) : (Instr.index 35 (setV m) (.int .i64 (i : Nat))).run Tryd.prog w = .ok (.int .u64 (wd m i : Nat)) w := by
  have h := idx_set m w
  have hc : i = 0 ∨ i = 1 ∨ i = 2 ∨ i = 3 := by omega
  rcases hc with rfl | rfl | rfl | rfl
  · exact h.1
  · exact h.2.1
  · exact h.2.2.1
  · exact h.2.2.2

attribute [local go_sem] Oper.semAt_some

set_option maxHeartbeats 1000000 in
theorem each1_in (n : Nat) (hn : 1 ≤ n) (l Bs n₀ : Nat) (hn0 : 0 < n₀) (m : Nat → Bool) (J Jx : List B256 → World → Prop)
    (hY : ∀ pre (x : B256) W, J pre W → pre.length < 256 → YieldAt Fence.wide (n - 1) Tryd.prog l #[.int .u8 x.1] W fun e W' =>
      (e = .returned (.bool true) ∧ J (pre ++ [x]) W' ∧ Below n₀ W W') ∨ (e = .returned (.bool false) ∧ Jx (pre ++ [x]) W'))
    (W : World) (hbox : BlkIs W Bs 35 #[.int .u64 (wd m 0 : Nat), .int .u64 (wd m 1 : Nat), .int .u64 (wd m 2 : Nat), .int .u64 (wd m 3 : Nat)]) (hT : Tab W) (h0 : J [] W) :
    CallsIn Fence.wide n Tryd.prog 33 #[.func (.yield l) #[] #[], .pointer (some ⟨Bs, 0, none⟩)] W fun e W' => (∃ v, e = .returned v) ∧
      ((∃ xs : List B256, xs.map (·.1) = mems m 256 ∧ J xs W') ∨ (∃ pre : List B256, pre.map (·.1) <+: mems m 256 ∧ Jx pre W')) := by
  obtain ⟨c0, c1, c2, c3, _⟩ := hbox.four
  have HY := Lib.hid hY
  have HT := Lib.hid hT
  have HJ := Lib.hid h0
  have HI := Lib.hid (idx_any m)
  clear hbox hY hT h0
  refine callsIn_of_wp Tryd.func33 rfl trivial ?_ rfl
  simp only [Tryd.ntmps33, List.size_toArray, List.length_cons, List.length_nil, Nat.reduceAdd, Nat.reduceSub, Array.replicate_succ, Array.replicate_zero, List.push_toArray, List.append_toArray, List.nil_append, List.cons_append]
  gi_wp2
  clear c0 c1 c2 c3
  gi_loopw [6] (fun s wr => ∃ (i : Nat) (pre : List B256), i ≤ 4 ∧ s = .int .i64 i ∧ Hid (pre.map (·.1) = mems m (64 * i) ∧ J pre wr ∧ Tab wr)) (fun s _ => 4 - (intOf s).toNat)
  case atStart =>
    exact ⟨0, [], by omega, rfl, Lib.hid ⟨rfl, HJ.out, HT.out⟩⟩
  case round =>
    obtain ⟨i, pre, hi, rfl, HH⟩ := hrel
    by_cases hlt : i < 4
    · have hix := HI.out i hlt
      have hdi : decide ((i : Int) < 4) = true := by simp; omega
      gi_wp2
      clear hix
      gi_loopw [4] (fun s wr => ∃ (y t : Nat) (pre : List B256), s = .int .u64 y ∧ y < 18446744073709551616 ∧ Hid (64 * i ≤ t ∧ t ≤ 64 * i + 64 ∧ y = wd (sFrom m t) i ∧ pre.map (·.1) = mems m t ∧ J pre wr ∧ Tab wr)) (fun s _ => (intOf s).toNat)
      case atStart =>
        refine ⟨wd m i, 64 * i, pre, rfl, wd_lt _ _, Lib.hid ⟨Nat.le_refl _, by omega, wd_congr fun j _ => ?_, HH.out.1, HH.out.2.1, HH.out.2.2⟩⟩
        simp [sFrom]
      case round =>
        obtain ⟨y, t, pre, rfl, hy, HH⟩ := hrel
        by_cases hz : y = 0
        · have b1 : ((y : Int) == 0) = true := by simp; omega
          have b2 : ((y : Int) != 0) = false := by simp; omega
          gi_wp2
          subst hz
          obtain ⟨h1, h2, h3, h4, h5, h6⟩ := HH.out
          exact ⟨⟨i + 1, pre, by omega, by go_num, Lib.hid ⟨by rw [h4, show 64 * (i + 1) = 64 * i + 64 by omega]; exact (mems_all h2 (fun c hc1 hc2 => no_bit h1 h3.symm c hc1 hc2)).symm, h5, h6⟩⟩, by simp [intOf]; omega⟩
        · obtain ⟨b, h1, h2, h3, h4, h5, h6⟩ := next_bit HH.out.1 HH.out.2.2.1 hz
          have b1 : ((y : Int) == 0) = false := by simp; omega
          have b2 : ((y : Int) != 0) = true := by simp; omega
          obtain ⟨g1, g2, g3, g4, g5, g6⟩ := HH.out
          have hb : b < 256 := by omega
          have htz := tz_any y hy hz wr g6
          rw [h3] at htz
          have hk : b - 64 * i < 64 := by omega
          have hsum : (i : Int) * 64 + ((b - 64 * i : Nat) : Int) = (b : Int) := by omega
          have hlen : pre.length < 256 := by
            have e : pre.length = (mems m t).length := by rw [← g4, List.length_map]
            have := List.length_filter_le m (List.range t)
            unfold mems at e
            rw [List.length_range] at this
            omega
          have hnext : (pre ++ [(⟨b, hb⟩ : B256)]).map (·.1) = mems m (b + 1) := by
            rw [List.map_append, g4, mems_step h1 h5 h4]; rfl
          obtain ⟨fn, tmps, assign, body, hy2, hR⟩ := HY.out pre ⟨b, hb⟩ wr g5 hlen
          have hpre : mems m (b + 1) <+: mems m 256 := mems_prefix (by omega)
          have hdec : y &&& (y - 1) < y := Nat.lt_of_le_of_lt Nat.and_le_right (by omega)
          have hand : bits .and .u64 (y : Int) ((y : Int) - 1) = ((y &&& (y - 1) : Nat) : Int) := by
            have := u64_and_nat y (y - 1) hy (by omega)
            rw [← this]; congr 1; omega
          have HTZ := Lib.hid htz
          have HR := Lib.hid hR
          have HN := Lib.hid hnext
          have HP := Lib.hid hpre
          have HD := Lib.hid hdec
          have H6 := Lib.hid h6
          have G6 := Lib.hid g6
          have HA := Lib.hid hand
          clear htz hR hnext hpre hdec h6 g6 g4 g5 g3 HH h3 h4 h5 hlen hand
          generalize hkk : b - 64 * i = k at *
          clear hkk
          dsimp only at hy2
          gi_wp2_with (first | (refine ⟨trivial, ?_⟩; gi_at_call 34; refine (callsIn_wide.2 HTZ.out).mono ?_; rintro e w' ⟨rfl, rfl⟩))
          refine HR.out.mono ?_
          have hy1 : 0 < y := Nat.pos_of_ne_zero hz
          rintro e W3 (⟨rfl, hJ3, hk3⟩ | ⟨rfl, hJx3⟩)
          · have HK3 := Lib.hid hk3
            clear hk3 hsum hy2
            have ha := HA.out
            gi_wp2
            exact ⟨⟨y &&& (y - 1), b + 1, _, rfl, Nat.lt_trans HD.out hy, Lib.hid ⟨by omega, by omega, H6.out, HN.out, hJ3, G6.out.below HK3.out hn0⟩⟩, by simpa [intOf] using HD.out⟩
          · gi_wp2
            refine bodyPost_ret (results_none rfl _ _ _) rfl ?_
            exact ⟨⟨_, rfl⟩, .inr ⟨_, by rw [HN.out]; exact HP.out, hJx3⟩⟩
    · have hi4 : i = 4 := by omega
      subst hi4
      gi_wp2
      go_end0
      exact ⟨⟨_, rfl⟩, .inl ⟨pre, HH.out.1, HH.out.2.1⟩⟩

end Go.Proofs.YtebhnfdgjbhhfaaDoor

