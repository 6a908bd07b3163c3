/-
 WHAT THE ITERATOR OF PACKAGE octs TELLS: the bytes of a set, rising: its contract, for every loop body that keeps what lay there. Condition: the table of math/bits lies as it is laid.
-/
import Derived.RangeFuncNested
import Derived.RangeFuncBound
import Derived.RangeFuncCalls
import Derived.RangeFuncLeaves
import Derived.Shelf.Abstract
import Derived.Shelf.RegionOpen
import Derived.WalkKit
import Derived.OwnWalkIn
import Derived.TacticsInMore
import Derived.LoopNIn
import Derived.LoopIn
import Derived.RangeFuncBox
import Derived.Test.YtgngaaemkmdfaaaGreatDoorCards
import Derived.Test.YtgngaaemkmdfaaaGreatDoorTie
import Derived.ChangeSlices
import Derived.ProofKit
import Derived.OpenShut
import Derived.Deep.DeepHandedRow
import Derived.Lib.LaidTab
import Derived.Test.YtgngaaemkmdfaaaGreatDoorRows
import Derived.Lib.Hide
import Derived.Deep.SlicePairs
import Derived.LoopTactic
import Derived.ChangeArms
import Derived.ChangeSame
import Derived.DataReads
import Derived.Deep.Slices
import Derived.Test.YtgngaaemkmdfaaaGreatDoorQG02
import Derived.Test.YtgngaaemkmdfaaaGreatDoorQG03
import Derived.Test.YtgngaaemkmdfaaaGreatDoorQG01
namespace Go.Proofs.YtgngaaemkmdfaaaGreatDoor
open Go.RowKit

def Tab (w : World) : Prop := ∀ j, j < 64 → w.cell? ⟨0, j, none⟩ = some (.int .u8 (Lib.deBruijn64tab.getD j 0 : Nat))
theorem Tab.below {B : Nat} {w w' : World} (h : Tab w) (hb : Below B w w') (hB : 0 < B) : Tab w' := fun j hj => (hb.cell (p := ⟨0, j, none⟩) hB).trans (h j hj)
theorem Tab.pos {w : World} (h : Tab w) : 0 < w.heap.size := World.block_lt_of_cell? w _ (h 0 (by decide))
theorem Tab.step {w w' : World} (h : Tab w) (hb : Below w.heap.size w w') : Tab w' := h.below hb h.pos

set_option maxHeartbeats 1000000 in
theorem tz_core (x k idx : Nat) (w : World) (hx0 : ((x : Int) == 0) = false)
   (key : IntKind.u64.wrap (bits BinOp.and IntKind.u64 (x : Int) (IntKind.u64.wrap (-(x : Int))) * 285870213051353865) / 288230376151711744 = (idx : Int))
   (hi : idx < 64) (hk : k < 64) (hcell : w.cell? ⟨0, idx, none⟩ = some (.int .u8 k)) :
   Calls Tryz.prog 101 #[.int .u64 x] w fun e w' => e = .returned (.int .i64 k) ∧ w' = w := by
 go_enter Tryz.func101, Tryz.ntmps101
 go_wp2_with (simp only [key])
 go_ret; exact ⟨rfl, rfl⟩

theorem tz_key (x a : Nat) (hx : x < 18446744073709551616) (hx0 : x ≠ 0) (hlow : x &&& (18446744073709551616 - x) = a) :
   IntKind.u64.wrap (bits BinOp.and IntKind.u64 (x : Int) (IntKind.u64.wrap (-(x : Int))) * 285870213051353865) / 288230376151711744 = ((a * 285870213051353865 % 18446744073709551616 / 288230376151711744 : Nat) : Int) := by
 have e1 : IntKind.u64.wrap (-(x : Int)) = ((18446744073709551616 - x : Nat) : Int) := by rw [IntKind.wrap_u64]; omega
 rw [e1, u64_and_nat x _ hx (by omega), hlow, IntKind.wrap_u64]; omega

theorem tz_any (x : Nat) (hx : x < 18446744073709551616) (hx0 : x ≠ 0) (w : World) (hT : Tab w) :
   Calls Tryz.prog 101 #[.int .u64 x] w fun e w' => e = .returned (.int .i64 (Lib.ctz 64 x : Nat)) ∧ w = w' := by
 obtain ⟨hlow, hk⟩ := Lib.lowest_bit 64 x hx0 (by simpa using hx); obtain ⟨hi, htab⟩ := Lib.deBruijn64_at _ hk; have hcell := hT _ hi; rw [htab] at hcell
 exact (tz_core x _ _ w (by simp; omega) (tz_key x _ hx hx0 hlow) hi hk hcell).mono fun _ _ h => ⟨h.1, h.2.symm⟩

abbrev B256 := { x : Nat // x < 256 }

theorem idx_any (m : Nat → Bool) (i : Nat) (hi : i < 4) (w : World) : (Instr.index 55 (setV m) (.int .i64 (i : Nat))).run Tryz.prog w = .ok (.int .u64 (wd m i : Nat)) w := by
 have h := xzmz m w
 have hc : i = 0 ∨ i = 1 ∨ i = 2 ∨ i = 3 := by omega
 rcases hc with rfl | rfl | rfl | rfl
 · exact h.1
 · exact h.2.1
 · exact h.2.2.1
 · exact h.2.2.2

attribute [local go_sem] Oper.semAt_some

set_option maxHeartbeats 1000000 in
theorem xzyu (n : Nat) (hn : 1 ≤ n) (l Bs n₀ : Nat) (hn0 : 0 < n₀) (m : Nat → Bool) (J Jx : List B256 → World → Prop)
   (hY : ∀ pre (x : B256) W, J pre W → pre.length < 256 → YieldAt Fence.wide (n - 1) Tryz.prog l #[.int .u8 x.1] W fun e W' =>
     (e = .returned (.bool true) ∧ J (pre ++ [x]) W' ∧ Below n₀ W W') ∨ (e = .returned (.bool false) ∧ Jx (pre ++ [x]) W'))
   (W : World) (hbox : BlkIs W Bs 55 #[.int .u64 (wd m 0 : Nat), .int .u64 (wd m 1 : Nat), .int .u64 (wd m 2 : Nat), .int .u64 (wd m 3 : Nat)]) (hT : Tab W) (h0 : J [] W) :
   CallsIn Fence.wide n Tryz.prog 100 #[.func (.yield l) #[] #[], .pointer (some ⟨Bs, 0, none⟩)] W fun e W' => (∃ v, e = .returned v) ∧
     ((∃ xs : List B256, xs.map (·.1) = mems m 256 ∧ J xs W') ∨ (∃ pre : List B256, pre.map (·.1) <+: mems m 256 ∧ Jx pre W')) := by
 obtain ⟨c0, c1, c2, c3, _⟩ := hbox.four; have HY := Lib.hid hY; have HT := Lib.hid hT; have HJ := Lib.hid h0; have HI := Lib.hid (idx_any m); clear hbox hY hT h0; refine callsIn_of_wp Tryz.func100 rfl trivial ?_ rfl; simp only [Tryz.ntmps100, List.size_toArray, List.length_cons, List.length_nil, Nat.reduceAdd, Nat.reduceSub, Array.replicate_succ, Array.replicate_zero, List.push_toArray, List.append_toArray, List.nil_append, List.cons_append]
 gi_wp2
 clear c0 c1 c2 c3
 gi_loopw [6] (fun s wr => ∃ (i : Nat) (pre : List B256), i ≤ 4 ∧ s = .int .i64 i ∧ Hid (pre.map (·.1) = mems m (64 * i) ∧ J pre wr ∧ Tab wr)) (fun s _ => 4 - (intOf s).toNat)
 case atStart =>
   exact ⟨0, [], by omega, rfl, Lib.hid ⟨rfl, HJ.out, HT.out⟩⟩
 case round =>
   obtain ⟨i, pre, hi, rfl, HH⟩ := hrel
   by_cases hlt : i < 4
   · have hix := HI.out i hlt
     have hdi : decide ((i : Int) < 4) = true := by simp; omega
     gi_wp2
     clear hix
     gi_loopw [4] (fun s wr => ∃ (y t : Nat) (pre : List B256), s = .int .u64 y ∧ y < 18446744073709551616 ∧ Hid (64 * i ≤ t ∧ t ≤ 64 * i + 64 ∧ y = wd (sFrom m t) i ∧ pre.map (·.1) = mems m t ∧ J pre wr ∧ Tab wr)) (fun s _ => (intOf s).toNat)
     case atStart =>
       refine ⟨wd m i, 64 * i, pre, rfl, xzhj _ _, Lib.hid ⟨Nat.le_refl _, by omega, xzbh fun j _ => ?_, HH.out.1, HH.out.2.1, HH.out.2.2⟩⟩
       simp [sFrom]
     case round =>
       obtain ⟨y, t, pre, rfl, hy, HH⟩ := hrel
       by_cases hz : y = 0
       · have b1 : ((y : Int) == 0) = true := by simp; omega
         have b2 : ((y : Int) != 0) = false := by simp; omega
         gi_wp2
         subst hz; obtain ⟨h1, h2, h3, h4, h5, h6⟩ := HH.out; exact ⟨⟨i + 1, pre, by omega, by go_num, Lib.hid ⟨by rw [h4, show 64 * (i + 1) = 64 * i + 64 by omega]; exact (xzqo h2 (fun c hc1 hc2 => no_bit h1 h3.symm c hc1 hc2)).symm, h5, h6⟩⟩, by simp [intOf]; omega⟩
       · obtain ⟨b, h1, h2, h3, h4, h5, h6⟩ := xzyt HH.out.1 HH.out.2.2.1 hz
         have b1 : ((y : Int) == 0) = false := by simp; omega
         have b2 : ((y : Int) != 0) = true := by simp; omega
         obtain ⟨g1, g2, g3, g4, g5, g6⟩ := HH.out
         have hb : b < 256 := by omega
         have htz := tz_any y hy hz wr g6; rw [h3] at htz
         have hk : b - 64 * i < 64 := by omega
         have hsum : (i : Int) * 64 + ((b - 64 * i : Nat) : Int) = (b : Int) := by omega
         have hlen : pre.length < 256 := by
           have e : pre.length = (mems m t).length := by rw [← g4, List.length_map]
           have := List.length_filter_le m (List.range t); unfold mems at e; rw [List.length_range] at this; omega
         have hnext : (pre ++ [(⟨b, hb⟩ : B256)]).map (·.1) = mems m (b + 1) := by
           rw [List.map_append, g4, xznd h1 h5 h4]; rfl
         obtain ⟨fn, tmps, assign, body, hy2, hR⟩ := HY.out pre ⟨b, hb⟩ wr g5 hlen; have hpre : mems m (b + 1) <+: mems m 256 := xzhn (by omega); have hdec : y &&& (y - 1) < y := Nat.lt_of_le_of_lt Nat.and_le_right (by omega)
         have hand : bits .and .u64 (y : Int) ((y : Int) - 1) = ((y &&& (y - 1) : Nat) : Int) := by
           have := u64_and_nat y (y - 1) hy (by omega); rw [← this]; congr 1; omega
         have HTZ := Lib.hid htz; have HR := Lib.hid hR; have HN := Lib.hid hnext; have HP := Lib.hid hpre; have HD := Lib.hid hdec; have H6 := Lib.hid h6; have G6 := Lib.hid g6; have HA := Lib.hid hand; clear htz hR hnext hpre hdec h6 g6 g4 g5 g3 HH h3 h4 h5 hlen hand; generalize hkk : b - 64 * i = k at *; clear hkk
         dsimp only at hy2
         gi_wp2_with (first | (refine ⟨trivial, ?_⟩; gi_at_call 101; refine (callsIn_wide.2 HTZ.out).mono ?_; rintro e w' ⟨rfl, rfl⟩))
         refine HR.out.mono ?_; have hy1 : 0 < y := Nat.pos_of_ne_zero hz; rintro e W3 (⟨rfl, hJ3, hk3⟩ | ⟨rfl, hJx3⟩)
         · have HK3 := Lib.hid hk3
           clear hk3 hsum hy2; have ha := HA.out
           gi_wp2
           exact ⟨⟨y &&& (y - 1), b + 1, _, rfl, Nat.lt_trans HD.out hy, Lib.hid ⟨by omega, by omega, H6.out, HN.out, hJ3, G6.out.below HK3.out hn0⟩⟩, by simpa [intOf] using HD.out⟩
         · gi_wp2
           refine bodyPost_ret (results_none rfl _ _ _) rfl ?_; exact ⟨⟨_, rfl⟩, .inr ⟨_, by rw [HN.out]; exact HP.out, hJx3⟩⟩
   · have hi4 : i = 4 := by omega
     subst hi4
     gi_wp2
     go_end0
     exact ⟨⟨_, rfl⟩, .inl ⟨pre, HH.out.1, HH.out.2.1⟩⟩

end Go.Proofs.YtgngaaemkmdfaaaGreatDoor

namespace Go.Proofs.YtgngaaemkmdfaaaGreatDoor
open Go.ChangeShapes Go.WideShapes Go.ChangeAt Go.RowKit

theorem ownKnobNone : ownKnob Tryz.prog.godebug = none := by kernel_rfl
theorem laidOutYes : laidOutB Tryz.prog = true := by kernel_rfl

section
variable {H : Type} {enc : TypeId × Value → H} {P : Program}

theorem xzne (hl : laidOutB P = true) {W W' : World} (hb : Below W.heap.size W W') : ∀ (ts : List TypeId) (vs : List Value) (ds : List (DataW H)) (ps : List MemPlace),
   (∀ t ∈ ts, P.readableRec t = true ∧ t < P.types.size) → (∀ x ∈ ps, x.block < W.heap.size) → DataW.TrodAll enc P W 0 (fun _ => true) true ts vs ds ps →
   DataW.TrodAll enc P W' 0 (fun b => decide (b < W.heap.size)) true ts vs ds ps
 | [], vs, ds, ps, _, _, h => by
   obtain ⟨rfl, rfl, rfl⟩ := trodAll_nil h; exact trodAll_mk0
 | t :: ts, vs, ds, ps, hr, hlt, h => by
   obtain ⟨v, vs', d, ds', p, q, rfl, rfl, rfl, h1, h2⟩ := trodAll_cons h; have hrt := hr t (by simp)
   exact trodAll_cons_mk (WideElems.Trod_stays hl hrt.1 hrt.2 h1 (fun x hx => hb.same (hlt x (by simp [hx]))) (fun x hx => by simpa using hlt x (by simp [hx])))
     (xzne hl hb ts vs' ds' q (fun u hu => hr u (by simp [hu])) (fun x hx => hlt x (by simp [hx])) h2)

theorem xzyv {f : Func} {s : ChangeSpec} {apart fresh handsOn : Bool} {W W' : World} {args : Array Value} {ds gs : List (DataW H)} {before : List MemPlace} {tb : TypeId}
   (hl : laidOutB P = true) (hr : ∀ t ∈ f.params.toList, P.readableRec t = true ∧ t < P.types.size) (hres : f.resultTypes = #[tb]) (htb : P.underlying tb = some .bool) (hvars : s.vars = [])
   (hW : DataW.Whole enc P f.params.toList s.vars apart W args.toList ds gs before) (hs : (s.fn H (ds ++ gs)) = { results := [.lit (.bool true)], args := ds }) (hb : Below W.heap.size W W') :
   s.post enc P f apart fresh handsOn false W args (.bool true) W' := by
 have hlt := hW.lt; obtain ⟨p, q, hA, hV, hps, hfz, hnd⟩ := hW; have hV0 := hV; rw [hvars] at hV0; obtain ⟨_, hq⟩ := trodVars_none hV0; refine ⟨ds, gs, before, [], p, [], ⟨p, q, hA, hV, hps, hfz, hnd⟩, ?_, ?_, ?_, hb.frame _, fun h => by cases h⟩
 · rw [hs, hres]
   exact trodAll_mk1 (shut_bool htb true)
 · rw [hs]
   exact xzne hl hb _ _ _ _ hr (fun x hx => hlt x (by rw [hps]; simp [hx])) hA
 · rw [hs, hvars]; rfl
end

theorem tab_of {W : World} (h : laidMetH Tryz.prog [("math/bits.deBruijn64tab", Rows.laid_math_bits_deBruijn64tab)] W) : Tab W := by
 have ht : Lib.TabIs Tryz.prog W "math/bits.deBruijn64tab" .u8 (Lib.deBruijn64tab.map fun (n : Nat) => (n : Int)) :=
   Lib.tabIs_of_head (rest := []) (g := 0) (t := 168) (by kernel_rfl) (by kernel_rfl) Tryz.underlying168 Tryz.underlying5 (by kernel_rfl) (by kernel_rfl) h
 intro j hj; have hc := ht.cell (g := 0) (by kernel_rfl) j (by simpa [Lib.deBruijn64tab] using hj); rw [hc]; have hlen : Lib.deBruijn64tab.length = 64 := rfl
 simp [List.getD, hlen, hj]

noncomputable def laidWorld (os : Os) : World :=
 { World.holding Tryz.prog os ⟨#[], #[], []⟩ with heap := (World.holding Tryz.prog os ⟨#[], #[], []⟩).heap.modify 0 fun
     | .cells _ t frozen => .cells (Lib.deBruijn64tab.map fun (n : Nat) => Value.int .u8 (n : Int)).toArray t frozen
     | o => o }

end Go.Proofs.YtgngaaemkmdfaaaGreatDoor

namespace Go.Proofs.YtgngaaemkmdfaaaGreatDoor
open Go.RowKit

inductive Tree where
 | node (kind : Int) (m : Nat → Bool) (sub : List Tree) (lo hi : Int)

theorem Tree.ind {C : Tree → Prop} (h : ∀ k m l lo hi, (∀ t ∈ l, C t) → C (.node k m l lo hi)) : ∀ T, C T
 | .node k m l lo hi => h k m l lo hi fun t _ => Tree.ind h t
termination_by T => SizeOf.sizeOf T

namespace Tree
def kind : Tree → Int | .node k _ _ _ _ => k
def set : Tree → Nat → Bool | .node _ m _ _ _ => m
def sub : Tree → List Tree | .node _ _ l _ _ => l
def lo : Tree → Int | .node _ _ _ a _ => a
def hi : Tree → Int | .node _ _ _ _ b => b
end Tree

def reL (k : Int) (m : Nat → Bool) (A : Option Addr) (n c : Nat) (lo hi : Int) : List Value :=
 [.int .i64 k, .int .u64 (wd m 0 : Nat), .int .u64 (wd m 1 : Nat), .int .u64 (wd m 2 : Nat), .int .u64 (wd m 3 : Nat), .slice A n c, .int .i64 lo, .int .i64 hi]
def reV (k : Int) (m : Nat → Bool) (A : Option Addr) (n c : Nat) (lo hi : Int) : Value := .agg (reL k m A n c lo hi).toArray

mutual
def Tree.At (W : World) : Tree → Value → Prop
 | .node k m l lo hi, v => ∃ A c, v = reV k m A l.length c lo hi ∧ (l.length ≤ c ∧ c ≤ 9223372036854775807) ∧ (l ≠ [] → ∃ b o, A = some ⟨b, o, none⟩ ∧ AllAt W l b o)
def AllAt (W : World) : List Tree → Nat → Nat → Prop
 | [], _, _ => True
 | t :: r, b, o => (∃ cs : List Value, Tree.At W t (.agg cs.toArray) ∧ cs.length = 8 ∧ W.rangeAt b o cs) ∧ AllAt W r b (o + 8)
end

theorem AllAt.get {W : World} : ∀ (l : List Tree) (b o : Nat), AllAt W l b o → ∀ (i : Nat) (h : i < l.length), ∃ cs : List Value, Tree.At W l[i] (.agg cs.toArray) ∧ cs.length = 8 ∧ W.rangeAt b (o + i * 8) cs
 | [], _, _, _, i, h => by simp at h
 | t :: r, b, o, ha, i, h => by
   unfold AllAt at ha
   cases i with
   | zero => simpa using ha.1
   | succ i =>
     have := AllAt.get r b (o + 8) ha.2 i (by simpa using h); rw [show o + (i + 1) * 8 = o + 8 + i * 8 by omega]
     simpa using this
theorem AllAt.mk {W : World} : ∀ (l : List Tree) (b o : Nat), (∀ (i : Nat) (h : i < l.length), ∃ cs : List Value, Tree.At W l[i] (.agg cs.toArray) ∧ cs.length = 8 ∧ W.rangeAt b (o + i * 8) cs) → AllAt W l b o
 | [], _, _, _ => by unfold AllAt; trivial
 | t :: r, b, o, ha => by
   unfold AllAt; refine ⟨by have := ha 0 (by simp); rw [Nat.zero_mul, Nat.add_zero] at this; exact this, AllAt.mk r b (o + 8) fun i h => ?_⟩; have := ha (i + 1) (by simpa using h); rw [show o + (i + 1) * 8 = o + 8 + i * 8 by omega] at this
   simpa using this

theorem xzcc {W W' : World} {b o : Nat} {cs : List Value} (h : W.rangeAt b o cs) (hn : cs ≠ []) (hb : Below W.heap.size W W') : W'.rangeAt b o cs := by
 obtain ⟨v, r, rfl⟩ := List.exists_cons_of_ne_nil hn; have hlt : b < W.heap.size := World.block_lt_of_cell? W ⟨b, o + 0, none⟩ (h 0 v rfl); intro j x hx; exact (hb.cell (p := ⟨b, o + j, none⟩) hlt).trans (h j x hx)

theorem Tree.At.step {W W' : World} (hb : Below W.heap.size W W') : ∀ (T : Tree) {v : Value}, Tree.At W T v → Tree.At W' T v := by
 intro T
 induction T using Tree.ind with
 | h k m l lo hi ih =>
   intro v h; unfold Tree.At at h ⊢; obtain ⟨A, c, rfl, hc, hs⟩ := h; refine ⟨A, c, rfl, hc, fun hne => ?_⟩; obtain ⟨b, o, rfl, ha⟩ := hs hne; refine ⟨b, o, rfl, AllAt.mk l b o fun i hi => ?_⟩; obtain ⟨cs, h1, h2, h3⟩ := AllAt.get l b o ha i hi; exact ⟨cs, ih _ (List.getElem_mem hi) h1, h2, xzcc h3 (by intro e; subst e; simp at h2) hb⟩

theorem BlkIs.eight {w : World} {g : Nat} {t : TypeId} {a b c d e f x y : Value} (h : BlkIs w g t #[a, b, c, d, e, f, x, y]) : w.cell? ⟨g, 0, none⟩ = some a ∧ w.cell? ⟨g, 1, none⟩ = some b ∧ w.cell? ⟨g, 2, none⟩ = some c ∧ w.cell? ⟨g, 3, none⟩ = some d ∧
   w.cell? ⟨g, 4, none⟩ = some e ∧ w.cell? ⟨g, 5, none⟩ = some f ∧ w.cell? ⟨g, 6, none⟩ = some x ∧ w.cell? ⟨g, 7, none⟩ = some y :=
 ⟨h.cell 0, h.cell 1, h.cell 2, h.cell 3, h.cell 4, h.cell 5, h.cell 6, h.cell 7⟩

theorem Tree.At.eight {W : World} {T : Tree} {cs : List Value} (h : Tree.At W T (.agg cs.toArray)) : ∃ A n c, cs = reL T.kind T.set A n c T.lo T.hi := by
 cases T with
 | node k m l lo hi =>
   unfold Tree.At at h; obtain ⟨A, c, he, _⟩ := h; unfold reV at he
   injection he with he
   exact ⟨A, l.length, c, by have := congrArg Array.toList he; simp only at this; exact this⟩

theorem xzcv {W W' : World} {b o : Nat} {k lo hi : Int} {m : Nat → Bool} {A : Option Addr} {n c : Nat} (h : W.rangeAt b o (reL k m A n c lo hi)) (hb : Below W.heap.size W W') :
   W'.cell? ⟨b, o, none⟩ = some (.int .i64 k) ∧ W'.cell? ⟨b, o + 1, none⟩ = some (.int .u64 (wd m 0 : Nat)) ∧ W'.cell? ⟨b, o + 2, none⟩ = some (.int .u64 (wd m 1 : Nat)) ∧ W'.cell? ⟨b, o + 3, none⟩ = some (.int .u64 (wd m 2 : Nat)) ∧
   W'.cell? ⟨b, o + 4, none⟩ = some (.int .u64 (wd m 3 : Nat)) ∧ W'.cell? ⟨b, o + 5, none⟩ = some (.slice A n c) ∧ W'.cell? ⟨b, o + 6, none⟩ = some (.int .i64 lo) ∧ W'.cell? ⟨b, o + 7, none⟩ = some (.int .i64 hi) := by
 have h2 := xzcc h (by simp [reL]) hb; exact ⟨h2 0 _ rfl, h2 1 _ rfl, h2 2 _ rfl, h2 3 _ rfl, h2 4 _ rfl, h2 5 _ rfl, h2 6 _ rfl, h2 7 _ rfl⟩

theorem Tree.At.open {W : World} {k : Int} {m : Nat → Bool} {l : List Tree} {lo hi : Int} {v : Value} (h : Tree.At W (.node k m l lo hi) v) :
   ∃ A c, v = reV k m A l.length c lo hi ∧ (l.length ≤ c ∧ c ≤ 9223372036854775807) ∧ (l ≠ [] → ∃ b o, A = some ⟨b, o, none⟩ ∧ b < W.heap.size ∧ ∀ (i : Nat) (h : i < l.length), ∃ cs : List Value, Tree.At W l[i] (.agg cs.toArray) ∧ cs.length = 8 ∧ W.rangeAt b (o + i * 8) cs) := by
 unfold Tree.At at h; obtain ⟨A, c, rfl, hc, hs⟩ := h; refine ⟨A, c, rfl, hc, fun hne => ?_⟩; obtain ⟨b, o, rfl, ha⟩ := hs hne; have hg := AllAt.get l b o ha; refine ⟨b, o, rfl, ?_, hg⟩; have h0 : 0 < l.length := List.length_pos_iff.2 hne; obtain ⟨cs, _, h2, h3⟩ := hg 0 h0; obtain ⟨x, r, rfl⟩ : ∃ x r, cs = x :: r := List.exists_cons_of_ne_nil (by intro e; subst e; simp at h2); exact World.block_lt_of_cell? W ⟨b, o + 0 * 8 + 0, none⟩ (h3 0 x rfl)

end Go.Proofs.YtgngaaemkmdfaaaGreatDoor

namespace Go.Proofs.YtgngaaemkmdfaaaGreatDoor
open Go.RowKit

mutual
def Tree.nodes : Tree → Nat
 | .node _ _ l _ _ => nodesL l + 1
def nodesL : List Tree → Nat
 | [] => 0
 | t :: r => t.nodes + nodesL r
end
mutual
def Tree.deepW : Tree → Int
 | .node _ _ l _ _ => wrap64 ((deepsW l).foldl (fun d x => if d < x then x else d) 0 + 1)
def deepsW : List Tree → List Int
 | [] => []
 | t :: r => t.deepW :: deepsW r
end
def okNode (k : Int) (m : Nat → Bool) (n : Nat) (lo hi : Int) : Bool :=
 if ((k != 1 && !setEq m (fun _ => false)) || (k != 4 && (lo != 0 || hi != 0))) = true then false
 else if k = 0 ∨ k = 1 then decide (n = 0)
 else if k = 2 ∨ k = 3 then decide (2 ≤ n)
 else if k = 4 then decide (n = 1 ∧ 0 ≤ lo ∧ lo ≤ 64 ∧ (hi = -1 ∨ lo ≤ hi ∧ hi ≤ 64))
 else false
mutual
def Tree.ok : Tree → Bool
 | .node k m l lo hi => allOk l && okNode k m l.length lo hi
def allOk : List Tree → Bool
 | [] => true
 | t :: r => t.ok && allOk r
end
theorem xznf : ∀ {l : List Tree}, allOk l = true ↔ ∀ t ∈ l, t.ok = true
 | [] => by simp [allOk]
 | a :: l => by simp only [allOk, Bool.and_eq_true, List.mem_cons, forall_eq_or_imp, xznf (l := l)]
theorem xzfx : setV (fun _ => false) = .agg #[.int .u64 0, .int .u64 0, .int .u64 0, .int .u64 0] := by
 have : ∀ i, i < 4 → wd (fun _ => false) i = 0 := by decide +kernel
 unfold setV; rw [this 0 (by omega), this 1 (by omega), this 2 (by omega), this 3 (by omega)]; rfl

end Go.Proofs.YtgngaaemkmdfaaaGreatDoor

namespace Go.Proofs.YtgngaaemkmdfaaaGreatDoor
open Go.ChangeShapes Go.WideShapes Go.ChangeAt Go.RowKit Go.Deep

instance : Inhabited Tree := ⟨.node 0 (fun _ => false) [] 0 0⟩

section
variable {H : Type} {enc : TypeId × Value → H} {W : World} {base : Nat} {spare : Nat → Bool} {held : Bool}

theorem xzng : Tryz.prog.cellsOf 3 = 1 := by kernel_rfl
end

end Go.Proofs.YtgngaaemkmdfaaaGreatDoor

namespace Go.Proofs.YtgngaaemkmdfaaaGreatDoor
open Go.RowKit

theorem xzae {o : Oper} {ops : Array Oper} {tmps : Array Value} {i d : Nat} {b b' : Bool} (hg : o.guard = some (i, b)) (hi : (ops[i]?).bind (·.dst) = some d) (hv : tmps.getD d undef = .bool b') : Region.wanted o (yielded ops tmps) = (b' == b) := by
 have h2 : tmps[d]? = some (.bool b') := by
   cases h : tmps[d]? with
   | none => rw [Array.getD_eq_getD_getElem?, h] at hv; cases hv
   | some x => rw [Array.getD_eq_getD_getElem?, h] at hv; exact congrArg some hv
 unfold Region.wanted yielded; rw [hg]
 simp [hi, h2]
end Go.Proofs.YtgngaaemkmdfaaaGreatDoor

namespace Go.Proofs.YtgngaaemkmdfaaaGreatDoor
open Go.RowKit

attribute [local irreducible] FreeW

def IntsV (W : World) (l : List Int) (v : Value) : Prop := ∃ A c, v = .slice A l.length c ∧ (l.length ≤ c ∧ c ≤ 9223372036854775807) ∧ (l ≠ [] → ∃ b o, A = some ⟨b, o, none⟩ ∧ b < W.heap.size ∧ ∀ (i : Nat) (h : i < l.length), W.cell? ⟨b, o + i, none⟩ = some (.int .i64 l[i]))
theorem IntsV.step {W W' : World} {l : List Int} {v : Value} (h : IntsV W l v) (hb : Below W.heap.size W W') : IntsV W' l v := by
 obtain ⟨A, c, e, hc, hs⟩ := h; refine ⟨A, c, e, hc, fun hne => ?_⟩; obtain ⟨b, o, e2, hlt, hg⟩ := hs hne; exact ⟨b, o, e2, Nat.lt_of_lt_of_le hlt hb.size, fun i hi => (hb.cell (p := ⟨b, o + i, none⟩) hlt).trans (hg i hi)⟩
theorem IntsV.nil (W : World) : IntsV W [] (.slice none 0 0) := ⟨none, 0, rfl, ⟨Nat.le_refl _, by decide⟩, fun h => absurd rfl h⟩
def risesB (all : Int) : Int → List Int → Bool
 | _, [] => true
 | a, p :: r => (decide (a < p) && decide (p < all)) && risesB all p r

set_option maxHeartbeats 2000000 in
theorem xzjr (l : List Int) (v : Value) (all : Int) (w : World) (hv : IntsV w l v) : Calls Tryz.prog 48 #[v, .int .i64 all] w fun e w' => e = .returned (.bool (risesB all (-1) l)) ∧ w' = w := by
 obtain ⟨A, c, rfl, hc, hs⟩ := hv; have HS := Lib.hid hs; obtain ⟨R, hR⟩ : ∃ R, R = risesB all (-1) l := ⟨_, rfl⟩; rw [← hR]; have HR := Lib.hid hR; clear hs hR
 go_enter Tryz.func48, Tryz.ntmps48
 go_wp2
 go_loopw [5, 10] (fun s i wr => ∃ (j : Nat) (a : Int), s = .int .i64 a ∧ i = .int .i64 j ∧ j ≤ l.length ∧ Hid (wr = w ∧ R = risesB all a (l.drop j))) (fun _ i _ => l.length - (intOf i).toNat)
 case atStart => exact ⟨0, -1, rfl, rfl, Nat.zero_le _, Lib.hid ⟨rfl, HR.out⟩⟩
 case round =>
   obtain ⟨j, a, rfl, rfl, hj, HH⟩ := hrel; obtain ⟨rfl, hRR⟩ := HH.out; have HH := Lib.hid hRR; clear hRR
   by_cases hp : j < l.length
   · have hk1 : IntKind.i64.wrap ((j : Int) + 1) = ((j + 1 : Nat) : Int) := by rw [IntKind.wrap_i64]; omega
     have hdl : decide ((j : Int) < (l.length : Int)) = true := by simp; omega
     obtain ⟨b, o, rfl, hlt, hg⟩ := HS.out (by intro e; subst e; simp at hp); have hcell := hg j hp; have hd := HH.out; rw [List.drop_eq_getElem_cons hp] at hd; unfold risesB at hd; clear hg; generalize l[j] = p at *; have HD := Lib.hid hd; clear hd
     by_cases h1 : a < p
     · have e1 : decide (p ≤ a) = false := by simp; omega
       by_cases h2 : p < all
       · have e2 : decide (p ≥ all) = false := by simp; omega
         have e2b : decide (all ≤ p) = false := by simp; omega
         have HN := Lib.hid (show R = risesB all p (l.drop (j + 1)) by rw [HD.out]; simp [h1, h2]); clear h1 h2; go_wp2; exact ⟨⟨j + 1, p, rfl, rfl, hp, Lib.hid ⟨by trivial, HN.out⟩⟩, by simp [intOf]; omega⟩
       · have e2 : decide (p ≥ all) = true := by simp; omega
         have e2b : decide (all ≤ p) = true := by simp; omega
         have HN := Lib.hid (show R = false by rw [HD.out]; simp [h2]); clear h1 h2; go_wp2; go_ret; exact ⟨by rw [HN.out]; rfl, rfl⟩
     · have e1 : decide (p ≤ a) = true := by simp; omega
       have HN := Lib.hid (show R = false by rw [HD.out]; simp [h1]); clear h1; go_wp2; go_ret; exact ⟨by rw [HN.out]; rfl, rfl⟩
   · have hdl : decide ((j : Int) < (l.length : Int)) = false := by simp; omega
     have HN := Lib.hid (show R = true by rw [HH.out, List.drop_eq_nil_of_le (by omega)]; rfl); go_wp2; go_ret; exact ⟨by rw [HN.out]; rfl, rfl⟩

theorem six {w : World} {g : Nat} {t : TypeId} {a b c d e f : Value} (h : BlkIs w g t #[a, b, c, d, e, f]) : w.cell? ⟨g, 0, none⟩ = some a ∧ w.cell? ⟨g, 1, none⟩ = some b ∧ w.cell? ⟨g, 2, none⟩ = some c ∧ w.cell? ⟨g, 3, none⟩ = some d ∧ w.cell? ⟨g, 4, none⟩ = some e ∧ w.cell? ⟨g, 5, none⟩ = some f := by
 refine ⟨?_, ?_, ?_, ?_, ?_, ?_⟩
 · simpa using h.cell 0
 · simpa using h.cell 1
 · simpa using h.cell 2
 · simpa using h.cell 3
 · simpa using h.cell 4
 · simpa using h.cell 5
end Go.Proofs.YtgngaaemkmdfaaaGreatDoor

