/-
 WHAT hacklelaw09.letters ANSWERS: a contract: one letter's tree, or all of them, one behind the other. Condition: the text has at most 2^20 bytes.
-/
import Derived.Test.YtgngaaemkmdfaaaGreatDoorQG39
import Derived.Test.YtgngaaemkmdfaaaGreatDoorQG11
import Derived.Test.YtgngaaemkmdfaaaGreatDoorQG20
import Derived.Test.YtgngaaemkmdfaaaGreatDoorQG15
import Derived.Test.YtgngaaemkmdfaaaGreatDoorQG19
namespace Go.Proofs.YtgngaaemkmdfaaaGreatDoor
section
open Go.RowKit

attribute [local irreducible] FreeW textFrame

def lts (s : ByteArray) (k : Nat) : List Value := (List.range k).flatMap fun j => reL 1 (sRange (b8 s j : Nat) (b8 s j : Nat)) none 0 0 0 0
theorem xzmq (s : ByteArray) (k : Nat) : lts s (k + 1) = lts s k ++ reL 1 (sRange (b8 s k : Nat) (b8 s k : Nat)) none 0 0 0 0 := by
 unfold lts; rw [List.range_succ, List.flatMap_append]; simp
theorem xzos (s : ByteArray) : ∀ k, (lts s k).length = k * 8
 | 0 => rfl
 | k + 1 => by rw [xzmq, List.length_append, xzos s k]; simp [reL]; omega
theorem xztt (s : ByteArray) : ∀ (k i : Nat), i < k → ∀ j x, (reL 1 (sRange (b8 s i : Nat) (b8 s i : Nat)) none 0 0 0 0)[j]? = some x → (lts s k)[i * 8 + j]? = some x
 | 0, i, h, _, _, _ => absurd h (by omega)
 | k + 1, i, h, j, x, hx => by
   have hj : j < 8 := by have := (List.getElem?_eq_some_iff.1 hx).1; simpa [reL] using this
   rw [xzmq]
   by_cases e : i = k
   · subst e
     rw [List.getElem?_append_right (by rw [xzos]; omega), xzos, show i * 8 + j - i * 8 = j by omega]; exact hx
   · rw [List.getElem?_append_left (by rw [xzos]; omega)]
     exact xztt s k i (by omega) j x hx
theorem xztu (b : Int) : ∀ u ∈ reL 1 (sRange b b) none 0 0 0 0, u.oneCell' = true := by
 intro u hu; simp only [reL, List.mem_cons, List.not_mem_nil, or_false] at hu
 rcases hu with rfl | rfl | rfl | rfl | rfl | rfl | rfl | rfl <;> rfl
theorem yzbc : (Tryz.prog.info? 58).map (fun i => (i.zero, i.size, i.bytes)) = some (some (.agg zeroL.toArray), 8, 80) := by kernel_rfl
theorem xztv {W W' : World} {b o : Nat} {cs : List Value} (h : W.rangeAt b o cs) (e : W'.heap[b]? = W.heap[b]?) : W'.rangeAt b o cs := fun j v hv => (xzbf e).trans (h j v hv)
theorem xzxh (b : Int) (W : World) : (Instr.buildSlice 56 1 #[(0, reV 1 (sRange b b) none 0 0 0 0)]).run Tryz.prog W = .ok (.slice (some ⟨W.heap.size, 0, none⟩) 1 1) (W.alloc (.cells (reL 1 (sRange b b) none 0 0 0 0).toArray 58)) := by
 kernel_rfl
theorem xztw {W : World} {B : Nat} {v : Value} {s : ByteArray} {k b : Nat} (hown : W.ownsRow B 58 8 v k (lts s k)) (hnew : W.rangeAt b 0 (reL 1 (sRange (b8 s k : Nat) (b8 s k : Nat)) none 0 0 0 0)) (hk : k + 1 ≤ 1048577) (hB : B ≤ W.heap.size) :
   ∃ v' W', (Builtin.append_ #[56, 56] 56 #[v, .slice (some ⟨b, 0, none⟩) 1 1]).run Tryz.prog W = .ok v' W' ∧ W'.ownsRow B 58 8 v' (k + 1) (lts s (k + 1)) ∧ W.grownBy W' v.ownBlock ∧ W'.ownsRow B 58 8 v k (lts s k) ∧ (v'.ownBlock = v.ownBlock ∨ v'.ownBlock = some W.heap.size) := by
 obtain ⟨i0, hi0, hz0, hz1, hz2⟩ := info_parts yzbc
 have hnews : ∀ j u, (reL 1 (sRange (b8 s k : Nat) (b8 s k : Nat)) none 0 0 0 0)[j]? = some u → W.cell? ((⟨b, 0, none⟩ : Addr).add j) = some u := fun j u hu => by
   rw [Addr.add_lit]; exact hnew j u hu
 obtain ⟨v', W', hr, h1, h2, _, h4⟩ := run_append_own_at (P := Tryz.prog) (w := W) B 56 56 58 i0 _ 8 80 Tryz.underlying56 hi0 hz0 hz1 hz2 rfl (by decide) v k _ hown
   ⟨b, 0, none⟩ 1 1 (reL 1 (sRange (b8 s k : Nat) (b8 s k : Nat)) none 0 0 0 0) rfl hnews (xztu _) (by unfold maxLen; omega) (by omega) hB
 refine ⟨v', W', hr, ?_, h2, xzcj (P := Tryz.prog) Tryz.underlying56 hi0 hz0 hz1 hz2 hown rfl hnews (xztu _) (by unfold maxLen; omega) (by omega) hr, h4⟩; rw [xzmq]; exact h1
def catC (v : Value) : Array Value := #[.int .i64 2, .int .u64 0, .int .u64 0, .int .u64 0, .int .u64 0, v, .int .i64 0, .int .i64 0]
theorem xzdw (v : Value) : (catC v)[5]? = some v := rfl
theorem yzbd (v v' : Value) : (catC v).setIfInBounds 5 v' = catC v' := rfl
def lettersT (s : ByteArray) : Tree := if s.size = 1 then ltr8 (b8 s 0 : Nat) else .node 2 (fun _ => false) ((List.range s.size).map fun j => ltr8 (b8 s j : Nat)) 0 0
theorem yzbe {W : World} {B : Nat} {v : Value} {s : ByteArray} {k : Nat} (h : W.ownsRow B 58 8 v k (lts s k)) : ∃ A c, v = .slice A k c ∧ (k ≤ c ∧ c ≤ 9223372036854775807) ∧ (0 < k → ∃ b, A = some ⟨b, 0, none⟩ ∧ B ≤ b ∧ AllAt W ((List.range k).map fun j => ltr8 (b8 s j : Nat)) b 0) := by
 have hlt := h.lt
 rcases h.2 with ⟨rfl, rfl⟩ | ⟨g, cap, cur, rfl, h1, h2, h3, h4, _⟩
 · exact ⟨none, 0, rfl, ⟨by omega, by omega⟩, fun h => absurd h (by omega)⟩
 · refine ⟨_, cap, rfl, ⟨h3, by unfold maxLen at h4; omega⟩, fun _ => ⟨g, rfl, h1, AllAt.mk _ _ _ fun i hi => ?_⟩⟩
   have hi' : i < k := by simpa using hi
   refine ⟨reL 1 (sRange (b8 s i : Nat) (b8 s i : Nat)) none 0 0 0 0, ?_, rfl, fun j x hx => ?_⟩
   · rw [List.getElem_map, List.getElem_range]
     exact xzyf
   · have := World.ownsRow.cells (g := g) h rfl (i * 8 + j) x (xztt s k i hi' j x hx)
     rw [Addr.add_lit] at this; rw [show 0 + i * 8 + j = 0 + (i * 8 + j) by omega]; exact this
set_option maxRecDepth 20000 in
set_option maxHeartbeats 16000000 in
theorem xzif (s : ByteArray) (hs : s.size ≤ 1048576) (w : World) : Calls Tryz.prog 21 #[.string s] w fun e w' => ∃ v, e = .returned v ∧ (lettersT s).At w' v ∧ Below w.heap.size w w' := by
 obtain ⟨W1, hW1⟩ : ∃ W1, w.alloc (.cells zeroL.toArray 58) = W1 := ⟨_, rfl⟩; obtain ⟨W2, hW2⟩ : ∃ W2, W1.alloc (.cells (catC (.slice none 0 0)) 58) = W2 := ⟨_, rfl⟩
 have hs1 : W1.heap.size = w.heap.size + 1 := by rw [← hW1]; simp
 have hs2 : W2.heap.size = w.heap.size + 2 := by rw [← hW2]; simp [hs1]
 have hb1 : Below w.heap.size w W1 := by rw [← hW1]; exact (Below.refl _ _).alloc (Nat.le_refl _) _
 have hb2 : Below w.heap.size w W2 := by rw [← hW2]; exact hb1.alloc (by omega) _
 have hx1 : BlkIs W1 w.heap.size 58 zeroL.toArray := by rw [← hW1]; exact BlkIs.new _ _ _
 have hx2 : BlkIs W2 w.heap.size 58 zeroL.toArray := by rw [← hW2]; exact hx1.alloc _
 have hc2 : BlkIs W2 (w.heap.size + 1) 58 (catC (.slice none 0 0)) := by rw [← hW2, ← hs1]; exact BlkIs.new _ _ _
 have HH0 := Lib.hid (show BlkIs W2 (w.heap.size + 1) 58 (catC (.slice none 0 0)) ∧ W2.ownsRow (w.heap.size + 2) 58 8 (.slice none 0 0) 0 (lts s 0) ∧ Below w.heap.size w W2 ∧ BlkIs W2 w.heap.size 58 zeroL.toArray from ⟨hc2, World.ownsRow_nil _ _ _ _, hb2, hx2⟩); have HS2 := Lib.hid hs2
 have HIX := Lib.hid (show ∀ (j : Nat), j < s.size → ∀ u : World, (Instr.index 9 (.string s) (.int .i64 (j : Nat))).run Tryz.prog u = .ok (.int .u8 (b8 s j : Nat)) u from fun j hj u => by
   have := xzit 9 Tryz.underlying9 s j hj u (P := Tryz.prog)
   rw [this]; unfold b8; rw [dif_pos hj])
 clear hb1 hb2 hx1 hx2 hc2; unfold zeroL at hW1; unfold catC at hW2; have HW2 := Lib.hid hW2; clear hW2
 go_enter Tryz.func21, Tryz.ntmps21
 go_wp2; rw [HW2.out]
 go_loopw [4] (fun i wr => ∃ k : Nat, i = .int .i64 k ∧ k ≤ s.size ∧ Hid (w.heap.size + 2 ≤ wr.heap.size ∧ ∃ v, BlkIs wr (w.heap.size + 1) 58 (catC v) ∧ wr.ownsRow (w.heap.size + 2) 58 8 v k (lts s k) ∧ Below w.heap.size w wr ∧ BlkIs wr w.heap.size 58 zeroL.toArray)) (fun i _ => s.size - (intOf i).toNat)
 case atStart => exact ⟨0, rfl, Nat.zero_le _, Lib.hid ⟨by rw [HS2.out]; omega, _, HH0.out⟩⟩
 case round =>
   obtain ⟨k, rfl, hk, HH⟩ := hrel; obtain ⟨w2, rfl⟩ : ∃ w2, w2 = wr := ⟨_, rfl⟩; obtain ⟨hws, v, hh⟩ := HH.out; have HWS := Lib.hid hws; have HH := Lib.hid hh; clear hh hws HH0 HS2
   by_cases hp : k < s.size
   · have hk1 : IntKind.i64.wrap ((k : Int) + 1) = ((k + 1 : Nat) : Int) := by rw [IntKind.wrap_i64]; omega
     have hdl : decide ((k : Int) < (s.size : Int)) = true := by simp; omega
     have HSZ := Lib.hid (show k + 1 ≤ 1048577 by omega); have HWB := Lib.hid (show IntKind.i64.wrap ((b8 s k : Nat) : Int) = ((b8 s k : Nat) : Int) by have := xzzg s k; rw [IntKind.wrap_i64]; omega); have HRG := Lib.hid (fun (u : World) => xzlh (b8 s k) (b8 s k) (xzzg s k) u); have HOW := Lib.hid (show ∀ k, v.ownBlock = some k → k < w2.heap.size from fun k hk => (World.ownsRow.lt HH.out.2.1 k hk).2)
     go_wp2_with fail
     refine xzaf 14 36 (fun u => Hid (Tn v.ownBlock w2 u ∧ Below w.heap.size w u ∧ u.ownsRow (w.heap.size + 2) 58 8 v k (lts s k) ∧ BlkIs u (w.heap.size + 1) 58 (catC v) ∧ BlkIs u w.heap.size 58 zeroL.toArray)) (fun i u u' => (i = 13 → u.grownBy u' v.ownBlock ∧ u'.ownsRow (w.heap.size + 2) 58 8 v k (lts s k)) ∧ (i ≠ 13 → Below u.heap.size u u'))
       (fun i v' u => match i with
         | 0 => v' = .pointer (some ⟨w.heap.size + 1, 5, none⟩)
         | 1 => v' = v
         | 2 => v' = .string s
         | 3 => v' = .int .i64 (k : Nat)
         | 4 => v' = .int .u8 (b8 s k : Nat)
         | 5 => v' = .int .i64 (b8 s k : Nat)
         | 6 => v' = .string s
         | 7 => v' = .int .i64 (k : Nat)
         | 8 => v' = .int .u8 (b8 s k : Nat)
         | 9 => v' = .int .i64 (b8 s k : Nat)
         | 10 => v' = setV (sRange (b8 s k : Nat) (b8 s k : Nat))
         | 11 => v' = reV 1 (sRange (b8 s k : Nat) (b8 s k : Nat)) none 0 0 0 0
         | 12 => ∃ b, v' = .slice (some ⟨b, 0, none⟩) 1 1 ∧ u.rangeAt b 0 (reL 1 (sRange (b8 s k : Nat) (b8 s k : Nat)) none 0 0 0 0) ∧ w2.heap.size ≤ b
         | 13 => u.ownsRow (w.heap.size + 2) 58 8 v' (k + 1) (lts s (k + 1)) ∧ (v'.ownBlock = v.ownBlock ∨ ∃ b, v'.ownBlock = some b ∧ w2.heap.size ≤ b)
         | _ => True) (by kernel_rfl) (by kernel_rfl) rfl (Lib.hid ⟨Tn.below (Below.refl _ _).drew, HH.out.2.2.1.drew, xzav HH.out.2.1 (fun _ _ => rfl), HH.out.1, HH.out.2.2.2⟩) ?_ ?_ ?_ ?_
     · intro i u u' hix hC hr
       by_cases hi8 : i = 13
       · obtain ⟨g1, g2⟩ := hr.1 hi8
         have n1 : ∀ k, v.ownBlock = some k → w.heap.size + 2 ≤ k := fun k hk => (World.ownsRow.lt hC.out.2.2.1 k hk).1
         exact Lib.hid ⟨hC.out.1.trans (Tn.grown g1), (Tn.grown g1).2.2 _ _ (by have := hC.out.1.1; have := HWS.out; omega) (fun k hk => by have := n1 k hk; omega) hC.out.2.1, g2, ((Tn.grown g1).2.1 _ (by have := hC.out.1.1; have := HWS.out; omega) (fun e => by have := n1 _ e; omega)).trans hC.out.2.2.2.1, ((Tn.grown g1).2.1 _ (by have := hC.out.1.1; have := HWS.out; omega) (fun e => by have := n1 _ e; omega)).trans hC.out.2.2.2.2⟩
       · have hb := hr.2 hi8
         exact Lib.hid ⟨hC.out.1.trans (Tn.below hb), hC.out.2.1.trans (hb.mono (by have := hC.out.1.1; have := HWS.out; omega)), xzav hC.out.2.2.1 (fun k hk => hb.block k (World.ownsRow.lt hC.out.2.2.1 k hk).2), hC.out.2.2.2.1.step hb, hC.out.2.2.2.2.step hb⟩
     · intro i j v u u' hix hj hne hv hr
       match i, hix, hne, hv with
       | 0, _, _, hv => exact hv
       | 1, _, _, hv => exact hv
       | 2, _, _, hv => exact hv
       | 3, _, _, hv => exact hv
       | 4, _, _, hv => exact hv
       | 5, _, _, hv => exact hv
       | 6, _, _, hv => exact hv
       | 7, _, _, hv => exact hv
       | 8, _, _, hv => exact hv
       | 9, _, _, hv => exact hv
       | 10, _, _, hv => exact hv
       | 11, _, _, hv => exact hv
       | 12, _, hne, hv =>
         obtain ⟨b, e1, e2, e3⟩ := hv; refine ⟨b, e1, ?_, e3⟩
         by_cases hj8 : j = 13
         · exact xztv e2 ((hr.1 hj8).1.block b (World.block_lt_of_cell? u ⟨b, 0 + 0, none⟩ (e2 0 _ rfl)) (fun e => by have := HOW.out b e.symm; omega))
         · exact xzcc e2 (by simp [reL]) (hr.2 hj8)
       | 13, _, hne, hv =>
         exact ⟨xzav hv.1 fun k hk => (hr.2 (Ne.symm hne)).block k (World.ownsRow.lt hv.1 k hk).2, hv.2⟩
       | i + 14, hix, _, _ => omega
     · intro i hix vs u hC hw oq ho
       match i, hix, hw, ho with
       | 0, _, hw, ho =>
         simp only [zqa, zqb, zqh] at ho; subst ho; refine ⟨rfl, ?_⟩; have k5 := (hC.out.2.2.2.1.cell 5).trans (xzdw v); clear hw; simp only [xzaa, tmpsTo]; go_simp; exact zqi
       | 1, _, hw, ho =>
         have e0 : vs 0 = .pointer (some ⟨w.heap.size + 1, 5, none⟩) := hw 0 (by omega) (by kernel_rfl); simp only [zqa, zqb, zqc, zqh] at ho; subst ho; refine ⟨rfl, ?_⟩; have k5 := (hC.out.2.2.2.1.cell 5).trans (xzdw v); clear hw; simp only [xzaa, tmpsTo, putT, zqa, zqb, zqd, zqe, zqf, zqg]; rw [e0]; clear e0; go_simp; exact zqi
       | 2, _, hw, ho =>
         simp only [zqa, zqb, zqc, zqh] at ho; subst ho; refine ⟨rfl, ?_⟩; have k5 := (hC.out.2.2.2.1.cell 5).trans (xzdw v); clear hw; simp only [xzaa, tmpsTo, putT, zqa, zqb, zqc, zqd, zqe, zqf, zqg]; go_simp; exact zqi
       | 3, _, hw, ho =>
         simp only [zqa, zqb, zqc, zqh] at ho; subst ho; refine ⟨rfl, ?_⟩; have k5 := (hC.out.2.2.2.1.cell 5).trans (xzdw v); clear hw; simp only [xzaa, tmpsTo, putT, zqa, zqb, zqc, zqd, zqe, zqf, zqg]; go_simp; exact zqi
       | 4, _, hw, ho =>
         have e2 : vs 2 = .string s := hw 2 (by omega) (by kernel_rfl); have e3 : vs 3 = .int .i64 (k : Nat) := hw 3 (by omega) (by kernel_rfl); simp only [zqa, zqb, zqc, zqh] at ho; subst ho; refine ⟨rfl, ?_⟩; have k5 := (hC.out.2.2.2.1.cell 5).trans (xzdw v); clear hw; simp only [xzaa, tmpsTo, putT, zqa, zqb, zqc, zqd, zqe, zqf, zqg]; rw [e2, e3]; clear e2 e3; have hix := HIX.out k hp u; go_simp; exact zqi
       | 5, _, hw, ho =>
         have e4 : vs 4 = .int .u8 (b8 s k : Nat) := hw 4 (by omega) (by kernel_rfl); simp only [zqa, zqb, zqc, zqh] at ho; subst ho; refine ⟨rfl, ?_⟩; have k5 := (hC.out.2.2.2.1.cell 5).trans (xzdw v); clear hw; simp only [xzaa, tmpsTo, putT, zqa, zqb, zqc, zqd, zqe, zqf, zqg]; rw [e4]; clear e4; have hwb := HWB.out; go_simp; exact zqi
       | 6, _, hw, ho =>
         simp only [zqa, zqb, zqc, zqh] at ho; subst ho; refine ⟨rfl, ?_⟩; have k5 := (hC.out.2.2.2.1.cell 5).trans (xzdw v); clear hw; simp only [xzaa, tmpsTo, putT, zqa, zqb, zqc, zqd, zqe, zqf, zqg]; go_simp; exact zqi
       | 7, _, hw, ho =>
         simp only [zqa, zqb, zqc, zqh] at ho; subst ho; refine ⟨rfl, ?_⟩; have k5 := (hC.out.2.2.2.1.cell 5).trans (xzdw v); clear hw; simp only [xzaa, tmpsTo, putT, zqa, zqb, zqc, zqd, zqe, zqf, zqg]; go_simp; exact zqi
       | 8, _, hw, ho =>
         have e6 : vs 6 = .string s := hw 6 (by omega) (by kernel_rfl); have e7 : vs 7 = .int .i64 (k : Nat) := hw 7 (by omega) (by kernel_rfl); simp only [zqa, zqb, zqc, zqh] at ho; subst ho; refine ⟨rfl, ?_⟩; have k5 := (hC.out.2.2.2.1.cell 5).trans (xzdw v); clear hw; simp only [xzaa, tmpsTo, putT, zqa, zqb, zqc, zqd, zqe, zqf, zqg]; rw [e6, e7]; clear e6 e7; have hix := HIX.out k hp u; go_simp; exact zqi
       | 9, _, hw, ho =>
         have e8 : vs 8 = .int .u8 (b8 s k : Nat) := hw 8 (by omega) (by kernel_rfl); simp only [zqa, zqb, zqc, zqh] at ho; subst ho; refine ⟨rfl, ?_⟩; have k5 := (hC.out.2.2.2.1.cell 5).trans (xzdw v); clear hw; simp only [xzaa, tmpsTo, putT, zqa, zqb, zqc, zqd, zqe, zqf, zqg]; rw [e8]; clear e8; have hwb := HWB.out; go_simp; exact zqi
       | 10, _, hw, ho =>
         have e5 : vs 5 = .int .i64 (b8 s k : Nat) := hw 5 (by omega) (by kernel_rfl); have e9 : vs 9 = .int .i64 (b8 s k : Nat) := hw 9 (by omega) (by kernel_rfl); simp only [zqa, zqb, zqc, zqh] at ho; subst ho; refine ⟨rfl, ?_⟩; have k5 := (hC.out.2.2.2.1.cell 5).trans (xzdw v); clear hw; simp only [xzaa, tmpsTo, putT, zqa, zqb, zqc, zqd, zqe, zqf, zqg]; rw [e5, e9]; clear e5 e9; go_simp; refine xzas ((HRG.out u).mono ?_); rintro e u' ⟨rfl, hbu⟩; exact ⟨_, rfl, hbu, rfl⟩
       | 11, _, hw, ho =>
         have e10 : vs 10 = setV (sRange (b8 s k : Nat) (b8 s k : Nat)) := hw 10 (by omega) (by kernel_rfl); simp only [zqa, zqb, zqc, zqh] at ho; subst ho; refine ⟨rfl, ?_⟩; have k5 := (hC.out.2.2.2.1.cell 5).trans (xzdw v); clear hw; simp only [xzaa, tmpsTo, putT, zqa, zqb, zqc, zqd, zqe, zqf, zqg]; rw [e10]; clear e10; unfold setV reV reL; go_simp; exact zqi
       | 12, _, hw, ho =>
         have e11 : vs 11 = reV 1 (sRange (b8 s k : Nat) (b8 s k : Nat)) none 0 0 0 0 := hw 11 (by omega) (by kernel_rfl); simp only [zqa, zqb, zqc, zqh] at ho; subst ho; refine ⟨rfl, ?_⟩; have k5 := (hC.out.2.2.2.1.cell 5).trans (xzdw v); clear hw; simp only [xzaa, tmpsTo, putT, zqa, zqb, zqc, zqd, zqe, zqf, zqg]; rw [e11]; clear e11; rw [xzdt (x := reV 1 (sRange (b8 s k : Nat) (b8 s k : Nat)) none 0 0 0 0) 56 (.tmp 23) rfl rfl (xzxh _ u)]; exact xzai ⟨fun h => absurd h (by decide), fun _ => (Below.refl _ _).alloc (Nat.le_refl _) _⟩ ⟨_, rfl, (BlkIs.new u 58 (reL 1 (sRange (b8 s k : Nat) (b8 s k : Nat)) none 0 0 0 0).toArray).range, hC.out.1.1⟩
       | 13, _, hw, ho =>
         have e1 : vs 1 = v := hw 1 (by omega) (by kernel_rfl); obtain ⟨b, e12, hb1, hb2⟩ : ∃ b, vs 12 = .slice (some ⟨b, 0, none⟩) 1 1 ∧ u.rangeAt b 0 (reL 1 (sRange (b8 s k : Nat) (b8 s k : Nat)) none 0 0 0 0) ∧ w2.heap.size ≤ b := hw 12 (by omega) (by kernel_rfl); simp only [zqa, zqb, zqc, zqh] at ho; subst ho; refine ⟨rfl, ?_⟩; have k5 := (hC.out.2.2.2.1.cell 5).trans (xzdw v); clear hw; simp only [xzaa, tmpsTo, putT, zqa, zqb, zqc, zqd, zqe, zqf, zqg]; rw [e1]; clear e1; rw [e12]; obtain ⟨v', W', hrun, k1, k2, k3, k4⟩ := xztw hC.out.2.2.1 hb1 (by have := HSZ.out; omega) (by have := hC.out.1.1; have := HWS.out; omega); rw [xzby (.tmp 13) (.tmp 24) 56 56 rfl rfl rfl hrun]; refine xzai ?_ ?_
         · exact ⟨fun _ => ⟨k2, k3⟩, fun h => absurd rfl h⟩
         · refine ⟨k1, ?_⟩
           rcases k4 with k4 | k4
           · exact .inl k4
           · exact .inr ⟨_, k4, hC.out.1.1⟩
       | i + 14, hix, _, _ => omega
     intro vs1 u hC hV; have h13 : u.ownsRow (w.heap.size + 2) 58 8 (vs1 13) (k + 1) (lts s (k + 1)) ∧ ((vs1 13).ownBlock = v.ownBlock ∨ ∃ b, (vs1 13).ownBlock = some b ∧ w2.heap.size ≤ b) := hV 13 (by omega); clear hV; simp only [xzaa, tmpsTo, putT, zqa, zqb, zqc, zqd, zqe, zqf, zqg, List.drop_succ_cons, List.drop_zero]; generalize vs1 13 = v9 at *; generalize vs1 0 = q0; generalize vs1 1 = q1; generalize vs1 2 = q2; generalize vs1 3 = q3; generalize vs1 4 = q4; generalize vs1 5 = q5; generalize vs1 6 = q6; generalize vs1 7 = q7; generalize vs1 8 = q8; generalize vs1 9 = q9; generalize vs1 10 = q10; generalize vs1 11 = q11; generalize vs1 12 = q12; obtain ⟨A9, c9, rfl, hc9, _⟩ := yzbe h13.1; have c5 := (hC.out.2.2.2.1.cell 5).trans (xzdw v); have fz := BlkIs.frozen hC.out.2.2.2.1 5; have hbk := hC.out.2.2.2.1.put 5 (.slice A9 (k + 1) c9); rw [yzbd] at hbk
     have HN := Lib.hid (show w.heap.size + 2 ≤ (u.setCell ⟨w.heap.size + 1, 5, none⟩ (.slice A9 (k + 1) c9)).heap.size ∧ BlkIs (u.setCell ⟨w.heap.size + 1, 5, none⟩ (.slice A9 (k + 1) c9)) (w.heap.size + 1) 58 (catC (.slice A9 (k + 1) c9)) ∧ (u.setCell ⟨w.heap.size + 1, 5, none⟩ (.slice A9 (k + 1) c9)).ownsRow (w.heap.size + 2) 58 8 (.slice A9 (k + 1) c9) (k + 1) (lts s (k + 1)) ∧ Below w.heap.size w (u.setCell ⟨w.heap.size + 1, 5, none⟩ (.slice A9 (k + 1) c9)) ∧ BlkIs (u.setCell ⟨w.heap.size + 1, 5, none⟩ (.slice A9 (k + 1) c9)) w.heap.size 58 zeroL.toArray from
       ⟨by rw [World.size_setCell]; have := hC.out.1.1; have := HWS.out; omega, hbk, xzav h13.1 fun k hk => Below.heap_setCell u ⟨w.heap.size + 1, 5, none⟩ _ k (fun e => by have := (World.ownsRow.lt h13.1 k hk).1; rw [show k = w.heap.size + 1 from e] at this; omega), hC.out.2.1.setCell (p := ⟨w.heap.size + 1, 5, none⟩) (by show w.heap.size ≤ w.heap.size + 1; omega) _, (Below.heap_setCell u ⟨w.heap.size + 1, 5, none⟩ _ _ (by show w.heap.size ≠ w.heap.size + 1; omega)).trans hC.out.2.2.2.2⟩)
     clear hbk h13 hC HH HOW; go_wp2; exact ⟨⟨k + 1, rfl, hp, Lib.hid ⟨HN.out.1, _, HN.out.2⟩⟩, by simp [intOf]; omega⟩
   · have hdl : decide ((k : Int) < (s.size : Int)) = false := by simp; omega
     obtain rfl : k = s.size := by omega
     obtain ⟨hbk, hown, hbe, hz⟩ := HH.out; obtain ⟨A, c, rfl, hc, hat⟩ := yzbe hown; have k5 := (hbk.cell 5).trans (xzdw _)
     by_cases h1 : s.size = 1
     · obtain ⟨b, rfl, hbB, hall⟩ := hat (by omega)
       have e1 : decide ((s.size : Int) = 1) = true := by simp; omega
       have e1' : ((s.size : Int) == 1) = true := by simp; omega
       have e2 : decide ((0 : Int) < (s.size : Int)) = true := by simp; omega
       have e3 : (0 : Int) < (s.size : Int) := by omega
       have e4 : 0 < s.size := by omega
       have hrg : w2.rangeAt b 0 (reL 1 (sRange (b8 s 0 : Nat) (b8 s 0 : Nat)) none 0 0 0 0) := fun j x hx => by
         have := World.ownsRow.cells (g := b) hown rfl (0 * 8 + j) x (xztt s s.size 0 (by omega) j x hx); rw [Addr.add_lit, Nat.zero_mul, Nat.zero_add] at this; exact this
       obtain ⟨d8, hd8⟩ : ∃ d8, (reL 1 (sRange (b8 s 0 : Nat) (b8 s 0 : Nat)) none 0 0 0 0).toArray = d8 := ⟨_, rfl⟩
       have hld : ∀ {ops : Array Oper} {rest : List Oper} {op : Oper} {a : Act} {Q : Exit → Act → World → Prop} (_ : op.guard = none) (x : Operand) (_ : op.op = .load 58 x) (_ : a.eval x = .pointer (some ⟨b, 0, none⟩)) (_ : wpList Tryz.prog ops Q rest (a.put op.dst (.agg d8)) w2), wpList Tryz.prog ops Q (op :: rest) a w2 := fun hg x ho hx hK => wpList_load_mid hg 58 x ho b 0 hx _ _ hrg Tryz.underlying58 rfl xzjd (by rw [hd8]; exact hK)
       obtain ⟨W9, hsc, hb9, hw9⟩ := xzbb (P := Tryz.prog) hz (new := d8) (by rw [← hd8]; rfl) (by rw [← hd8]; exact reL_all)
       have hs8 : d8.size = 8 := by rw [← hd8]; rfl
       have hl9 : (loadVar 58 ⟨w.heap.size, 0, none⟩).run Tryz.prog W9 = .ok (.agg d8) W9 := by
         rw [← hd8] at hb9; rw [← hd8]; exact load_re hb9
       have HB9 := Lib.hid (hw9.2.1 _ _ (Nat.le_refl _) hbe); have HT := Lib.hid (show lettersT s = ltr8 (b8 s 0 : Nat) by unfold lettersT; rw [if_pos h1]); clear hbk hown hbe hz hat hall hrg h1 HH hb9 hw9
       go_wp2_with (refine hld rfl _ rfl rfl ?_)
       refine ⟨rfl, _, xzab rfl rfl hl9, _, rfl, ?_, HB9.out⟩; rw [HT.out, ← hd8]; exact xzyf
     · have e1 : decide ((s.size : Int) = 1) = false := by simp; omega
       have e1' : ((s.size : Int) == 1) = false := by simp; omega
       obtain ⟨d8, hd8⟩ : ∃ d8, catC (.slice A s.size c) = d8 := ⟨_, rfl⟩
       have hld : ∀ {ops : Array Oper} {rest : List Oper} {op : Oper} {a : Act} {Q : Exit → Act → World → Prop} (_ : op.guard = none) (x : Operand) (_ : op.op = .load 58 x) (_ : a.eval x = .pointer (some ⟨w.heap.size + 1, 0, none⟩)) (_ : wpList Tryz.prog ops Q rest (a.put op.dst (.agg d8)) w2), wpList Tryz.prog ops Q (op :: rest) a w2 := fun hg x ho hx hK => wpList_load_mid hg 58 x ho (w.heap.size + 1) 0 hx _ _ hbk.range Tryz.underlying58 rfl xzjd (by rw [Array.toArray_toList, hd8]; exact hK)
       obtain ⟨W9, hsc, hb9, hw9⟩ := xzbb (P := Tryz.prog) hz (new := d8) (by rw [← hd8]; rfl) (by rw [← hd8]; simp [catC, Value.oneCell'])
       have hs8 : d8.size = 8 := by rw [← hd8]; rfl
       have hl9 : (loadVar 58 ⟨w.heap.size, 0, none⟩).run Tryz.prog W9 = .ok (.agg d8) W9 := by
         have := run_loadVar_mid (P := Tryz.prog) W9 w.heap.size 0 58 d8.toList _ hb9.range Tryz.underlying58 rfl (by rw [xzjd, Array.length_toList, hs8])
         rwa [Array.toArray_toList] at this
       have HB9 := Lib.hid (hw9.2.1 _ _ (Nat.le_refl _) hbe)
       have h9own : W9.ownsRow (w.heap.size + 2) 58 8 (.slice A s.size c) s.size (lts s s.size) := xzav hown fun k hk => hw9.1 k (by have := (World.ownsRow.lt hown k hk).1; omega)
       have HT := Lib.hid (show (lettersT s).At W9 (.agg d8) by
         unfold lettersT; rw [if_neg h1, ← hd8]; obtain ⟨A', c', e, hc', hat'⟩ := yzbe h9own
         injection e with eA _ ec
         subst eA; subst ec; unfold Tree.At; refine ⟨A, c, ?_, by simpa using hc', fun hne => ?_⟩
         · have := yzbb 2 A ((List.range s.size).map fun j => ltr8 (b8 s j : Nat)).length c 0 0
           rw [this]; unfold catC; simp
         · obtain ⟨b, e, _, hall⟩ := hat' (by
             rcases Nat.eq_zero_or_pos s.size with h0 | h0
             · rw [h0] at hne; exact absurd rfl hne
             · exact h0)
           exact ⟨b, 0, e, hall⟩)
       clear hbk hown hbe hz hat h1 HH hb9 hw9 h9own
       go_wp2_with (refine hld rfl _ rfl rfl ?_)
       exact ⟨rfl, _, xzab rfl rfl hl9, _, rfl, HT.out, HB9.out⟩
end

section
open Go.RowKit

theorem xzot {T : Tree} (h : T.mayN = true) : T.ok = true := by
 unfold Tree.mayN at h; simp only [Bool.and_eq_true] at h; exact h.2.2
end

section
open Go.RowKit

def la9 : Tree := ltr8 97
def lab9 : Tree := .node 2 (fun _ => false) [ltr8 97, ltr8 98] 0 0
theorem la9_is : lettersT ⟨#[97]⟩ = la9 := rfl
theorem lab9_is : lettersT ⟨#[97, 98]⟩ = lab9 := rfl
theorem e9_may : la9.mayN = true ∧ lab9.mayN = true := by decide +kernel
theorem e9_once : la9.once = true ∧ lab9.once = true := by decide +kernel
theorem e9_nodes : la9.nodes = 1 ∧ lab9.nodes = 3 := by decide +kernel
theorem e9_sumN : sumN [la9, lab9] = 3 := by decide +kernel
theorem e9_sumP : sumP [la9] = 1 ∧ sumP [la9, lab9] = 3 := by decide +kernel
theorem xzmr : ∀ t ∈ [la9, lab9], t.mayN = true ∧ PartIs t ∧ t.nodes ≤ 1048576 := by
 intro t ht; simp only [List.mem_cons, List.not_mem_nil, or_false] at ht
 rcases ht with rfl | rfl
 · exact ⟨e9_may.1, xzop la9 (xzot e9_may.1) e9_once.1 (by rw [e9_nodes.1]; decide), by rw [e9_nodes.1]; decide⟩
 · exact ⟨e9_may.2, xzop lab9 (xzot e9_may.2) e9_once.2 (by rw [e9_nodes.2]; decide), by rw [e9_nodes.2]; decide⟩
theorem e9_okTs : okTs [la9, lab9] := by
 unfold okTs; refine ⟨yzba la9 (xzot e9_may.1), ?_⟩; unfold okTs; refine ⟨yzba lab9 (xzot e9_may.2), ?_⟩; unfold okTs
 trivial
theorem e9_sums : ∀ j, 0 ≤ sumP ([la9, lab9].take j) ∧ sumP ([la9, lab9].take j) ≤ 2000
 | 0 => by simp [sumP]
 | 1 => by
   show 0 ≤ sumP [la9] ∧ sumP [la9] ≤ 2000
   rw [e9_sumP.1]; decide
 | j + 2 => by
   show 0 ≤ sumP (la9 :: lab9 :: [].take j) ∧ sumP (la9 :: lab9 :: [].take j) ≤ 2000
   rw [List.take_nil, e9_sumP.2]; decide
def N9 : Nf := buildN [la9, lab9]
theorem xzqb (A : Option Addr) (c : Nat) (w : World) (hat : ∃ b o, A = some ⟨b, o, none⟩ ∧ AllAt w [la9, lab9] b o) :
   Calls Tryz.prog 20 #[.slice A 2 c] w fun x w' => ∃ v, x = .returned (.tuple #[v, .int .i64 0]) ∧ NfaAt w' N9 v ∧ Below w.heap.size w w' :=
 xzxe [la9, lab9] (by decide) (by decide) (fun t ht => (xzmr t ht).1) (fun t ht => (xzmr t ht).2.1) e9_okTs (fun t ht => (xzmr t ht).2.2) (by rw [e9_sumN]; decide) e9_sums A c w (fun _ => hat)
theorem N9_small : N9.sets.length = 3 ∧ N9.may = true := by decide +kernel
theorem N9_of : ∀ b, b < 256 → ofN N9 b = if b = 97 then 1 else if b = 98 then 2 else 0 := by decide +kernel
theorem N9_cl : clN N9 = 3 := by decide +kernel
def lb9 (k : Nat) : Nat := if k = 0 then 0 else if k = 1 then 97 else 98
set_option maxRecDepth 20000 in
theorem N9_lb : ∀ k, k < 3 → lbN N9 k = lb9 k := fun k hk => by
 obtain ⟨_, h1, h2, h3⟩ := lbN_is N9 (k := k) (by rw [N9_cl]; exact hk); rw [N9_of _ h1] at h2; unfold lb9
 have hl : ∀ a, a < lbN N9 k → (if a = 97 then 1 else if a = 98 then 2 else 0) ≠ k := fun a ha => by
   have := h3 a ha
   rwa [N9_of a (by omega)] at this
 obtain rfl | rfl | rfl : k = 0 ∨ k = 1 ∨ k = 2 := by omega
 · simp only [if_true]
   rcases Nat.eq_zero_or_pos (lbN N9 0) with e | e
   · exact e
   · exact absurd rfl (hl 0 e)
 · have : lbN N9 1 = 97 := by
     by_cases e : lbN N9 1 = 97
     · exact e
     · rw [if_neg e] at h2
       split at h2 <;> cases h2
   rw [this, if_neg (by decide)]; rfl
 · have : lbN N9 2 = 98 := by
     by_cases e : lbN N9 2 = 97
     · rw [if_pos e] at h2; cases h2
     · rw [if_neg e] at h2
       by_cases e2 : lbN N9 2 = 98
       · exact e2
       · rw [if_neg e2] at h2; cases h2
   rw [this, if_neg (by decide)]; rfl
theorem xztx (N : Nf) {lb lb' : Nat → Nat} (a : Nat) (L : List (List Int)) : ∀ k, (∀ j, j < k → lb j = lb' j) → rowTo N lb a L k = rowTo N lb' a L k
 | 0, _ => rfl
 | k + 1, h => by
   unfold rowTo; rw [xztx N a L k fun j hj => h j (by omega), h k (by omega)]
theorem xzty (N : Nf) {lb lb' : Nat → Nat} (C : Nat) (h : ∀ j, j < C → lb j = lb' j) : ∀ n, subTo N lb C n = subTo N lb' C n
 | 0 => rfl
 | n + 1 => by
   unfold subTo; rw [xzty N C h n]
   cases subTo N lb' C n with
   | none => rfl
   | some p =>
     obtain ⟨L, R⟩ := p; simp only [xztx N n L C h]
theorem N9_sub3 : subTo N9 lb9 3 3 = some ([[], [0, 1], [2]], [[-1, 1, -1], [-1, -1, 2], [-1, -1, -1]]) := by decide +kernel
theorem N9_sub : subZ N9 (lbN N9) (clN N9) = some ([[], [0, 1], [2]], [[-1, 1, -1], [-1, -1, 2], [-1, -1, -1]]) := by
 rw [N9_cl]; refine xznt N9 (lbN N9) 3 3 ?_ (by decide); rw [xzty N9 3 N9_lb]; exact N9_sub3
def D9 : Df := ⟨ofN N9, 3, [[-1, 1, -1], [-1, -1, 2], [-1, -1, -1]], [-1, 0, 1]⟩
theorem N9_tags : tagsL N9 [[], [0, 1], [2]] = [-1, 0, 1] := by decide +kernel
theorem N9_ans : subAns N9 = (D9, 0) := by
 unfold subAns; rw [if_pos N9_small.2, N9_sub]; simp only [N9_tags, N9_cl]
 rfl
theorem D9_may : D9.may = true := by
 have h : mayB (ofN N9) ((3 : Nat) : Int) = true := by rw [← N9_cl]; exact xzqv _
 unfold Df.may; rw [show mayB D9.of D9.n = true from h]
 decide +kernel
theorem D9_runs : D9.run ⟨#[97, 98]⟩ = 2 ∧ D9.run ⟨#[98]⟩ = -1 := by
 unfold Df.run; rw [D9_may]
 decide +kernel
end
end Go.Proofs.YtgngaaemkmdfaaaGreatDoor
