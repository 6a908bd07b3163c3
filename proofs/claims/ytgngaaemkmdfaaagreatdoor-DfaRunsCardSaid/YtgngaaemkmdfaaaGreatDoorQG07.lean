/-
 WHAT May OF PACKAGE class AND OF THE REFERENCE ANSWER, AND THE LAW'S OWN TURNINGS: contracts. Condition: classes are bytes.
-/
import Derived.Maps.AppendAt
import Derived.Test.YtgngaaemkmdfaaaGreatDoorQG06
import Derived.Test.YtgngaaemkmdfaaaGreatDoorQG05
import Derived.Test.YtgngaaemkmdfaaaGreatDoorQG02
namespace Go.Proofs.YtgngaaemkmdfaaaGreatDoor
section
open Go.RowKit

section
variable {ops : Array Oper} {rest : List Oper} {op : Oper} {a : Act} {w : World} {Q : Exit → Act → World → Prop} {g : Nat} {t : TypeId} {f : Nat → Nat} {n : Int} {R : Nat → Nat}
theorem xzgc (hgd : op.guard = none) (x : Operand) (ho : op.op = .load 22 x) (hx : a.eval x = .pointer (some ⟨g, 0, none⟩)) (h : BlkIs w g t (clsC f n))
   (hK : wpList Tryz.prog ops Q rest (a.put op.dst (.agg (ofC f))) w) : wpList Tryz.prog ops Q (op :: rest) a w :=
 wpList_load_mid hgd 22 x ho g 0 hx (ofC f).toList _ (rangeO h) Tryz.underlying22 rfl (by rw [infoO, Array.length_toList, xzcx]) (by rw [Array.toArray_toList]; exact hK)
theorem xzbn (hgd : op.guard = none) (x : Operand) (ho : op.op = .load 31 x) (hx : a.eval x = .pointer (some ⟨g, 0, none⟩)) (h : BlkIs w g t (clsC f n))
   (hK : wpList Tryz.prog ops Q rest (a.put op.dst (.agg (clsC f n))) w) : wpList Tryz.prog ops Q (op :: rest) a w :=
 wpList_load_mid hgd 31 x ho g 0 hx (clsC f n).toList _ h.range Tryz.underlying31 rfl (by rw [infoC, Array.length_toList, xzag]) (by rw [Array.toArray_toList]; exact hK)
theorem xzlm (hgd : op.guard = none) (x : Operand) (ho : op.op = .load 155 x) (hx : a.eval x = .pointer (some ⟨g, 0, none⟩)) (h : BlkIs w g t (rowC R))
   (hK : wpList Tryz.prog ops Q rest (a.put op.dst (.agg (rowC R))) w) : wpList Tryz.prog ops Q (op :: rest) a w :=
 wpList_load_mid hgd 155 x ho g 0 hx (rowC R).toList _ h.range Tryz.underlying155 rfl (by rw [infoW, Array.length_toList, xzcw]) (by rw [Array.toArray_toList]; exact hK)

def Wrote (g : Nat) (w w' : World) : Prop := (∀ k, k ≠ g → w'.heap[k]? = w.heap[k]?) ∧ (∀ B W0, B ≤ g → Below B W0 w → Below B W0 w') ∧ w'.heap.size = w.heap.size
theorem Wrote.blk {w w' : World} {k : Nat} {cs : Array Value} (h : Wrote g w w') (hk : k ≠ g) (hb : BlkIs w k t cs) : BlkIs w' k t cs := (h.1 k hk).trans hb
theorem Wrote.cell (w : World) (g i : Nat) (v : Value) : Wrote g w (w.setCell ⟨g, i, none⟩ v) :=
 ⟨fun k hk => Below.heap_setCell w ⟨g, i, none⟩ v k hk, fun _ _ hB h => h.setCell (p := ⟨g, i, none⟩) hB v, World.size_setCell _ _ _⟩
theorem Wrote.trans {w1 w2 w3 : World} (h : Wrote g w1 w2) (h' : Wrote g w2 w3) : Wrote g w1 w3 :=
 ⟨fun k hk => (h'.1 k hk).trans (h.1 k hk), fun B W0 hB hb => h'.2.1 B W0 hB (h.2.1 B W0 hB hb), h'.2.2.trans h.2.2⟩
theorem Wrote.refl (g : Nat) (w : World) : Wrote g w w := ⟨fun _ _ => rfl, fun _ _ _ h => h, rfl⟩
theorem Wrote.cells (g : Nat) : ∀ (vs : List Value) (o : Nat) (w : World), Wrote g w (w.setCells g o vs)
 | [], _, w => Wrote.refl g w
 | v :: r, o, w => by
   rw [World.setCells]; exact (Wrote.cell w g o v).trans (Wrote.cells g r (o + 1) _)

theorem xzal (hgd : op.guard = none) (ty : TypeId) (x y : Operand) (ho : op.op = .store ty x y) (hx : a.eval x = .pointer (some ⟨g, 0, none⟩)) {cs new : Array Value} (hy : a.eval y = .agg new)
   (h : BlkIs w g t cs) (hs : new.size = cs.size) (hi : (Tryz.prog.info? ty).map (·.size) = some new.size) (h1 : new.all (·.oneCell') = true)
   (hK : ∀ w', BlkIs w' g t new → Wrote g w w' → wpList Tryz.prog ops Q rest (a.put op.dst undef) w') : wpList Tryz.prog ops Q (op :: rest) a w :=
 wpList_store_mid hgd ty x y ho g 0 new hx hy (by rw [hs]; exact h.there) hi h1 (hK _ (h.fill hs) (Wrote.cells g _ 0 w))
end

set_option maxRecDepth 100000 in
set_option maxHeartbeats 1000000 in
theorem xzjv (f : Nat → Nat) (n : Int) (hf : ∀ b, b < 256 → f b < 256) (w : World) :
   Calls Tryz.prog 24 #[.agg (clsC f n)] w fun e w' => e = .returned (.bool (mayB f n)) ∧ Below w.heap.size w w' := by
 have hb := BlkIs.new w 31 (clsC f n); have hn := (hb.cell 256).trans (xzlj f n); have hB := (Below.refl w.heap.size w).alloc (Nat.le_refl _) (.cells (clsC f n) 31); have HB := Lib.hid hb; have HF := Lib.hid hf; have HBe := Lib.hid hB; clear hb hf hB
 go_enter Tryz.func24, Tryz.ntmps24
 go_wp2_with (refine xzgc rfl (.tmp 6) rfl rfl HB.out ?_)
 go_loop [3, 8] (fun a i => ∃ k c : Nat, k ≤ 256 ∧ c ≤ 256 ∧ a = .int .i64 c ∧ i = .int .i64 k ∧ Hid (c = cnt f k ∧ MayTo f k)) (fun _ i => 256 - (intOf i).toNat)
 case atStart => exact ⟨0, 0, by omega, by omega, rfl, rfl, Lib.hid ⟨rfl, fun b h => absurd h (by omega)⟩⟩
 case round =>
   obtain ⟨k, c, hk, hc, rfl, rfl, HH⟩ := hrel
   by_cases hlt : k < 256
   · have hix := idxO f hlt (w.alloc (.cells (clsC f n) 31))
     have hfk := HF.out k hlt
     have hw : IntKind.i64.wrap ((f k : Nat) : Int) = (f k : Nat) := by rw [IntKind.wrap_i64]; omega
     rcases Nat.lt_trichotomy (f k) c with h1 | h1 | h1
     · have d1 : decide (((c : Nat) : Int) < ((f k : Nat) : Int)) = false := decide_eq_false (by omega)
       have d2 : (((f k : Nat) : Int) == ((c : Nat) : Int)) = false := by simp; omega
       have hs := xznl HH.out.2 (by rw [← HH.out.1]; exact h1); have HS := Lib.hid hs; clear hs; go_wp2; exact ⟨⟨k + 1, c, by omega, hc, rfl, by go_num, Lib.hid ⟨by rw [HS.out.2]; exact HH.out.1, HH.out.2.succ HS.out.1⟩⟩, by simp [intOf]; omega⟩
     · have d1 : decide (((c : Nat) : Int) < ((f k : Nat) : Int)) = false := decide_eq_false (by omega)
       have d2 : (((f k : Nat) : Int) == ((c : Nat) : Int)) = true := by simp; omega
       have hs := xznk HH.out.2 (by rw [← HH.out.1]; exact h1); have HS := Lib.hid hs; clear hs; go_wp2; exact ⟨⟨k + 1, c + 1, by omega, by omega, by go_num, by go_num, Lib.hid ⟨by rw [HS.out.2, HH.out.1], HH.out.2.succ HS.out.1⟩⟩, by simp [intOf]; omega⟩
     · have d1 : decide (((c : Nat) : Int) < ((f k : Nat) : Int)) = true := decide_eq_true (by omega)
       have hs := xzqu (n := n) hlt (xzjt (by rw [← HH.out.1]; exact h1)); have HS := Lib.hid hs; clear hs; go_wp2; go_ret; exact ⟨xzij HS.out.symm, HBe.out⟩
   · obtain rfl : k = 256 := by omega
     have hs := xzqt (n := n) HH.out.2; rw [← HH.out.1] at hs; have HS := Lib.hid hs; clear hs; go_wp2; go_ret; refine ⟨xzij ?_, HBe.out⟩; rw [HS.out, Bool.eq_iff_iff]; simp

set_option maxRecDepth 100000 in
set_option maxHeartbeats 1000000 in
theorem xzrd (f : Nat → Nat) (n : Int) (hf : ∀ b, b < 256 → f b < 256) (w : World) :
   Calls Tryz.prog 26 #[.agg (clsC f n)] w fun e w' => e = .returned (.bool (mayB f n)) ∧ Below w.heap.size w w' := by
 have hb := BlkIs.new w 24 (clsC f n); have hn := (hb.cell 256).trans (xzlj f n); have hB := (Below.refl w.heap.size w).alloc (Nat.le_refl _) (.cells (clsC f n) 24); have HB := Lib.hid hb; have HF := Lib.hid hf; have HBe := Lib.hid hB; clear hb hf hB
 go_enter Tryz.func26, Tryz.ntmps26
 go_wp2
 go_loop [3, 4] (fun a i => ∃ k c : Nat, k ≤ 256 ∧ c ≤ 256 ∧ a = .int .i64 c ∧ i = .int .i64 k ∧ Hid (c = cnt f k ∧ MayTo f k)) (fun _ i => 256 - (intOf i).toNat)
 case atStart => exact ⟨0, 0, by omega, by omega, rfl, rfl, Lib.hid ⟨rfl, fun b h => absurd h (by omega)⟩⟩
 case round =>
   obtain ⟨k, c, hk, hc, rfl, rfl, HH⟩ := hrel
   by_cases hlt : k < 256
   · have hix := (HB.out.cell k).trans (xzho f n hlt)
     have hfk := HF.out k hlt
     have hw : IntKind.i64.wrap ((f k : Nat) : Int) = (f k : Nat) := by rw [IntKind.wrap_i64]; omega
     rcases Nat.lt_trichotomy (f k) c with h1 | h1 | h1
     · have d1 : decide (((c : Nat) : Int) < ((f k : Nat) : Int)) = false := decide_eq_false (by omega)
       have d2 : (((f k : Nat) : Int) == ((c : Nat) : Int)) = false := by simp; omega
       have hs := xznl HH.out.2 (by rw [← HH.out.1]; exact h1); have HS := Lib.hid hs; clear hs; go_wp2; exact ⟨⟨k + 1, c, by omega, hc, rfl, by go_num, Lib.hid ⟨by rw [HS.out.2]; exact HH.out.1, HH.out.2.succ HS.out.1⟩⟩, by simp [intOf]; omega⟩
     · have d1 : decide (((c : Nat) : Int) < ((f k : Nat) : Int)) = false := decide_eq_false (by omega)
       have d2 : (((f k : Nat) : Int) == ((c : Nat) : Int)) = true := by simp; omega
       have hs := xznk HH.out.2 (by rw [← HH.out.1]; exact h1); have HS := Lib.hid hs; clear hs; go_wp2; exact ⟨⟨k + 1, c + 1, by omega, by omega, by go_num, by go_num, Lib.hid ⟨by rw [HS.out.2, HH.out.1], HH.out.2.succ HS.out.1⟩⟩, by simp [intOf]; omega⟩
     · have d1 : decide (((c : Nat) : Int) < ((f k : Nat) : Int)) = true := decide_eq_true (by omega)
       have hs := xzqu (n := n) hlt (xzjt (by rw [← HH.out.1]; exact h1)); have HS := Lib.hid hs; clear hs; go_wp2; go_ret; exact ⟨xzij HS.out.symm, HBe.out⟩
   · obtain rfl : k = 256 := by omega
     have hs := xzqt (n := n) HH.out.2; rw [← HH.out.1] at hs; have HS := Lib.hid hs; clear hs; go_wp2; go_ret; refine ⟨xzij ?_, HBe.out⟩; rw [HS.out, Bool.eq_iff_iff]; simp

end

section
open Go.RowKit

def rowP (f : Nat → Bool) (k : Nat) : Value := .int .u64 (wd f k : Nat)
def BlkF (W : World) (g : Nat) (t : TypeId) (N : Nat) (F : Nat → Value) : Prop := BlkIs W g t (cellsN N F)
def HasRow (N : Nat) (F : Nat → Value) (o : Nat) (f : Nat → Bool) : Prop := o + 32 ≤ N ∧ ∀ k, k < 32 → F (o + k) = rowP f k
def putV (F : Nat → Value) (i : Nat) (v : Value) : Nat → Value := fun j => if j = i then v else F j
theorem BlkF.cell {W : World} {g : Nat} {t : TypeId} {N : Nat} {F : Nat → Value} (h : BlkF W g t N F) {i : Nat} (hi : i < N) : W.cell? ⟨g, i, none⟩ = some (F i) := by
 rw [BlkIs.cell h, xzbq _ hi]
theorem BlkF.put {W : World} {g : Nat} {t : TypeId} {N : Nat} {F : Nat → Value} (h : BlkF W g t N F) (i : Nat) (v : Value) : BlkF (W.setCell ⟨g, i, none⟩ v) g t N (putV F i v) := by
 have := BlkIs.put h i v; rw [xzeg] at this; exact this
def plus (f : Nat → Bool) (p : Nat) : Nat → Bool := fun q => f q || decide (q = p)
theorem xzhq (f : Nat → Bool) {p k : Nat} (h : k ≠ p / 64) : wd (plus f p) k = wd f k := by
 apply xzbh
 intro j hj; unfold plus; have : decide (64 * k + j = p) = false := decide_eq_false (by omega); rw [this, Bool.or_false]
theorem Wrote.drew {g : Nat} {w w' : World} (h : Wrote g w w') : Wrote g w w'.drew := ⟨h.1, fun B W0 hB hb => (h.2.1 B W0 hB hb).drew, h.2.2⟩
def RowAt (W : World) (g o : Nat) (f : Nat → Bool) : Prop := ∀ k, k < 32 → W.cell? ⟨g, o + k, none⟩ = some (rowP f k)
def rowA (f : Nat → Bool) : Array Value := cellsN 32 (rowP f)
theorem xzau (f : Nat → Bool) : (rowA f).size = 32 := xzax _ _
theorem xzeq (f : Nat → Bool) {k : Nat} (h : k < 32) : (rowA f)[k]? = some (rowP f k) := xzbq _ h
theorem xzer (f : Nat → Bool) : (rowA f).all (·.oneCell') = true := xzdm fun _ => rfl
theorem xzjw {f f' : Nat → Bool} (h : ∀ p, p < 2048 → f p = f' p) : rowA f = rowA f' := xzak fun i hi => by
 unfold rowP; rw [xzbh fun j hj => h _ (by omega)]
theorem infoRw : (Tryz.prog.info? 83).map (·.size) = some 32 := by kernel_rfl
theorem infoWs : (Tryz.prog.info? 81).map (·.size) = some 32 := by kernel_rfl
theorem RowAt.range {W : World} {g o : Nat} {f : Nat → Bool} (h : RowAt W g o f) : W.rangeAt g o (rowA f).toList := fun j v hv => by
 have hj : j < 32 := by have := (List.getElem?_eq_some_iff.1 hv).1; rw [Array.length_toList, xzau] at this; exact this
 rw [h j hj]; rw [Array.getElem?_toList, xzeq f hj] at hv; exact hv
theorem BlkF.row {W : World} {g : Nat} {t : TypeId} {N o : Nat} {F : Nat → Value} {f : Nat → Bool} (h : BlkF W g t N F) (hr : HasRow N F o f) : RowAt W g o f := fun k hk => by
 rw [h.cell (by have := hr.1; omega), hr.2 k hk]
theorem RowAt.heap {W W' : World} {g o : Nat} {f : Nat → Bool} (h : RowAt W g o f) (e : W'.heap[g]? = W.heap[g]?) : RowAt W' g o f := fun k hk => by
 rw [← h k hk]; unfold World.cell?; simp only [e]
theorem RowAt.step {W W' : World} {g o : Nat} {f : Nat → Bool} (h : RowAt W g o f) (hb : Below W.heap.size W W') : RowAt W' g o f := fun k hk => by
 have hlt : g < W.heap.size := World.block_lt_of_cell? W ⟨g, o + k, none⟩ (h k hk); exact (hb.cell (p := ⟨g, o + k, none⟩) hlt).trans (h k hk)
section
variable {ops : Array Oper} {rest : List Oper} {op : Oper} {a : Act} {w : World} {Q : Exit → Act → World → Prop} {g o : Nat} {f : Nat → Bool}
theorem xzdo (hgd : op.guard = none) (x : Operand) (ho : op.op = .load 81 x) (hx : a.eval x = .pointer (some ⟨g, o, none⟩)) (h : RowAt w g o f)
   (hK : wpList Tryz.prog ops Q rest (a.put op.dst (.agg (rowA f))) w) : wpList Tryz.prog ops Q (op :: rest) a w :=
 wpList_load_mid hgd 81 x ho g o hx (rowA f).toList _ h.range Tryz.underlying81 rfl (by rw [infoWs, Array.length_toList, xzau]) (by rw [Array.toArray_toList]; exact hK)
theorem xzbu (hgd : op.guard = none) (x : Operand) (ho : op.op = .load 83 x) (hx : a.eval x = .pointer (some ⟨g, o, none⟩)) (h : RowAt w g o f)
   (hK : wpList Tryz.prog ops Q rest (a.put op.dst (.agg (rowA f))) w) : wpList Tryz.prog ops Q (op :: rest) a w :=
 wpList_load_mid hgd 83 x ho g o hx (rowA f).toList _ h.range Tryz.underlying83 rfl (by rw [infoRw, Array.length_toList, xzau]) (by rw [Array.toArray_toList]; exact hK)
theorem loadRw (h : RowAt w g o f) : (Instr.loadAt 83 (.pointer (some ⟨g, o, none⟩))).run Tryz.prog w = .ok (.agg (rowA f)) w := by
 have := run_loadAt_mid (P := Tryz.prog) w g o 83 (rowA f).toList _ h.range Tryz.underlying83 rfl (by rw [infoRw, Array.length_toList, xzau]); rw [this]
theorem loadVarRw (h : RowAt w g o f) : (loadVar 83 ⟨g, o, none⟩).run Tryz.prog w = .ok (.agg (rowA f)) w := by
 have := run_loadVar_mid (P := Tryz.prog) w g o 83 (rowA f).toList _ h.range Tryz.underlying83 rfl (by rw [infoRw, Array.length_toList, xzau]); rw [this]
end
theorem part59 {xs : Array Value} {off : Nat} {v : Value} (hx : xs[off]? = some v) (w : World) : (part 53 xs off).run Tryz.prog w = .ok v w := run_part_plain w (by kernel_rfl) hx
theorem idxRw (f : Nat → Bool) {k : Nat} (hk : k < 32) (w : World) : (Instr.index 81 (.agg (rowA f)) (.int .i64 k)).run Tryz.prog w = .ok (rowP f k) w := by
 have hs : (sizeOf 53).run Tryz.prog w = .ok 1 w := by kernel_rfl
 have hp := part59 (xzeq f hk) w
 simp [Instr.index, run_underlying Tryz.underlying81, asIntOf, hs, hp, hk]

set_option maxRecDepth 20000 in
set_option maxHeartbeats 2000000 in
theorem xzgd (g o N : Nat) (t : TypeId) (F : Nat → Value) (f : Nat → Bool) (p : Nat) (w : World) (hb : BlkF w g t N F) (hr : HasRow N F o f) (hp : p < 2048) :
   Calls Tryz.prog 70 #[.pointer (some ⟨g, o, none⟩), .int .i64 p] w fun e w' => e = .returned (.tuple #[]) ∧ BlkF w' g t N (putV F (o + p / 64) (rowP (plus f p) (p / 64))) ∧ Wrote g w w' := by
 have hc := hb.cell (i := o + p / 64) (by have := hr.1; omega); rw [hr.2 (p / 64) (by omega)] at hc; unfold rowP at hc; have hfz := BlkIs.frozen hb (o + p / 64)
 go_enter Tryz.func70, Tryz.ntmps70
 go_wp2_with fail
 go_region
 go_wp2; rw [xzpb (m := f) (m' := plus f p) (x := p) (i := p / 64) (fun b => rfl) rfl]
 go_end0
 exact ⟨rfl, (BlkF.put hb _ _), Wrote.drew (Wrote.cell w g _ _)⟩
theorem and_bit (f : Nat → Bool) (p : Nat) : (wd f (p / 64) >>> (p % 64)) % 2 = (if f p then 1 else 0) := by
 have h := xzaw f (p / 64) (p % 64); rw [show 64 * (p / 64) + p % 64 = p by omega, decide_eq_true (show p % 64 < 64 by omega), Bool.true_and] at h; rw [Nat.testBit, Nat.one_and_eq_mod_two] at h
 cases hf : f p
 · rw [hf] at h; simp only [bne_eq_false_iff_eq] at h; rw [h]; rfl
 · rw [hf] at h; simp only [bne_iff_ne, ne_eq] at h
   simp only [if_true]; omega
theorem xzzd (f : Nat → Bool) (p : Nat) : (bits .and .u64 (((wd f (p / 64) : Nat) : Int) / 2 ^ (p % 64)) 1 == 1) = f p := by
 have e : (((wd f (p / 64) : Nat) : Int) / 2 ^ (p % 64)) = ((wd f (p / 64) >>> (p % 64) : Nat) : Int) := by
   rw [Nat.shiftRight_eq_div_pow, Int.natCast_ediv, Int.natCast_pow]; rfl
 have hl := xzhj f (p / 64)
 have hle : wd f (p / 64) >>> (p % 64) < 18446744073709551616 := by
   rw [Nat.shiftRight_eq_div_pow]; exact Nat.lt_of_le_of_lt (Nat.div_le_self _ _) hl
 have h := u64_and_nat (wd f (p / 64) >>> (p % 64)) 1 hle (by decide); rw [e, show (1 : Int) = ((1 : Nat) : Int) from rfl, h, Nat.and_one_is_mod, and_bit]
 cases f p <;> rfl
set_option maxRecDepth 20000 in
set_option maxHeartbeats 2000000 in
theorem xzge (g o : Nat) (f : Nat → Bool) (p : Nat) (w : World) (hr : RowAt w g o f) (hp : p < 2048) :
   Calls Tryz.prog 74 #[.pointer (some ⟨g, o, none⟩), .int .i64 p] w fun e w' => e = .returned (.bool (f p)) ∧ w' = w := by
 have hc := hr (p / 64) (by omega); unfold rowP at hc; clear hr
 go_enter Tryz.func74, Tryz.ntmps74
 go_wp2; rw [xzzd]; go_ret; exact ⟨rfl, rfl⟩
def joinF (F : Nat → Value) (o : Nat) (f : Nat → Bool) (k : Nat) : Nat → Value := fun i => if o ≤ i ∧ i < o + k then rowP f (i - o) else F i
theorem xzuv (F : Nat → Value) (o : Nat) (f : Nat → Bool) (k : Nat) : putV (joinF F o f k) (o + k) (rowP f k) = joinF F o f (k + 1) := by
 funext i; unfold putV joinF
 by_cases h : i = o + k
 · subst h; rw [if_pos rfl, if_pos (by omega), show o + k - o = k by omega]
 · rw [if_neg h]
   by_cases h2 : o ≤ i ∧ i < o + k
   · rw [if_pos h2, if_pos (by omega)]
   · rw [if_neg h2, if_neg (by omega)]
theorem xzre (F : Nat → Value) (o : Nat) (f : Nat → Bool) : joinF F o f 0 = F := by
 funext i; unfold joinF; rw [if_neg (by omega)]
theorem xzze (F : Nat → Value) (o : Nat) (f : Nat → Bool) (k : Nat) : joinF F o f k (o + k) = F (o + k) := by
 unfold joinF; rw [if_neg (by omega)]
set_option maxRecDepth 20000 in
set_option maxHeartbeats 2000000 in
theorem xzpc (g o N : Nat) (t : TypeId) (F : Nat → Value) (f f2 : Nat → Bool) (g2 o2 : Nat) (w : World) (hb : BlkF w g t N F) (hr : HasRow N F o f) (h2 : RowAt w g2 o2 f2) :
   Calls Tryz.prog 75 #[.pointer (some ⟨g, o, none⟩), .pointer (some ⟨g2, o2, none⟩)] w fun e w' => e = .returned (.tuple #[]) ∧ BlkF w' g t N (joinF F o (sOr f f2) 32) ∧ Wrote g w w' := by
 have HR2 := Lib.hid h2; have HB := Lib.hid (And.intro hb hr); clear hb hr h2
 go_enter Tryz.func75, Tryz.ntmps75
 go_wp2_with (refine xzdo rfl _ rfl rfl HR2.out ?_)
 go_loopw [4, 5, 10] (fun _ _ i wr => ∃ k : Nat, i = .int .i64 k ∧ k ≤ 32 ∧ Hid (BlkF wr g t N (joinF F o (sOr f f2) k) ∧ Wrote g w wr)) (fun _ _ i _ => 32 - (intOf i).toNat)
 case atStart => exact ⟨0, rfl, by decide, Lib.hid ⟨by rw [xzre]; exact HB.out.1, Wrote.refl g w⟩⟩
 case round =>
   obtain ⟨k, rfl, hk, HH⟩ := hrel
   by_cases hp : k < 32
   · have hk1 : IntKind.i64.wrap ((k : Int) + 1) = ((k + 1 : Nat) : Int) := by rw [IntKind.wrap_i64]; omega
     have hdl : decide ((k : Int) < 32) = true := by simp; omega
     have hix := fun u => idxRw f2 hp u
     have hc := BlkF.cell HH.out.1 (i := o + k) (by have := HB.out.2.1; omega); rw [xzze, HB.out.2.2 k hp] at hc; have hfz := BlkIs.frozen HH.out.1 (o + k); unfold rowP at hc hix; have hor := xzjm f f2 k
     go_wp2_with fail
     go_region
     have HN := Lib.hid (show BlkF (wr.setCell ⟨g, o + k, none⟩ (.int .u64 (wd (sOr f f2) k : Nat))).drew g t N (joinF F o (sOr f f2) (k + 1)) ∧ Wrote g w (wr.setCell ⟨g, o + k, none⟩ (.int .u64 (wd (sOr f f2) k : Nat))).drew from ⟨by rw [← xzuv]; exact HH.out.1.put _ _, HH.out.2.trans (Wrote.drew (Wrote.cell _ _ _ _))⟩); go_wp2; exact ⟨⟨k + 1, rfl, by omega, HN⟩, by simp [intOf]; omega⟩
   · have hdl : decide ((k : Int) < 32) = false := by simp; omega
     obtain rfl : k = 32 := by omega
     go_wp2
     go_end0
     exact ⟨rfl, HH.out⟩
end

section
open Go.RowKit

structure MkV where
 of : Nat → Nat
 n : Nat
 next : Value
 tag : Value
 v0 : Value
 v1 : Value
 v2 : Value
 v3 : Value
 v4 : Value
 em : Int
 fol : Value
 tak : Value
 sts : Value
 nums : Value
 reach : Nat → Bool
def mkF (D : MkV) (i : Nat) : Value :=
 if i < 256 then .int .u8 (D.of i) else
 if i = 256 then .int .i64 (D.n : Nat) else
 if i = 257 then D.next else
 if i = 258 then D.tag else
 if i = 259 then D.v0 else
 if i = 260 then D.v1 else
 if i = 261 then D.v2 else
 if i = 262 then D.v3 else
 if i = 263 then D.v4 else
 if i = 264 then .int .i64 D.em else
 if i = 265 then D.fol else
 if i = 266 then D.tak else
 if i = 267 then D.sts else
 if i = 268 then D.nums else rowP D.reach (i - 269)
theorem xzzf (D : MkV) : HasRow 301 (mkF D) 269 D.reach := by
 refine ⟨by decide, fun k hk => ?_⟩; unfold mkF
 repeat rw [if_neg (by omega)]
 rw [show 269 + k - 269 = k by omega]
theorem put_nx (D : MkV) (v : Value) : putV (mkF D) 257 v = mkF { D with next := v } := by
 funext i; unfold putV; by_cases h : i = 257
 · subst h; rfl
 · rw [if_neg h]; unfold mkF; simp only [if_neg h]
theorem put_tg (D : MkV) (v : Value) : putV (mkF D) 258 v = mkF { D with tag := v } := by
 funext i; unfold putV; by_cases h : i = 258
 · subst h; rfl
 · rw [if_neg h]; unfold mkF; simp only [if_neg h]
theorem put_fo (D : MkV) (v : Value) : putV (mkF D) 265 v = mkF { D with fol := v } := by
 funext i; unfold putV; by_cases h : i = 265
 · subst h; rfl
 · rw [if_neg h]; unfold mkF; simp only [if_neg h]
theorem put_ta (D : MkV) (v : Value) : putV (mkF D) 266 v = mkF { D with tak := v } := by
 funext i; unfold putV; by_cases h : i = 266
 · subst h; rfl
 · rw [if_neg h]; unfold mkF; simp only [if_neg h]
theorem put_st (D : MkV) (v : Value) : putV (mkF D) 267 v = mkF { D with sts := v } := by
 funext i; unfold putV; by_cases h : i = 267
 · subst h; rfl
 · rw [if_neg h]; unfold mkF; simp only [if_neg h]
theorem xzuw (D : MkV) (p : Nat) (hp : p < 2048) : putV (mkF D) (269 + p / 64) (rowP (plus D.reach p) (p / 64)) = mkF { D with reach := plus D.reach p } := by
 funext i; unfold putV; by_cases h : i = 269 + p / 64
 · subst h
   rw [if_pos rfl]; unfold mkF
   repeat rw [if_neg (by omega)]
   rw [show 269 + p / 64 - 269 = p / 64 by omega]
 · rw [if_neg h]; unfold mkF
   by_cases h2 : i < 269
   · have : i < 256 ∨ i = 256 ∨ i = 257 ∨ i = 258 ∨ i = 259 ∨ i = 260 ∨ i = 261 ∨ i = 262 ∨ i = 263 ∨ i = 264 ∨ i = 265 ∨ i = 266 ∨ i = 267 ∨ i = 268 := by omega
     rcases this with h | rfl | rfl | rfl | rfl | rfl | rfl | rfl | rfl | rfl | rfl | rfl | rfl | rfl
     · simp only [if_pos h]
     all_goals rfl
   · repeat rw [if_neg (by omega)]
     unfold rowP; rw [xzhq _ (by omega)]
theorem xzap {W : World} {g : Nat} {t : TypeId} {D : MkV} (h : BlkF W g t 301 (mkF D)) :
   W.cell? ⟨g, 256, none⟩ = some (.int .i64 (D.n : Nat)) ∧ W.cell? ⟨g, 257, none⟩ = some D.next ∧ W.cell? ⟨g, 258, none⟩ = some D.tag ∧
   W.cell? ⟨g, 259, none⟩ = some D.v0 ∧ W.cell? ⟨g, 260, none⟩ = some D.v1 ∧ W.cell? ⟨g, 261, none⟩ = some D.v2 ∧ W.cell? ⟨g, 262, none⟩ = some D.v3 ∧ W.cell? ⟨g, 263, none⟩ = some D.v4 ∧ W.cell? ⟨g, 264, none⟩ = some (.int .i64 D.em) ∧
   W.cell? ⟨g, 265, none⟩ = some D.fol ∧ W.cell? ⟨g, 266, none⟩ = some D.tak ∧ W.cell? ⟨g, 267, none⟩ = some D.sts ∧ W.cell? ⟨g, 268, none⟩ = some D.nums :=
 ⟨h.cell (by decide), h.cell (by decide), h.cell (by decide), h.cell (by decide), h.cell (by decide), h.cell (by decide), h.cell (by decide), h.cell (by decide), h.cell (by decide), h.cell (by decide), h.cell (by decide), h.cell (by decide), h.cell (by decide)⟩
end

section
open Go.RowKit

attribute [local irreducible] FreeW

def Nf.ruleAt (N : Nf) (p : Int) : Int := N.rules.getD p.toNat 0
def Nf.endAt (N : Nf) (p : Int) : Bool := N.ends.getD p.toNat false
def tagStep (N : Nf) (least p : Int) : Int := if N.endAt p && (decide (least < 0) || decide (N.ruleAt p < least)) then N.ruleAt p else least
end

section
open Go.RowKit

attribute [local irreducible] FreeW

theorem xzat {W W' : World} {B : Nat} {t : TypeId} {z n : Nat} {v : Value} {xs : List Value} (h : W.ownsRow B t z v n xs) (hk : ∀ k, v.ownBlock = some k → W'.heap[k]? = W.heap[k]?) : W'.ownsRow B t z v n xs := by
 refine ⟨h.1, h.2.imp id ?_⟩; rintro ⟨g, cap, cur, rfl, h1, h2, h3⟩; exact ⟨g, cap, cur, rfl, h1, (hk g rfl).trans h2, h3⟩
def RowI (B : Nat) (W : World) (v : Value) (l : List Int) : Prop := W.ownsRow B 3 1 v l.length (l.map (Value.int .i64))
theorem RowI.nil (B : Nat) (W : World) : RowI B W (.slice none 0 0) [] := World.ownsRow_nil _ _ _ _
theorem RowI.step {B : Nat} {W W' : World} {v : Value} {l : List Int} (h : RowI B W v l) (hb : Below W.heap.size W W') : RowI B W' v l := xzat h fun k hk => hb.block k (World.ownsRow.lt h k hk).2
theorem RowI.ints {B : Nat} {W : World} {v : Value} {l : List Int} (h : RowI B W v l) : IntsV W l v := by
 rcases h.2 with ⟨rfl, h1⟩ | ⟨g, cap, cur, rfl, h2, h3, h4, h5, h6, h7⟩
 · obtain rfl := List.eq_nil_of_length_eq_zero h1
   exact IntsV.nil W
 · refine ⟨_, cap, rfl, ⟨h4, by unfold maxLen at h5; omega⟩, fun _ => ⟨g, 0, rfl, (Array.getElem?_eq_some_iff.1 h3).1, fun i hi => ?_⟩⟩
   have := World.ownsRow.cells h (g := g) rfl i (.int .i64 l[i]) (by simp [hi])
   rwa [Addr.add_lit] at this
theorem xzcy : (Tryz.prog.info? 3).map (fun i => (i.zero, i.size, i.bytes)) = some (some (.int .i64 0), 1, 8) := by kernel_rfl
theorem RowI.push {B : Nat} {W : World} {v : Value} {l : List Int} (h : RowI B W v l) (hB : B ≤ W.heap.size) (p : Int) (hl : l.length + 1 ≤ 1099511627776) :
   ∃ v' W', (Builtin.append_ #[26, 26] 26 #[v, .slice (some ⟨W.heap.size, 0, none⟩) 1 1]).run Tryz.prog (W.alloc (.cells #[.int .i64 p] 3)) = .ok v' W' ∧ RowI B W' v' (l ++ [p]) ∧ Below B W W' := by
 obtain ⟨i0, hi0, hz0, hz1, hz2⟩ := info_parts xzcy; have hUB : Below W.heap.size W (W.alloc (.cells #[.int .i64 p] 3)) := (Below.refl _ _).alloc (Nat.le_refl _) _; have h1 := h.step hUB; have hnew := BlkIs.new W 3 #[.int .i64 p]
 obtain ⟨v', W', hr, hown, hgr, _, _⟩ := run_append_own_at (P := Tryz.prog) (w := W.alloc (.cells #[.int .i64 p] 3)) B 26 26 3 i0 (.int .i64 0) 1 8 Tryz.underlying26 hi0 hz0 hz1 hz2 rfl (by decide) v l.length _ h1
   ⟨W.heap.size, 0, none⟩ 1 1 [.int .i64 p] rfl (fun j u hu => by
     rw [Addr.add_lit, Nat.zero_add]; have := hnew.range j u (by simpa using hu)
     simpa using this) (by simp [Value.oneCell']) (by unfold maxLen; omega) (by omega) (by have := hUB.size; omega)
 refine ⟨v', W', hr, ?_, (hUB.mono hB).grown hgr (by have := hUB.size; omega) (fun q hq => (World.ownsRow.lt h1 q hq).1)⟩; unfold RowI; rw [List.map_append, List.length_append]; exact hown
theorem xzux {P : Program} {op : Oper} {a : Act} {w : World} {K : Act → World → Prop} {Q : Exit → Act → World → Prop} (s x : Operand) (t t2 : TypeId) (hop : op.op = Op.call { callee := Callee.builtin Builtin.append, args := #[s, x], argTypes := #[t, t2] }) {v xv v' : Value} {w' : World} (hs : a.eval s = v) (hx : a.eval x = xv)
   (hrun : (Builtin.append_ #[t, t2] op.type #[v, xv]).run P w = .ok v' w') (h : K (a.put op.dst v') w') : op.wp P a w K Q := by
 unfold Oper.wp execOp; simp only [hop, resolve, invoke, builtin, Sem.run_bind, Sem.run_pure, Result.andThen_ok, List.map_toArray, List.map_cons, List.map_nil, hs, hx, hrun]; exact h

section
variable {P : Program} {op : Oper} {ops : Array Oper} {rest : List Oper} {a : Act} {w : World} {Q : Exit → Act → World → Prop}
theorem xzaj (hg : op.guard = none) (s x : Operand) (t t2 : TypeId) (hop : op.op = Op.call { callee := Callee.builtin Builtin.append, args := #[s, x], argTypes := #[t, t2] }) {v xv v' : Value} {w' : World} (hs : a.eval s = v) (hx : a.eval x = xv)
   (hrun : (Builtin.append_ #[t, t2] op.type #[v, xv]).run P w = .ok v' w') (h : wpList P ops Q rest (a.put op.dst v') w') : wpList P ops Q (op :: rest) a w :=
 wpList_plain hg fun _ hK => xzux s x t t2 hop hs hx hrun (hK _ _ h)
end

def Nf.setAt (N : Nf) (p : Int) : Nat → Bool := N.sets.getD p.toNat fun _ => false
end

section
open Go.RowKit

attribute [local irreducible] FreeW

set_option maxRecDepth 20000 in
set_option maxHeartbeats 2000000 in
theorem xzln (l r : List Int) (v v' : Value) (w : World) (hl : IntsV w l v) (hr : IntsV w r v') : Calls Tryz.prog 23 #[v, v'] w fun e w' => e = .returned (.bool (decide (l = r))) ∧ Below w.heap.size w w' := by
 obtain ⟨A, c, rfl, hc, hs⟩ := hl; obtain ⟨A', c', rfl, hc', hs'⟩ := hr; have HS := Lib.hid hs; have HS' := Lib.hid hs'; clear hs hs'
 by_cases hlen : l.length = r.length
 case neg =>
   have e0 : ((l.length : Int) != (r.length : Int)) = true := by simp; omega
   have HF := Lib.hid (show decide (l = r) = false by simp; intro e; exact hlen (by rw [e])); clear hlen
   go_enter Tryz.func23, Tryz.ntmps23
   go_wp2; go_ret; exact ⟨by rw [HF.out]; rfl, Below.refl _ _⟩
 have e0 : ((l.length : Int) != (r.length : Int)) = false := by simp; omega
 have HL := Lib.hid hlen; obtain ⟨R, hR⟩ : ∃ R, R = decide (l = r) := ⟨_, rfl⟩; rw [← hR]; have HR := Lib.hid hR; clear hlen hR
 go_enter Tryz.func23, Tryz.ntmps23
 go_wp2
 go_loopw [5] (fun i wr => ∃ j : Nat, i = .int .i64 j ∧ j ≤ l.length ∧ Hid (Below w.heap.size w wr ∧ l.take j = r.take j)) (fun i _ => l.length - (intOf i).toNat)
 case atStart => exact ⟨0, rfl, Nat.zero_le _, Lib.hid ⟨Below.refl _ _, rfl⟩⟩
 case round =>
   obtain ⟨j, rfl, hj, HH⟩ := hrel
   by_cases hp : j < l.length
   · have hk1 : IntKind.i64.wrap ((j : Int) + 1) = ((j + 1 : Nat) : Int) := by rw [IntKind.wrap_i64]; omega
     have hdl : decide ((j : Int) < (l.length : Int)) = true := by simp; omega
     have hp' : j < r.length := by rw [← HL.out]; exact hp
     have hi1 : (j : Int) < (l.length : Int) := by omega
     have hi2 : (j : Int) < (r.length : Int) := by omega
     obtain ⟨b, o, rfl, hlt, hg⟩ := HS.out (by intro e; rw [e] at hp; simp at hp); obtain ⟨b', o', rfl, hlt', hg'⟩ := HS'.out (by intro e; rw [e] at hp'; simp at hp'); have HX := Lib.hid (fun (u : World) (hu : Below w.heap.size w u) => (hu.cell (p := ⟨b, o + j, none⟩) hlt).trans (hg j hp)); have HY := Lib.hid (fun (u : World) (hu : Below w.heap.size w u) => (hu.cell (p := ⟨b', o' + j, none⟩) hlt').trans (hg' j hp')); have ht1 := List.take_succ_eq_append_getElem hp; have ht2 := List.take_succ_eq_append_getElem hp'
     have hne : l[j] ≠ r[j] → l ≠ r := fun h e => h (by subst e; rfl)
     clear hg hg'; generalize l[j] = x at *; generalize r[j] = y at *; have HT := Lib.hid (And.intro ht1 (And.intro ht2 hne)); clear ht1 ht2 hne hp'
     by_cases hxy : x = y
     · have e1 : (x != y) = false := by simp [hxy]
       have HN := Lib.hid (show l.take (j + 1) = r.take (j + 1) by rw [HT.out.1, HT.out.2.1, HH.out.2, hxy]); clear hxy
       go_wp2_with fail
       refine xzcl 26 (fun u => Hid (Below w.heap.size w u)) (by kernel_rfl) (by kernel_rfl) rfl (Lib.hid HH.out.1.drew) (fun u u' h hb => Lib.hid (h.out.trans (hb.mono h.out.size))) ?_
       repeat
         refine xzfv fun K hK => ?_
         (first
           | skip)
         go_simp
         apply Exists.intro
         refine ⟨fun u h1 => ?_, hK _ ?_⟩
         · have y0 := HX.out u h1.out
           have y1 := HY.out u h1.out; unfold freeAt; go_simp
           first
             | exact xzli
             | (apply xzil
                first
                  | fail
                )
         clear hK K
       refine xzim ?_; intro u hC hb2; have HC := Lib.hid hC.out; clear hC hb2; go_wp2; exact ⟨⟨j + 1, rfl, hp, Lib.hid ⟨HC.out, HN.out⟩⟩, by simp [intOf]; omega⟩
     · have e1 : (x != y) = true := by simp [hxy]
       have HN := Lib.hid (show R = false by rw [HR.out]; simp; exact HT.out.2.2 hxy); clear hxy
       go_wp2_with fail
       refine xzcl 26 (fun u => Hid (Below w.heap.size w u)) (by kernel_rfl) (by kernel_rfl) rfl (Lib.hid HH.out.1.drew) (fun u u' h hb => Lib.hid (h.out.trans (hb.mono h.out.size))) ?_
       repeat
         refine xzfv fun K hK => ?_
         (first
           | skip)
         go_simp
         apply Exists.intro
         refine ⟨fun u h1 => ?_, hK _ ?_⟩
         · have y0 := HX.out u h1.out
           have y1 := HY.out u h1.out; unfold freeAt; go_simp
           first
             | exact xzli
             | (apply xzil
                first
                  | fail
                )
         clear hK K
       refine xzim ?_; intro u hC hb2; have HC := Lib.hid hC.out; clear hC hb2; go_wp2; go_ret; exact ⟨by rw [HN.out]; rfl, HC.out⟩
   · have hdl : decide ((j : Int) < (l.length : Int)) = false := by simp; omega
     have HN := Lib.hid (show R = true by
       have := HH.out.2; rw [List.take_of_length_le (by omega), List.take_of_length_le (by rw [← HL.out]; omega)] at this
       rw [HR.out, this]; simp)
     go_wp2; go_ret; exact ⟨by rw [HN.out]; rfl, HH.out.1⟩

end
end Go.Proofs.YtgngaaemkmdfaaaGreatDoor
