/-
 PARTITIONS AND ROWS AS VALUES: how they are loaded, indexed, compared, built; keys of a map. No condition but those of each theorem.
-/
import Derived.Maps.OwnSet
import Derived.DeepKeys4
import Derived.Deep.RegionHeld3
import Derived.Maps.AppendAt
import Derived.OwnWalkIn
import Derived.Test.YtgngaaemkmdfaaaGreatDoorQG02
import Derived.Test.YtgngaaemkmdfaaaGreatDoorQG05
import Derived.Test.YtgngaaemkmdfaaaGreatDoorQG03
import Derived.Test.YtgngaaemkmdfaaaGreatDoorQG04
namespace Go.Proofs.YtgngaaemkmdfaaaGreatDoor
section
open Go.RowKit

def ofC (f : Nat → Nat) : Array Value := cellsN 256 fun i => .int .u8 (f i)
def rowC (R : Nat → Nat) : Array Value := cellsN 512 fun i => .int .u64 (R i)
theorem xzga (f : Nat → Nat) {i : Nat} (h : i < 256) : (ofC f)[i]? = some (.int .u8 (f i)) := xzbq _ h
theorem xzis (R : Nat → Nat) {i : Nat} (h : i < 512) : (rowC R)[i]? = some (.int .u64 (R i)) := xzbq _ h
theorem xzcw (R : Nat → Nat) : (rowC R).size = 512 := xzax _ _
theorem xzcx (f : Nat → Nat) : (ofC f).size = 256 := xzax _ _
theorem xzyz (R : Nat → Nat) : (rowC R).all (·.oneCell') = true := xzdm fun _ => rfl
theorem xzcq {R R' : Nat → Nat} (h : ∀ i, i < 512 → R i = R' i) : rowC R = rowC R' := xzak fun i hi => by rw [h i hi]
theorem xzqw (R : Nat → Nat) (i v : Nat) : (rowC R).setIfInBounds i (.int .u64 v) = rowC (updN R i v) := by
 unfold rowC; rw [xzeg]
 refine xzak fun j _ => ?_
 unfold updN
 by_cases e : j = i <;> simp [e]

theorem infoC : (Tryz.prog.info? 31).map (·.size) = some 257 := by kernel_rfl
theorem infoR : (Tryz.prog.info? 24).map (·.size) = some 257 := by kernel_rfl
theorem infoO : (Tryz.prog.info? 22).map (·.size) = some 256 := by kernel_rfl
theorem infoW : (Tryz.prog.info? 155).map (·.size) = some 512 := by kernel_rfl
theorem zeroC (w : World) : (zeroValue 31).run Tryz.prog w = .ok (.agg (clsC (fun _ => 0) 0)) w :=
 (zero_of_info (P := Tryz.prog) (t := 31) (v := .agg (clsC (fun _ => 0) 0)) (n := 257) (by kernel_rfl)).1 w
theorem zeroW (w : World) : (zeroValue 155).run Tryz.prog w = .ok (.agg (rowC fun _ => 0)) w :=
 (zero_of_info (P := Tryz.prog) (t := 155) (v := .agg (rowC fun _ => 0)) (n := 512) (by kernel_rfl)).1 w

section
variable {w : World} {g : Nat} {t : TypeId} {f : Nat → Nat} {n : Int} {R : Nat → Nat}
theorem loadC (h : BlkIs w g t (clsC f n)) : (Instr.loadAt 31 (.pointer (some ⟨g, 0, none⟩))).run Tryz.prog w = .ok (.agg (clsC f n)) w := by
 have := run_loadAt_mid (P := Tryz.prog) w g 0 31 (clsC f n).toList _ h.range Tryz.underlying31 rfl (by rw [infoC, Array.length_toList, xzag]); rw [this]
theorem rangeO (h : BlkIs w g t (clsC f n)) : w.rangeAt g 0 (ofC f).toList := fun j v hv => by
 have hj : j < 256 := by have := (List.getElem?_eq_some_iff.1 hv).1; rw [Array.length_toList, xzcx] at this; exact this
 rw [Nat.zero_add, h.cell j, xzho f n hj]; rw [Array.getElem?_toList, xzga f hj] at hv; exact hv
end

theorem part5 {xs : Array Value} {off : Nat} {v : Value} (hx : xs[off]? = some v) (w : World) : (part 5 xs off).run Tryz.prog w = .ok v w := run_part_plain w (by kernel_rfl) hx
theorem part3 {xs : Array Value} {off : Nat} {v : Value} (hx : xs[off]? = some v) (w : World) : (part 3 xs off).run Tryz.prog w = .ok v w := run_part_plain w (by kernel_rfl) hx
theorem partO (f : Nat → Nat) (n : Int) (w : World) : (part 22 (clsC f n) 0).run Tryz.prog w = .ok (.agg (ofC f)) w := by
 have e : (clsC f n).extract 0 (0 + 256) = ofC f := by
   apply Array.ext_getElem?
   intro i; rw [Array.getElem?_extract]
   by_cases hi : i < 256
   · rw [xzga f hi, Nat.zero_add, Nat.zero_add, xzho f n hi, xzag]
     rw [if_pos (by omega)]
   · have h0 : (ofC f)[i]? = none := Array.getElem?_eq_none (by rw [xzcx]; omega)
     rw [h0, xzag, if_neg (by omega)]
 simp [part, e]
theorem partW (R : Nat → Nat) {b : Nat} (hb : b < 256) (w : World) : (part 152 (rowC R) (b * 2)).run Tryz.prog w = .ok (.agg #[.int .u64 (R (2 * b)), .int .u64 (R (2 * b + 1))]) w := by
 have e : (rowC R).extract (b * 2) (b * 2 + 2) = #[.int .u64 (R (2 * b)), .int .u64 (R (2 * b + 1))] := by
   apply Array.ext_getElem?
   intro i; rw [Array.getElem?_extract, xzcw]
   by_cases hi : i < 2
   · rw [if_pos (by omega), xzis R (by omega), Nat.mul_comm b 2]
     rcases (by omega : i = 0 ∨ i = 1) with rfl | rfl <;> rfl
   · rw [if_neg (by omega), Array.getElem?_eq_none (by simp; omega)]
 simp [part, e]
theorem idxO (f : Nat → Nat) {b : Nat} (hb : b < 256) (w : World) : (Instr.index 22 (.agg (ofC f)) (.int .i64 b)).run Tryz.prog w = .ok (.int .u8 (f b)) w := by
 have hs : (sizeOf 5).run Tryz.prog w = .ok 1 w := by kernel_rfl
 have hp := part5 (xzga f hb) w
 simp [Instr.index, run_underlying Tryz.underlying22, asIntOf, hs, hp, hb]
theorem idxW (R : Nat → Nat) {b : Nat} (hb : b < 256) (w : World) : (Instr.index 155 (.agg (rowC R)) (.int .i64 b)).run Tryz.prog w = .ok (.agg #[.int .u64 (R (2 * b)), .int .u64 (R (2 * b + 1))]) w := by
 have hs : (sizeOf 152).run Tryz.prog w = .ok 2 w := by kernel_rfl
 have hp := partW R hb w
 simp [Instr.index, run_underlying Tryz.underlying155, asIntOf, hs, hp, hb]

theorem xzgb (d : Nat) (xs ys : Array Value) (F G : Nat → Nat) (w : World) : ∀ js : List Nat, (∀ j ∈ js, xs[j]? = some (.int .u8 (F j)) ∧ ys[j]? = some (.int .u8 (G j))) →
   (Op.eqItems (d + 1) 5 1 xs ys js).run Tryz.prog w = .ok (js.all fun j => decide (F j = G j)) w
 | [], _ => by simp [Op.eqItems]
 | j :: js, h => by
   have h5 := run_equalIn_int (P := Tryz.prog) w d 5 .u8 .u8 (F j) (G j) Tryz.underlying5
   have ih := xzgb d xs ys F G w js fun k hk => h k (by simp [hk])
   have h1 := part5 (off := j * 1) (by rw [Nat.mul_one]; exact (h j (by simp)).1) w; have h2 := part5 (off := j * 1) (by rw [Nat.mul_one]; exact (h j (by simp)).2) w; simp only [Op.eqItems, Sem.run_bind, h1, h2, h5, Result.andThen_ok]
   by_cases e : F j = G j
   · simp [e, ih]
   · have e2 : (((F j : Nat) : Int) == ((G j : Nat) : Int)) = false := by simp; omega
     simp [e, e2]

theorem xzlk {d : Nat} {xs ys : Array Value} {fs : List Field} {ta ti o0 o1 : Nat} (h : fs.map (fun f => (decide (f.name ≠ "_"), f.type, f.offset)) = [(true, ta, o0), (true, ti, o1)])
   {w : World} {a b a' b' : Value} {r r' : Bool} (h1 : (part ta xs o0).run Tryz.prog w = .ok a w) (h2 : (part ta ys o0).run Tryz.prog w = .ok b w) (h3 : (Op.equalIn d ta a b).run Tryz.prog w = .ok r w)
   (k1 : (part ti xs o1).run Tryz.prog w = .ok a' w) (k2 : (part ti ys o1).run Tryz.prog w = .ok b' w) (k3 : (Op.equalIn d ti a' b').run Tryz.prog w = .ok r' w) :
   (Op.eqFields d xs ys fs).run Tryz.prog w = .ok (r && r') w := by
 rcases fs with _ | ⟨f0, _ | ⟨f1, _ | ⟨f2, fs⟩⟩⟩
 · simp at h
 · simp at h
 · simp only [List.map_cons, List.map_nil, List.cons.injEq, Prod.mk.injEq, and_true] at h
   obtain ⟨⟨g1, g2, g3⟩, g4, g5, g6⟩ := h; have g1' : f0.name ≠ "_" := of_decide_eq_true g1; have g4' : f1.name ≠ "_" := of_decide_eq_true g4; simp only [Op.eqFields, if_pos g1', if_pos g4', g2, g3, g5, g6, Sem.run_bind, h1, h2, h3, Result.andThen_ok]
   cases r
   · simp
   · simp [k1, k2, k3]
     cases r' <;> simp
 · simp at h

theorem xznm {t : TypeId} (ht : Tryz.prog.underlying t = some (.struct (Tryz.prog.fieldsOf t))) (hp : Tryz.prog.stoodInHeld t = false)
   (hf : (Tryz.prog.fieldsOf t).toList.map (fun f => (decide (f.name ≠ "_"), f.type, f.offset)) = [(true, 22, 0), (true, 3, 256)])
   (f f' : Nat → Nat) (n n' : Int) (w : World) : (Op.equalIn 10000 t (.agg (clsC f n)) (.agg (clsC f' n'))).run Tryz.prog w = .ok (sameB f f' n n') w := by
 rw [run_equalIn_struct (P := Tryz.prog) w 9999 t _ _ ht hp]; obtain ⟨i, hi⟩ : ∃ i, Tryz.prog.info? 5 = some i := Option.isSome_iff_exists.1 (by kernel_rfl)
 have hc : Tryz.prog.cellsOf 5 = 1 := by kernel_rfl
 have harr := run_equalIn_array (P := Tryz.prog) w 9998 (ofC f) (ofC f') Tryz.underlying22 hi; rw [hc, xzgb 9997 (ofC f) (ofC f') f f' w (List.range 256) (fun j hj => ⟨xzga f (List.mem_range.1 hj), xzga f' (List.mem_range.1 hj)⟩)] at harr; have hint := run_equalIn_int (P := Tryz.prog) w 9998 3 .i64 .i64 n n' Tryz.underlying3; rw [xzlk hf (partO f n w) (partO f' n' w) harr (part3 (xzlj f n) w) (part3 (xzlj f' n') w) hint]; unfold sameB
 have e : (n == n') = decide (n = n') := by rw [Bool.eq_iff_iff]; simp
 rw [e]
theorem eql_cls (f f' : Nat → Nat) (n n' : Int) (w : World) : (binOp .eql 31 (.agg (clsC f n)) (.agg (clsC f' n'))).run Tryz.prog w = .ok (.bool (sameB f f' n n')) w := by
 rw [run_eql_struct, xznm (by kernel_rfl) (by kernel_rfl) (by kernel_rfl)]; rfl
theorem neq_ref (f f' : Nat → Nat) (n n' : Int) (w : World) : (binOp .neq 24 (.agg (clsC f n)) (.agg (clsC f' n'))).run Tryz.prog w = .ok (.bool (!sameB f f' n n')) w := by
 rw [run_neq_struct, xznm (by kernel_rfl) (by kernel_rfl) (by kernel_rfl)]; rfl
theorem xznn : Tryz.prog.built 31 [(1, .int .i64 1)] = some (clsC (fun _ => 0) 1) := by kernel_rfl
theorem xzut (f : Nat → Nat) (n : Int) : Tryz.prog.built 31 [(0, .agg (ofC f)), (1, .int .i64 n)] = some (clsC f n) := by kernel_rfl

abbrev keyV (a b : Nat) : Value := .agg #[.int .u64 a, .int .u64 b]
def keyL (a b : Nat) : Lit := .string (keyBytes [.int .u64 a, .int .u64 b])
theorem wf64 {a : Nat} (h : a < 18446744073709551616) : (Lit.int .u64 a).wf = true := WalkArith.wf_u64 (by omega)
theorem keyLaw : Maps.Keyed Tryz.prog 152 :=
 Maps.Keyed.of_law (deep_law_laid (P := Tryz.prog) (by kernel_rfl) (m := 2) (by omega) (of_decide_eq_true (by kernel_rfl)) (by kernel_rfl) (by kernel_rfl))
theorem xzza {a b : Nat} (ha : a < 18446744073709551616) (hb : b < 18446744073709551616) : keyOf Tryz.prog 152 (keyV a b) = some (keyL a b) := by
 have h1 : Tryz.prog.keyType 152 = true := by kernel_rfl
 have h2 : (keyV a b).formed Tryz.prog 152 = true := by kernel_rfl
 have hd : ∃ d, Tryz.prog.types.size + 1 = d + 2 := ⟨Tryz.prog.types.size - 1, by have : 1 ≤ Tryz.prog.types.size := of_decide_eq_true (by kernel_rfl); omega⟩; obtain ⟨d, hd⟩ := hd
 have hc : Tryz.prog.cellsOf 152 = 2 := by kernel_rfl
 have hc1 : Tryz.prog.cellsOf 53 = 1 := by kernel_rfl
 unfold keyOf; rw [Tryz.underlying152, hd]
 simp [h1, h2, Program.keyLits, Tryz.underlying152, Tryz.underlying53, hc, hc1, Value.cells, List.range_succ, wf64 ha, wf64 hb, keyL]
theorem xzxx {a b a' b' : Nat} (ha : a < 18446744073709551616) (hb : b < 18446744073709551616) (ha' : a' < 18446744073709551616) (hb' : b' < 18446744073709551616) (h : keyL a b = keyL a' b') : a = a' ∧ b = b' := by
 have h1 := xzza ha hb; have h2 := xzza ha' hb'; rw [h] at h1; have := keyLaw.inj h1 h2; simp only [Value.agg.injEq, Array.mk.injEq, List.cons.injEq, Value.int.injEq, true_and, and_true, Int.natCast_inj] at this; exact this
theorem xzxy (a b : Nat) : WideAt.IsKeyLit (keyL a b) := trivial

attribute [irreducible] ofC rowC

end

section
open Go.RowKit

end

section
open Go.RowKit

end

section
open Go.RowKit

def SeqIs (m : Nat → Bool) (w : World) : Ending → World → Prop := fun e w' =>
 ∃ B, e = .returned (.func (.func 100) #[] #[.pointer (some ⟨B, 0, none⟩)]) ∧ BlkIs w' B 55 #[.int .u64 (wd m 0 : Nat), .int .u64 (wd m 1 : Nat), .int .u64 (wd m 2 : Nat), .int .u64 (wd m 3 : Nat)] ∧ w.heap.size ≤ B ∧ Below w.heap.size w w'

theorem xzqx (m : Nat → Bool) (w : World) : Calls Tryz.prog 90 #[setV m] w (SeqIs m w) := by
 go_enter Tryz.func90, Tryz.ntmps90
 go_wp2; go_ret; exact ⟨w.heap.size, rfl, BlkIs.new _ _ _, Nat.le_refl _, (Below.refl _ _).alloc (Nat.le_refl _) _⟩

theorem xzju (n : Nat) (hn : 1 ≤ n) (B n₀ : Nat) (hn0 : 0 < n₀) (m : Nat → Bool) (w : World) (hbox : BlkIs w B 55 #[.int .u64 (wd m 0 : Nat), .int .u64 (wd m 1 : Nat), .int .u64 (wd m 2 : Nat), .int .u64 (wd m 3 : Nat)]) (hT : Tab w) :
   SeqStopsK Fence.wide n Tryz.prog 100 #[.pointer (some ⟨B, 0, none⟩)] (fun x : B256 => #[.int .u8 (x.1 : Nat)]) (Below n₀) (fun xs : List B256 => xs.map (fun x => x.1) = mems m 256) (fun pre : List B256 => pre.map (fun x => x.1) <+: mems m 256) 256 w :=
 fun l J Jx W hW _ _ hY h0 => xzyu n hn l B n₀ hn0 m J Jx hY W (hbox.step hW) (hT.step hW) h0

def nextS (m : Nat → Bool) (k : Int) : Int := match mems (sLess m (sBelow k)) 256 with | [] => -1 | b :: _ => (b : Int)

theorem xzzb {w2 W W' : World} {g : Nat} {t : TypeId} {a b c d : Value} (hx : BlkIs w2 g t #[a, b, c, d])
   (h : Below w2.heap.size w2 W ∧ W.cell? ⟨g, 0, none⟩ = some a ∧ W.cell? ⟨g, 1, none⟩ = some b ∧ W.cell? ⟨g, 2, none⟩ = some c ∧ W.cell? ⟨g, 3, none⟩ = some d) (hb : Below W.heap.size W W') :
   Below w2.heap.size w2 W' ∧ W'.cell? ⟨g, 0, none⟩ = some a ∧ W'.cell? ⟨g, 1, none⟩ = some b ∧ W'.cell? ⟨g, 2, none⟩ = some c ∧ W'.cell? ⟨g, 3, none⟩ = some d :=
 have hb2 := h.1.trans (hb.mono h.1.size); have hx2 := (hx.step hb2).four
 ⟨hb2, hx2.1, hx2.2.1, hx2.2.2.1, hx2.2.2.2.1⟩

theorem xzeh {w w' : World} {g : Nat} {t : TypeId} {cs : Array Value} {row : Option Nat} (h : BlkIs w g t cs) (hg : w.grownBy w' row) (hr : ∀ r, row = some r → ∃ o : Obj, w.heap[r]? = some o ∧ o.isCells = false) : BlkIs w' g t cs := by
 refine (hg.block g h.lt (fun e => ?_)).trans h; obtain ⟨o, ho, hn⟩ := hr g e.symm; unfold BlkIs at h; rw [h] at ho
 cases ho
 cases hn

theorem xzqy {w : World} {g : Nat} {t : TypeId} {x : Int} (h : BlkIs w g t #[.int .i64 x]) : (loadVar 3 ⟨g, 0, none⟩).run Tryz.prog w = .ok (.int .i64 x) w := by
 have c := h.cell 0
 simp at c
 go_simp

attribute [local go_sem] Oper.semAt_some

set_option maxRecDepth 100000 in
set_option maxHeartbeats 1000000 in
theorem xzzc (m : Nat → Bool) (k : Int) (hk : k ≤ 9223372036854775807) (w : World) (hT : Tab w) :
   Calls Tryz.prog 72 #[setV m, .int .i64 k] w fun e w' => e = .returned (.int .i64 (nextS m k)) ∧ Below w.heap.size w w' := by
 have HT := Lib.hid hT; clear hT; refine (callsIn_wide (n := 3)).1 ?_; refine callsIn_of_wp_marks Tryz.func72 rfl trivial ?_ rfl; simp only [Tryz.ntmps72, List.size_toArray, List.length_cons, List.length_nil, Nat.reduceAdd, Nat.reduceSub, Array.replicate_succ, Array.replicate_zero, List.push_toArray, List.append_toArray, List.nil_append, List.cons_append]; refine wpIn_wide.2 ?_; go_wp2; have hx0 := (BlkIs.new w 55 #[.int .u64 (wd m 0 : Nat), .int .u64 (wd m 1 : Nat), .int .u64 (wd m 2 : Nat), .int .u64 (wd m 3 : Nat)]).alloc (.cells #[.int .i64 0] 3); have hr0 := BlkIs.new (w.alloc (.cells #[.int .u64 (wd m 0 : Nat), .int .u64 (wd m 1 : Nat), .int .u64 (wd m 2 : Nat), .int .u64 (wd m 3 : Nat)] 55)) 3 #[.int .i64 0]; rw [World.size_alloc] at hr0; have hB0 : Below w.heap.size w ((w.alloc (.cells #[.int .u64 (wd m 0 : Nat), .int .u64 (wd m 1 : Nat), .int .u64 (wd m 2 : Nat), .int .u64 (wd m 3 : Nat)] 55)).alloc (.cells #[.int .i64 0] 3)) := ((Below.refl _ _).alloc (Nat.le_refl _) _).alloc (by simp) _; generalize (w.alloc (.cells #[.int .u64 (wd m 0 : Nat), .int .u64 (wd m 1 : Nat), .int .u64 (wd m 2 : Nat), .int .u64 (wd m 3 : Nat)] 55)).alloc (.cells #[.int .i64 0] 3) = w2 at *; have HX := Lib.hid hx0; have HR := Lib.hid hr0; have HB := Lib.hid hB0; clear hx0 hr0 hB0
 go_region_held3 (fun w' => Below w2.heap.size w2 w' ∧ w'.cell? ⟨w.heap.size, 0, none⟩ = some (.int .u64 (wd m 0 : Nat)) ∧ w'.cell? ⟨w.heap.size, 1, none⟩ = some (.int .u64 (wd m 1 : Nat)) ∧
     w'.cell? ⟨w.heap.size, 2, none⟩ = some (.int .u64 (wd m 2 : Nat)) ∧ w'.cell? ⟨w.heap.size, 3, none⟩ = some (.int .u64 (wd m 3 : Nat)))
   ((first
     | exact xzzb HX.out (by assumption) hb1
     | exact ⟨(Below.refl _ _).drew, HX.out.four.1, HX.out.four.2.1, HX.out.four.2.2.1, HX.out.four.2.2.2.1⟩))
   ((first
     | (go_at_call 92; go_must (refine (xzum _ (by omega) _).mono ?_); rintro e w1 ⟨rfl, hb1⟩)
     | (go_at_call 91; go_must (refine (xzyk _ _ _).mono ?_); rintro e w1 ⟨rfl, hb1⟩)
     | (go_at_call 90; go_must (refine (xzqx _ _).mono ?_); rintro e w1 ⟨B, rfl, hbox, hB0, hb1⟩)))
 have hB1 : Below w2.heap.size w2 w1 := by
   have h := ‹Below w2.heap.size w2 w1 ∧ _›; exact h.1
 have hres := HR.out.step hB1; have hBw : Below w.heap.size w w1 := HB.out.trans (hB1.mono HB.out.size); have hTab := HT.out.step hBw; have HX1 := Lib.hid hbox; have HR1 := Lib.hid hres; have HB1 := Lib.hid hBw; have HT1 := Lib.hid hTab; have hpos := HT.out.pos; clear ‹Below w2.heap.size w2 w1 ∧ _› hbox hres hBw hTab hB1 hb1 hB0 HX HR HB HT; generalize hms : sLess m (sBelow k) = ms at *; have HMS := Lib.hid hms; clear hms; go_wp2; refine (wpIn_wide (n := 3)).1 ?_
 refine wpIn_rangeFunc_ownF rfl (by omega) (gf := 100) (lb := #[.pointer (some ⟨B, 0, none⟩)]) rfl trivial (enters_of Tryz.func100 (by kernel_rfl) rfl)
   (xzju _ (by omega) B w.heap.size hpos ms w1 HX1.out HT1.out) belowK_t (belowK_b (by simpa using HB1.out.size)) (Below.refl _ _) (fun _ => rfl)
   (fun pre W => pre = [] ∧ BlkIs W (w.heap.size + 1) 3 #[.int .i64 0] ∧ Below w.heap.size w W)
   (fun c pre W => c = .ret ∧ ∃ x : B256, pre = [x] ∧ BlkIs W (w.heap.size + 1) 3 #[.int .i64 (x.1 : Nat)] ∧ Below w.heap.size w W) ?hI ?hIx ⟨rfl, HR1.out, HB1.out⟩
   (fun x => { tmps := #[setV m, .int .i64 k, .pointer (some ⟨w.heap.size, 0, none⟩), undef, .pointer (some ⟨w.heap.size + 1, 0, none⟩), .int .u8 (x.1 : Nat), setV m, .int .i64 k, setV (sBelow k), setV ms, .func (.func 100) #[] #[.pointer (some ⟨B, 0, none⟩)], .int .u8 (x.1 : Nat), undef, undef], defers := [] }) ?assign ?body ?done ?stop
 case hI =>
   exact OwnFrom.and (Own.from (fun s A B row hs _ _ => hs) _) (OwnFrom.and (Own.from (fun s A B row hs hg hr => xzeh hs hg hr) _) (ownFrom_below (Nat.le_refl _) HB1.out.size))
 case hIx =>
   rintro c s A A' row ⟨hc, x, hs, hb, hB⟩ hg hr; exact ⟨hc, x, hs, xzeh hb hg (fun r e => (hr r e).2), ownFrom_below (β := Unit) (Nat.le_refl _) HB1.out.size () A A' row hB hg hr⟩
 case assign =>
   intro l x W K hK
   gi_wp2
   exact hK
 case body =>
   rintro l pre x W ⟨rfl, hc, hB⟩ _; obtain ⟨c0, f0⟩ : W.cell? ⟨w.heap.size + 1, 0, none⟩ = some (.int .i64 0) ∧ W.frozen? ⟨w.heap.size + 1, 0, none⟩ = false := ⟨hc.cell 0, hc.frozen 0⟩; have hx := x.2
   gi_wp2
   exact ⟨KeepsOthers.setCell _ _ _, rfl, x, rfl, by simpa using hc.put 0 (.int .i64 (x.1 : Nat)), hB.setCell (p := ⟨w.heap.size + 1, 0, none⟩) (Nat.le_add_right _ _) _⟩
 case done =>
   rintro D xs W hD hS ⟨rfl, hc, hB⟩ hK; obtain ⟨c0, f0⟩ : W.cell? ⟨w.heap.size + 1, 0, none⟩ = some (.int .i64 0) ∧ W.frozen? ⟨w.heap.size + 1, 0, none⟩ = false := ⟨hc.cell 0, hc.frozen 0⟩; go_wp2; have hK' := (KeepsOthers.setCell W ⟨w.heap.size + 1, 0, none⟩ (.int .i64 (-1))).same D _ hK rfl; refine ⟨by simp, .inl ⟨_, _, rfl, run_takeDeferred hK', ?_⟩⟩
   have hb' : BlkIs (W.setCell ⟨w.heap.size + 1, 0, none⟩ (.int .i64 (-1))) (w.heap.size + 1) 3 #[.int .i64 (-1)] := by simpa using hc.put 0 (.int .i64 (-1))
   have hb2 := xzeh hb' (grownBy_putObj' _ D (.deferred none)) (fun r e => by cases e; exact ⟨_, hK', rfl⟩); have hl := xzqy hb2; refine ⟨_, xzab (p := 4) (ty := 3) rfl rfl hl, ?_, ?_⟩
   · unfold nextS; rw [HMS.out, ← hS]; rfl
   · exact (hB.setCell (p := ⟨w.heap.size + 1, 0, none⟩) (Nat.le_add_right _ _) _).trans (belowK_b (w := w) (Nat.le_refl _) _ D _ _ (Nat.le_trans HB1.out.size hD) hK' rfl rfl)
 case stop =>
   rintro D c pre W hD hS ⟨rfl, x, rfl, hc, hB⟩ hK
   gi_wp2
   refine ⟨by simp, .inl ⟨_, _, rfl, run_takeDeferred hK, ?_⟩⟩; have hb2 := xzeh hc (grownBy_putObj' _ D (.deferred none)) (fun r e => by cases e; exact ⟨_, hK, rfl⟩); have hl := xzqy hb2; refine ⟨_, xzab (p := 4) (ty := 3) rfl rfl hl, ?_, ?_⟩
   · obtain ⟨r, hr⟩ := hS
     unfold nextS; rw [HMS.out, ← hr]; rfl
   · exact hB.trans (belowK_b (w := w) (Nat.le_refl _) _ D _ _ (Nat.le_trans HB1.out.size hD) hK rfl rfl)

end

section
open Go.RowKit

def BytesIs (l : List Nat) (w : World) : Ending → World → Prop := fun e w' =>
 ∃ A c, e = .returned (.slice A l.length c) ∧ ByteRow w' w'.heap.size A l ∧ Below w.heap.size w w'

theorem info5 : (Tryz.prog.info? 5).map (fun i => (i.zero, i.size, i.bytes)) = some (some (.int .u8 0), 1, 1) := by kernel_rfl

theorem xzno (m : Nat → Bool) (w : World) : (binOp .eql 55 (setV m) (.agg #[.int .u64 0, .int .u64 0, .int .u64 0, .int .u64 0])).run Tryz.prog w = .ok (.bool (setEq m (sOf []))) w := by
 have h := xzjo m (sOf []) w; simp only [setV, xzna] at h; exact h

theorem xzqz (m : Nat → Bool) : ∀ t, cntN m t = (mems m t).length
 | 0 => rfl
 | t + 1 => by
   have ih := xzqz m t
   show cntN m t + (if m t then 1 else 0) = _
   unfold mems at *; rw [List.range_succ, List.filter_append, List.length_append, ih, List.filter_cons]
   cases m t <;> simp

theorem xzhp {w : World} {base : Nat} {e : TypeId} {v : Value} {l : List Nat} (h : w.ownsRow base e 1 v l.length (l.map fun (x : Nat) => Value.int .u8 (x : Int))) :
   ∃ A c, v = .slice A l.length c ∧ ByteRow w w.heap.size A l := by
 rcases h.2 with ⟨rfl, hn⟩ | ⟨g, cap, cur, rfl, _, hh, _⟩
 · exact ⟨none, 0, by rw [hn], fun hne => absurd (List.eq_nil_of_length_eq_zero hn) hne⟩
 · refine ⟨_, _, rfl, fun _ => ⟨g, 0, rfl, (Array.getElem?_eq_some_iff.1 hh).1, fun k x hk => ?_⟩⟩
   have hlt : k < l.length := (List.getElem?_eq_some_iff.1 hk).1; have := h.cellAt k (by omega); rw [Nat.zero_add, this, List.getElem?_map, hk]; rfl

attribute [local go_sem] Oper.semAt_some

set_option maxRecDepth 100000 in
set_option maxHeartbeats 1000000 in
theorem xzra (m : Nat → Bool) (hm : setEq m (sOf []) = false) (w : World) (hT : Tab w) :
   Calls Tryz.prog 99 #[setV m] w (BytesIs (mems m 256) w) := by
 obtain ⟨i0, hi, hz0, hz1, hz2⟩ := info_parts info5; have hcl := xzqz m 256; have hc256 := xzch m 256; have hcount := xzuj m; generalize cntN m 256 = n at *
 have hmk : ∀ u : World, (Instr.makeSlice 163 (.int .i64 0) (.int .i64 (n : Int))).run Tryz.prog u =
     .ok (.slice (some ⟨u.heap.size, 0, none⟩) 0 n) (u.alloc (.cells (madeCells #[.int .u8 0] n) 5)) := fun u => by
   have h := run_make (P := Tryz.prog) u 163 5 i0 (.int .u8 0) Tryz.underlying163 hi hz0 .i64 .i64 0 (n : Int) (Int.le_refl _) (by omega) (by rw [hz2]; omega) (by omega)
   simpa [hz1, Value.cells] using h
 have HT := Lib.hid hT; have HCL := Lib.hid hcl; have HCO := Lib.hid hcount; have HI0 := Lib.hid hi; have hq := xzno m; clear hT hcl hcount hi; refine (callsIn_wide (n := 3)).1 ?_; refine callsIn_of_wp_marks Tryz.func99 rfl trivial ?_ rfl; simp only [Tryz.ntmps99, List.size_toArray, List.length_cons, List.length_nil, Nat.reduceAdd, Nat.reduceSub, Array.replicate_succ, Array.replicate_zero, List.push_toArray, List.append_toArray, List.nil_append, List.cons_append]; refine wpIn_wide.2 ?_
 go_wp2_with (first
   | (go_at_call 102; go_must (refine (HCO.out _).mono ?_); rintro e w1 ⟨rfl, hb1⟩; obtain ⟨hc1, hf1, hz1'⟩ := belowStep (g := w.heap.size) hb1 (by simp))
   | (go_at_call 90; go_must (refine (xzqx _ _).mono ?_); rintro e w2 ⟨B, rfl, hbox, hB0, hb2⟩))
 have hBw1 : Below w.heap.size w w1 := ((Below.refl _ _).alloc (Nat.le_refl _) _).trans (hb1.mono (by simp)); have hlw : w.heap.size ≤ w1.heap.size := hBw1.size; have hBw2 : Below w.heap.size w w2 := ((hBw1.alloc hlw _).alloc (by simp; omega) _).trans (hb2.mono (by simp; omega)); have hT2 := HT.out.step hBw2; have hpos := HT.out.pos; have hl0 := Boxed.new (w1.alloc (.cells (madeCells #[.int .u8 0] n) 5)) 163 (.slice (some ⟨w1.heap.size, 0, none⟩) 0 n); rw [World.size_alloc] at hl0; have hl2 : Boxed w2 (w1.heap.size + 1) 163 (.slice (some ⟨w1.heap.size, 0, none⟩) 0 n) := (hb2.block _ hl0.lt).trans hl0; have hr0 := (World.ownsRow_made (base := w.heap.size) (e := 5) (size := 1) w1 (madeCells #[.int .u8 0] n) n hlw (by unfold maxLen; omega) (by simp [madeCells])).kept (World.grownBy_alloc _ (.cells #[.slice (some ⟨w1.heap.size, 0, none⟩) 0 n] 163) none) (.inr (by simp [Value.ownBlock])); have hr2 : w2.ownsRow w.heap.size 5 1 (.slice (some ⟨w1.heap.size, 0, none⟩) 0 n) 0 [] := hr0.kept (row := none) ⟨hb2.os, hb2.tape, hb2.output, hb2.size, fun i hi _ => hb2.block i hi⟩ (.inr (by simp [Value.ownBlock])); have HB := Lib.hid hbox; have HT2 := Lib.hid hT2; have HBW := Lib.hid hBw2; have HL := Lib.hid hl2; have HR := Lib.hid hr2; generalize w1.heap.size = G at *; clear hb1 hc1 hf1 hz1' hbox hB0 hb2 hBw1 hBw2 hT2 hl0 hl2 hr0 hr2 HT HCO hmk hq; refine (wpIn_wide (n := 3)).1 ?_
 refine wpIn_rangeFunc_ownG rfl (by omega) (gf := 100) (lb := #[.pointer (some ⟨B, 0, none⟩)]) rfl trivial (enters_of Tryz.func100 (by kernel_rfl) rfl)
   (xzju _ (by omega) B w.heap.size hpos m w2 HB.out HT2.out) belowK_t (belowK_b HBW.out.size) (Below.refl _ _) (fun _ => rfl)
   (fun pre W => (∃ v, Boxed W (G + 1) 163 v ∧ W.ownsRow w.heap.size 5 1 v pre.length (pre.map fun x => .int .u8 (x.1 : Nat))) ∧ Below w.heap.size w W)
   (fun _ _ _ => False) ?hI (fun _ _ _ _ _ h _ _ => h) ⟨⟨_, HL.out, HR.out⟩, HBW.out⟩
   (fun x => { tmps := #[setV m, .pointer (some ⟨w.heap.size, 0, none⟩), .slice none 0 0, .pointer (some ⟨G + 1, 0, none⟩), .int .u8 (x.1 : Nat), setV m, .agg #[.int .u64 0, .int .u64 0, .int .u64 0, .int .u64 0], .bool false, setV m, .int .i64 n, .slice (some ⟨G, 0, none⟩) 0 n, setV m,
     .func (.func 100) #[] #[.pointer (some ⟨B, 0, none⟩)], .int .u8 (x.1 : Nat), undef, undef, undef, undef, undef], defers := [] }) ?assign ?body ?done ?stop
 case hI =>
   rintro s A A' row ⟨⟨v, hv, hr⟩, hB⟩ hg hro
   have cells : ∀ k cs t, A.heap[k]? = some (.cells cs t (0, 0)) → some k ≠ row := fun k cs t hk e => by
     obtain ⟨_, o, ho, hc⟩ := hro k e.symm; rw [hk] at ho; cases ho; cases hc
   refine ⟨⟨v, hv.kept hg (cells _ _ _ hv), hr.kept hg ?_⟩, ownFrom_below (β := Unit) (Nat.le_refl _) HBW.out.size () A A' row hB hg hro⟩
   rcases hr.2 with ⟨rfl, _⟩ | ⟨g, cap, cur, rfl, _, hh, _⟩
   · exact .inl rfl
   · exact .inr (cells _ _ _ hh)
 case assign =>
   intro l x W K hK
   gi_wp2
   exact hK
 case body =>
   rintro l pre x W ⟨⟨v, hv, hrow⟩, hB⟩ hlt; have hc := hv.cell; have hi := HI0.out
   gi_wp2_with (gi_at_builtin; refine wpListIn_append_own _ rfl _ _ 163 rfl w.heap.size 5 i0 (.int .u8 0) 1 1 Tryz.underlying163 hi hz0 hz1 hz2 rfl (by decide) _ _ _ rfl (hrow.alloc _) ⟨W.heap.size, 0, none⟩ 1 1 [.int .u8 (x.1 : Nat)] rfl rfl (cell_one_new _ _ _) (by simp [Value.oneCell']) (by unfold maxLen; omega) (by omega) (by have := hB.size; simp; omega) ?_; intro v' w3 hown' hgrow _; obtain ⟨g', cap', rfl⟩ := ownsRow_succ hown'; obtain ⟨hv1, hv2, hr2, hk2, hb2⟩ := hv.appended (by decide) hrow hB.size (by omega) hown' hgrow; have hc1 := hv1.cell; have hf1 := hv1.frozen)
   exact ⟨hk2.from _, hb2, ⟨_, hv2, by simpa using hr2⟩, hB.trans hb2⟩
 case done =>
   rintro D xs W hD hS ⟨⟨v, hv, hrow⟩, hB⟩ hK; have hc := hv.cell; have hrow2 := ownsRow_putObj hrow (.deferred none) hK rfl; have hBe := hB.trans (belowK_b (w := w) (Nat.le_refl _) W D _ (.deferred none) (Nat.le_trans HBW.out.size hD) hK rfl rfl); have HRO := Lib.hid hrow2; have HBE := Lib.hid hBe; clear hrow2 hBe hrow hB; go_wp2; refine ⟨by simp, .inl ⟨_, _, rfl, run_takeDeferred hK, ?_⟩⟩
   have hlen : xs.length = (mems m 256).length := by rw [← hS, List.length_map]
   have hmap : (xs.map fun x => Value.int .u8 (x.1 : Nat)) = (mems m 256).map fun (x : Nat) => Value.int .u8 (x : Int) := by rw [← hS, List.map_map]; rfl
   have hro := HRO.out; rw [hlen, hmap] at hro; obtain ⟨A, c, rfl, hrow⟩ := xzhp hro; exact ⟨_, results_tmp rfl _ _ _, A, c, rfl, hrow, HBE.out⟩
 case stop =>
   rintro D c pre W _ _ h _; exact h.elim

theorem xzrb {m : Nat → Bool} (h : setEq m (sOf []) = true) : mems m 256 = [] := by
 have h2 := setEq_iff.1 h; unfold mems; rw [List.filter_eq_nil_iff]; intro b hb; rw [h2 b (List.mem_range.1 hb)]
 simp [sOf]

set_option maxHeartbeats 400000 in
theorem xzrc (m : Nat → Bool) (hm : setEq m (sOf []) = true) (w : World) : Calls Tryz.prog 99 #[setV m] w (BytesIs (mems m 256) w) := by
 rw [xzrb hm]; have hq := xzno m
 go_enter Tryz.func99, Tryz.ntmps99
 go_wp2; go_ret; exact ⟨none, 0, rfl, fun h => absurd rfl h, (Below.refl _ _).alloc (Nat.le_refl _) _⟩

theorem xzuu (m : Nat → Bool) (w : World) (hT : Tab w) : Calls Tryz.prog 99 #[setV m] w (BytesIs (mems m 256) w) := by
 cases hm : setEq m (sOf [])
 · exact xzra m hm w hT
 · exact xzrc m hm w

end

section
open Go.RowKit

theorem xzll (m : Nat → Bool) (k : Nat) : (mems m k).length ≤ k := by
 have := List.length_filter_le m (List.range k); rw [List.length_range] at this; exact this

end

section
open Go.RowKit

end

section
open Go.RowKit

theorem ByteRow.keep {w w' : World} {B : Nat} {A : Option Addr} {l : List Nat} (h : ByteRow w B A l) (hB : B ≤ w.heap.size) (hb : Below w.heap.size w w') : ByteRow w' B A l := fun hl => by
 obtain ⟨b, off, rfl, hlt, hc⟩ := h hl; refine ⟨b, off, rfl, hlt, fun k x hk => ?_⟩; rw [hb.cell (by show b < w.heap.size; omega)]; exact hc k x hk
theorem ByteRow.far {w : World} {B : Nat} {A : Option Addr} {l : List Nat} (h : ByteRow w B A l) {p : Addr} (hp : B ≤ p.block) (v : Value) : ByteRow (w.setCell p v) B A l := fun hl => by
 obtain ⟨b, off, rfl, hlt, hc⟩ := h hl; refine ⟨b, off, rfl, hlt, fun k x hk => ?_⟩; rw [(Below.refl B w).setCell hp v |>.cell (by exact hlt)]; exact hc k x hk
theorem ByteRow.wide {w : World} {B B' : Nat} {A : Option Addr} {l : List Nat} (h : ByteRow w B A l) (hB : B ≤ B') : ByteRow w B' A l := fun hl => by
 obtain ⟨b, off, rfl, hlt, hc⟩ := h hl; exact ⟨b, off, rfl, by omega, hc⟩

end
end Go.Proofs.YtgngaaemkmdfaaaGreatDoor
