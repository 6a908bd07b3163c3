/-
  PARTITIONS AND ROWS AS VALUES: how they are loaded, indexed, compared, built; keys of a map. No condition but those of each theorem.
-/
import Derived.Test.YtebhnfdgjbhhfaaDoorOcts2
import Derived.Test.YtebhnfdgjbhhfaaDoorRef1
import Derived.Test.YtebhnfdgjbhhfaaDoorNum
import Derived.Maps.OwnSet
import Derived.DeepKeys4
namespace Go.Proofs.YtebhnfdgjbhhfaaDoor
open Go.RowKit

/-- the classes alone -/
def ofC (f : Nat → Nat) : Array Value := cellsN 256 fun i => .int .u8 (f i)
/-- two words a byte -/
def rowC (R : Nat → Nat) : Array Value := cellsN 512 fun i => .int .u64 (R i)
theorem ofC_get (f : Nat → Nat) {i : Nat} (h : i < 256) : (ofC f)[i]? = some (.int .u8 (f i)) := cellsN_get _ h
theorem rowC_get (R : Nat → Nat) {i : Nat} (h : i < 512) : (rowC R)[i]? = some (.int .u64 (R i)) := cellsN_get _ h
theorem rowC_size (R : Nat → Nat) : (rowC R).size = 512 := cellsN_size _ _
theorem ofC_size (f : Nat → Nat) : (ofC f).size = 256 := cellsN_size _ _
theorem rowC_one (R : Nat → Nat) : (rowC R).all (·.oneCell') = true := cellsN_one fun _ => rfl
theorem rowC_congr {R R' : Nat → Nat} (h : ∀ i, i < 512 → R i = R' i) : rowC R = rowC R' := cellsN_congr fun i hi => by rw [h i hi]
theorem rowC_set (R : Nat → Nat) (i v : Nat) : (rowC R).setIfInBounds i (.int .u64 v) = rowC (updN R i v) := by
  unfold rowC
  rw [cellsN_set]
  refine cellsN_congr fun j _ => ?_
  unfold updN
  by_cases e : j = i <;> simp [e]

theorem infoC : (Tryd.prog.info? 26).map (·.size) = some 257 := by kernel_rfl
theorem infoR : (Tryd.prog.info? 28).map (·.size) = some 257 := by kernel_rfl
theorem infoO : (Tryd.prog.info? 24).map (·.size) = some 256 := by kernel_rfl
theorem infoW : (Tryd.prog.info? 62).map (·.size) = some 512 := by kernel_rfl
theorem zeroC (w : World) : (zeroValue 26).run Tryd.prog w = .ok (.agg (clsC (fun _ => 0) 0)) w :=
  (zero_of_info (P := Tryd.prog) (t := 26) (v := .agg (clsC (fun _ => 0) 0)) (n := 257) (by kernel_rfl)).1 w
theorem zeroR (w : World) : (zeroValue 28).run Tryd.prog w = .ok (.agg (clsC (fun _ => 0) 0)) w :=
  (zero_of_info (P := Tryd.prog) (t := 28) (v := .agg (clsC (fun _ => 0) 0)) (n := 257) (by kernel_rfl)).1 w
theorem zeroW (w : World) : (zeroValue 62).run Tryd.prog w = .ok (.agg (rowC fun _ => 0)) w :=
  (zero_of_info (P := Tryd.prog) (t := 62) (v := .agg (rowC fun _ => 0)) (n := 512) (by kernel_rfl)).1 w

section
variable {w : World} {g : Nat} {t : TypeId} {f : Nat → Nat} {n : Int} {R : Nat → Nat}
theorem loadC (h : BlkIs w g t (clsC f n)) : (Instr.loadAt 26 (.pointer (some ⟨g, 0, none⟩))).run Tryd.prog w = .ok (.agg (clsC f n)) w := by
  have := run_loadAt_mid (P := Tryd.prog) w g 0 26 (clsC f n).toList _ h.range Tryd.underlying26 rfl (by rw [infoC, Array.length_toList, clsC_size])
  rw [this]
theorem loadR (h : BlkIs w g t (clsC f n)) : (Instr.loadAt 28 (.pointer (some ⟨g, 0, none⟩))).run Tryd.prog w = .ok (.agg (clsC f n)) w := by
  have := run_loadAt_mid (P := Tryd.prog) w g 0 28 (clsC f n).toList _ h.range Tryd.underlying28 rfl (by rw [infoR, Array.length_toList, clsC_size])
  rw [this]
theorem rangeO (h : BlkIs w g t (clsC f n)) : w.rangeAt g 0 (ofC f).toList := fun j v hv => by
  have hj : j < 256 := by have := (List.getElem?_eq_some_iff.1 hv).1; rw [Array.length_toList, ofC_size] at this; exact this
  rw [Nat.zero_add, h.cell j, clsC_of f n hj]
  rw [Array.getElem?_toList, ofC_get f hj] at hv
  exact hv
theorem loadO (h : BlkIs w g t (clsC f n)) : (Instr.loadAt 24 (.pointer (some ⟨g, 0, none⟩))).run Tryd.prog w = .ok (.agg (ofC f)) w := by
  have := run_loadAt_mid (P := Tryd.prog) w g 0 24 (ofC f).toList _ (rangeO h) Tryd.underlying24 rfl (by rw [infoO, Array.length_toList, ofC_size])
  rw [this]
theorem loadW (h : BlkIs w g t (rowC R)) : (Instr.loadAt 62 (.pointer (some ⟨g, 0, none⟩))).run Tryd.prog w = .ok (.agg (rowC R)) w := by
  have := run_loadAt_mid (P := Tryd.prog) w g 0 62 (rowC R).toList _ h.range Tryd.underlying62 rfl (by rw [infoW, Array.length_toList, rowC_size])
  rw [this]
end

theorem part5 {xs : Array Value} {off : Nat} {v : Value} (hx : xs[off]? = some v) (w : World) : (part 5 xs off).run Tryd.prog w = .ok v w := run_part_plain w (by kernel_rfl) hx
theorem part3 {xs : Array Value} {off : Nat} {v : Value} (hx : xs[off]? = some v) (w : World) : (part 3 xs off).run Tryd.prog w = .ok v w := run_part_plain w (by kernel_rfl) hx
theorem partO (f : Nat → Nat) (n : Int) (w : World) : (part 24 (clsC f n) 0).run Tryd.prog w = .ok (.agg (ofC f)) w := by
  have e : (clsC f n).extract 0 (0 + 256) = ofC f := by
    apply Array.ext_getElem?
    intro i
    rw [Array.getElem?_extract]
    by_cases hi : i < 256
    · rw [ofC_get f hi, Nat.zero_add, Nat.zero_add, clsC_of f n hi, clsC_size]
      rw [if_pos (by omega)]
    · have h0 : (ofC f)[i]? = none := Array.getElem?_eq_none (by rw [ofC_size]; omega)
      rw [h0, clsC_size, if_neg (by omega)]
  simp [part, e]
theorem partW (R : Nat → Nat) {b : Nat} (hb : b < 256) (w : World) : (part 59 (rowC R) (b * 2)).run Tryd.prog w = .ok (.agg #[.int .u64 (R (2 * b)), .int .u64 (R (2 * b + 1))]) w := by
  have e : (rowC R).extract (b * 2) (b * 2 + 2) = #[.int .u64 (R (2 * b)), .int .u64 (R (2 * b + 1))] := by
    apply Array.ext_getElem?
    intro i
    rw [Array.getElem?_extract, rowC_size]
    by_cases hi : i < 2
    · rw [if_pos (by omega), rowC_get R (by omega), Nat.mul_comm b 2]
      rcases (by omega : i = 0 ∨ i = 1) with rfl | rfl <;> rfl
    · rw [if_neg (by omega), Array.getElem?_eq_none (by simp; omega)]
  simp [part, e]
theorem idxO (f : Nat → Nat) {b : Nat} (hb : b < 256) (w : World) : (Instr.index 24 (.agg (ofC f)) (.int .i64 b)).run Tryd.prog w = .ok (.int .u8 (f b)) w := by
  have hs : (sizeOf 5).run Tryd.prog w = .ok 1 w := by kernel_rfl
  have hp := part5 (ofC_get f hb) w
  simp [Instr.index, run_underlying Tryd.underlying24, asIntOf, hs, hp, hb]
theorem idxW (R : Nat → Nat) {b : Nat} (hb : b < 256) (w : World) : (Instr.index 62 (.agg (rowC R)) (.int .i64 b)).run Tryd.prog w = .ok (.agg #[.int .u64 (R (2 * b)), .int .u64 (R (2 * b + 1))]) w := by
  have hs : (sizeOf 59).run Tryd.prog w = .ok 2 w := by kernel_rfl
  have hp := partW R hb w
  simp [Instr.index, run_underlying Tryd.underlying62, asIntOf, hs, hp, hb]

/-! ### compared -/
theorem eqItems_list (d : Nat) (xs ys : Array Value) (F G : Nat → Nat) (w : World) : ∀ js : List Nat, (∀ j ∈ js, xs[j]? = some (.int .u8 (F j)) ∧ ys[j]? = some (.int .u8 (G j))) →
    (Op.eqItems (d + 1) 5 1 xs ys js).run Tryd.prog w = .ok (js.all fun j => decide (F j = G j)) w
  | [], _ => by simp [Op.eqItems]
  | j :: js, h => by
    have h5 := run_equalIn_int (P := Tryd.prog) w d 5 .u8 .u8 (F j) (G j) Tryd.underlying5
    have ih := eqItems_list d xs ys F G w js fun k hk => h k (by simp [hk])
    have h1 := part5 (off := j * 1) (by rw [Nat.mul_one]; exact (h j (by simp)).1) w
    have h2 := part5 (off := j * 1) (by rw [Nat.mul_one]; exact (h j (by simp)).2) w
    simp only [Op.eqItems, Sem.run_bind, h1, h2, h5, Result.andThen_ok]
    by_cases e : F j = G j
    · simp [e, ih]
    · have e2 : (((F j : Nat) : Int) == ((G j : Nat) : Int)) = false := by simp; omega
      simp [e, e2]

theorem eqFields_two {d : Nat} {xs ys : Array Value} {fs : List Field} {ta ti o0 o1 : Nat} (h : fs.map (fun f => (decide (f.name ≠ "_"), f.type, f.offset)) = [(true, ta, o0), (true, ti, o1)])
    {w : World} {a b a' b' : Value} {r r' : Bool} (h1 : (part ta xs o0).run Tryd.prog w = .ok a w) (h2 : (part ta ys o0).run Tryd.prog w = .ok b w) (h3 : (Op.equalIn d ta a b).run Tryd.prog w = .ok r w)
    (k1 : (part ti xs o1).run Tryd.prog w = .ok a' w) (k2 : (part ti ys o1).run Tryd.prog w = .ok b' w) (k3 : (Op.equalIn d ti a' b').run Tryd.prog w = .ok r' w) :
    (Op.eqFields d xs ys fs).run Tryd.prog w = .ok (r && r') w := by
  rcases fs with _ | ⟨f0, _ | ⟨f1, _ | ⟨f2, fs⟩⟩⟩
  · simp at h
  · simp at h
  · simp only [List.map_cons, List.map_nil, List.cons.injEq, Prod.mk.injEq, and_true] at h
    obtain ⟨⟨g1, g2, g3⟩, g4, g5, g6⟩ := h
    have g1' : f0.name ≠ "_" := of_decide_eq_true g1
    have g4' : f1.name ≠ "_" := of_decide_eq_true g4
    simp only [Op.eqFields, if_pos g1', if_pos g4', g2, g3, g5, g6, Sem.run_bind, h1, h2, h3, Result.andThen_ok]
    cases r
    · simp
    · simp [k1, k2, k3]
      cases r' <;> simp
  · simp at h

theorem equal_cls {t : TypeId} (ht : Tryd.prog.underlying t = some (.struct (Tryd.prog.fieldsOf t))) (hp : Tryd.prog.stoodInHeld t = false)
    (hf : (Tryd.prog.fieldsOf t).toList.map (fun f => (decide (f.name ≠ "_"), f.type, f.offset)) = [(true, 24, 0), (true, 3, 256)])
    (f f' : Nat → Nat) (n n' : Int) (w : World) : (Op.equalIn 10000 t (.agg (clsC f n)) (.agg (clsC f' n'))).run Tryd.prog w = .ok (sameB f f' n n') w := by
  rw [run_equalIn_struct (P := Tryd.prog) w 9999 t _ _ ht hp]
  obtain ⟨i, hi⟩ : ∃ i, Tryd.prog.info? 5 = some i := Option.isSome_iff_exists.1 (by kernel_rfl)
  have hc : Tryd.prog.cellsOf 5 = 1 := by kernel_rfl
  have harr := run_equalIn_array (P := Tryd.prog) w 9998 (ofC f) (ofC f') Tryd.underlying24 hi
  rw [hc, eqItems_list 9997 (ofC f) (ofC f') f f' w (List.range 256) (fun j hj => ⟨ofC_get f (List.mem_range.1 hj), ofC_get f' (List.mem_range.1 hj)⟩)] at harr
  have hint := run_equalIn_int (P := Tryd.prog) w 9998 3 .i64 .i64 n n' Tryd.underlying3
  rw [eqFields_two hf (partO f n w) (partO f' n' w) harr (part3 (clsC_n f n) w) (part3 (clsC_n f' n') w) hint]
  unfold sameB
  have e : (n == n') = decide (n = n') := by rw [Bool.eq_iff_iff]; simp
  rw [e]
theorem eql_cls (f f' : Nat → Nat) (n n' : Int) (w : World) : (binOp .eql 26 (.agg (clsC f n)) (.agg (clsC f' n'))).run Tryd.prog w = .ok (.bool (sameB f f' n n')) w := by
  rw [run_eql_struct, equal_cls (by kernel_rfl) (by kernel_rfl) (by kernel_rfl)]; rfl
theorem neq_ref (f f' : Nat → Nat) (n n' : Int) (w : World) : (binOp .neq 28 (.agg (clsC f n)) (.agg (clsC f' n'))).run Tryd.prog w = .ok (.bool (!sameB f f' n n')) w := by
  rw [run_neq_struct, equal_cls (by kernel_rfl) (by kernel_rfl) (by kernel_rfl)]; rfl
theorem neq_set (m n : Nat → Bool) (w : World) : (binOp .neq 35 (setV m) (setV n)).run Tryd.prog w = .ok (.bool (!setEq m n)) w := by
  have h := eql_set m n w
  have h1 := run_eql_struct (P := Tryd.prog) w 35 #[.int .u64 (wd m 0 : Nat), .int .u64 (wd m 1 : Nat), .int .u64 (wd m 2 : Nat), .int .u64 (wd m 3 : Nat)]
      #[.int .u64 (wd n 0 : Nat), .int .u64 (wd n 1 : Nat), .int .u64 (wd n 2 : Nat), .int .u64 (wd n 3 : Nat)]
  have h2 := run_neq_struct (P := Tryd.prog) w 35 #[.int .u64 (wd m 0 : Nat), .int .u64 (wd m 1 : Nat), .int .u64 (wd m 2 : Nat), .int .u64 (wd m 3 : Nat)]
      #[.int .u64 (wd n 0 : Nat), .int .u64 (wd n 1 : Nat), .int .u64 (wd n 2 : Nat), .int .u64 (wd n 3 : Nat)]
  have h3 := h1.symm.trans h
  refine h2.trans ?_
  generalize (Op.equalIn 10000 35 _ _).run Tryd.prog w = r at *
  cases r with
  | ok b w' =>
    simp only [Result.andThen_ok, Result.ok.injEq, Value.bool.injEq] at h3
    obtain ⟨rfl, rfl⟩ := h3
    rfl
  | halt x w' => simp [Result.andThen] at h3

/-! ### built -/
theorem built_one : Tryd.prog.built 26 [(1, .int .i64 1)] = some (clsC (fun _ => 0) 1) := by kernel_rfl
theorem built_ref (f : Nat → Nat) (n : Int) : Tryd.prog.built 28 [(0, .agg (ofC f)), (1, .int .i64 n)] = some (clsC f n) := by kernel_rfl
theorem built_cls (f : Nat → Nat) (n : Int) : Tryd.prog.built 26 [(0, .agg (ofC f)), (1, .int .i64 n)] = some (clsC f n) := by kernel_rfl

/-! ### keys -/
abbrev keyV (a b : Nat) : Value := .agg #[.int .u64 a, .int .u64 b]
def keyL (a b : Nat) : Lit := .string (keyBytes [.int .u64 a, .int .u64 b])
theorem wf64 {a : Nat} (h : a < 18446744073709551616) : (Lit.int .u64 a).wf = true := WalkArith.wf_u64 (by omega)
theorem keyLaw : Maps.Keyed Tryd.prog 59 :=
  Maps.Keyed.of_law (deep_law_laid (P := Tryd.prog) (by kernel_rfl) (m := 2) (by omega) (of_decide_eq_true (by kernel_rfl)) (by kernel_rfl) (by kernel_rfl))
theorem key_of {a b : Nat} (ha : a < 18446744073709551616) (hb : b < 18446744073709551616) : keyOf Tryd.prog 59 (keyV a b) = some (keyL a b) := by
  have h1 : Tryd.prog.keyType 59 = true := by kernel_rfl
  have h2 : (keyV a b).formed Tryd.prog 59 = true := by kernel_rfl
  have hd : ∃ d, Tryd.prog.types.size + 1 = d + 2 := ⟨Tryd.prog.types.size - 1, by have : 1 ≤ Tryd.prog.types.size := of_decide_eq_true (by kernel_rfl); omega⟩
  obtain ⟨d, hd⟩ := hd
  have hc : Tryd.prog.cellsOf 59 = 2 := by kernel_rfl
  have hc1 : Tryd.prog.cellsOf 33 = 1 := by kernel_rfl
  unfold keyOf
  rw [Tryd.underlying59, hd]
  simp [h1, h2, Program.keyLits, Tryd.underlying59, Tryd.underlying33, hc, hc1, Value.cells, List.range_succ, wf64 ha, wf64 hb, keyL]
theorem key_inj {a b a' b' : Nat} (ha : a < 18446744073709551616) (hb : b < 18446744073709551616) (ha' : a' < 18446744073709551616) (hb' : b' < 18446744073709551616) (h : keyL a b = keyL a' b') : a = a' ∧ b = b' := by
  have h1 := key_of ha hb
  have h2 := key_of ha' hb'
  rw [h] at h1
  have := keyLaw.inj h1 h2
  simp only [Value.agg.injEq, Array.mk.injEq, List.cons.injEq, Value.int.injEq, true_and, and_true, Int.natCast_inj] at this
  exact this
theorem key_lit (a b : Nat) : WideAt.IsKeyLit (keyL a b) := trivial

attribute [irreducible] ofC rowC

end Go.Proofs.YtebhnfdgjbhhfaaDoor
