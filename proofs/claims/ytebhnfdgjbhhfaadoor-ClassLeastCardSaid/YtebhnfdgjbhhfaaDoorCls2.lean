/-
  WHAT May OF PACKAGE class AND OF THE REFERENCE ANSWER, AND THE LAW'S OWN TURNINGS: contracts. Condition: classes are bytes.
-/
import Derived.Test.YtebhnfdgjbhhfaaDoorCls
import Derived.Test.YtebhnfdgjbhhfaaDoorLaw1d
namespace Go.Proofs.YtebhnfdgjbhhfaaDoor
open Go.RowKit

section
variable {ops : Array Oper} {rest : List Oper} {op : Oper} {a : Act} {w : World} {Q : Exit → Act → World → Prop} {g : Nat} {t : TypeId} {f : Nat → Nat} {n : Int} {R : Nat → Nat}
theorem wpList_loadO (hgd : op.guard = none) (x : Operand) (ho : op.op = .load 24 x) (hx : a.eval x = .pointer (some ⟨g, 0, none⟩)) (h : BlkIs w g t (clsC f n))
    (hK : wpList Tryd.prog ops Q rest (a.put op.dst (.agg (ofC f))) w) : wpList Tryd.prog ops Q (op :: rest) a w :=
  wpList_load_mid hgd 24 x ho g 0 hx (ofC f).toList _ (rangeO h) Tryd.underlying24 rfl (by rw [infoO, Array.length_toList, ofC_size]) (by rw [Array.toArray_toList]; exact hK)
theorem wpList_loadC (hgd : op.guard = none) (x : Operand) (ho : op.op = .load 26 x) (hx : a.eval x = .pointer (some ⟨g, 0, none⟩)) (h : BlkIs w g t (clsC f n))
    (hK : wpList Tryd.prog ops Q rest (a.put op.dst (.agg (clsC f n))) w) : wpList Tryd.prog ops Q (op :: rest) a w :=
  wpList_load_mid hgd 26 x ho g 0 hx (clsC f n).toList _ h.range Tryd.underlying26 rfl (by rw [infoC, Array.length_toList, clsC_size]) (by rw [Array.toArray_toList]; exact hK)
theorem wpList_loadR (hgd : op.guard = none) (x : Operand) (ho : op.op = .load 28 x) (hx : a.eval x = .pointer (some ⟨g, 0, none⟩)) (h : BlkIs w g t (clsC f n))
    (hK : wpList Tryd.prog ops Q rest (a.put op.dst (.agg (clsC f n))) w) : wpList Tryd.prog ops Q (op :: rest) a w :=
  wpList_load_mid hgd 28 x ho g 0 hx (clsC f n).toList _ h.range Tryd.underlying28 rfl (by rw [infoR, Array.length_toList, clsC_size]) (by rw [Array.toArray_toList]; exact hK)
theorem wpList_loadW (hgd : op.guard = none) (x : Operand) (ho : op.op = .load 62 x) (hx : a.eval x = .pointer (some ⟨g, 0, none⟩)) (h : BlkIs w g t (rowC R))
    (hK : wpList Tryd.prog ops Q rest (a.put op.dst (.agg (rowC R))) w) : wpList Tryd.prog ops Q (op :: rest) a w :=
  wpList_load_mid hgd 62 x ho g 0 hx (rowC R).toList _ h.range Tryd.underlying62 rfl (by rw [infoW, Array.length_toList, rowC_size]) (by rw [Array.toArray_toList]; exact hK)

/-- w' is w but for the cells of block g -/
def Wrote (g : Nat) (w w' : World) : Prop := (∀ k, k ≠ g → w'.heap[k]? = w.heap[k]?) ∧ (∀ B W0, B ≤ g → Below B W0 w → Below B W0 w') ∧ w'.heap.size = w.heap.size
theorem Wrote.blk {w w' : World} {k : Nat} {cs : Array Value} (h : Wrote g w w') (hk : k ≠ g) (hb : BlkIs w k t cs) : BlkIs w' k t cs := (h.1 k hk).trans hb
theorem Wrote.cell (w : World) (g i : Nat) (v : Value) : Wrote g w (w.setCell ⟨g, i, none⟩ v) :=
  ⟨fun k hk => Below.heap_setCell w ⟨g, i, none⟩ v k hk, fun _ _ hB h => h.setCell (p := ⟨g, i, none⟩) hB v, World.size_setCell _ _ _⟩
theorem Wrote.trans {w1 w2 w3 : World} (h : Wrote g w1 w2) (h' : Wrote g w2 w3) : Wrote g w1 w3 :=
  ⟨fun k hk => (h'.1 k hk).trans (h.1 k hk), fun B W0 hB hb => h'.2.1 B W0 hB (h.2.1 B W0 hB hb), h'.2.2.trans h.2.2⟩
theorem Wrote.refl (g : Nat) (w : World) : Wrote g w w := ⟨fun _ _ => rfl, fun _ _ _ h => h, rfl⟩
theorem Wrote.cells (g : Nat) : ∀ (vs : List Value) (o : Nat) (w : World), Wrote g w (w.setCells g o vs)
  | [], _, w => Wrote.refl g w
  | v :: r, o, w => by
    rw [World.setCells]
    exact (Wrote.cell w g o v).trans (Wrote.cells g r (o + 1) _)

/-- a whole block stored anew -/
theorem wpList_store_all (hgd : op.guard = none) (ty : TypeId) (x y : Operand) (ho : op.op = .store ty x y) (hx : a.eval x = .pointer (some ⟨g, 0, none⟩)) {cs new : Array Value} (hy : a.eval y = .agg new)
    (h : BlkIs w g t cs) (hs : new.size = cs.size) (hi : (Tryd.prog.info? ty).map (·.size) = some new.size) (h1 : new.all (·.oneCell') = true)
    (hK : ∀ w', BlkIs w' g t new → Wrote g w w' → wpList Tryd.prog ops Q rest (a.put op.dst undef) w') : wpList Tryd.prog ops Q (op :: rest) a w :=
  wpList_store_mid hgd ty x y ho g 0 new hx hy (by rw [hs]; exact h.there) hi h1 (hK _ (h.fill hs) (Wrote.cells g _ 0 w))
end

set_option maxRecDepth 100000 in
set_option maxHeartbeats 1000000 in
theorem may_any (f : Nat → Nat) (n : Int) (hf : ∀ b, b < 256 → f b < 256) (w : World) :
    Calls Tryd.prog 10 #[.agg (clsC f n)] w fun e w' => e = .returned (.bool (mayB f n)) ∧ Below w.heap.size w w' := by
  have hb := BlkIs.new w 26 (clsC f n)
  have hn := (hb.cell 256).trans (clsC_n f n)
  have hB := (Below.refl w.heap.size w).alloc (Nat.le_refl _) (.cells (clsC f n) 26)
  have HB := Lib.hid hb
  have HF := Lib.hid hf
  have HBe := Lib.hid hB
  clear hb hf hB
  go_enter Tryd.func10, Tryd.ntmps10
  go_wp2_with (refine wpList_loadO rfl (.tmp 6) rfl rfl HB.out ?_)
  go_loop [3, 8] (fun a i => ∃ k c : Nat, k ≤ 256 ∧ c ≤ 256 ∧ a = .int .i64 c ∧ i = .int .i64 k ∧ Hid (c = cnt f k ∧ MayTo f k)) (fun _ i => 256 - (intOf i).toNat)
  case atStart => exact ⟨0, 0, by omega, by omega, rfl, rfl, Lib.hid ⟨rfl, fun b h => absurd h (by omega)⟩⟩
  case round =>
    obtain ⟨k, c, hk, hc, rfl, rfl, HH⟩ := hrel
    by_cases hlt : k < 256
    · have hix := idxO f hlt (w.alloc (.cells (clsC f n) 26))
      have hfk := HF.out k hlt
      have hw : IntKind.i64.wrap ((f k : Nat) : Int) = (f k : Nat) := by rw [IntKind.wrap_i64]; omega
      rcases Nat.lt_trichotomy (f k) c with h1 | h1 | h1
      · have d1 : decide (((c : Nat) : Int) < ((f k : Nat) : Int)) = false := decide_eq_false (by omega)
        have d2 : (((f k : Nat) : Int) == ((c : Nat) : Int)) = false := by simp; omega
        have hs := mayTo_old HH.out.2 (by rw [← HH.out.1]; exact h1)
        have HS := Lib.hid hs
        clear hs
        go_wp2
        exact ⟨⟨k + 1, c, by omega, hc, rfl, by go_num, Lib.hid ⟨by rw [HS.out.2]; exact HH.out.1, HH.out.2.succ HS.out.1⟩⟩, by simp [intOf]; omega⟩
      · have d1 : decide (((c : Nat) : Int) < ((f k : Nat) : Int)) = false := decide_eq_false (by omega)
        have d2 : (((f k : Nat) : Int) == ((c : Nat) : Int)) = true := by simp; omega
        have hs := mayTo_new HH.out.2 (by rw [← HH.out.1]; exact h1)
        have HS := Lib.hid hs
        clear hs
        go_wp2
        exact ⟨⟨k + 1, c + 1, by omega, by omega, by go_num, by go_num, Lib.hid ⟨by rw [HS.out.2, HH.out.1], HH.out.2.succ HS.out.1⟩⟩, by simp [intOf]; omega⟩
      · have d1 : decide (((c : Nat) : Int) < ((f k : Nat) : Int)) = true := decide_eq_true (by omega)
        have hs := mayB_not (n := n) hlt (mayTo_over (by rw [← HH.out.1]; exact h1))
        have HS := Lib.hid hs
        clear hs
        go_wp2
        go_ret
        exact ⟨ret_bool HS.out.symm, HBe.out⟩
    · obtain rfl : k = 256 := by omega
      have hs := mayB_end (n := n) HH.out.2
      rw [← HH.out.1] at hs
      have HS := Lib.hid hs
      clear hs
      go_wp2
      go_ret
      refine ⟨ret_bool ?_, HBe.out⟩
      rw [HS.out, Bool.eq_iff_iff]; simp

set_option maxRecDepth 100000 in
set_option maxHeartbeats 1000000 in
theorem refMay_any (f : Nat → Nat) (n : Int) (hf : ∀ b, b < 256 → f b < 256) (w : World) :
    Calls Tryd.prog 14 #[.agg (clsC f n)] w fun e w' => e = .returned (.bool (mayB f n)) ∧ Below w.heap.size w w' := by
  have hb := BlkIs.new w 28 (clsC f n)
  have hn := (hb.cell 256).trans (clsC_n f n)
  have hB := (Below.refl w.heap.size w).alloc (Nat.le_refl _) (.cells (clsC f n) 28)
  have HB := Lib.hid hb
  have HF := Lib.hid hf
  have HBe := Lib.hid hB
  clear hb hf hB
  go_enter Tryd.func14, Tryd.ntmps14
  go_wp2
  go_loop [3, 4] (fun a i => ∃ k c : Nat, k ≤ 256 ∧ c ≤ 256 ∧ a = .int .i64 c ∧ i = .int .i64 k ∧ Hid (c = cnt f k ∧ MayTo f k)) (fun _ i => 256 - (intOf i).toNat)
  case atStart => exact ⟨0, 0, by omega, by omega, rfl, rfl, Lib.hid ⟨rfl, fun b h => absurd h (by omega)⟩⟩
  case round =>
    obtain ⟨k, c, hk, hc, rfl, rfl, HH⟩ := hrel
    by_cases hlt : k < 256
    · have hix := (HB.out.cell k).trans (clsC_of f n hlt)
      have hfk := HF.out k hlt
      have hw : IntKind.i64.wrap ((f k : Nat) : Int) = (f k : Nat) := by rw [IntKind.wrap_i64]; omega
      rcases Nat.lt_trichotomy (f k) c with h1 | h1 | h1
      · have d1 : decide (((c : Nat) : Int) < ((f k : Nat) : Int)) = false := decide_eq_false (by omega)
        have d2 : (((f k : Nat) : Int) == ((c : Nat) : Int)) = false := by simp; omega
        have hs := mayTo_old HH.out.2 (by rw [← HH.out.1]; exact h1)
        have HS := Lib.hid hs
        clear hs
        go_wp2
        exact ⟨⟨k + 1, c, by omega, hc, rfl, by go_num, Lib.hid ⟨by rw [HS.out.2]; exact HH.out.1, HH.out.2.succ HS.out.1⟩⟩, by simp [intOf]; omega⟩
      · have d1 : decide (((c : Nat) : Int) < ((f k : Nat) : Int)) = false := decide_eq_false (by omega)
        have d2 : (((f k : Nat) : Int) == ((c : Nat) : Int)) = true := by simp; omega
        have hs := mayTo_new HH.out.2 (by rw [← HH.out.1]; exact h1)
        have HS := Lib.hid hs
        clear hs
        go_wp2
        exact ⟨⟨k + 1, c + 1, by omega, by omega, by go_num, by go_num, Lib.hid ⟨by rw [HS.out.2, HH.out.1], HH.out.2.succ HS.out.1⟩⟩, by simp [intOf]; omega⟩
      · have d1 : decide (((c : Nat) : Int) < ((f k : Nat) : Int)) = true := decide_eq_true (by omega)
        have hs := mayB_not (n := n) hlt (mayTo_over (by rw [← HH.out.1]; exact h1))
        have HS := Lib.hid hs
        clear hs
        go_wp2
        go_ret
        exact ⟨ret_bool HS.out.symm, HBe.out⟩
    · obtain rfl : k = 256 := by omega
      have hs := mayB_end (n := n) HH.out.2
      rw [← HH.out.1] at hs
      have HS := Lib.hid hs
      clear hs
      go_wp2
      go_ret
      refine ⟨ret_bool ?_, HBe.out⟩
      rw [HS.out, Bool.eq_iff_iff]; simp

end Go.Proofs.YtebhnfdgjbhhfaaDoor
