/-
  WHAT Whole OF PACKAGE class ANSWERS: a contract. Condition: the table of math/bits lies as it is laid; classes are bytes.
-/
import Derived.Test.YtebhnfdgjbhhfaaDoorSplit
import Derived.Deep.RegionHeld
namespace Go.Proofs.YtebhnfdgjbhhfaaDoor
open Go.RowKit

theorem exec_load {P : Program} {o : Oper} {a : Act} {w : World} {v : Value} (t : TypeId) (x : Operand) (p : Value) (ho : o.op = .load t x) (hx : a.eval x = p) (h : (Instr.loadAt t p).run P w = .ok v w) : (execOp a.eval o).run P w = .ok (.value v) w := by
  unfold execOp
  simp only [ho, hx, Sem.run_bind, Sem.run_pure, h, Result.andThen_ok]
theorem exec_eql {P : Program} {o : Oper} {a : Act} {w : World} {r : Bool} (t : TypeId) (x y : Operand) (p q : Array Value) (ho : o.op = .binOp .eql t x y t) (hx : a.eval x = .agg p) (hy : a.eval y = .agg q) (hg : P.eqGuardType P.depth t = false)
    (h : (binOp .eql t (.agg p) (.agg q)).run P w = .ok (.bool r) w) : (execOp a.eval o).run P w = .ok (.value (.bool r)) w := by
  have hq := run_eqGuard_agg (P := P) w .eql t x y p q hg
  unfold execOp
  simp only [ho, hx, hy, Sem.run_bind, Sem.run_pure, hq, h, Result.andThen_ok]

/-- a set's block, loaded -/
abbrev setA (m : Nat → Bool) : Array Value := #[.int .u64 (wd m 0 : Nat), .int .u64 (wd m 1 : Nat), .int .u64 (wd m 2 : Nat), .int .u64 (wd m 3 : Nat)]
theorem loadS {w : World} {g : Nat} {t : TypeId} {m : Nat → Bool} (h : BlkIs w g t (setA m)) : (Instr.loadAt 35 (.pointer (some ⟨g, 0, none⟩))).run Tryd.prog w = .ok (setV m) w :=
  run_loadAt_mid (P := Tryd.prog) w g 0 35 (setL m) _ h.range Tryd.underlying35 rfl (by rw [infoS]; rfl)
theorem setRow_one {w : World} {g : Nat} {t : TypeId} {m : Nat → Bool} (h : BlkIs w g t (setA m)) : SetRow w w.heap.size (some ⟨g, 0, none⟩) [m] := fun _ => ⟨g, 0, rfl, h.lt, fun k m' hk => by
  rcases k with _ | k
  · simp only [List.getElem?_cons_zero, Option.some.injEq] at hk
    subst hk
    exact h.range
  · simp at hk⟩

set_option maxRecDepth 100000 in
set_option maxHeartbeats 2000000 in
theorem whole_any (f : Nat → Nat) (n : Int) (hf : ∀ b, b < 256 → f b < 256) (s : Nat → Bool) (w : World) (hT : Tab w) :
    Calls Tryd.prog 11 #[.agg (clsC f n), setV s] w fun e w' => e = .returned (.bool (wholeB f n s)) ∧ Below w.heap.size w w' := by
  have hws : sameB (num (keyG f [s])) f (cnt (keyG f [s]) 256 : Nat) n = wholeB f n s := whole_split (fun a b _ _ => by
    rw [keyG_eq f (by simp)]
    simp)
  rw [← hws]
  have HSP := Lib.hid (split_any f n hf [s] (by simp))
  have hq := Lib.hid (eql_cls (num (keyG f [s])) f (cnt (keyG f [s]) 256 : Nat) n)
  generalize num (keyG f [s]) = fN at *
  generalize ((cnt (keyG f [s]) 256 : Nat) : Int) = nN at *
  clear hws
  have hb := (BlkIs.new w 26 (clsC f n)).alloc (.cells (setA s) 35)
  have hs := BlkIs.new (w.alloc (.cells (clsC f n) 26)) 35 (setA s)
  rw [World.size_alloc] at hs
  have hBe := ((Below.refl w.heap.size w).alloc (Nat.le_refl _) (.cells (clsC f n) 26)).alloc (by simp) (.cells (setA s) 35)
  have HB := Lib.hid (And.intro hb hs)
  have HE := Lib.hid hBe
  have HT := Lib.hid hT
  clear hb hs hBe hT hf
  go_enter Tryd.func11, Tryd.ntmps11
  go_wp2_with fail
  refine wp_region_held_drew (S := fun u => BlkIs u w.heap.size 26 (clsC f n) ∧ BlkIs u (w.heap.size + 1) 35 (setA s)) (by kernel_rfl) ⟨HB.out.1.drew, HB.out.2.drew⟩ ?_
  intro hS0
  refine wpAnyH_take (i := 0) (v := .agg (clsC f n)) rfl (by kernel_rfl) (by kernel_rfl) (by kernel_rfl) (fun _ _ _ h => h) (.inl ⟨rfl, fun u hu => exec_load 26 (.tmp 2) _ rfl rfl (loadC hu.1)⟩) hS0 ?_
  refine wpAnyH_take (i := 1) (v := setV s) rfl (by kernel_rfl) (by kernel_rfl) (by kernel_rfl) (fun _ _ _ h => h) (.inl ⟨rfl, fun u hu => exec_load 35 (.tmp 3) _ rfl rfl (loadS hu.2)⟩) hS0 ?_
  refine wpAnyH_take (i := 4) (v := .agg (clsC f n)) rfl (by kernel_rfl) (by kernel_rfl) (by kernel_rfl) (fun _ _ _ h => h) (.inl ⟨rfl, fun u hu => exec_load 26 (.tmp 2) _ rfl rfl (loadC hu.1)⟩) hS0 ?_
  refine wpAnyH_ready (rs := [2]) (by kernel_rfl) (by simp) ?_
  refine AllReadyH.cons rfl (fun K hK => ?_) AllReadyH.nil
  go_simp
  have hx2 : BlkIs (((w.alloc (.cells (clsC f n) 26)).alloc (.cells (setA s) 35)).alloc (.cells (setA s) 35)).drew (w.heap.size + 1 + 1) 35 (setA s) := by
    have := BlkIs.new ((w.alloc (.cells (clsC f n) 26)).alloc (.cells (setA s) 35)) 35 (setA s)
    rw [World.size_alloc, World.size_alloc] at this
    exact this.drew
  have hB2 : Below w.heap.size w (((w.alloc (.cells (clsC f n) 26)).alloc (.cells (setA s) 35)).alloc (.cells (setA s) 35)).drew := (HE.out.alloc HE.out.size _).drew
  refine hK.out _ _ ⟨(HB.out.1.alloc _).drew, (HB.out.2.alloc _).drew⟩ (fun hS => ?_)
  clear hK K hS0
  refine wpAnyH_ready (rs := [3]) (by kernel_rfl) (by simp) ?_
  refine AllReadyH.cons rfl (fun K hK => ?_) AllReadyH.nil
  go_simp
  go_at_call 21
  refine (HSP.out _ _ _ (HT.out.step hB2) (setRow_one hx2)).mono ?_
  rintro e w2 ⟨rfl, hb2⟩
  refine hK.out _ _ ⟨hS.1.step hb2, hS.2.step hb2⟩ (fun hS2 => ?_)
  have hB3 := hB2.trans (hb2.mono hB2.size)
  clear hK K hS hx2 hB2 hb2 HSP HB HE HT
  refine wpAnyH_take (i := 5) (v := .bool (sameB fN f nN n)) rfl (by kernel_rfl) (by kernel_rfl) (by kernel_rfl) (fun _ _ _ h => h) (.inl ⟨rfl, fun u hu => exec_eql 26 (.tmp 8) (.tmp 9) _ _ rfl rfl rfl (by kernel_rfl) (hq.out u)⟩) hS2 ?_
  refine wpAnyH_take (i := 6) (v := .bool (sameB fN f nN n)) rfl (by kernel_rfl) (by kernel_rfl) (by kernel_rfl) (fun _ _ _ h => h) (.inl ⟨rfl, fun u hu => by go_simp⟩) hS2 ?_
  refine wpAnyH_done (by kernel_rfl) ?_ _
  go_wp2
  go_ret
  exact ⟨rfl, hB3⟩

end Go.Proofs.YtebhnfdgjbhhfaaDoor
