/-
  WHAT THE LAW'S OWN TURNINGS, AND Members AND First, ANSWER: contracts. Condition: classes are bytes; for First: the table of math/bits lies as it is laid.
-/
import Derived.Test.YtebhnfdgjbhhfaaDoorCls2
import Derived.Test.YtebhnfdgjbhhfaaDoorBytes
namespace Go.Proofs.YtebhnfdgjbhhfaaDoor
open Go.RowKit

theorem wpList_built {ops : Array Oper} {rest : List Oper} {o : Oper} {a : Act} {w : World} {Q : Exit → Act → World → Prop} (hg : o.guard = none) (t : TypeId) (parts : Array (Nat × Operand)) (ho : o.op = .build t parts) {cells : Array Value}
    (hc : Tryd.prog.built t (parts.map fun (i, x) => (i, a.eval x)).toList = some cells) (h : wpList Tryd.prog ops Q rest (a.put o.dst (.agg cells)) w) : wpList Tryd.prog ops Q (o :: rest) a w :=
  wpList_plain hg fun _ hK => wp_build t parts ho (by rw [hc]; rfl) (by rw [hc]; exact hK _ _ h)

section
variable {w : World} {g : Nat} {t : TypeId} {f : Nat → Nat} {n : Int}
theorem loadVarC (h : BlkIs w g t (clsC f n)) : (loadVar 26 ⟨g, 0, none⟩).run Tryd.prog w = .ok (.agg (clsC f n)) w := by
  have := run_loadVar_mid (P := Tryd.prog) w g 0 26 (clsC f n).toList _ h.range Tryd.underlying26 rfl (by rw [infoC, Array.length_toList, clsC_size])
  rwa [Array.toArray_toList] at this
theorem loadVarR (h : BlkIs w g t (clsC f n)) : (loadVar 28 ⟨g, 0, none⟩).run Tryd.prog w = .ok (.agg (clsC f n)) w := by
  have := run_loadVar_mid (P := Tryd.prog) w g 0 28 (clsC f n).toList _ h.range Tryd.underlying28 rfl (by rw [infoR, Array.length_toList, clsC_size])
  rwa [Array.toArray_toList] at this
end

set_option maxRecDepth 100000 in
set_option maxHeartbeats 1000000 in
theorem plain_any (f : Nat → Nat) (n : Int) (w : World) :
    Calls Tryd.prog 8 #[.agg (clsC f n)] w fun e w' => e = .returned (.agg (clsC f n)) ∧ Below w.heap.size w w' := by
  have z := zeroR
  have hb := (BlkIs.new w 26 (clsC f n)).alloc (.cells (clsC (fun _ => 0) 0) 28)
  have hr := BlkIs.new (w.alloc (.cells (clsC f n) 26)) 28 (clsC (fun _ => 0) 0)
  rw [World.size_alloc] at hr
  have hn := (hb.cell 256).trans (clsC_n f n)
  have hB := ((Below.refl w.heap.size w).alloc (Nat.le_refl _) (.cells (clsC f n) 26)).alloc (by simp) (.cells (clsC (fun _ => 0) 0) 28)
  have HB := Lib.hid hb
  have HR := Lib.hid hr
  have HBe := Lib.hid hB
  clear hb hB hr
  go_enter Tryd.func8, Tryd.ntmps8
  go_wp2_with (first
    | refine wpList_loadO rfl (.tmp 3) rfl rfl HB.out ?_
    | refine wpList_built rfl 28 _ rfl (cells := clsC f n) (by simpa [Act.eval] using built_ref f n) ?_
    | (refine wpList_store_all rfl 28 (.tmp 2) (.tmp 7) rfl rfl (new := clsC f n) rfl HR.out (by rw [clsC_size, clsC_size]) (by rw [clsC_size]; exact infoR) (clsC_one _ _) ?_; intro w1 hw1 hwr))
  exact bodyPost_ret (results_cell1 rfl (by simp [Act.put]) (loadVarR hw1)) rfl ⟨rfl, hwr.2.1 _ _ (Nat.le_succ _) HBe.out⟩

set_option maxRecDepth 100000 in
set_option maxHeartbeats 1000000 in
theorem of2_any (f : Nat → Nat) (n : Int) (w : World) :
    Calls Tryd.prog 13 #[.agg (clsC f n)] w fun e w' => e = .returned (.agg (clsC f n)) ∧ Below w.heap.size w w' := by
  have z := zeroC
  have hb := (BlkIs.new w 28 (clsC f n)).alloc (.cells (clsC (fun _ => 0) 0) 26)
  have hr := BlkIs.new (w.alloc (.cells (clsC f n) 28)) 26 (clsC (fun _ => 0) 0)
  rw [World.size_alloc] at hr
  have hn := (hb.cell 256).trans (clsC_n f n)
  have hB := ((Below.refl w.heap.size w).alloc (Nat.le_refl _) (.cells (clsC f n) 28)).alloc (by simp) (.cells (clsC (fun _ => 0) 0) 26)
  have HB := Lib.hid hb
  have HR := Lib.hid hr
  have HBe := Lib.hid hB
  clear hb hB hr
  go_enter Tryd.func13, Tryd.ntmps13
  go_wp2_with (first
    | refine wpList_loadO rfl (.tmp 3) rfl rfl HB.out ?_
    | refine wpList_built rfl 26 _ rfl (cells := clsC f n) (by simpa [Act.eval] using built_cls f n) ?_
    | (refine wpList_store_all rfl 26 (.tmp 2) (.tmp 7) rfl rfl (new := clsC f n) rfl HR.out (by rw [clsC_size, clsC_size]) (by rw [clsC_size]; exact infoC) (clsC_one _ _) ?_; intro w1 hw1 hwr))
  exact bodyPost_ret (results_cell1 rfl (by simp [Act.put]) (loadVarC hw1)) rfl ⟨rfl, hwr.2.1 _ _ (Nat.le_succ _) HBe.out⟩

/-- the bytes of class k -/
def memC (f : Nat → Nat) (n k : Int) (b : Nat) : Bool := mayB f n && decide (((f b : Nat) : Int) = k)

theorem clsBy {w : World} {g k : Nat} {t : TypeId} {f : Nat → Nat} {n : Int} (h : BlkIs w g t (clsC f n)) (hk : k < 256) : w.cell? ⟨g, k, none⟩ = some (.int .u8 (f k)) := (h.cell k).trans (clsC_of f n hk)

set_option maxRecDepth 100000 in
set_option maxHeartbeats 2000000 in
theorem refMembers_any (f : Nat → Nat) (n k : Int) (hf : ∀ b, b < 256 → f b < 256) (w : World) :
    Calls Tryd.prog 15 #[.agg (clsC f n), .int .i64 k] w fun e w' => e = .returned (setV (memC f n k)) ∧ Below w.heap.size w w' := by
  have z := zero24
  have HM := Lib.hid (refMay_any f n hf)
  have HF := Lib.hid hf
  clear hf
  go_enter Tryd.func15, Tryd.ntmps15
  go_wp2
  go_loopw [6] (fun s wr => ∃ b : Nat, b ≤ 256 ∧ s = .int .i64 b ∧ Hid (BlkIs wr w.heap.size 28 (clsC f n) ∧ BlkIs wr (w.heap.size + 1) 35 #[.int .u64 0, .int .u64 0, .int .u64 0, .int .u64 0] ∧
      BlkIs wr (w.heap.size + 2) 54 (bools fun i => decide (i < b) && memC f n k i) ∧ Below w.heap.size w wr)) (fun s _ => 256 - (intOf s).toNat)
  case atStart =>
    refine ⟨0, by omega, rfl, Lib.hid ⟨((BlkIs.new w _ _).alloc _).alloc _, ?_, ?_, (((Below.refl _ _).alloc (Nat.le_refl _) _).alloc (by simp) _).alloc (by simp; omega) _⟩⟩
    · have := (BlkIs.new (w.alloc (.cells (clsC f n) 28)) 35 #[.int .u64 0, .int .u64 0, .int .u64 0, .int .u64 0]).alloc (.cells (bools fun _ => false) 54)
      rwa [World.size_alloc] at this
    · have := BlkIs.new ((w.alloc (.cells (clsC f n) 28)).alloc (.cells #[.int .u64 0, .int .u64 0, .int .u64 0, .int .u64 0] 35)) 54 (bools fun _ => false)
      rw [World.size_alloc, World.size_alloc] at this
      rw [bools_congr (g := fun _ => false) (fun i _ => by simp)]
      exact this
  case round =>
    obtain ⟨b, hb, rfl, HH⟩ := hrel
    by_cases hlt : b < 256
    · have hset : ∀ W, Below wr.heap.size wr W → BlkIs (W.setCell ⟨w.heap.size + 2, b, none⟩ (.bool (memC f n k b))) w.heap.size 28 (clsC f n) ∧ BlkIs (W.setCell ⟨w.heap.size + 2, b, none⟩ (.bool (memC f n k b))) (w.heap.size + 1) 35 #[.int .u64 0, .int .u64 0, .int .u64 0, .int .u64 0] ∧
          BlkIs (W.setCell ⟨w.heap.size + 2, b, none⟩ (.bool (memC f n k b))) (w.heap.size + 2) 54 (bools fun i => decide (i < b + 1) && memC f n k i) ∧ Below w.heap.size w (W.setCell ⟨w.heap.size + 2, b, none⟩ (.bool (memC f n k b))) := fun W hW => by
        obtain ⟨h1, h2, h3, h4⟩ := HH.out
        refine ⟨(h1.step hW).far (by simp) _, (h2.step hW).far (by simp) _, ?_, (h4.trans (hW.mono h4.size)).setCell (by simp) _⟩
        have h := (h3.step hW).put b (.bool (memC f n k b))
        rw [bools_set, bools_congr (g := fun i => decide (i < b + 1) && memC f n k i) (fun i _ => by
          unfold updS
          by_cases e : i = b
          · subst e; simp
          · have e2 : decide (i < b + 1) = decide (i < b) := decide_eq_decide.2 (by omega)
            simp [e, e2])] at h
        exact h
      have hcell : ∀ W, Below wr.heap.size wr W → W.cell? ⟨w.heap.size, b, none⟩ = some (.int .u8 (f b)) ∧ W.cell? ⟨w.heap.size + 2, b, none⟩ = some (.bool (decide (b < b) && memC f n k b)) ∧ W.frozen? ⟨w.heap.size + 2, b, none⟩ = false := fun W hW =>
        ⟨clsBy (HH.out.1.step hW) hlt, ((HH.out.2.2.1.step hW).cell b).trans (bools_get _ hlt), (HH.out.2.2.1.step hW).frozen b⟩
      have hfk := HF.out b hlt
      have hw : IntKind.i64.wrap ((f b : Nat) : Int) = (f b : Nat) := by rw [IntKind.wrap_i64]; omega
      have HS := Lib.hid hset
      have HC := Lib.hid hcell
      clear hset hcell
      cases hm : mayB f n
      · have hmem : memC f n k b = false := by unfold memC; rw [hm]; rfl
        rw [hm] at HM
        go_wp2_with (first
          | refine wpList_loadR rfl (.tmp 2) rfl rfl HH.out.1 ?_
          | (go_at_call 14; refine (HM.out _).mono ?_; rintro e w2 ⟨rfl, hb2⟩; obtain ⟨k1, k2, k3⟩ := HC.out _ hb2))
        have hfin := HS.out _ hb2
        rw [hmem] at hfin
        exact ⟨⟨b + 1, by omega, by go_num, Lib.hid hfin⟩, by simp [intOf]; omega⟩
      · have hmem : memC f n k b = (((f b : Nat) : Int) == k) := by unfold memC; rw [hm, Bool.true_and, Bool.eq_iff_iff]; simp
        rw [hm] at HM
        go_wp2_with (first
          | refine wpList_loadR rfl (.tmp 2) rfl rfl HH.out.1 ?_
          | (go_at_call 14; refine (HM.out _).mono ?_; rintro e w2 ⟨rfl, hb2⟩; obtain ⟨k1, k2, k3⟩ := HC.out _ hb2))
        have hfin := HS.out _ hb2
        rw [hmem] at hfin
        exact ⟨⟨b + 1, by omega, by go_num, Lib.hid hfin⟩, by simp [intOf]; omega⟩
    · obtain rfl : b = 256 := by omega
      obtain ⟨h1, h2, h3, h4⟩ := HH.out
      rw [bools_congr (g := memC f n k) (fun i hi => by simp [hi])] at h3
      have H3 := Lib.hid h3
      have H2 := Lib.hid h2
      have H4 := Lib.hid h4
      clear h1 h2 h3 h4 HH
      go_wp2_with (first
        | (refine wpList_load_mid rfl 54 (.tmp 5) rfl (w.heap.size + 2) 0 rfl (bools (memC f n k)).toList _ H3.out.range Tryd.underlying54 rfl (by rw [info24, Array.length_toList, bools_size]) ?_; rw [bools_agg])
        | (go_at_call 24; refine (made_any _ _).mono ?_; rintro e w2 ⟨rfl, hb2⟩; have hbx := H2.out.step hb2; obtain ⟨c0, c1, c2, c3, f0, f1, f2, f3⟩ := hbx.four))
      have hB := H4.out.trans (hb2.mono H4.out.size)
      refine bodyPost_ret (v := setV (memC f n k)) (by simp [results, Tryd.results15, go_sem, c0, c1, c2, c3]) rfl ⟨rfl, ?_⟩
      exact (((hB.setCell (p := ⟨w.heap.size + 1, 0, none⟩) (Nat.le_succ _) _).setCell (p := ⟨w.heap.size + 1, 1, none⟩) (Nat.le_succ _) _).setCell (p := ⟨w.heap.size + 1, 2, none⟩) (Nat.le_succ _) _).setCell (p := ⟨w.heap.size + 1, 3, none⟩) (Nat.le_succ _) _

end Go.Proofs.YtebhnfdgjbhhfaaDoor
