/-
  WHAT Part OF PACKAGE class ANSWERS: the partition of up to 64 sets: a contract. Condition: the table of math/bits lies as it is laid; the sets lie in memory.
-/
import Derived.Test.YtebhnfdgjbhhfaaDoorChunk
import Derived.Test.YtebhnfdgjbhhfaaDoorNext
namespace Go.Proofs.YtebhnfdgjbhhfaaDoor
open Go.RowKit

/-- what the sets say of a byte -/
def saysG (ms : List (Nat → Bool)) (b : Nat) : List Bool := ms.map fun m => m b
theorem says_eq (ms : List (Nat → Bool)) (a b : Nat) : saysG ms a = saysG ms b ↔ ∀ m ∈ ms, m a = m b := by
  unfold saysG
  exact List.map_inj_left
theorem key_says {ms : List (Nat → Bool)} (hms : ms.length ≤ 64) (k : Nat) (a b : Nat) : keyG (fun _ => k) ms a = keyG (fun _ => k) ms b ↔ saysG ms a = saysG ms b := by
  rw [keyG_eq _ hms, says_eq]
  exact ⟨fun h => h.2, fun h => ⟨rfl, h⟩⟩
theorem cls_says {ms : List (Nat → Bool)} (hms : ms.length ≤ 64) (k : Nat) : clsC (num (keyG (fun _ => k) ms)) (cnt (keyG (fun _ => k) ms) 256 : Nat) = clsC (num (saysG ms)) (cnt (saysG ms) 256 : Nat) := by
  rw [cnt_congr (g' := saysG ms) (n := 256) (fun a b _ _ => key_says hms k a b) 256 (Nat.le_refl _)]
  exact clsC_congr _ fun b hb => num_congr (n := 256) (fun a b _ _ => key_says hms k a b) hb
theorem cnt_none : ∀ b, cnt (saysG []) (b + 1) = 1
  | 0 => by decide
  | b + 1 => by
    have h : old (saysG []) (b + 1) = true := old_iff.2 ⟨0, by omega, rfl⟩
    rw [cnt_succ, cnt_none b, h]
    rfl
theorem num_none (b : Nat) : num (saysG []) b = 0 := by
  have h : fst' (saysG []) b = 0 := fst_uniq rfl (fun j hj => absurd hj (by omega))
  unfold num
  rw [h]
  rfl
theorem cls_none : clsC (fun _ => 0) 1 = clsC (num (saysG [])) (cnt (saysG []) 256 : Nat) := by
  rw [cnt_none 255]
  exact clsC_congr _ fun b _ => (num_none b).symm

section
variable {F : Fence} {nF : Nat} {P : Program} {ops : Array Oper} {rest : List Oper} {o : Oper} {a : Act} {w : World} {Q : Exit → Act → World → Prop}
theorem wpListIn_load_run (hg : o.guard = none) (ty : TypeId) (x : Operand) (hop : o.op = Op.load ty x) {p v : Value} (hx : a.eval x = p) (hrun : (Instr.loadAt ty p).run P w = .ok v w) (h : wpListIn F nF P ops Q rest (a.put o.dst v) w) : wpListIn F nF P ops Q (o :: rest) a w := by
  refine wpListIn_plain hg fun K' hK' => ?_
  unfold Oper.wpIn
  refine ⟨by simp [Oper.about, hop], ?_⟩
  rw [Oper.semAt_plain F _ _ (by rw [hop]; intro c hc'; cases hc')]
  simp only [execOp, hop, hx, Sem.run_bind, Sem.run_pure, hrun, Result.andThen_ok]
  exact hK' _ _ h
theorem wpListIn_store_run (hg : o.guard = none) (ty : TypeId) (x y : Operand) (hop : o.op = Op.store ty x y) {p v : Value} {w' : World} (hx : a.eval x = p) (hy : a.eval y = v) (hrun : (Instr.storeAt ty p v).run P w = .ok () w') (h : wpListIn F nF P ops Q rest (a.put o.dst undef) w') : wpListIn F nF P ops Q (o :: rest) a w := by
  refine wpListIn_plain hg fun K' hK' => ?_
  unfold Oper.wpIn
  refine ⟨by simp [Oper.about, hop], ?_⟩
  rw [Oper.semAt_plain F _ _ (by rw [hop]; intro c hc'; cases hc')]
  simp only [execOp, hop, hx, hy, Sem.run_bind, Sem.run_pure, hrun, Result.andThen_ok]
  exact hK' _ _ h
end

theorem chunk_stops (n : Nat) (hn : 1 ≤ n) (G B1 B2 b off len cap : Nat) (hG1 : B1 ≠ G) (hG2 : B2 ≠ G) (h0 : 0 < len) (h64 : len ≤ 64) (hcap : len ≤ cap) (w : World) (hb1 : BlkIs w B1 22 #[.slice (some ⟨b, off, none⟩) len cap]) (hb2 : BlkIs w B2 3 #[.int .i64 64]) :
    SeqStopsK Fence.wide n Tryd.prog 26 #[.pointer (some ⟨B1, 0, none⟩), .pointer (some ⟨B2, 0, none⟩)] (fun _ : Unit => #[.slice (some ⟨b, off, none⟩) len len]) (KeepsBut G) (fun xs : List Unit => xs.length = 1) (fun pre : List Unit => pre.length = 1) 1 w :=
  fun l J Jx W hW hJ _ hY h0' => chunk1_in n hn l G B1 B2 b off len cap hG1 hG2 h0 h64 hcap J Jx (fun s W hs => hJ s W _ none hs (grown_drew W none) (fun r e => by cases e)) hY W (hb1.step hW) (hb2.step hW) h0'
theorem chunk_stops0 (n : Nat) (G B1 B2 c : Nat) (A : Option Addr) (w : World) (hb1 : BlkIs w B1 22 #[.slice A 0 c]) :
    SeqStopsK Fence.wide n Tryd.prog 26 #[.pointer (some ⟨B1, 0, none⟩), .pointer (some ⟨B2, 0, none⟩)] (fun _ : Unit => #[.slice A 0 0]) (KeepsBut G) (fun xs : List Unit => xs.length = 0) (fun pre : List Unit => pre.length = 0) 0 w :=
  fun l J _ W hW _ _ _ h0' => (chunk1_none n l B1 B2 c A (fun W' => J [] W') W (hb1.step hW) h0').mono fun _ _ h => ⟨h.1, .inl ⟨[], rfl, h.2⟩⟩

attribute [local go_sem] Oper.semAt_some

set_option maxRecDepth 100000 in
set_option maxHeartbeats 2000000 in
theorem part_some (ms : List (Nat → Bool)) (h0 : 0 < ms.length) (hms : ms.length ≤ 64) (A : Option Addr) (c : Nat) (hcap : ms.length ≤ c) (w : World) (hT : Tab w) (hr : SetRow w w.heap.size A ms) :
    Calls Tryd.prog 7 #[.slice A ms.length c] w fun e w' => e = .returned (.agg (clsC (num (saysG ms)) (cnt (saysG ms) 256 : Nat))) ∧ Below w.heap.size w w' := by
  rw [← cls_says hms 0]
  have HSP := Lib.hid (split_any (fun _ => 0) 1 (fun _ _ => by decide) ms hms A ms.length)
  obtain ⟨b, off, hA, _⟩ := hr (fun e => by rw [e] at h0; simp at h0)
  have z := zeroC
  have HT := Lib.hid hT
  have HR := Lib.hid hr
  have hz0 := (BlkIs.new w 26 (clsC (fun _ => 0) 0)).alloc (.cells (clsC (fun _ => 0) 0) 26)
  have hg0 := BlkIs.new (w.alloc (.cells (clsC (fun _ => 0) 0) 26)) 26 (clsC (fun _ => 0) 0)
  rw [World.size_alloc] at hg0
  have hB0 := ((Below.refl w.heap.size w).alloc (Nat.le_refl _) (.cells (clsC (fun _ => 0) 0) 26)).alloc (by simp) (.cells (clsC (fun _ => 0) 0) 26)
  have H0 := Lib.hid (And.intro hz0 (And.intro hg0 hB0))
  clear hT hr hz0 hg0 hB0
  subst hA
  generalize num (keyG (fun _ => 0) ms) = fN at *
  generalize ((cnt (keyG (fun _ => 0) ms) 256 : Nat) : Int) = nN at *
  refine (callsIn_wide (n := 5)).1 ?_
  refine callsIn_of_wp_marks Tryd.func7 rfl trivial ?_ rfl
  simp only [Tryd.ntmps7, List.size_toArray, List.length_cons, List.length_nil, Nat.reduceAdd, Nat.reduceSub, Array.replicate_succ, Array.replicate_zero, List.push_toArray, List.append_toArray, List.nil_append, List.cons_append]
  refine wpIn_wide.2 ?_
  go_wp2_with (first
    | refine wpList_built rfl 26 _ rfl (cells := clsC (fun _ => 0) 1) (by simpa [Act.eval] using built_one) ?_
    | (refine wpList_store_all rfl 26 (.tmp 3) (.tmp 5) rfl rfl (new := clsC (fun _ => 0) 1) rfl H0.out.2.1 (by rw [clsC_size, clsC_size]) (by rw [clsC_size]; exact infoC) (clsC_one _ _) ?_; intro w1 hw1 hwr)
    | (go_at_call 20; go_must (refine (chunk_any _ _ _ _).mono ?_); rintro e w2 ⟨B1, B2, rfl, hx1, hx2, hl1, hl2, hb2⟩))
  have hBw1 : Below w.heap.size w w1 := hwr.2.1 _ _ (Nat.le_succ _) H0.out.2.2
  have hlw : w1.heap.size = w.heap.size + 2 := by rw [hwr.2.2]; simp
  have hBw2 := hBw1.trans (hb2.mono hBw1.size)
  have H2 := Lib.hid (And.intro ((hwr.blk (by omega) H0.out.1).step hb2) (And.intro (hw1.step hb2) hBw2))
  have hGw2 : w.heap.size + 2 ≤ w2.heap.size := by have := hb2.size; omega
  have HX := Lib.hid (And.intro hx1 hx2)
  have hne1 : B1 ≠ w.heap.size + 1 := by omega
  have hne2 : B2 ≠ w.heap.size + 1 := by omega
  have hcs := HX.out
  clear hBw1 hBw2 hw1 hwr hx1 hx2 hb2 H0 hl1 hl2 hlw
  refine (wpIn_wide (n := 5)).1 ?_
  refine wpIn_rangeFunc_ownG rfl (by omega) (gf := 26) (lb := #[.pointer (some ⟨B1, 0, none⟩), .pointer (some ⟨B2, 0, none⟩)]) rfl trivial
    (enters_of Tryd.func26 (by kernel_rfl) rfl)
    (chunk_stops _ (by omega) (w.heap.size + 1) B1 B2 b off ms.length c hne1 hne2 h0 hms hcap w2 hcs.1 hcs.2) KeepsBut.trans (fun W l o o' _ hl ho _ => keepsBut_obj _ W l o o' hl ho) (Below.refl _ _) (fun _ => rfl)
    (fun pre W => BlkIs W w.heap.size 26 (clsC (fun _ => 0) 0) ∧ (pre.length = 0 ∧ BlkIs W (w.heap.size + 1) 26 (clsC (fun _ => 0) 1) ∨ pre.length = 1 ∧ BlkIs W (w.heap.size + 1) 26 (clsC fN nN)) ∧ Below w.heap.size w W)
    (fun _ _ _ => False) ?hI (fun _ _ _ _ _ h _ _ => h) ⟨H2.out.1, .inl ⟨rfl, H2.out.2.1⟩, H2.out.2.2⟩
    (fun _ => { tmps := #[.slice (some ⟨b, off, none⟩) ms.length c, undef, .pointer (some ⟨w.heap.size, 0, none⟩), .pointer (some ⟨w.heap.size + 1, 0, none⟩), .slice (some ⟨b, off, none⟩) ms.length ms.length, .agg (clsC (fun _ => 0) 1),
      .slice (some ⟨b, off, none⟩) ms.length c, .func (.func 26) #[] #[.pointer (some ⟨B1, 0, none⟩), .pointer (some ⟨B2, 0, none⟩)], .slice (some ⟨b, off, none⟩) ms.length ms.length, undef, undef, undef, undef], defers := [] }) ?assign ?body ?done ?stop
  case hI =>
    rintro s A A' row ⟨h1, h2, h3⟩ hg hro
    have hr' : ∀ r, row = some r → ∃ o : Obj, A.heap[r]? = some o ∧ o.isCells = false := fun r e => (hro r e).2
    exact ⟨blk_own h1 hg hr', h2.imp (fun h => ⟨h.1, blk_own h.2 hg hr'⟩) (fun h => ⟨h.1, blk_own h.2 hg hr'⟩), ownFrom_below (β := Unit) (Nat.le_refl _) (by omega) () A A' row h3 hg hro⟩
  case assign =>
    intro l x W K hK
    gi_wp2
    exact hK
  case body =>
    rintro l pre x W ⟨h1, h2, h3⟩ hlt
    rcases h2 with ⟨hp, h2⟩ | ⟨hp, _⟩
    · have HSW := Lib.hid (HSP.out W (HT.out.step h3) ((HR.out.below h3).wide h3.size))
      have hl0 := loadC h2
      have H1 := Lib.hid (And.intro h1 (And.intro h2 h3))
      clear h1 h2 h3
      gi_wp2_with (first
        | refine wpListIn_load_run rfl 26 (.tmp 3) rfl rfl hl0 ?_
        | (refine ⟨trivial, ?_⟩; gi_at_call 21; refine (CallsIn.inRound l (callsIn_wide.2 HSW.out)).mono ?_; rintro e w3 ⟨rfl, hb3⟩)
        | (refine wpListIn_store_run rfl 26 (.tmp 3) (.tmp 11) rfl rfl rfl (run_storeAt_mid w3 (w.heap.size + 1) 0 26 (clsC fN nN) (by rw [clsC_size]; have := (H1.out.2.1.step hb3).there; rwa [clsC_size] at this) (by rw [clsC_size]; exact infoC) (clsC_one _ _)) ?_))
      have hw := Wrote.cells (w.heap.size + 1) (clsC fN nN).toList 0 w3
      have hnew := (H1.out.2.1.step hb3).fill (new := clsC fN nN) (by rw [clsC_size, clsC_size])
      generalize w3.setCells (w.heap.size + 1) 0 (clsC fN nN).toList = w4 at *
      have hb3' := H1.out.2.2.trans (hb3.mono H1.out.2.2.size)
      refine ⟨⟨by rw [hw.2.2]; exact hb3.size, fun k o hk ho _ => ?_⟩, fun k t cs hk hb => hw.blk hk (hb.step hb3), hw.blk (by omega) (H1.out.1.step hb3), .inr ⟨by simp [hp], hnew⟩, hw.2.1 _ _ (Nat.le_succ _) hb3'⟩
      rw [hw.1 k (by omega), hb3.block k (Array.getElem?_eq_some_iff.1 ho).1]
      exact ho
    · omega
  case done =>
    rintro D xs W hD hS ⟨h1, h2, h3⟩ hK
    have h2' : BlkIs W (w.heap.size + 1) 26 (clsC fN nN) := by
      rcases h2 with ⟨h, _⟩ | ⟨_, h⟩
      · omega
      · exact h
    have H1 := Lib.hid (And.intro h1 (And.intro h2' h3))
    clear h1 h2 h2' h3
    go_wp2_with (first
      | refine wpList_loadC rfl (.tmp 3) rfl rfl H1.out.2.1 ?_
      | (refine wpList_store_all rfl 26 (.tmp 2) (.tmp 12) rfl rfl (new := clsC fN nN) rfl H1.out.1 (by rw [clsC_size, clsC_size]) (by rw [clsC_size]; exact infoC) (clsC_one _ _) ?_; intro w5 hw5 hwr5))
    have hK5 := (hwr5.1 D (by omega)).trans hK
    have hfin : BlkIs (w5.putObj D (.deferred none)) w.heap.size 26 (clsC fN nN) := (World.putObj_heap_other (by omega)).trans hw5
    have hBe := (hwr5.2.1 _ _ (Nat.le_refl _) H1.out.2.2).trans (belowK_b (w := w) (Nat.le_refl _) w5 D _ (.deferred none) (by omega) hK5 rfl rfl)
    refine ⟨by simp, .inl ⟨_, _, rfl, run_takeDeferred hK5, ?_⟩⟩
    exact ⟨_, results_cell1 rfl (by simp) (loadVarC hfin), rfl, hBe⟩
  case stop =>
    rintro D c pre W _ _ h _
    exact h.elim

set_option maxRecDepth 100000 in
set_option maxHeartbeats 2000000 in
theorem part_none (A : Option Addr) (c : Nat) (w : World) :
    Calls Tryd.prog 7 #[.slice A 0 c] w fun e w' => e = .returned (.agg (clsC (num (saysG [])) (cnt (saysG []) 256 : Nat))) ∧ Below w.heap.size w w' := by
  rw [← cls_none]
  have z := zeroC
  have hz0 := (BlkIs.new w 26 (clsC (fun _ => 0) 0)).alloc (.cells (clsC (fun _ => 0) 0) 26)
  have hg0 := BlkIs.new (w.alloc (.cells (clsC (fun _ => 0) 0) 26)) 26 (clsC (fun _ => 0) 0)
  rw [World.size_alloc] at hg0
  have hB0 := ((Below.refl w.heap.size w).alloc (Nat.le_refl _) (.cells (clsC (fun _ => 0) 0) 26)).alloc (by simp) (.cells (clsC (fun _ => 0) 0) 26)
  have H0 := Lib.hid (And.intro hz0 (And.intro hg0 hB0))
  clear hz0 hg0 hB0
  refine (callsIn_wide (n := 5)).1 ?_
  refine callsIn_of_wp_marks Tryd.func7 rfl trivial ?_ rfl
  simp only [Tryd.ntmps7, List.size_toArray, List.length_cons, List.length_nil, Nat.reduceAdd, Nat.reduceSub, Array.replicate_succ, Array.replicate_zero, List.push_toArray, List.append_toArray, List.nil_append, List.cons_append]
  refine wpIn_wide.2 ?_
  go_wp2_with (first
    | refine wpList_built rfl 26 _ rfl (cells := clsC (fun _ => 0) 1) (by simpa [Act.eval] using built_one) ?_
    | (refine wpList_store_all rfl 26 (.tmp 3) (.tmp 5) rfl rfl (new := clsC (fun _ => 0) 1) rfl H0.out.2.1 (by rw [clsC_size, clsC_size]) (by rw [clsC_size]; exact infoC) (clsC_one _ _) ?_; intro w1 hw1 hwr)
    | (go_at_call 20; go_must (refine (chunk_any _ _ _ _).mono ?_); rintro e w2 ⟨B1, B2, rfl, hx1, hx2, hl1, hl2, hb2⟩))
  have hBw1 : Below w.heap.size w w1 := hwr.2.1 _ _ (Nat.le_succ _) H0.out.2.2
  have hlw : w1.heap.size = w.heap.size + 2 := by rw [hwr.2.2]; simp
  have hBw2 := hBw1.trans (hb2.mono hBw1.size)
  have H2 := Lib.hid (And.intro ((hwr.blk (by omega) H0.out.1).step hb2) (And.intro (hw1.step hb2) hBw2))
  have hGw2 : w.heap.size + 2 ≤ w2.heap.size := by have := hb2.size; omega
  have HX := Lib.hid (And.intro hx1 hx2)
  have hcs := HX.out
  clear hBw1 hBw2 hw1 hwr hx1 hx2 hb2 H0 hl1 hl2 hlw
  refine (wpIn_wide (n := 5)).1 ?_
  refine wpIn_rangeFunc_ownG rfl (by omega) (gf := 26) (lb := #[.pointer (some ⟨B1, 0, none⟩), .pointer (some ⟨B2, 0, none⟩)]) rfl trivial
    (enters_of Tryd.func26 (by kernel_rfl) rfl)
    (chunk_stops0 _ (w.heap.size + 1) B1 B2 c A w2 hcs.1) KeepsBut.trans (fun W l o o' _ hl ho _ => keepsBut_obj _ W l o o' hl ho) (Below.refl _ _) (fun _ => rfl)
    (fun _ W => BlkIs W w.heap.size 26 (clsC (fun _ => 0) 0) ∧ BlkIs W (w.heap.size + 1) 26 (clsC (fun _ => 0) 1) ∧ Below w.heap.size w W)
    (fun _ _ _ => False) ?hI (fun _ _ _ _ _ h _ _ => h) ⟨H2.out.1, H2.out.2.1, H2.out.2.2⟩
    (fun _ => { tmps := #[.slice A 0 c, undef, .pointer (some ⟨w.heap.size, 0, none⟩), .pointer (some ⟨w.heap.size + 1, 0, none⟩), .slice A 0 0, .agg (clsC (fun _ => 0) 1),
      .slice A 0 c, .func (.func 26) #[] #[.pointer (some ⟨B1, 0, none⟩), .pointer (some ⟨B2, 0, none⟩)], .slice A 0 0, undef, undef, undef, undef], defers := [] }) ?assign ?body ?done ?stop
  case hI =>
    rintro s A A' row ⟨h1, h2, h3⟩ hg hro
    have hr' : ∀ r, row = some r → ∃ o : Obj, A.heap[r]? = some o ∧ o.isCells = false := fun r e => (hro r e).2
    exact ⟨blk_own h1 hg hr', blk_own h2 hg hr', ownFrom_below (β := Unit) (Nat.le_refl _) (by omega) () A A' row h3 hg hro⟩
  case assign =>
    intro l x W K hK
    gi_wp2
    exact hK
  case body =>
    rintro l pre x W _ hlt
    exact absurd hlt (by omega)
  case done =>
    rintro D xs W hD hS ⟨h1, h2, h3⟩ hK
    have H1 := Lib.hid (And.intro h1 (And.intro h2 h3))
    clear h1 h2 h3
    go_wp2_with (first
      | refine wpList_loadC rfl (.tmp 3) rfl rfl H1.out.2.1 ?_
      | (refine wpList_store_all rfl 26 (.tmp 2) (.tmp 12) rfl rfl (new := clsC (fun _ => 0) 1) rfl H1.out.1 (by rw [clsC_size, clsC_size]) (by rw [clsC_size]; exact infoC) (clsC_one _ _) ?_; intro w5 hw5 hwr5))
    have hK5 := (hwr5.1 D (by omega)).trans hK
    have hfin : BlkIs (w5.putObj D (.deferred none)) w.heap.size 26 (clsC (fun _ => 0) 1) := (World.putObj_heap_other (by omega)).trans hw5
    have hBe := (hwr5.2.1 _ _ (Nat.le_refl _) H1.out.2.2).trans (belowK_b (w := w) (Nat.le_refl _) w5 D _ (.deferred none) (by omega) hK5 rfl rfl)
    refine ⟨by simp, .inl ⟨_, _, rfl, run_takeDeferred hK5, ?_⟩⟩
    exact ⟨_, results_cell1 rfl (by simp) (loadVarC hfin), rfl, hBe⟩
  case stop =>
    rintro D c pre W _ _ h _
    exact h.elim

theorem part_any (ms : List (Nat → Bool)) (hms : ms.length ≤ 64) (A : Option Addr) (c : Nat) (hcap : ms.length ≤ c) (w : World) (hT : Tab w) (hr : SetRow w w.heap.size A ms) :
    Calls Tryd.prog 7 #[.slice A ms.length c] w fun e w' => e = .returned (.agg (clsC (num (saysG ms)) (cnt (saysG ms) 256 : Nat))) ∧ Below w.heap.size w w' := by
  cases ms with
  | nil => exact part_none A c w
  | cons m r => exact part_some (m :: r) (by simp) hms A c hcap w hT hr

end Go.Proofs.YtebhnfdgjbhhfaaDoor
