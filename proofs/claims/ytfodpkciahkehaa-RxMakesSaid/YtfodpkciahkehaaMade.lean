/-
  WHAT hacklelaw04's made ANSWERS: one of a row of trees, or a node of several: a contract. No condition.
-/
import Derived.Test.YtfodpkciahkehaaMake2
namespace Go.Proofs.Ytfodpkciahkehaa
open Go.RowKit

set_option maxRecDepth 10000 in
set_option maxHeartbeats 2000000 in
theorem madeRow_any (kind : Int) (l : List Tree) (A : Option Addr) (c : Nat) (z : Tree) (k0 lo0 hi0 : Int) (m0 : Nat → Bool) (A0 : Option Addr) (n0 c0 : Nat) (w V : World) (hV : Sub V w) (hat : l ≠ [] → ∃ b o, A = some ⟨b, o, none⟩ ∧ AllAt V l b o) (hc : l.length ≤ c ∧ c ≤ 9223372036854775807)
    (hz : Tree.At V z (reV k0 m0 A0 n0 c0 lo0 hi0)) :
    Calls Try.prog 24 #[.int .i64 kind, reV k0 m0 A0 n0 c0 lo0 hi0, .slice A l.length c] w fun e w' => ∃ v, e = .returned v ∧ Tree.At V (rowT kind z l) v ∧ Below w.heap.size w w' := by
  have hb := BlkIs.new (w.alloc (.cells (reL k0 m0 A0 n0 c0 lo0 hi0).toArray 27)) 27 zeroL.toArray
  rw [World.size_alloc] at hb
  have hb0 := (BlkIs.new w 27 (reL k0 m0 A0 n0 c0 lo0 hi0).toArray).alloc (.cells zeroL.toArray 27)
  have h0 : Below w.heap.size w ((w.alloc (.cells (reL k0 m0 A0 n0 c0 lo0 hi0).toArray 27)).alloc (.cells zeroL.toArray 27)) := ((Below.refl _ _).alloc (Nat.le_refl _) _).alloc (by simp) _
  obtain ⟨W2, hW2⟩ : ∃ W2, W2 = (w.alloc (.cells (reL k0 m0 A0 n0 c0 lo0 hi0).toArray 27)).alloc (.cells zeroL.toArray 27) := ⟨_, rfl⟩
  rw [← hW2] at hb hb0 h0
  have HB := Lib.hid hb
  have HB0 := Lib.hid hb0
  have H0 := Lib.hid h0
  have fin : ∀ (k lo hi : Int) (m : Nat → Bool) (A : Option Addr) (n c : Nat), (loadVar 27 ⟨w.heap.size + 1, 0, none⟩).run Try.prog (W2.setCells (w.heap.size + 1) 0 (reL k m A n c lo hi)) = .ok (reV k m A n c lo hi) (W2.setCells (w.heap.size + 1) 0 (reL k m A n c lo hi)) ∧ Below w.heap.size w (W2.setCells (w.heap.size + 1) 0 (reL k m A n c lo hi)) :=
    fun k lo hi m A n c => ⟨load_re (store_re HB.out rfl), below_cells (w.heap.size + 1) (reL k m A n c lo hi) 0 _ (Nat.le_succ _) H0.out⟩
  have HF := Lib.hid fin
  have HZ := Lib.hid hz
  have HAT := Lib.hid hat
  clear hb hb0 h0 fin hz hat
  have hr0 := HB0.out.range
  have c5 := HB0.out.eight
  have HW := Lib.hid hW2
  unfold zeroL reL at hW2
  unfold reL at c5
  obtain ⟨z0, z1, z2, z3, z4, z5, z6, z7⟩ := c5
  have hthere := HB.out.there
  match l with
  | [] =>
    have e0 : (((0 : Nat) : Int) == 0) = true := rfl
    simp only [List.length_nil]
    unfold reV reL at *
    go_enter Try.func24, Try.ntmps24
    go_wp2_with (first | rw [← hW2] | refine wpList_store_mid rfl 27 (.tmp 6) (.tmp 10) rfl (w.heap.size + 1) 0 (reL k0 m0 A0 n0 c0 lo0 hi0).toArray rfl rfl HB.out.there info_re8 reL_all ?_)
    obtain ⟨f1, f2⟩ := HF.out k0 lo0 hi0 m0 A0 n0 c0
    exact bodyPost_ret (results_cell1 rfl rfl f1) rfl ⟨_, rfl, HZ.out, f2⟩
  | [t] =>
    obtain ⟨b, o, rfl, ha⟩ := HAT.out (by simp)
    unfold AllAt at ha
    obtain ⟨⟨cs, h1, h2, h3⟩, _⟩ := ha
    obtain ⟨A1, n1, c1, rfl⟩ := h1.eight
    have HR := Lib.hid (rangeAt_step (W := w) (fun j v hv => hV _ _ (h3 j v hv)) (by simp [reL]) H0.out)
    have HH := Lib.hid h1
    clear h1 h2 h3
    have hcc : (1 : Nat) ≤ c := hc.1
    simp only [List.length_cons, List.length_nil, Nat.zero_add] at *
    unfold reV reL
    go_enter Try.func24, Try.ntmps24
    go_wp2_with (first | rw [← hW2] | refine wpList_load_mid rfl 27 (.tmp 15) rfl b o rfl (reL t.kind t.set A1 n1 c1 t.lo t.hi) _ HR.out Try.underlying27 rfl info_re8 ?_ | refine wpList_store_mid rfl 27 (.tmp 6) (.tmp 16) rfl (w.heap.size + 1) 0 (reL t.kind t.set A1 n1 c1 t.lo t.hi).toArray rfl rfl HB.out.there info_re8 reL_all ?_)
    obtain ⟨f1, f2⟩ := HF.out t.kind t.lo t.hi t.set A1 n1 c1
    exact bodyPost_ret (results_cell1 rfl rfl f1) rfl ⟨_, rfl, HH.out, f2⟩
  | t :: t2 :: r =>
    have e0 : (((t :: t2 :: r).length : Int) == 0) = false := by simp; omega
    have e1 : (((t :: t2 :: r).length : Int) == 1) = false := by simp; omega
    have hT : Tree.At V (rowT kind z (t :: t2 :: r)) (reV kind (fun _ => false) A (t :: t2 :: r).length c 0 0) := by
      rw [rowT_many kind z (by simp)]
      unfold Tree.At
      exact ⟨A, c, rfl, hc, HAT.out⟩
    have HT := Lib.hid hT
    clear hT
    generalize hn : (t :: t2 :: r).length = n at *
    unfold reV reL
    have hz4 : ∀ i, (wd (fun _ => false) i : Nat) = 0 := wd_zero
    go_enter Try.func24, Try.ntmps24
    go_wp2_with (first | rw [← hW2] | refine wpList_store_mid rfl 27 (.tmp 6) (.tmp 19) rfl (w.heap.size + 1) 0 (reL kind (fun _ => false) A n c 0 0).toArray rfl (by simp only [reL, hz4]; rfl) HB.out.there info_re8 reL_all ?_)
    obtain ⟨f1, f2⟩ := HF.out kind 0 0 (fun _ => false) A n c
    exact bodyPost_ret (results_cell1 rfl rfl f1) rfl ⟨_, rfl, HT.out, f2⟩

end Go.Proofs.Ytfodpkciahkehaa

