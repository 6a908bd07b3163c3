/-
  WHAT split OF PACKAGE class ANSWERS: the classes parted by the sets: a contract. Condition: the table of math/bits lies as it is laid; the sets lie in memory; 64 sets at most; classes are bytes.
-/
import Derived.Test.YtebhnfdgjbhhfaaDoorBitrow
import Derived.Test.YtebhnfdgjbhhfaaDoorSeen
namespace Go.Proofs.YtebhnfdgjbhhfaaDoor
open Go.RowKit

/-- what parts the bytes: the class, and the sets -/
def keyG (f : Nat → Nat) (ms : List (Nat → Bool)) (b : Nat) : Nat × Nat := (rowR f (allP ms) (2 * b), rowR f (allP ms) (2 * b + 1))
theorem keyG_fst (f : Nat → Nat) (ms : List (Nat → Bool)) (b : Nat) : (keyG f ms b).1 = f b := by
  show rowR f (allP ms) (2 * b) = f b
  unfold rowR
  rw [if_pos (by omega), show 2 * b / 2 = b by omega]
theorem keyG_snd (f : Nat → Nat) (ms : List (Nat → Bool)) (b : Nat) : (keyG f ms b).2 = wd (fun j => allP ms j b) 0 := by
  show rowR f (allP ms) (2 * b + 1) = _
  unfold rowR
  rw [if_neg (by omega), show (2 * b + 1) / 2 = b by omega]
theorem keyG_lt (f : Nat → Nat) (hf : ∀ b, b < 256 → f b < 256) (ms : List (Nat → Bool)) (b : Nat) (hb : b < 256) : (keyG f ms b).1 < 18446744073709551616 ∧ (keyG f ms b).2 < 18446744073709551616 := by
  rw [keyG_fst, keyG_snd]
  exact ⟨Nat.lt_trans (hf b hb) (by decide), wd_lt _ _⟩
theorem keyG_eq (f : Nat → Nat) {ms : List (Nat → Bool)} (hms : ms.length ≤ 64) (a b : Nat) : keyG f ms a = keyG f ms b ↔ f a = f b ∧ ∀ m ∈ ms, m a = m b := by
  have hp : keyG f ms a = keyG f ms b ↔ f a = f b ∧ wd (fun j => allP ms j a) 0 = wd (fun j => allP ms j b) 0 := by
    rw [← keyG_fst f ms a, ← keyG_fst f ms b, ← keyG_snd f ms a, ← keyG_snd f ms b]
    exact Prod.ext_iff
  rw [hp]
  refine and_congr Iff.rfl ⟨fun h m hm => ?_, fun h => wd_congr fun j _ => ?_⟩
  · obtain ⟨j, hj, e⟩ := List.mem_iff_getElem.1 hm
    have := wd_inj h (j := j) (by omega)
    unfold allP at this
    rw [Nat.mul_zero, Nat.zero_add, List.getD_eq_getElem?_getD, List.getElem?_eq_getElem hj, e] at this
    exact this
  · unfold allP
    rw [Nat.mul_zero, Nat.zero_add, List.getD_eq_getElem?_getD]
    rcases Nat.lt_or_ge j ms.length with hj | hj
    · rw [List.getElem?_eq_getElem hj]
      exact h _ (List.getElem_mem hj)
    · rw [List.getElem?_eq_none hj]; rfl

theorem grown_setCell (W : World) (b o : Nat) (v : Value) : W.grownBy (W.setCell ⟨b, o, none⟩ v) (some b) :=
  ⟨rfl, rfl, rfl, Nat.le_of_eq (World.size_setCell _ _ _).symm, fun i _ hi => Below.heap_setCell W ⟨b, o, none⟩ v i (fun e => hi (by rw [e]))⟩
/-- the first t bytes are numbered anew -/
def numTo (g : Nat → Nat × Nat) (f : Nat → Nat) (t i : Nat) : Nat := if i < t then num g i else f i
theorem numTo_set (g : Nat → Nat × Nat) (f : Nat → Nat) (n : Int) {t : Nat} (ht : t < 256) : (clsC (numTo g f t) n).setIfInBounds t (.int .u8 (num g t : Nat)) = clsC (numTo g f (t + 1)) n := by
  rw [clsC_set _ _ ht]
  refine clsC_congr n fun i _ => ?_
  unfold updN numTo
  by_cases e : i = t
  · subst e; simp
  · rw [if_neg e]
    by_cases h : i < t
    · rw [if_pos h, if_pos (by omega)]
    · rw [if_neg h, if_neg (by omega)]

set_option maxRecDepth 100000 in
set_option maxHeartbeats 2000000 in
theorem split_any (f : Nat → Nat) (n : Int) (hf : ∀ b, b < 256 → f b < 256) (ms : List (Nat → Bool)) (hms : ms.length ≤ 64) (A : Option Addr) (c : Nat) (w : World) (hT : Tab w) (hr : SetRow w w.heap.size A ms) :
    Calls Tryd.prog 21 #[.agg (clsC f n), .slice A ms.length c] w fun e w' => e = .returned (.agg (clsC (num (keyG f ms)) (cnt (keyG f ms) 256 : Nat))) ∧ Below w.heap.size w w' := by
  have z := zeroC
  have hmm := @run_makeMap Tryd.prog
  have HRW := Lib.hid (rows_any f n hf ms hms A c)
  have HK := Lib.hid (keyG_lt f hf ms)
  have HT := Lib.hid hT
  have HR := Lib.hid hr
  obtain ⟨W0, hW0⟩ : ∃ W0, W0 = (((w.alloc (.cells (clsC f n) 26)).alloc (.cells (clsC (fun _ => 0) 0) 26)).alloc (.map #[] 0)).alloc (.cells #[.map (some (w.heap.size + 1 + 1))] 57) := ⟨_, rfl⟩
  have hb : BlkIs W0 w.heap.size 26 (clsC f n) := by rw [hW0]; exact (((BlkIs.new w _ _).alloc _).alloc _).alloc _
  have hz0 : BlkIs W0 (w.heap.size + 1) 26 (clsC (fun _ => 0) 0) := by
    have := (((BlkIs.new (w.alloc (.cells (clsC f n) 26)) 26 (clsC (fun _ => 0) 0)).alloc (.map #[] 0)).alloc (.cells #[.map (some (w.heap.size + 1 + 1))] 57))
    rw [World.size_alloc] at this
    rw [hW0]; exact this
  have hbx : BlkIs W0 (w.heap.size + 3) 57 #[.map (some (w.heap.size + 2))] := by
    have := BlkIs.new (((w.alloc (.cells (clsC f n) 26)).alloc (.cells (clsC (fun _ => 0) 0) 26)).alloc (.map #[] 0)) 57 #[.map (some (w.heap.size + 2))]
    rw [World.size_alloc, World.size_alloc, World.size_alloc] at this
    rw [hW0]; exact this
  have hsn : SeenIs W0 (w.heap.size + 2) (keyG f ms) 0 := by
    have := SeenIs.start ((w.alloc (.cells (clsC f n) 26)).alloc (.cells (clsC (fun _ => 0) 0) 26)) (keyG f ms)
    rw [World.size_alloc, World.size_alloc] at this
    rw [hW0]; exact this.kept (World.grownBy_alloc _ _ none) (by simp)
  have hBe : Below w.heap.size w W0 := by
    rw [hW0]
    exact ((((Below.refl w.heap.size w).alloc (Nat.le_refl _) _).alloc (by simp) _).alloc (by simp; omega) _).alloc (by simp; omega) _
  have HB := Lib.hid hb
  have HS := Lib.hid (And.intro hz0 (And.intro hbx (And.intro hsn hBe)))
  clear hf hT hr hb hz0 hbx hsn hBe
  subst hW0
  go_enter Tryd.func21, Tryd.ntmps21
  go_wp2_with (first
    | refine wpList_loadC rfl (.tmp 2) rfl rfl HB.out ?_
    | (go_at_call 28; refine (HRW.out _ (HT.out.step HS.out.2.2.2) ((HR.out.below HS.out.2.2.2).wide HS.out.2.2.2.size)).mono ?_; rintro e w2 ⟨rfl, hb2⟩))
  have hs2 := HS.out
  have H2 := Lib.hid (And.intro (HB.out.step hb2) (And.intro (hs2.1.step hb2) (And.intro (hs2.2.1.step hb2) (And.intro (hs2.2.2.1.kept (row := none) ⟨hb2.os, hb2.tape, hb2.output, hb2.size, fun i hi _ => hb2.block i hi⟩ (by simp)) (hs2.2.2.2.trans (hb2.mono hs2.2.2.2.size))))))
  clear hs2 HB HS hb2 HRW
  generalize hR : rowR f (allP ms) = R at *
  have hkg : ∀ b, keyG f ms b = (R (2 * b), R (2 * b + 1)) := fun b => by unfold keyG; rw [hR]
  generalize hgk : keyG f ms = g at *
  go_wp2
  go_loopw [14] (fun s wr => ∃ t : Nat, t ≤ 256 ∧ s = .int .i64 t ∧ Hid (BlkIs wr w.heap.size 26 (clsC (numTo g f t) n) ∧ BlkIs wr (w.heap.size + 1) 26 (clsC (fun _ => 0) 0) ∧
      BlkIs wr (w.heap.size + 3) 57 #[.map (some (w.heap.size + 2))] ∧ SeenIs wr (w.heap.size + 2) g t ∧ Below w.heap.size w wr)) (fun s _ => 256 - (intOf s).toNat)
  case atStart =>
    refine ⟨0, by omega, rfl, Lib.hid ⟨?_, H2.out.2⟩⟩
    rw [clsC_congr (f' := f) n (fun b _ => by unfold numTo; rw [if_neg (by omega)])]
    exact H2.out.1
  case round =>
    obtain ⟨t, ht, rfl, HH⟩ := hrel
    by_cases hlt : t < 256
    · have hix := idxW R hlt wr
      have HNA := Lib.hid (number_any g t hlt (fun b hb => HK.out b (by omega)) (w.heap.size + 2) (w.heap.size + 3) (wr.alloc (.cells #[.int .u64 (R (2 * t)), .int .u64 (R (2 * t + 1))] 59)) (HH.out.2.2.1.alloc _) (HH.out.2.2.2.1.kept (World.grownBy_alloc _ _ none) (by simp)))
      rw [hkg t] at HNA
      generalize R (2 * t) = x at *
      generalize R (2 * t + 1) = y at *
      go_wp2_with (first
        | (go_at_call 27; refine HNA.out.mono ?_; rintro e w3 ⟨rfl, hs3, hg3⟩; have hc3 := blk_kept (HH.out.1.alloc _) hg3 (by simp); have hcc := clsBy hc3 hlt; have hcf := hc3.frozen t))
      have h2 := (blk_kept (HH.out.2.1.alloc _) hg3 (by simp)).far (p := ⟨w.heap.size, t, none⟩) (by simp) (.int .u8 (num g t : Nat))
      have h3 := (blk_kept (HH.out.2.2.1.alloc _) hg3 (by simp)).far (p := ⟨w.heap.size, t, none⟩) (by simp) (.int .u8 (num g t : Nat))
      have h1 := hc3.put t (.int .u8 (num g t : Nat))
      rw [numTo_set g f n hlt] at h1
      have h4 := hs3.kept (grown_setCell w3 w.heap.size t (.int .u8 (num g t : Nat))) (by simp)
      have hsz := HH.out.2.2.2.2.size
      have h5 := (((HH.out.2.2.2.2.alloc hsz _).grown hg3 (by simp; omega) (fun k e => by cases e; omega)).setCell (p := ⟨w.heap.size, t, none⟩) (Nat.le_refl _) (.int .u8 (num g t : Nat)))
      exact ⟨⟨t + 1, by omega, by go_num, Lib.hid ⟨h1, h2, h3, h4, h5⟩⟩, by simp [intOf]; omega⟩
    · obtain rfl : t = 256 := by omega
      obtain ⟨h1, h2, h3, h4, h5⟩ := HH.out
      obtain ⟨D, d1, d2, _, _⟩ := h4
      have hc0 := h3.cell 0
      simp only [List.getElem?_toArray, List.getElem?_cons_zero] at hc0
      have hcn := (h1.cell 256).trans (clsC_n _ n)
      have hfn := h1.frozen 256
      have k1 := h1.put 256 (.int .i64 (cnt g 256 : Nat))
      rw [clsC_setN, clsC_congr (f' := num g) _ (fun b hb => by unfold numTo; rw [if_pos hb])] at k1
      have k2 := h2.far (p := ⟨w.heap.size, 256, none⟩) (by simp) (.int .i64 (cnt g 256 : Nat))
      have k5 := h5.setCell (p := ⟨w.heap.size, 256, none⟩) (Nat.le_refl _) (.int .i64 (cnt g 256 : Nat))
      have HD := Lib.hid d1
      have H9 := Lib.hid (And.intro k1 (And.intro k2 k5))
      clear h1 h2 h3 h5 d1 k1 k2 k5 HH H2 HK
      go_wp2_with (first
        | (at_len; refine wpList_len_own _ rfl _ 57 rfl 59 5 Tryd.underlying57 _ (w.heap.size + 2) 256 _ rfl HD.out ?_; rw [d2])
        | refine wpList_loadC rfl (.tmp 2) rfl rfl H9.out.1 ?_
        | (refine wpList_store_all rfl 26 (.tmp 4) (.tmp 28) rfl rfl (new := clsC (num g) (cnt g 256 : Nat)) rfl H9.out.2.1 (by rw [clsC_size, clsC_size]) (by rw [clsC_size]; exact infoC) (clsC_one _ _) ?_; intro w4 hw4 hwr))
      exact bodyPost_ret (results_cell1 rfl (by simp [Act.put]) (loadVarC hw4)) rfl ⟨by rw [hgk], hwr.2.1 _ _ (Nat.le_succ _) H9.out.2.2⟩

end Go.Proofs.YtebhnfdgjbhhfaaDoor
