/-
  THE FRAME OF A LAW's PROOF: how slices of sets and partitions are opened. No condition.
-/
import Derived.Test.YtebhnfdgjbhhfaaDoorFrame
import Derived.Test.YtebhnfdgjbhhfaaDoorBitrow
import Derived.Deep.Slices
namespace Go.Proofs.YtebhnfdgjbhhfaaDoor
open Go.ChangeShapes Go.WideShapes Go.ChangeAt Go.RowKit Go.Deep

section
variable {H : Type} {enc : TypeId × Value → H} {W : World} {r : Reach} {base b0 : Nat} {spare : Nat → Bool} {held : Bool}

theorem set_cells {fuel : Nat} {cs : List Value} {x : DataW H × List MemPlace} (hl : cs.length = 4) (hf : DataW.trod enc Tryd.prog W base spare held fuel 35 cs = some x) : ∃ m, cs = setL m := by
  obtain ⟨c0, c1, c2, c3, rfl⟩ := four_of cs hl
  obtain ⟨y0, y1, y2, y3, k, _, hy0, hy1, hy2, hy3⟩ := trod_array4 Tryd.underlying35 cells_u64 hf
  obtain ⟨x0, e0, _, w0⟩ := DataW.trod_int Tryd.underlying33 hy0
  obtain ⟨x1, e1, _, w1⟩ := DataW.trod_int Tryd.underlying33 hy1
  obtain ⟨x2, e2, _, w2⟩ := DataW.trod_int Tryd.underlying33 hy2
  obtain ⟨x3, e3, _, w3⟩ := DataW.trod_int Tryd.underlying33 hy3
  simp at e0 e1 e2 e3
  subst e0 e1 e2 e3
  obtain ⟨n0, l0, rfl⟩ := wf_u64 w0
  obtain ⟨n1, l1, rfl⟩ := wf_u64 w1
  obtain ⟨n2, l2, rfl⟩ := wf_u64 w2
  obtain ⟨n3, l3, rfl⟩ := wf_u64 w3
  refine ⟨memOf n0 n1 n2 n3, ?_⟩
  unfold setL
  rw [← wd_memOf0 (a1 := n1) (a2 := n2) (a3 := n3) l0, ← wd_memOf1 (a0 := n0) (a2 := n2) (a3 := n3) l1, ← wd_memOf2 (a0 := n0) (a1 := n1) (a3 := n3) l2, ← wd_memOf3 (a0 := n0) (a1 := n1) (a2 := n2) l3]

/-- sets -/
theorem arg_sets {v : Value} {d : DataW H} {ps : List MemPlace} (hval : Value.okWide Tryd.prog W r b0 22 v) (hd : DataW.Trod enc Tryd.prog W base (fun _ => true) held 22 v d ps) :
    ∃ A c ms, v = .slice A (ms.length : Nat) c ∧ SetRow W W.heap.size A ms ∧ ms.length ≤ c := by
  obtain ⟨a1, len, cap, rfl⟩ := okWide_slice Tryd.underlying22 hval
  obtain ⟨fuel, hf⟩ := hd
  rcases open_slice Tryd.underlying22 hf with ⟨hcs, _⟩ | ⟨a, len', cap', m, n, D, Pl, hcs, _, hl, hm, hmm, _, hx⟩
  · simp [Value.cells] at hcs
    obtain ⟨rfl, rfl, rfl⟩ := hcs
    exact ⟨none, 0, [], rfl, fun h => absurd rfl h, Nat.le_refl _⟩
  · simp [Value.cells] at hcs
    obtain ⟨rfl, rfl, rfl⟩ := hcs
    simp only [if_true] at hmm
    subst hmm
    have hone : ∀ i, i < len → ∃ mf : Nat → Bool, W.cells? base (a.add (i * 4)) 4 = some (setL mf) := fun i hi => by
      obtain ⟨cs', h1, h2⟩ := hx i (by omega)
      rw [cells_set] at h1
      have h3 := World.cells?_some h1
      obtain ⟨mf, rfl⟩ := set_cells h3.2.1 h2
      exact ⟨mf, h1⟩
    obtain ⟨F, hF⟩ := choose_lt hone
    have hlen : ((List.range len).map F).length = len := by simp
    refine ⟨some a, m, (List.range len).map F, by rw [hlen], fun hne => ?_, by rw [hlen]; exact hl⟩
    have hpos : 0 < len := by
      rcases Nat.eq_zero_or_pos len with h | h
      · subst h; simp at hne
      · exact h
    obtain ⟨ab, ao, spot⟩ := a
    have h0 := (World.cells?_some (hF 0 hpos)).2.2 0 (by omega)
    have hspot : spot = none := by
      have h0' : W.cell? ((Addr.mk ab ao spot).add (0 * 4) |>.add 0) = some (.int .u64 (wd (F 0) 0 : Nat)) := h0
      simpa [Addr.add] using World.cell?_spot h0'
    subst hspot
    refine ⟨ab, ao, rfl, ?_, fun k mk hk => ?_⟩
    · simp only [Nat.zero_mul, Addr.add_lit, Nat.add_zero] at h0
      rcases Nat.lt_or_ge ab W.heap.size with h | h
      · exact h
      · unfold World.cell? at h0
        simp [Array.getElem?_eq_none h, setL] at h0
    · have hk1 : k < len := by have := (List.getElem?_eq_some_iff.1 hk).1; rwa [hlen] at this
      have hmk : mk = F k := by
        rw [List.getElem?_map, List.getElem?_range hk1] at hk
        exact (Option.some.inj hk).symm
      subst hmk
      intro j v hv
      have hj : j < 4 := (List.getElem?_eq_some_iff.1 hv).1
      have := (World.cells?_some (hF k hk1)).2.2 j hj
      rw [Addr.add_lit, Addr.add_lit] at this
      rw [this]
      exact hv

theorem cells_u8 : Tryd.prog.cellsOf 5 = 1 := by kernel_rfl
theorem cells_arr : Tryd.prog.cellsOf 24 = 256 := by kernel_rfl
theorem cells_int : Tryd.prog.cellsOf 3 = 1 := by kernel_rfl
theorem cells_cls : Tryd.prog.cellsOf 28 = 257 := by kernel_rfl

/-- 256 bytes -/
theorem trod_bytes {fuel : Nat} {cs : List Value} {x : DataW H × List MemPlace} (h : DataW.trod enc Tryd.prog W base spare held fuel 24 cs = some x) :
    ∃ f : Nat → Nat, (∀ i, i < 256 → f i < 256) ∧ ∀ i, i < 256 → cs[i]? = some (.int .u8 (f i : Nat)) := by
  cases fuel with
  | zero => simp [DataW.trod] at h
  | succ k =>
    unfold DataW.trod at h
    rw [Tryd.underlying24] at h
    simp only [cells_arr, cells_u8, Nat.mul_one] at h
    split at h
    · obtain ⟨xs, hxs, _⟩ := Option.map_eq_some_iff.1 h
      have each := mapM_each hxs
      have hone : ∀ i, i < 256 → ∃ y : Nat, y < 256 ∧ cs[i]? = some (.int .u8 (y : Nat)) := fun i hi => by
        obtain ⟨y, hy⟩ := each i (List.mem_range.2 hi)
        obtain ⟨z, e, _, hw⟩ := DataW.trod_int Tryd.underlying5 hy
        have h2 : 0 ≤ z ∧ z < 256 := by
          simp [Lit.wf, IntKind.min, IntKind.max, IntKind.signed, IntKind.bits] at hw
          omega
        refine ⟨z.toNat, by omega, ?_⟩
        have e0 : ((cs.drop i).take 1)[0]? = some (.int .u8 z) := by rw [e]; rfl
        rw [List.getElem?_take, if_pos (by omega), List.getElem?_drop, Nat.add_zero] at e0
        rw [e0, show ((z.toNat : Nat) : Int) = z by omega]
      obtain ⟨f, hf⟩ := choose_lt hone
      exact ⟨f, fun i hi => (hf i hi).1, fun i hi => (hf i hi).2⟩
    · cases h

/-- a partition -/
theorem arg_cls {v : Value} {d : DataW H} {ps : List MemPlace} (hval : Value.okWide Tryd.prog W r b0 28 v) (hd : DataW.Trod enc Tryd.prog W base spare held 28 v d ps) :
    ∃ f n, (∀ b, b < 256 → f b < 256) ∧ v = .agg (clsC f n) := by
  obtain ⟨cs, rfl, hsz, _⟩ : ∃ cs, v = .agg cs ∧ cs.size = Tryd.prog.cellsOf 28 ∧ Row.okWide Tryd.prog W r b0 28 cs := by
    simpa [Value.okWide, Tryd.underlying28] using hval
  rw [cells_cls] at hsz
  obtain ⟨fuel, hf⟩ := hd
  cases fuel with
  | zero => simp [DataW.trod] at hf
  | succ k =>
    replace hf : DataW.trod enc Tryd.prog W base spare held (k + 1) 28 cs.toList = some (d, ps) := hf
    unfold DataW.trod at hf
    rw [Tryd.underlying28] at hf
    simp only at hf
    rw [if_pos (by rw [Array.length_toList, cells_cls]; exact hsz)] at hf
    obtain ⟨xs, hxs, _⟩ := Option.map_eq_some_iff.1 hf
    have each := mapM_each hxs
    obtain ⟨y0, hy0⟩ := each _ (List.mem_cons_self ..)
    obtain ⟨y1, hy1⟩ := each _ (List.mem_cons_of_mem _ (List.mem_cons_self ..))
    simp only [cells_arr, cells_int, List.drop_zero] at hy0 hy1
    obtain ⟨f, hf1, hf2⟩ := trod_bytes hy0
    obtain ⟨n, e, _, _⟩ := DataW.trod_int Tryd.underlying3 hy1
    refine ⟨f, n, hf1, ?_⟩
    congr 1
    apply Array.ext_getElem?
    intro i
    rcases Nat.lt_trichotomy i 256 with h | h | h
    · rw [clsC_of f n h, ← hf2 i h, List.getElem?_take, if_pos h, Array.getElem?_toList]
    · subst h
      have e0 : ((cs.toList.drop 256).take 1)[0]? = some (.int .i64 n) := by rw [e]; rfl
      rw [List.getElem?_take, if_pos (by omega), List.getElem?_drop, Nat.add_zero, Array.getElem?_toList] at e0
      rw [e0, clsC_n]
    · rw [Array.getElem?_eq_none (by omega), Array.getElem?_eq_none (by rw [clsC_size]; omega)]
end
end Go.Proofs.YtebhnfdgjbhhfaaDoor
