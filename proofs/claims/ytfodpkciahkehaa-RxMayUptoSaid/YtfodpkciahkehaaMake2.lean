/-
  WHAT Rep AND Text OF PACKAGE rx ANSWER: contracts. Condition: what is handed in has at most 2^40 nodes; the text at most 2^30 bytes.
-/
import Derived.Test.YtfodpkciahkehaaMake
import Derived.Test.YtfodpkciahkehaaEnds
namespace Go.Proofs.Ytfodpkciahkehaa
open Go.RowKit

set_option maxRecDepth 10000 in
set_option maxHeartbeats 2000000 in
theorem rep_any (T : Tree) (v : Value) (lo hi : Int) (w : World) (hat : Tree.At w T v) (hn : T.nodes ≤ 1099511627776) :
    Calls Try.prog 25 #[v, .int .i64 lo, .int .i64 hi] w fun e w' => ∃ v', e = .returned v' ∧ Tree.At w' (.node 4 (fun _ => false) [T] lo hi) v' ∧ Below w.heap.size w w' := by
  obtain ⟨A, n, c, rfl⟩ := hat.form
  generalize hk : T.kind = k at *
  generalize hm : T.set = m at *
  generalize hl : T.lo = l at *
  generalize hh : T.hi = h at *
  obtain ⟨W2, hW2⟩ : ∃ W2, W2 = ((w.alloc (.cells (reL k m A n c l h).toArray 27)).alloc (.cells zeroL.toArray 27)).alloc (.cells (reL k m A n c l h).toArray 27) := ⟨_, rfl⟩
  have hB : Below w.heap.size w W2 := by rw [hW2]; exact (((Below.refl _ _).alloc (Nat.le_refl _) _).alloc (by simp) _).alloc (by simp; omega) _
  have hres : BlkIs W2 (w.heap.size + 1) 27 zeroL.toArray := by
    have := (BlkIs.new (w.alloc (.cells (reL k m A n c l h).toArray 27)) 27 zeroL.toArray).alloc (.cells (reL k m A n c l h).toArray 27)
    rw [World.size_alloc] at this
    rw [hW2]; exact this
  have harr : BlkIs W2 (w.heap.size + 1 + 1) 27 (reL k m A n c l h).toArray := by
    have := BlkIs.new ((w.alloc (.cells (reL k m A n c l h).toArray 27)).alloc (.cells zeroL.toArray 27)) 27 (reL k m A n c l h).toArray
    rw [World.size_alloc, World.size_alloc] at this
    rw [hW2]; exact this
  have hsz : W2.heap.size = w.heap.size + 3 := by rw [hW2]; simp
  have hcl := clone_any [T] (some ⟨w.heap.size + 1 + 1, 0, none⟩) 1 W2 (fun _ => ⟨_, 0, rfl, by
    refine AllAt.mk [T] _ 0 fun i hi => ?_
    obtain rfl : i = 0 := by simpa using hi
    refine ⟨reL k m A n c l h, hat.step hB, rfl, fun j v hv => ?_⟩
    have := harr.cell j
    simpa [hv] using this⟩) (by simpa [nodesL] using hn)
  have HB := Lib.hid hB
  have HR := Lib.hid hres
  have HCL := Lib.hid hcl
  have HW := Lib.hid hW2
  clear hB hres harr hcl hat
  simp only [List.length_cons, List.length_nil, Nat.zero_add] at HCL
  unfold zeroL at *
  unfold reV reL at *
  go_enter Try.func25, Try.ntmps25
  go_wp2_with (first
    | rw [← hW2]
    | (go_at_call 39; go_must (refine HCL.out.mono ?_); rintro e w1 ⟨A', c', rfl, k1, k2, k3, hb1⟩; have hB3 := HR.out.step hb1)
    | (refine wpList_store_mid rfl 27 (.tmp 6) (.tmp 12) rfl (w.heap.size + 1) 0 (reL 4 (fun _ => false) A' 1 c' lo hi).toArray rfl (by simp only [reL, wd_zero]; rfl) hB3.there info_re8 reL_all ?_))
  have hBe := HB.out.trans (hb1.mono HB.out.size)
  have hl := load_re (store_re (k := 4) (m := fun _ => false) (A := A') (n := 1) (c := c') (lo := lo) (hi := hi) hB3 rfl)
  have hB4 := below_cells (w.heap.size + 1) (reL 4 (fun _ => false) A' 1 c' lo hi) 0 _ (Nat.le_succ _) hBe
  refine bodyPost_ret (results_cell1 rfl rfl hl) rfl ⟨_, rfl, ?_, hB4⟩
  obtain ⟨g, rfl, hg, hall⟩ := k3 (by simp)
  unfold Tree.At
  refine ⟨some ⟨g, 0, none⟩, c', rfl, ⟨k1, k2⟩, fun _ => ⟨g, 0, rfl, (hall (less w1 (w.heap.size + 1)) (less_other (by omega))).sub (less_sub fun k hk hn => heap_cells (w.heap.size + 1) k hk _ 0 w1)⟩⟩

/-- a byte of a text -/
def byteT (b : UInt8) : Tree := .node 1 (sOf [b.toNat]) [] 0 0
def textT (s : List UInt8) : Tree := rowT 2 (.node 0 (fun _ => false) [] 0 0) (s.map byteT)
/-- the first j bytes are laid -/
def TextRow (s : List UInt8) (L j : Nat) (W : World) : Prop := W.there L 0 (s.length * 8) ∧ (∀ i, W.frozen? ⟨L, i, none⟩ = false) ∧ ∀ (i : Nat) (h : i < s.length), i < j → W.rangeAt L (i * 8) (reL 1 (sOf [s[i].toNat]) none 0 0 0 0)

theorem size_cells (g : Nat) : ∀ (vs : List Value) (o : Nat) (w : World), (w.setCells g o vs).heap.size = w.heap.size
  | [], _, _ => rfl
  | v :: r, o, w => by rw [World.setCells, size_cells g r (o + 1)]; exact World.size_setCell _ _ _
theorem text_steps {wr w1 w2 : World} {L j n : Nat} {s : ByteArray} {ob : Obj} (hL : L < wr.heap.size) (h : TextRow s.data.toList L j wr) (hb1 : Below (wr.alloc ob).heap.size (wr.alloc ob) w1) (hb2 : Below w1.heap.size w1 w2) (hlen : s.data.toList.length = n) (hp : j < n) {x : UInt8}
    (hx : x = s.data.toList[j]'(by omega)) :
    w2.there L (j * 8) (reL 1 (sOf [x.toNat]) none 0 0 0 0).toArray.size ∧ Below wr.heap.size wr w2 ∧ TextRow s.data.toList L (j + 1) (w2.setCells L (j * 8) (reL 1 (sOf [x.toNat]) none 0 0 0 0)) := by
  have hb : Below wr.heap.size wr w2 := ((Below.refl _ _).alloc (Nat.le_refl _) ob).trans ((hb1.trans (hb2.mono hb1.size)).mono (by simp))
  have hcell : ∀ i, w2.cell? ⟨L, i, none⟩ = wr.cell? ⟨L, i, none⟩ := fun i => hb.cell (p := ⟨L, i, none⟩) hL
  have hth : ∀ o m, o + m ≤ n * 8 → w2.there L o m := fun o m hm q hq => by
    have := h.1 (o + q) (by omega)
    rw [Nat.zero_add] at this
    rw [hcell, hb.frozen (p := ⟨L, o + q, none⟩) hL]
    exact this
  refine ⟨hth _ _ (by simp [reL]; omega), hb, World.there_setCells (by rw [hlen]; exact hth 0 _ (by omega)) _ _ _, fun i => ?_, fun i hi hij => ?_⟩
  · rw [World.frozen?_setCells, hb.frozen (p := ⟨L, i, none⟩) hL]
    exact h.2.1 i
  · by_cases e : i = j
    · subst e
      rw [← hx]
      exact World.rangeAt_setCells_same w2 L (i * 8) _ (hth _ _ (by simp [reL]; omega))
    · refine World.rangeAt_setCells_apart (fun q v hv => (hcell _).trans (h.2.2 i hi (by omega) q v hv)) _ _ _ (.inr ?_)
      simp only [reL, List.length_cons, List.length_nil]
      omega

set_option maxRecDepth 10000 in
set_option maxHeartbeats 4000000 in
theorem text_any (s : ByteArray) (hs30 : s.size ≤ 1073741824) (w : World) :
    Calls Try.prog 23 #[.string s] w fun e w' => ∃ v', e = .returned v' ∧ Tree.At w' (textT s.data.toList) v' ∧ Below w.heap.size w w' := by
  obtain ⟨i0, z, hi, hz, hs, hby, hzs⟩ := info_re'
  have hlen : s.data.toList.length = s.size := rfl
  obtain ⟨MC, hMC⟩ : ∃ MC, MC = madeCells z.cells (s.size * 8) := ⟨_, rfl⟩
  have hMS : MC.size = s.size * 8 := by rw [hMC, size_madeCells]
  have hmk : ∀ u : World, (Instr.makeSlice 25 (.int .i64 (s.size : Nat)) (.int .i64 (s.size : Nat))).run Try.prog u = .ok (.slice (some ⟨u.heap.size, 0, none⟩) s.size s.size) (u.alloc (.cells MC 27)) := fun u => by
    have h := run_make (P := Try.prog) u 25 27 i0 z Try.underlying25 hi hz .i64 .i64 (s.size : Nat) (s.size : Nat) (by omega) (Int.le_refl _) (by rw [hby]; omega) (by omega)
    rw [hs] at h
    rw [hMC]
    simpa using h
  have hb0 := (BlkIs.new w 27 zeroL.toArray).alloc (.cells (MC) 27)
  have hb1 := BlkIs.new (w.alloc (.cells zeroL.toArray 27)) 27 (MC)
  rw [World.size_alloc] at hb1
  have hB : Below w.heap.size w ((w.alloc (.cells zeroL.toArray 27)).alloc (.cells (MC) 27)) := ((Below.refl _ _).alloc (Nat.le_refl _) _).alloc (by simp) _
  have ht := hb1.there
  rw [hMS] at ht
  have HS := Lib.hid (And.intro hb0 (And.intro hb1.frozen (And.intro ht hB)))
  clear hb0 hb1 hB ht hi hz hs hby hzs hMC hMS
  obtain ⟨R, hR⟩ : ∃ R, R = textT s.data.toList := ⟨_, rfl⟩
  rw [← hR]
  have HRR := Lib.hid hR
  clear hR
  unfold zeroL at *
  go_enter Try.func23, Try.ntmps23
  go_wp2
  clear hmk
  go_loopw [10] (fun i wr => ∃ j : Nat, i = .int .i64 j ∧ j ≤ s.size ∧ Hid (BlkIs wr w.heap.size 27 zeroL.toArray ∧ Below w.heap.size w wr ∧ w.heap.size + 1 < wr.heap.size ∧ TextRow s.data.toList (w.heap.size + 1) j wr)) (fun i _ => s.size - (intOf i).toNat)
  case atStart =>
    exact ⟨0, rfl, Nat.zero_le _, Lib.hid ⟨HS.out.1, HS.out.2.2.2, by simp, HS.out.2.2.1, HS.out.2.1, fun i h hj => absurd hj (by omega)⟩⟩
  case round =>
    obtain ⟨j, rfl, hj, HH⟩ := hrel
    by_cases hp : j < s.size
    · have hdl : decide ((j : Int) < (s.size : Int)) = true := by simp; omega
      have hgl : s[j] = s.data.toList[j]'hp := by rw [Lib.getD_at s j hp]; rw [List.getD_eq_getElem?_getD, List.getElem?_eq_getElem hp]; rfl
      have hix := idx_byte 9 Try.underlying9 s j hp (P := Try.prog)
      have hx256 : (s[j]'hp).toNat < 256 := by have := UInt8.toNat_lt (s[j]'hp); omega
      have hk1 : IntKind.i64.wrap ((j : Int) + 1) = ((j + 1 : Nat) : Int) := by rw [IntKind.wrap_i64]; omega
      have HG := Lib.hid hgl
      clear hgl
      generalize s[j]'hp = x at *
      go_wp2_with (first
        | (go_at_call 40; go_must (refine (of_one x.toNat _ _ _ hx256 (by simp) (by go_simp)).mono ?_); rintro e w1 ⟨rfl, hb1⟩)
        | (go_at_call 27; go_must (refine (byte_any _ _).mono ?_); rintro e w2 ⟨rfl, hb2⟩; have hlast := Lib.hid (text_steps (w1 := w1) (w2 := w2) HH.out.2.2.1 HH.out.2.2.2 hb1 hb2 hlen hp HG.out))
        | (refine wpList_store_mid rfl 27 (.tmp 21) (.tmp 20) rfl (w.heap.size + 1) (j * 8) (reL 1 (sOf [x.toNat]) none 0 0 0 0).toArray rfl rfl hlast.out.1 info_re8 reL_all ?_; generalize hW5 : World.setCells w2 _ _ _ = W5; have HW5 := Lib.hid hW5; clear hW5))
      refine ⟨⟨j + 1, by go_num, by omega, Lib.hid ⟨?_, ?_, ?_, ?_⟩⟩, by simp [intOf]; omega⟩
      · rw [← HW5.out]
        exact (heap_cells (w.heap.size + 1) w.heap.size (by omega) _ _ w2).trans (HH.out.1.step hlast.out.2.1)
      · rw [← HW5.out]
        exact below_cells (w.heap.size + 1) _ _ _ (Nat.le_succ _) (HH.out.2.1.trans (hlast.out.2.1.mono HH.out.2.1.size))
      · have h1 := hlast.out.2.1.size
        have h3 := HH.out.2.2.1
        rw [← HW5.out, size_cells]; omega
      · rw [← HW5.out]
        exact hlast.out.2.2
    · have hdl : decide ((j : Int) < (s.size : Int)) = false := by simp; omega
      obtain rfl : j = s.size := by omega
      obtain ⟨hres, hbe, hsz, hrow⟩ := HH.out
      have hall : ∀ V, (∀ k, w.heap.size + 1 ≤ k → V.heap[k]? = wr.heap[k]?) → AllAt V (s.data.toList.map byteT) (w.heap.size + 1) 0 := fun V hV => by
        refine AllAt.mk _ _ _ fun i hi => ?_
        have hi' : i < s.data.toList.length := by simpa using hi
        refine ⟨reL 1 (sOf [(s.data.toList[i]).toNat]) none 0 0 0 0, ?_, rfl, fun j v hv => ?_⟩
        · rw [List.getElem_map]
          unfold byteT Tree.At
          exact ⟨none, 0, rfl, ⟨Nat.le_refl _, by omega⟩, fun h => absurd rfl h⟩
        · rw [Nat.zero_add]
          exact (World.cell?_of_block (w := wr) (hV _ (Nat.le_refl _))).trans (hrow.2.2 i hi' (by omega) j v hv)
      have HA := Lib.hid hall
      have HRS := Lib.hid hres
      have HBE := Lib.hid hbe
      have hml : (s.data.toList.map byteT).length = s.size := by rw [List.length_map]; rfl
      have hrz := row_zero 2 (s.data.toList.map byteT) (some ⟨w.heap.size + 1, 0, none⟩) s.size wr (less wr w.heap.size) (less_sub fun _ _ _ => rfl) (fun _ => ⟨_, 0, rfl, HA.out _ (less_other (by omega))⟩) ⟨by omega, by omega⟩
      rw [hml] at hrz
      have HRZ := Lib.hid hrz
      clear hrz hall hres hbe hrow HH
      go_wp2_with (first
        | (go_at_call 38; go_must (refine HRZ.out.mono ?_); rintro e w3 ⟨v, rfl, hv, hb3⟩; obtain ⟨A2, n2, c2, rfl⟩ := hv.form; have hB3 := HRS.out.step hb3)
        | (refine wpList_store_mid rfl 27 (.tmp 2) (.tmp 25) rfl w.heap.size 0 (reL _ _ A2 n2 c2 _ _).toArray rfl rfl hB3.there info_re8 reL_all ?_))
      have hB := HBE.out.trans (hb3.mono HBE.out.size)
      have hRR : R = rowT 2 (.node 0 (fun _ => false) [] 0 0) (s.data.toList.map byteT) := HRR.out
      rw [← hRR] at hv ⊢
      have hl := load_re (store_re (k := R.kind) (m := R.set) (A := A2) (n := n2) (c := c2) (lo := R.lo) (hi := R.hi) hB3 rfl)
      have hB4 := below_cells w.heap.size (reL R.kind R.set A2 n2 c2 R.lo R.hi) 0 _ (Nat.le_refl _) hB
      exact bodyPost_ret (results_cell1 rfl rfl hl) rfl ⟨_, rfl, hv.sub (less_sub fun k hk hn => (heap_cells w.heap.size k hk _ 0 w3).trans (hb3.block k (some_lt hn))), hB4⟩

end Go.Proofs.Ytfodpkciahkehaa

