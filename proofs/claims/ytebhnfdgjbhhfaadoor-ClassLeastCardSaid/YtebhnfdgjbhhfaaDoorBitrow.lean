/-
  WHAT rows OF PACKAGE class ANSWERS: of each byte its class, and a bit for each set that has it: a contract. Condition: the table of math/bits lies as it is laid; the sets lie in memory; 64 sets at most; classes are bytes.
-/
import Derived.Test.YtebhnfdgjbhhfaaDoorCls4
namespace Go.Proofs.YtebhnfdgjbhhfaaDoor
open Go.RowKit

/-- a set's four words, at b, o -/
def setL (m : Nat → Bool) : List Value := [.int .u64 (wd m 0 : Nat), .int .u64 (wd m 1 : Nat), .int .u64 (wd m 2 : Nat), .int .u64 (wd m 3 : Nat)]
/-- the sets of ms lie behind each other -/
def SetRow (w : World) (B : Nat) (A : Option Addr) (ms : List (Nat → Bool)) : Prop :=
  ms ≠ [] → ∃ b off, A = some ⟨b, off, none⟩ ∧ b < B ∧ ∀ (k : Nat) (m : Nat → Bool), ms[k]? = some m → w.rangeAt b (off + k * 4) (setL m)
theorem rangeAt_below {B : Nat} {w w' : World} (hb : Below B w w') {b o : Nat} {l : List Value} (h : b < B) (hr : w.rangeAt b o l) : w'.rangeAt b o l := fun j v hv => by
  rw [hb.cell (p := ⟨b, o + j, none⟩) h]
  exact hr j v hv
theorem SetRow.below {w w' : World} {B : Nat} {A : Option Addr} {ms : List (Nat → Bool)} (h : SetRow w B A ms) (hb : Below B w w') : SetRow w' B A ms := fun hne => by
  obtain ⟨b, off, rfl, hlt, hc⟩ := h hne
  exact ⟨b, off, rfl, hlt, fun k m hk => rangeAt_below hb hlt (hc k m hk)⟩
theorem SetRow.wide {w : World} {B B' : Nat} {A : Option Addr} {ms : List (Nat → Bool)} (h : SetRow w B A ms) (hB : B ≤ B') : SetRow w B' A ms := fun hne => by
  obtain ⟨b, off, rfl, hlt, hc⟩ := h hne
  exact ⟨b, off, rfl, by omega, hc⟩
theorem infoS : (Tryd.prog.info? 35).map (·.size) = some 4 := by kernel_rfl
theorem wpList_loadS {ops : Array Oper} {rest : List Oper} {op : Oper} {a : Act} {w : World} {Q : Exit → Act → World → Prop} {b o : Nat} {m : Nat → Bool} (hgd : op.guard = none) (x : Operand) (ho : op.op = .load 35 x)
    (hx : a.eval x = .pointer (some ⟨b, o, none⟩)) (h : w.rangeAt b o (setL m)) (hK : wpList Tryd.prog ops Q rest (a.put op.dst (setV m)) w) : wpList Tryd.prog ops Q (op :: rest) a w :=
  wpList_load_mid hgd 35 x ho b o hx (setL m) _ h Tryd.underlying35 rfl (by rw [infoS]; rfl) hK

/-- each byte's two words: its class; a bit for each j with P j -/
def rowR (f : Nat → Nat) (P : Nat → Nat → Bool) (i : Nat) : Nat := if i % 2 = 0 then f (i / 2) else wd (fun j => P j (i / 2)) 0
/-- the first k bytes' classes alone -/
def rowK (f : Nat → Nat) (k i : Nat) : Nat := if i % 2 = 0 ∧ i / 2 < k then f (i / 2) else 0
/-- the sets below i are gone through, and of set i the bytes of l -/
def partP (ms : List (Nat → Bool)) (i : Nat) (l : List Nat) (j b : Nat) : Bool := if j < i then (ms.getD j fun _ => false) b else if j = i then decide (b ∈ l) else false
/-- all sets -/
def allP (ms : List (Nat → Bool)) (j b : Nat) : Bool := (ms.getD j fun _ => false) b

theorem rowK_set (f : Nat → Nat) {k : Nat} : (rowC (rowK f k)).setIfInBounds (k * 2) (.int .u64 (f k : Nat)) = rowC (rowK f (k + 1)) := by
  rw [rowC_set]
  refine rowC_congr fun i _ => ?_
  unfold updN rowK
  by_cases e : i = k * 2
  · subst e; simp
  · rw [if_neg e]
    by_cases h : i % 2 = 0 ∧ i / 2 < k
    · rw [if_pos h, if_pos (by omega)]
    · rw [if_neg h, if_neg (by omega)]
theorem rowK_all (f : Nat → Nat) (ms : List (Nat → Bool)) : rowC (rowK f 256) = rowC (rowR f (partP ms 0 [])) := rowC_congr fun i hi => by
  unfold rowK rowR
  by_cases h : i % 2 = 0
  · rw [if_pos ⟨h, by omega⟩, if_pos h]
  · rw [if_neg (by omega), if_neg h]
    have e : (fun j => partP ms 0 [] j (i / 2)) = sOf [] := by
      funext j
      simp [partP, sOf]
    rw [e, wd_none]
theorem rowR_set (f : Nat → Nat) (ms : List (Nat → Bool)) (i : Nat) (l : List Nat) (x : Nat) :
    (rowC (rowR f (partP ms i l))).setIfInBounds (x * 2 + 1) (.int .u64 (wd (fun j => partP ms i (l ++ [x]) j x) 0 : Nat)) = rowC (rowR f (partP ms i (l ++ [x]))) := by
  rw [rowC_set]
  refine rowC_congr fun q _ => ?_
  unfold updN rowR
  by_cases e : q = x * 2 + 1
  · subst e
    have h2 : (x * 2 + 1) / 2 = x := by omega
    simp [h2]
  · rw [if_neg e]
    by_cases h : q % 2 = 0
    · rw [if_pos h, if_pos h]
    · rw [if_neg h, if_neg h]
      have hx : q / 2 ≠ x := by omega
      refine wd_congr fun j _ => ?_
      unfold partP
      simp [hx]
theorem partP_bit (ms : List (Nat → Bool)) (i : Nat) (l : List Nat) (x j : Nat) : partP ms i (l ++ [x]) j x = (partP ms i l j x || decide (j = i)) := by
  unfold partP
  by_cases h1 : j < i
  · have : ¬ j = i := by omega
    simp [h1, this]
  · by_cases h2 : j = i <;> simp [h2]
theorem partP_next (f : Nat → Nat) {ms : List (Nat → Bool)} {i : Nat} {m : Nat → Bool} (h : ms[i]? = some m) : rowC (rowR f (partP ms i (mems m 256))) = rowC (rowR f (partP ms (i + 1) [])) := rowC_congr fun q hq => by
  unfold rowR
  split
  · rfl
  · refine wd_congr fun j _ => ?_
    unfold partP
    by_cases h1 : 64 * 0 + j < i
    · rw [if_pos h1, if_pos (by omega)]
    · rw [if_neg h1]
      by_cases h2 : 64 * 0 + j = i
      · rw [if_pos h2, if_pos (by omega), h2, List.getD_eq_getElem?_getD, h]
        unfold mems
        rw [Bool.eq_iff_iff, decide_eq_true_iff, List.mem_filter, List.mem_range]
        exact ⟨fun h => h.2, fun h => ⟨by omega, h⟩⟩
      · rw [if_neg h2, if_neg (by omega)]
        simp
theorem partP_all (f : Nat → Nat) (ms : List (Nat → Bool)) : rowC (rowR f (partP ms ms.length [])) = rowC (rowR f (allP ms)) := rowC_congr fun q _ => by
  unfold rowR
  split
  · rfl
  · refine wd_congr fun j _ => ?_
    unfold partP allP
    by_cases h1 : 64 * 0 + j < ms.length
    · rw [if_pos h1]
    · rw [if_neg h1, List.getD_eq_getElem?_getD, List.getElem?_eq_none (by omega)]
      simp

theorem ByteRow.farRow {w : World} {B g i : Nat} {t : TypeId} {R : Nat → Nat} {A : Option Addr} {l : List Nat} (h : ByteRow w B A l) (hb : BlkIs w g t (rowC R)) (v : Value) : ByteRow (w.setCell ⟨g, i, none⟩ v) B A l := fun hl => by
  obtain ⟨b, off, rfl, hlt, hc⟩ := h hl
  have hne : b ≠ g := fun e => by
    obtain ⟨x, hx⟩ : ∃ x, l[0]? = some x := by
      cases l with
      | nil => exact absurd rfl hl
      | cons x r => exact ⟨x, rfl⟩
    have h0 := hc 0 x hx
    rw [e, hb.cell] at h0
    rcases Nat.lt_or_ge (off + 0) 512 with h1 | h1
    · rw [rowC_get R h1] at h0
      simp at h0
    · rw [Array.getElem?_eq_none (by rw [rowC_size]; exact h1)] at h0
      cases h0
  refine ⟨b, off, rfl, hlt, fun k x hk => ?_⟩
  have := hc k x hk
  unfold World.cell? at this ⊢
  rw [Below.heap_setCell w ⟨g, i, none⟩ v b hne]
  exact this

theorem loadVarW {w : World} {g : Nat} {t : TypeId} {R : Nat → Nat} (h : BlkIs w g t (rowC R)) : (loadVar 62 ⟨g, 0, none⟩).run Tryd.prog w = .ok (.agg (rowC R)) w := by
  have := run_loadVar_mid (P := Tryd.prog) w g 0 62 (rowC R).toList _ h.range Tryd.underlying62 rfl (by rw [infoW, Array.length_toList, rowC_size])
  rwa [Array.toArray_toList] at this

set_option maxRecDepth 100000 in
set_option maxHeartbeats 2000000 in
theorem rows_any (f : Nat → Nat) (n : Int) (hf : ∀ b, b < 256 → f b < 256) (ms : List (Nat → Bool)) (hms : ms.length ≤ 64) (A : Option Addr) (c : Nat) (w : World) (hT : Tab w) (hr : SetRow w w.heap.size A ms) :
    Calls Tryd.prog 28 #[.agg (clsC f n), .slice A ms.length c] w fun e w' => e = .returned (.agg (rowC (rowR f (allP ms)))) ∧ Below w.heap.size w w' := by
  have z := zeroW
  have HF := Lib.hid hf
  have HT := Lib.hid hT
  have HR := Lib.hid hr
  have hb := ((BlkIs.new w 26 (clsC f n)).alloc (.cells (rowC fun _ => 0) 62)).alloc (.cells (rowC fun _ => 0) 62)
  have hr0 := (BlkIs.new (w.alloc (.cells (clsC f n) 26)) 62 (rowC fun _ => 0)).alloc (.cells (rowC fun _ => 0) 62)
  have hk0 := BlkIs.new ((w.alloc (.cells (clsC f n) 26)).alloc (.cells (rowC fun _ => 0) 62)) 62 (rowC fun _ => 0)
  rw [World.size_alloc] at hr0
  rw [World.size_alloc, World.size_alloc] at hk0
  have hB := (((Below.refl w.heap.size w).alloc (Nat.le_refl _) (.cells (clsC f n) 26)).alloc (by simp) (.cells (rowC fun _ => 0) 62)).alloc (by simp; omega) (.cells (rowC fun _ => 0) 62)
  have HB := Lib.hid hb
  have HS := Lib.hid (And.intro hr0 (And.intro hk0 hB))
  clear hf hT hr hb hr0 hk0 hB
  go_enter Tryd.func28, Tryd.ntmps28
  go_wp2_with (refine wpList_loadO rfl (.tmp 12) rfl rfl HB.out ?_)
  go_loopw [14] (fun s wr => ∃ k : Nat, k ≤ 256 ∧ s = .int .i64 k ∧ Hid (BlkIs wr (w.heap.size + 1) 62 (rowC fun _ => 0) ∧ BlkIs wr (w.heap.size + 2) 62 (rowC (rowK f k)) ∧ Below w.heap.size w wr)) (fun s _ => 256 - (intOf s).toNat)
  case atStart =>
    refine ⟨0, by omega, rfl, Lib.hid ⟨HS.out.1, ?_, HS.out.2.2⟩⟩
    have e : rowC (rowK f 0) = rowC (fun _ => 0) := rowC_congr fun i _ => by
      unfold rowK
      rw [if_neg (by omega)]
    rw [e]
    exact HS.out.2.1
  case round =>
    obtain ⟨k, hk, rfl, HH⟩ := hrel
    by_cases hlt : k < 256
    · have hix := idxO f hlt wr
      have hfk := HF.out k hlt
      have hw : IntKind.u64.wrap ((f k : Nat) : Int) = (f k : Nat) := by rw [IntKind.wrap_u64]; omega
      have hc := (HH.out.2.1.cell (k * 2)).trans (rowC_get _ (by omega))
      have hfz := HH.out.2.1.frozen (k * 2)
      have hfin : BlkIs (wr.setCell ⟨w.heap.size + 2, k * 2, none⟩ (.int .u64 (f k : Nat))) (w.heap.size + 1) 62 (rowC fun _ => 0) ∧ BlkIs (wr.setCell ⟨w.heap.size + 2, k * 2, none⟩ (.int .u64 (f k : Nat))) (w.heap.size + 2) 62 (rowC (rowK f (k + 1))) ∧ Below w.heap.size w (wr.setCell ⟨w.heap.size + 2, k * 2, none⟩ (.int .u64 (f k : Nat))) := by
        refine ⟨HH.out.1.far (by simp) _, ?_, HH.out.2.2.setCell (by simp) _⟩
        have h := HH.out.2.1.put (k * 2) (.int .u64 (f k : Nat))
        rwa [rowK_set] at h
      have HFI := Lib.hid hfin
      clear hfin
      go_wp2
      exact ⟨⟨k + 1, by omega, by go_num, HFI⟩, by simp [intOf]; omega⟩
    · obtain rfl : k = 256 := by omega
      have HH1 := HH.out
      rw [rowK_all f ms] at HH1
      have H1 := Lib.hid HH1
      clear HH1 HH HS
      go_wp2
      go_loopw [26] (fun s wr => ∃ i : Nat, i ≤ ms.length ∧ s = .int .i64 i ∧ Hid (BlkIs wr (w.heap.size + 1) 62 (rowC fun _ => 0) ∧ BlkIs wr (w.heap.size + 2) 62 (rowC (rowR f (partP ms i []))) ∧ Below w.heap.size w wr)) (fun s _ => ms.length - (intOf s).toNat)
      case atStart => exact ⟨0, by omega, rfl, H1⟩
      case round =>
        clear H1
        obtain ⟨i, hi, rfl, HH⟩ := hrel
        by_cases hlt : i < ms.length
        · obtain ⟨m, hm⟩ : ∃ m, ms[i]? = some m := ⟨ms[i], List.getElem?_eq_getElem hlt⟩
          obtain ⟨b, off, hA, hbl, hcell⟩ := HR.out (fun e => by rw [e] at hlt; simp at hlt)
          have hrng := rangeAt_below HH.out.2.2 hbl (hcell i m hm)
          subst hA
          have HRG := Lib.hid hrng
          have HBM := Lib.hid (bytes_any m)
          clear hrng hcell
          go_wp2_with (refine wpList_loadS rfl (.tmp 29) rfl rfl HRG.out ?_)
          refine (HBM.out _ (HT.out.step (HH.out.2.2.alloc HH.out.2.2.size _))).mono ?_
          rintro e w2 ⟨A', c', rfl, hbr, hb2⟩
          have hs2 : Below wr.heap.size wr w2 := ((Below.refl _ _).alloc (Nat.le_refl _) _).trans (hb2.mono (by simp))
          have H2 := Lib.hid (And.intro (HH.out.1.step hs2) (And.intro (HH.out.2.1.step hs2) (And.intro (HH.out.2.2.trans (hs2.mono HH.out.2.2.size)) hbr)))
          have HL := Lib.hid (fun x (hx : x ∈ mems m 256) => mems_lt hx)
          have HNX := Lib.hid (partP_next f hm)
          have hlen := mems_len m 256
          clear hb2 hs2 hbr HBM HRG HH hm hbl
          generalize mems m 256 = l at *
          go_wp2
          go_loopw [34] (fun s wr => ∃ p : Nat, p ≤ l.length ∧ s = .int .i64 p ∧ Hid (BlkIs wr (w.heap.size + 1) 62 (rowC fun _ => 0) ∧ BlkIs wr (w.heap.size + 2) 62 (rowC (rowR f (partP ms i (l.take p)))) ∧ Below w.heap.size w wr ∧ ByteRow wr w2.heap.size A' l)) (fun s _ => l.length - (intOf s).toNat)
          case atStart => exact ⟨0, by omega, rfl, Lib.hid H2.out⟩
          case round =>
            clear H2
            obtain ⟨p, hp, rfl, HI⟩ := hrel
            by_cases hlp : p < l.length
            · obtain ⟨x, hx⟩ : ∃ x, l[p]? = some x := ⟨l[p], List.getElem?_eq_getElem hlp⟩
              have hx256 := HL.out x (List.mem_of_getElem? hx)
              obtain ⟨b', off', hA', hbl', hcell'⟩ := HI.out.2.2.2 (fun e => by rw [e] at hlp; simp at hlp)
              have g1 := hcell' p x hx
              have g2 := (HI.out.2.1.cell (x * 2 + 1)).trans (rowC_get _ (by omega))
              have e2 : rowR f (partP ms i (l.take p)) (x * 2 + 1) = wd (fun j => partP ms i (l.take p) j x) 0 := by
                unfold rowR
                rw [if_neg (by omega), show (x * 2 + 1) / 2 = x by omega]
              rw [e2] at g2
              have g3 := HI.out.2.1.frozen (x * 2 + 1)
              have hor : bits .or .u64 (wd (fun j => partP ms i (l.take p) j x) 0 : Nat) (IntKind.u64.wrap (2 ^ i)) = (wd (fun j => partP ms i (l.take p ++ [x]) j x) 0 : Int) := by
                have := or_bit (x := i) (i := 0) (fun j => partP_bit ms i (l.take p) x j) (Nat.div_eq_of_lt (by omega))
                rwa [Nat.mod_eq_of_lt (by omega)] at this
              have htk : l.take (p + 1) = l.take p ++ [x] := by rw [List.take_add_one, hx]; rfl
              have HFI := Lib.hid (show BlkIs (wr.setCell ⟨w.heap.size + 2, x * 2 + 1, none⟩ (.int .u64 (wd (fun j => partP ms i (l.take p ++ [x]) j x) 0 : Nat))) (w.heap.size + 1) 62 (rowC fun _ => 0) ∧
                  BlkIs (wr.setCell ⟨w.heap.size + 2, x * 2 + 1, none⟩ (.int .u64 (wd (fun j => partP ms i (l.take p ++ [x]) j x) 0 : Nat))) (w.heap.size + 2) 62 (rowC (rowR f (partP ms i (l.take (p + 1))))) ∧
                  Below w.heap.size w (wr.setCell ⟨w.heap.size + 2, x * 2 + 1, none⟩ (.int .u64 (wd (fun j => partP ms i (l.take p ++ [x]) j x) 0 : Nat))) ∧
                  ByteRow (wr.setCell ⟨w.heap.size + 2, x * 2 + 1, none⟩ (.int .u64 (wd (fun j => partP ms i (l.take p ++ [x]) j x) 0 : Nat))) w2.heap.size A' l from by
                refine ⟨HI.out.1.far (by simp) _, ?_, HI.out.2.2.1.setCell (by simp) _, HI.out.2.2.2.farRow HI.out.2.1 _⟩
                have h := HI.out.2.1.put (x * 2 + 1) (.int .u64 (wd (fun j => partP ms i (l.take p ++ [x]) j x) 0 : Nat))
                rw [rowR_set] at h
                rw [htk]
                exact h)
              subst hA'
              generalize wd (fun j => partP ms i (l.take p) j x) 0 = y0 at *
              generalize wd (fun j => partP ms i (l.take p ++ [x]) j x) 0 = y1 at *
              clear hcell' HI htk e2 HL HNX hx
              go_wp2
              go_region
              go_wp2
              exact ⟨⟨p + 1, by omega, by go_num, Lib.hid ⟨HFI.out.1.drew, HFI.out.2.1.drew, HFI.out.2.2.1.drew, HFI.out.2.2.2⟩⟩, by simp [intOf]; omega⟩
            · obtain rfl : p = l.length := by omega
              have hi2 := HI.out
              rw [List.take_length, HNX.out] at hi2
              have HI2 := Lib.hid (And.intro hi2.1 (And.intro hi2.2.1 hi2.2.2.1))
              clear hi2 HI HNX HL
              go_wp2
              go_roundw
              case rel => exact ⟨_, _, _, _, _, _, _, _, _, _, _, _, _, _, _, _, _, _, _, _, _, _, _, _, _, _, ⟨i + 1, by omega, by go_num, HI2⟩, rfl⟩
              case measure => simp [intOf]; omega
        · obtain rfl : i = ms.length := by omega
          have hh := HH.out
          rw [partP_all] at hh
          have H3 := Lib.hid hh
          clear hh HH
          go_wp2_with (first
            | refine wpList_loadW rfl (.tmp 5) rfl rfl H3.out.2.1 ?_
            | (refine wpList_store_all rfl 62 (.tmp 4) (.tmp 49) rfl rfl (new := rowC (rowR f (allP ms))) rfl H3.out.1 (by rw [rowC_size, rowC_size]) (by rw [rowC_size]; exact infoW) (rowC_one _) ?_; intro w1 hw1 hwr))
          exact bodyPost_ret (results_cell1 rfl (by simp [Act.put]) (loadVarW hw1)) rfl ⟨rfl, hwr.2.1 _ _ (Nat.le_succ _) H3.out.2.2⟩

end Go.Proofs.YtebhnfdgjbhhfaaDoor
