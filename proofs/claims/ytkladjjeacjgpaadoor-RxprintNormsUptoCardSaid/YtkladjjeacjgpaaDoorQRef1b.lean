/-
  WHAT THE FUNCTIONS OF PACKAGE hackleref01 ANSWER THAT KEEP 256 MARKS: contracts. No condition but those that a contract names.
-/
import Derived.Test.YtkladjjeacjgpaaDoorQRef1
namespace Go.Proofs.YtkladjjeacjgpaaDoor
open Go.RowKit

/-- the marks below k -/
def sCut (m : Nat → Bool) (k : Nat) : Nat → Bool := fun j => decide (j < k) && m j

set_option maxRecDepth 100000 in
set_option maxHeartbeats 400000 in
theorem marks_any (m : Nat → Bool) (w : World) :
    Calls Tryd.prog 42 #[setV m] w fun e w' => e = .returned (.agg (bools m)) ∧ Below w.heap.size w w' := by
  have z24 := zero24
  go_enter Tryd.func42, Tryd.ntmps42
  go_wp2
  go_loopw [4] (fun s wr => ∃ k : Nat, k ≤ 256 ∧ s = .int .i64 k ∧ Hid (BlkIs wr w.heap.size 24 #[.int .u64 (wd m 0 : Nat), .int .u64 (wd m 1 : Nat), .int .u64 (wd m 2 : Nat), .int .u64 (wd m 3 : Nat)] ∧
      BlkIs wr (w.heap.size + 1) 49 (bools fun _ => false) ∧ BlkIs wr (w.heap.size + 1 + 1) 49 (bools (sCut m k)) ∧ Below w.heap.size w wr))
    (fun s _ => 256 - (intOf s).toNat)
  case atStart =>
    refine ⟨0, by omega, rfl, Lib.hid ⟨?_, ?_, ?_, ?_⟩⟩
    · exact ((BlkIs.new _ _ _).alloc _).alloc _
    · have := (BlkIs.new (w.alloc (.cells #[.int .u64 (wd m 0 : Nat), .int .u64 (wd m 1 : Nat), .int .u64 (wd m 2 : Nat), .int .u64 (wd m 3 : Nat)] 24)) 49 (bools fun _ => false)).alloc (.cells (bools fun _ => false) 49)
      simpa using this
    · rw [bools_congr (f := sCut m 0) (g := fun _ => false) (fun i _ => by simp [sCut])]
      have := BlkIs.new ((w.alloc (.cells #[.int .u64 (wd m 0 : Nat), .int .u64 (wd m 1 : Nat), .int .u64 (wd m 2 : Nat), .int .u64 (wd m 3 : Nat)] 24)).alloc (.cells (bools fun _ => false) 49)) 49 (bools fun _ => false)
      simpa using this
    · exact (((Below.refl _ _).alloc (Nat.le_refl _) _).alloc (by simp) _).alloc (by simp; omega) _
  case round =>
    obtain ⟨k, hk, rfl, HH⟩ := hrel
    by_cases hlt : k < 256
    · have c0 := HH.out.1.cell 0
      have c1 := HH.out.1.cell 1
      have c2 := HH.out.1.cell 2
      have c3 := HH.out.1.cell 3
      simp at c0 c1 c2 c3
      go_wp2_with fail
      refine (refHas_any m k hlt _).mono ?_
      rintro e w1 ⟨rfl, hb1⟩
      have b2 := HH.out.2.2.1.step hb1
      have e2 := b2.cell k
      have f2 := b2.frozen k
      rw [bools_get _ hlt] at e2
      have B2 := Lib.hid b2
      have HB := Lib.hid hb1
      clear b2 hb1 c0 c1 c2 c3
      go_wp2
      refine ⟨⟨k + 1, by omega, by go_num, Lib.hid ⟨?_, ?_, ?_, ?_⟩⟩, by simp [intOf]; omega⟩
      · exact (HH.out.1.step HB.out).far (by show w.heap.size ≠ w.heap.size + 1 + 1; omega) _
      · exact (HH.out.2.1.step HB.out).far (by show w.heap.size + 1 ≠ w.heap.size + 1 + 1; omega) _
      · have h := B2.out.put k (.bool (m k))
        rw [bools_set, bools_congr (f := updS (sCut m k) k (m k)) (g := sCut m (k + 1)) (fun i _ => by
          unfold updS sCut
          by_cases e : i = k
          · subst e; simp
          · rw [if_neg e, Bool.eq_iff_iff]; simp; omega)] at h
        exact h
      · exact (HH.out.2.2.2.trans (HB.out.mono HH.out.2.2.2.size)).setCell (by show w.heap.size ≤ w.heap.size + 1 + 1; omega) _
    · have hk' : k = 256 := by omega
      subst hk'
      have hcut : bools (sCut m 256) = bools m := bools_congr fun i hi => by simp [sCut, hi]
      have b2 := HH.out.2.2.1
      rw [hcut] at b2
      have HR := Lib.hid b2.range
      have ht := HH.out.2.1.there
      rw [bools_size, ← bools_size m] at ht
      have HT := Lib.hid ht
      have HI : Hid ((Tryd.prog.info? 49).map (·.size) = some (bools m).toList.length) := by rw [info24, Array.length_toList, bools_size]; exact Lib.hid rfl
      have HI2 : Hid ((Tryd.prog.info? 49).map (·.size) = some (bools m).size) := by rw [info24, bools_size]; exact Lib.hid rfl
      have hend := World.rangeAt_setCells_same _ _ _ (bools m).toList (by rw [Array.length_toList]; exact ht)
      have HE := Lib.hid hend
      clear b2 ht hcut hend
      go_wp2_with (first
        | (refine wpList_load_mid rfl 49 (.tmp 3) rfl (w.heap.size + 1 + 1) 0 rfl (bools m).toList _ HR.out Tryd.underlying49 rfl HI.out ?_; rw [bools_agg])
        | (refine wpList_store_mid rfl 49 (.tmp 2) (.tmp 14) rfl (w.heap.size + 1) 0 (bools m) rfl rfl HT.out HI2.out (bools_one m) ?_))
      have hload : (loadVar 49 ⟨w.heap.size + 1, 0, none⟩).run Tryd.prog (wr.setCells (w.heap.size + 1) 0 (bools m).toList) = .ok (.agg (bools m)) (wr.setCells (w.heap.size + 1) 0 (bools m).toList) := by
        rw [run_loadVar_mid (P := Tryd.prog) _ _ _ 49 (bools m).toList _ HE.out Tryd.underlying49 rfl HI.out, bools_agg]
      refine bodyPost_ret (v := .agg (bools m)) ?_ rfl ⟨rfl, ?_⟩
      · exact results_cell1 (p := 2) (ty := 49) rfl rfl hload
      · exact below_setCells _ (Nat.le_add_right _ _) _ _ _ HH.out.2.2.2

end Go.Proofs.YtkladjjeacjgpaaDoor

