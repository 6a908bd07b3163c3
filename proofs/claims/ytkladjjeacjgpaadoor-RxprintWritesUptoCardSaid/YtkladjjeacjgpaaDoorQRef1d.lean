/-
  WHAT hackleref01.Bytes ANSWERS: a contract. No condition.
-/
import Derived.Test.YtkladjjeacjgpaaDoorQRef1
import Derived.Test.YtkladjjeacjgpaaDoorQBytes
namespace Go.Proofs.YtkladjjeacjgpaaDoor
open Go.RowKit

theorem mems_yes {m : Nat → Bool} {k : Nat} (h : m k = true) : mems m (k + 1) = mems m k ++ [k] := by
  unfold mems; rw [List.range_succ, List.filter_append]; simp [h]
theorem mems_no {m : Nat → Bool} {k : Nat} (h : m k = false) : mems m (k + 1) = mems m k := by
  unfold mems; rw [List.range_succ, List.filter_append]; simp [h]
theorem mems_len (m : Nat → Bool) (k : Nat) : (mems m k).length ≤ k := by
  have := List.length_filter_le m (List.range k)
  rw [List.length_range] at this
  exact this

theorem own_step {w w' : World} {base : Nat} {e : TypeId} {size n : Nat} {v : Value} {xs : List Value} (h : w.ownsRow base e size v n xs) (hb : Below w.heap.size w w') : w'.ownsRow base e size v n xs :=
  h.kept (row := none) ⟨hb.os, hb.tape, hb.output, hb.size, fun i hi _ => hb.block i hi⟩ (by
    rcases h.2 with ⟨rfl, _⟩ | ⟨g, cap, cur, rfl, _⟩
    · exact .inl rfl
    · exact .inr (by simp [Value.ownBlock]))

def u8s (l : List Nat) : List Value := l.map fun (x : Nat) => Value.int .u8 (x : Int)

set_option maxRecDepth 100000 in
set_option maxHeartbeats 1000000 in
theorem refBytes_any (m : Nat → Bool) (w : World) : Calls Tryd.prog 48 #[setV m] w (BytesIs (mems m 256) w) := by
  obtain ⟨i0, hi, hz0, hz1, hz2⟩ := info_parts info5
  have HI0 := Lib.hid hi
  clear hi
  go_enter Tryd.func48, Tryd.ntmps48
  go_wp2
  go_loopw [3, 4] (fun v s wr => ∃ k : Nat, k ≤ 256 ∧ s = .int .i64 k ∧ Hid (BlkIs wr w.heap.size 24 #[.int .u64 (wd m 0 : Nat), .int .u64 (wd m 1 : Nat), .int .u64 (wd m 2 : Nat), .int .u64 (wd m 3 : Nat)] ∧
      wr.ownsRow (w.heap.size + 1) 5 1 v (mems m k).length (u8s (mems m k)) ∧ Below w.heap.size w wr)) (fun _ s _ => 256 - (intOf s).toNat)
  case atStart =>
    exact ⟨0, by omega, rfl, Lib.hid ⟨BlkIs.new _ _ _, World.ownsRow_nil _ _ _ _, (Below.refl _ _).alloc (Nat.le_refl _) _⟩⟩
  case round =>
    obtain ⟨k, hk, rfl, HH⟩ := hrel
    by_cases hlt : k < 256
    · obtain ⟨c0, c1, c2, c3, _⟩ := HH.out.1.four
      have hmk := refHas_any m k hlt
      have HM := Lib.hid hmk
      clear hmk
      cases hb : m k
      · rw [hb] at HM
        have HN := Lib.hid (mems_no hb)
        clear hb
        go_wp2_with (go_at_call 44; go_must (refine (HM.out _).mono ?_); rintro e w1 ⟨rfl, hb1⟩)
        refine ⟨⟨k + 1, by omega, by go_num, Lib.hid ⟨HH.out.1.step hb1, ?_, HH.out.2.2.trans (hb1.mono HH.out.2.2.size)⟩⟩, by simp [intOf]; omega⟩
        rw [HN.out]
        exact own_step HH.out.2.1 hb1
      · rw [hb] at HM
        have HN := Lib.hid (mems_yes hb)
        have hlen := mems_len m k
        clear hb
        have hi := HI0.out
        go_wp2_with (first
          | (go_at_call 44; go_must (refine (HM.out _).mono ?_); rintro e w1 ⟨rfl, hb1⟩; have hr1 := own_step HH.out.2.1 hb1; have hz1' := hb1.size; have hzz := HH.out.1.lt)
          | (at_builtin; go_must (refine wpList_append_own _ rfl _ _ 63 rfl (w.heap.size + 1) 5 i0 (.int .u8 0) 1 1 Tryd.underlying63 hi hz0 hz1 hz2 rfl (by decide) _ _ _ rfl (hr1.alloc _) ⟨w1.heap.size, 0, none⟩ 1 1 [.int .u8 (k : Nat)] rfl rfl (cell_one_new _ _ _) (by simp [Value.oneCell']) (by unfold maxLen; omega) (by omega) (by simp; omega) ?_); intro v' w3 hown' hgrow _))
        have hB1 := HH.out.2.2.trans (hb1.mono HH.out.2.2.size)
        have hB2 := hB1.alloc hB1.size (.cells #[.int .u8 (k : Nat)] 5)
        refine ⟨⟨k + 1, by omega, by go_num, Lib.hid ⟨?_, ?_, hB2.grown hgrow hB2.size (fun j e => by have := (hr1.lt j e).1; omega)⟩⟩, by simp [intOf]; omega⟩
        · have h := (HH.out.1.step hb1).alloc (.cells #[.int .u8 (k : Nat)] 5)
          exact (hgrow.block _ h.lt (fun e => by have := (hr1.lt _ e.symm).1; omega)).trans h
        · rw [HN.out, List.length_append]
          have e : u8s (mems m k ++ [k]) = u8s (mems m k) ++ [.int .u8 (k : Nat)] := by unfold u8s; rw [List.map_append]; rfl
          rw [e]; exact hown'
    · have hk' : k = 256 := by omega
      subst hk'
      obtain ⟨A, c, rfl, hrow⟩ := byteRow_own HH.out.2.1
      have HRW := Lib.hid hrow
      clear hrow
      go_wp2
      go_ret
      exact ⟨A, c, rfl, HRW.out, HH.out.2.2⟩

end Go.Proofs.YtkladjjeacjgpaaDoor

