/-
  WHAT Members AND First OF PACKAGE class ANSWER: contracts. Condition: classes are bytes; for First: the table of math/bits lies as it is laid.
-/
import Derived.Test.YtebhnfdgjbhhfaaDoorCls3
namespace Go.Proofs.YtebhnfdgjbhhfaaDoor
open Go.RowKit

theorem mems_lt {m : Nat → Bool} {t x : Nat} (h : x ∈ mems m t) : x < t := by
  unfold mems at h
  exact List.mem_range.1 (List.mem_filter.1 h).1
theorem sOf_mems (m : Nat → Bool) {b : Nat} (hb : b < 256) : sOf (mems m 256) b = m b := by
  unfold sOf mems
  rw [Bool.eq_iff_iff, decide_eq_true_iff, List.mem_filter, List.mem_range]
  exact ⟨fun h => h.2, fun h => ⟨hb, h⟩⟩
theorem blk_kept {w w' : World} {g : Nat} {t : TypeId} {cs : Array Value} {row : Option Nat} (h : BlkIs w g t cs) (hg : w.grownBy w' row) (hne : some g ≠ row) : BlkIs w' g t cs := (hg.block g h.lt hne).trans h
theorem own_low {w : World} {base : Nat} {e : TypeId} {size : Nat} {v : Value} {n : Nat} {xs : List Value} (h : w.ownsRow base e size v n xs) {b : Nat} (hb : b < base) : some b ≠ v.ownBlock := fun e1 => by
  have := (h.lt b e1.symm).1
  omega
theorem mems_skip {m : Nat → Bool} {b : Nat} (h : m b = false) : mems m (b + 1) = mems m b := mems_all (Nat.le_succ b) fun c h1 h2 => by
  obtain rfl : c = b := by omega
  exact h
theorem mems_take {m : Nat → Bool} {b : Nat} (h : m b = true) : mems m (b + 1) = mems m b ++ [b] := mems_step (Nat.le_refl b) (fun c h1 h2 => absurd h2 (by omega)) h

set_option maxRecDepth 100000 in
set_option maxHeartbeats 2000000 in
theorem members_any (f : Nat → Nat) (n k : Int) (hf : ∀ b, b < 256 → f b < 256) (w : World) :
    Calls Tryd.prog 12 #[.agg (clsC f n), .int .i64 k] w fun e w' => e = .returned (setV (memC f n k)) ∧ Below w.heap.size w w' := by
  obtain ⟨i0, hi, hz0, hz1, hz2⟩ := info_parts info5
  have HM := Lib.hid (may_any f n hf)
  have HF := Lib.hid hf
  have HI := Lib.hid hi
  clear hf hi
  have hb := (BlkIs.new w 26 (clsC f n)).alloc (.cells #[.int .u64 0, .int .u64 0, .int .u64 0, .int .u64 0] 35)
  have hr := BlkIs.new (w.alloc (.cells (clsC f n) 26)) 35 #[.int .u64 0, .int .u64 0, .int .u64 0, .int .u64 0]
  rw [World.size_alloc] at hr
  have hB := ((Below.refl w.heap.size w).alloc (Nat.le_refl _) (.cells (clsC f n) 26)).alloc (by simp) (.cells #[.int .u64 0, .int .u64 0, .int .u64 0, .int .u64 0] 35)
  have HB := Lib.hid hb
  have HR := Lib.hid hr
  have HBe := Lib.hid hB
  clear hb hr hB
  cases hm : mayB f n
  · have hnone : ∀ b, b < 256 → memC f n k b = (fun _ => false) b := fun b _ => by unfold memC; rw [hm]; rfl
    have hset := setV_congr hnone
    have h0 : setV (fun _ => false) = .agg #[.int .u64 0, .int .u64 0, .int .u64 0, .int .u64 0] := by
      have := wd_none
      rw [sOf_nil] at this
      unfold setV
      rw [this 0, this 1, this 2, this 3]; rfl
    rw [hset, h0]
    rw [hm] at HM
    clear hset h0 hnone
    go_enter Tryd.func12, Tryd.ntmps12
    go_wp2_with (first
      | refine wpList_loadC rfl (.tmp 2) rfl rfl HB.out ?_
      | (go_at_call 10; refine (HM.out _).mono ?_; rintro e w2 ⟨rfl, hb2⟩; have hbx := HR.out.step hb2; obtain ⟨c0, c1, c2, c3, f0, f1, f2, f3⟩ := hbx.four))
    have hB := HBe.out.trans (hb2.mono HBe.out.size)
    refine bodyPost_ret (v := .agg #[.int .u64 0, .int .u64 0, .int .u64 0, .int .u64 0]) (by simp [results, Tryd.results12, go_sem, c0, c1, c2, c3]) rfl ⟨rfl, ?_⟩
    exact (((hB.setCell (p := ⟨w.heap.size + 1, 0, none⟩) (Nat.le_succ _) _).setCell (p := ⟨w.heap.size + 1, 1, none⟩) (Nat.le_succ _) _).setCell (p := ⟨w.heap.size + 1, 2, none⟩) (Nat.le_succ _) _).setCell (p := ⟨w.heap.size + 1, 3, none⟩) (Nat.le_succ _) _
  · have hmem : ∀ b, memC f n k b = (((f b : Nat) : Int) == k) := fun b => by unfold memC; rw [hm, Bool.true_and, Bool.eq_iff_iff]; simp
    rw [hm] at HM
    have HE := Lib.hid hmem
    clear hmem
    go_enter Tryd.func12, Tryd.ntmps12
    go_wp2_with (first
      | refine wpList_loadC rfl (.tmp 2) rfl rfl HB.out ?_
      | (go_at_call 10; refine (HM.out _).mono ?_; rintro e w2 ⟨rfl, hb2⟩; have HB2 := Lib.hid (And.intro (HB.out.step hb2) (And.intro (HR.out.step hb2) (HBe.out.trans (hb2.mono HBe.out.size))));
          have HZ2 := Lib.hid (Nat.le_trans (Nat.le_of_eq (World.size_alloc _ _).symm) hb2.size); clear hb2 HB HR HBe))
    have hsz : w.heap.size + 2 ≤ w2.heap.size := HB2.out.2.1.lt
    go_loopw [5, 11] (fun v i wr => ∃ b : Nat, b ≤ 256 ∧ i = .int .i64 b ∧ Hid (wr.ownsRow (w.heap.size + 2) 5 1 v (mems (memC f n k) b).length ((mems (memC f n k) b).map fun (x : Nat) => Value.int .u8 (x : Int)) ∧
        BlkIs wr w.heap.size 26 (clsC f n) ∧ BlkIs wr (w.heap.size + 1) 35 #[.int .u64 0, .int .u64 0, .int .u64 0, .int .u64 0] ∧ Below w.heap.size w wr ∧ w.heap.size + 2 ≤ wr.heap.size)) (fun _ i _ => 256 - (intOf i).toNat)
    case atStart =>
      exact ⟨0, by omega, rfl, Lib.hid ⟨World.ownsRow_nil _ _ _ _, HB2.out.1, HB2.out.2.1, HB2.out.2.2, hsz⟩⟩
    case round =>
      obtain ⟨b, hb, rfl, HH⟩ := hrel
      by_cases hlt : b < 256
      · have hcell := clsBy HH.out.2.1 hlt
        have hfk := HF.out b hlt
        have hw : IntKind.i64.wrap ((f b : Nat) : Int) = (f b : Nat) := by rw [IntKind.wrap_i64]; omega
        have hwb : IntKind.u8.wrap ((b : Nat) : Int) = (b : Nat) := by rw [IntKind.wrap_u8]; omega
        have hlen := mems_len (memC f n k) b
        cases hkb : memC f n k b
        · have hd : (((f b : Nat) : Int) == k) = false := by rw [← HE.out]; exact hkb
          go_wp2
          exact ⟨⟨b + 1, by omega, by go_num, by rw [mems_skip hkb]; exact HH⟩, by simp [intOf]; omega⟩
        · have hd : (((f b : Nat) : Int) == k) = true := by rw [← HE.out]; exact hkb
          have hrow := HH.out.1
          have hws := HH.out.2.2.2.2
          have hi := HI.out
          go_wp2_with (at_builtin; refine wpList_append_own _ rfl _ _ 52 rfl (w.heap.size + 2) 5 i0 (.int .u8 0) 1 1 Tryd.underlying52 hi hz0 hz1 hz2 rfl (by decide) _ _ _ rfl (hrow.alloc _) ⟨wr.heap.size, 0, none⟩ 1 1 [.int .u8 (b : Nat)] rfl rfl (cell_one_new _ _ _) (by simp [Value.oneCell']) (by unfold maxLen; omega) (by omega) (by simp; omega) ?_; intro v' w3 hown' hgrow _)
          have hne := fun g (hg : g < w.heap.size + 2) => own_low hrow hg
          have hb1 := blk_kept (HH.out.2.1.alloc _) hgrow (hne _ (by omega))
          have hb2 := blk_kept (HH.out.2.2.1.alloc _) hgrow (hne _ (by omega))
          have hB3 : Below w.heap.size w w3 := (HH.out.2.2.2.1.alloc (by omega) _).grown hgrow (by simp; omega) (fun r e => by
            rcases Nat.lt_or_ge r w.heap.size with h | h
            · exact absurd e.symm (hne r (by omega))
            · exact h)
          have hsz3 := hgrow.size
          rw [World.size_alloc] at hsz3
          refine ⟨⟨b + 1, by omega, by go_num, ?_⟩, by simp [intOf]; omega⟩
          rw [mems_take hkb, List.length_append, List.map_append]
          exact Lib.hid ⟨hown', hb1, hb2, hB3, by omega⟩
      · obtain rfl : b = 256 := by omega
        obtain ⟨hrow, hb1, hb2, hB3, _⟩ := HH.out
        obtain ⟨A, c, rfl, hbr⟩ := byteRow_own hrow
        have hset : setV (sOf (mems (memC f n k) 256)) = setV (memC f n k) := setV_congr fun i hi => sOf_mems _ hi
        have hl : ∀ x ∈ mems (memC f n k) 256, x < 256 := fun x hx => mems_lt hx
        have hlen := mems_len (memC f n k) 256
        have HO := Lib.hid (of_any A c (mems (memC f n k) 256) wr hbr hl (by omega))
        rw [hset] at HO
        have H2 := Lib.hid hb2
        have H4 := Lib.hid hB3
        clear hrow hbr hb1 hb2 hB3 HH hl hset
        go_wp2_with (first
          | (go_at_call 23; refine HO.out.mono ?_; rintro e w4 ⟨rfl, hb4⟩; have hbx := H2.out.step hb4; obtain ⟨c0, c1, c2, c3, f0, f1, f2, f3⟩ := hbx.four))
        have hB := H4.out.trans (hb4.mono H4.out.size)
        refine bodyPost_ret (v := setV (memC f n k)) (by simp [results, Tryd.results12, go_sem, c0, c1, c2, c3]) rfl ⟨rfl, ?_⟩
        exact (((hB.setCell (p := ⟨w.heap.size + 1, 0, none⟩) (Nat.le_succ _) _).setCell (p := ⟨w.heap.size + 1, 1, none⟩) (Nat.le_succ _) _).setCell (p := ⟨w.heap.size + 1, 2, none⟩) (Nat.le_succ _) _).setCell (p := ⟨w.heap.size + 1, 3, none⟩) (Nat.le_succ _) _

set_option maxRecDepth 100000 in
set_option maxHeartbeats 1000000 in
theorem first_any (f : Nat → Nat) (n k : Int) (hf : ∀ b, b < 256 → f b < 256) (w : World) (hT : Tab w) :
    Calls Tryd.prog 18 #[.agg (clsC f n), .int .i64 k] w fun e w' => e = .returned (.int .i64 (nextS (memC f n k) 0)) ∧ Below w.heap.size w w' := by
  have HM := Lib.hid (members_any f n k hf)
  have HB := Lib.hid (BlkIs.new w 26 (clsC f n))
  have HBe := Lib.hid ((Below.refl w.heap.size w).alloc (Nat.le_refl _) (.cells (clsC f n) 26))
  have HT := Lib.hid hT
  have HN := Lib.hid (next_any (memC f n k) 0 (by omega))
  clear hT hf
  generalize memC f n k = m at *
  go_enter Tryd.func18, Tryd.ntmps18
  go_wp2_with (first
    | refine wpList_loadC rfl (.tmp 2) rfl rfl HB.out ?_
    | (go_at_call 12; refine (HM.out _).mono ?_; rintro e w2 ⟨rfl, hb2⟩)
    | (go_at_call 25; refine (HN.out _ (HT.out.step (HBe.out.trans (hb2.mono HBe.out.size)))).mono ?_; rintro e w3 ⟨rfl, hb3⟩))
  go_ret
  have hB := HBe.out.trans (hb2.mono HBe.out.size)
  exact ⟨rfl, hB.trans (hb3.mono hB.size)⟩

end Go.Proofs.YtebhnfdgjbhhfaaDoor
