/-
  WHAT hacklelaw01's OctsAsk ANSWERS: true. Condition: the table of math/bits lies as it is laid.
-/
import Derived.Test.YtjhdacckodoohaaDoorLaw1a
namespace Go.Proofs.YtjhdacckodoohaaDoor
open Go.RowKit

theorem ByteRow.step {w w' : World} {A : Option Addr} {l : List Nat} (h : ByteRow w w.heap.size A l) (hb : Below w.heap.size w w') : ByteRow w' w'.heap.size A l := fun hl => by
  obtain ⟨b, off, rfl, hlt, hc⟩ := h hl
  have hz := hb.size
  refine ⟨b, off, rfl, by omega, fun k x hk => ?_⟩
  rw [hb.cell (by exact hlt)]
  exact hc k x hk

/-- the first of a row that is k or more, or -1 -/
def nxt (l : List Nat) (k : Int) : Int := match l.filter (fun (x : Nat) => decide (k ≤ (x : Int))) with | [] => -1 | x :: _ => (x : Int)
theorem nxt_yes {l : List Nat} {k : Int} {x : Nat} (h : k ≤ (x : Int)) : nxt (x :: l) k = (x : Int) := by unfold nxt; rw [List.filter_cons, if_pos (by simpa using h)]
theorem nxt_no {l : List Nat} {k : Int} {x : Nat} (h : ¬ k ≤ (x : Int)) : nxt (x :: l) k = nxt l k := by unfold nxt; rw [List.filter_cons, if_neg (by simpa using h)]
theorem nxt_mems (m : Nat → Bool) (k : Int) : nextS m k = nxt (mems m 256) k := by
  have e : mems (sLess m (sBelow k)) 256 = (mems m 256).filter (fun (x : Nat) => decide (k ≤ (x : Int))) := by
    unfold mems
    rw [List.filter_filter]
    refine List.filter_congr fun b _ => ?_
    unfold sLess sBelow
    have : decide ((b : Int) < k) = !decide (k ≤ (b : Int)) := by rw [Bool.eq_iff_iff]; simp
    rw [this]
    cases m b <;> simp
  unfold nextS nxt
  rw [e]
  generalize List.filter (fun (x : Nat) => decide (k ≤ (x : Int))) (mems m 256) = x
  cases x <;> rfl

set_option maxRecDepth 100000 in
set_option maxHeartbeats 1000000 in
theorem octsAsk_any (m : Nat → Bool) (k : Int) (hk : k ≤ 9223372036854775807) (w : World) (hT : Tab w) :
    Calls Tryd.prog 5 #[setV m, .int .i64 k] w (TrueIs w) := by
  have hal := alive_any
  have hl := cnt_mems m 256
  have hl2 := mems_len m 256
  have hc := count_any m
  rw [hl] at hc
  have HC := Lib.hid hc
  have HL := Lib.hid hl2
  have HT := Lib.hid hT
  have HA := Lib.hid hal
  clear hT hal hl hl2 hc
  go_enter Tryd.func5, Tryd.ntmps5
  go_wp2_with fail
  have hx0 := BlkIs.new w 27 #[.int .u64 (wd m 0 : Nat), .int .u64 (wd m 1 : Nat), .int .u64 (wd m 2 : Nat), .int .u64 (wd m 3 : Nat)]
  have hB0 : Below w.heap.size w (w.alloc (.cells #[.int .u64 (wd m 0 : Nat), .int .u64 (wd m 1 : Nat), .int .u64 (wd m 2 : Nat), .int .u64 (wd m 3 : Nat)] 27)) := (Below.refl _ _).alloc (Nat.le_refl _) _
  refine (HA.out _ (HT.out.step hB0)).mono ?_
  rintro e w2 ⟨rfl, hb2⟩
  have HB := Lib.hid (hB0.trans (hb2.mono hB0.size))
  have HX := Lib.hid (hx0.step hb2)
  clear hx0 hB0 hb2
  go_wp2_with fail
  go_region_held3 (fun w' => Below w2.heap.size w2 w' ∧ w'.cell? ⟨w.heap.size, 0, none⟩ = some (.int .u64 (wd m 0 : Nat)) ∧ w'.cell? ⟨w.heap.size, 1, none⟩ = some (.int .u64 (wd m 1 : Nat)) ∧
      w'.cell? ⟨w.heap.size, 2, none⟩ = some (.int .u64 (wd m 2 : Nat)) ∧ w'.cell? ⟨w.heap.size, 3, none⟩ = some (.int .u64 (wd m 3 : Nat)))
    ((first
      | exact held_box HX.out (by assumption) hb4
      | exact held_box HX.out (by assumption) hb3
      | exact ⟨(Below.refl _ _).drew, HX.out.four.1, HX.out.four.2.1, HX.out.four.2.2.1, HX.out.four.2.2.2.1⟩))
    ((first
      | (go_at_call 19; go_must (refine (bytes_any m _ (HT.out.step (HB.out.trans (Below.mono (And.left ‹Below w2.heap.size w2 _ ∧ _›) HB.out.size)))).mono ?_); rintro e w3 ⟨A, c, rfl, hr3, hb3⟩)
      | (go_at_call 20; go_must (refine (refBytes_any m _).mono ?_); rintro e w4 ⟨A', c', rfl, hr4, hb4⟩)))
  have h34 : Below w2.heap.size w2 w4 := (Below.refl w2.heap.size w2).drew.trans (hb3.trans (hb4.mono hb3.size))
  have hB4 := HB.out.trans (h34.mono HB.out.size)
  have hx4 := HX.out.step h34
  have hr3' := hr3.step hb4
  clear hr3 hb3 hb4 h34 ‹Below w2.heap.size w2 w4 ∧ _›
  have hnx := nxt_mems m k
  have hne := fun (u : World) (hu : Tab u) => next_any m k hk u hu
  rw [hnx] at hne
  have hlt : ∀ x ∈ mems m 256, x < 256 := fun x hx => by
    unfold mems at hx
    exact List.mem_range.1 (List.mem_filter.1 hx).1
  generalize mems m 256 = l at *
  have HLT := Lib.hid hlt
  clear hlt
  have HN := Lib.hid hne
  clear hnx hne
  have HR := Lib.hid (And.intro hr3' hr4)
  have HB4 := Lib.hid hB4
  have HX4 := Lib.hid hx4
  clear HB HX hr3' hr4 hB4 hx4
  have hl := HL.out
  obtain ⟨c0, c1, c2, c3, _⟩ := HX4.out.four
  go_wp2_with fail
  refine (HC.out _).mono ?_
  rintro e w5 ⟨rfl, hb5⟩
  have hr5 := HR.out.1.step hb5
  have hr6 := HR.out.2.step hb5
  have hx5 := HX4.out.step hb5
  have hB5 := HB4.out.trans (hb5.mono HB4.out.size)
  have H5 := Lib.hid (And.intro hB5 (And.intro hx5 (And.intro hr5 hr6)))
  clear HR HX4 HB4 c0 c1 c2 c3 hr5 hr6 hx5 hB5 hb5
  go_wp2_with fail
  go_loopw [7, 8] (fun nx s wr => ∃ i : Int, -1 ≤ i ∧ i < l.length ∧ s = .int .i64 i ∧ nx = .int .i64 (nxt (l.drop (i + 1).toNat) k) ∧
      Hid (Below w.heap.size w wr ∧ BlkIs wr w.heap.size 27 #[.int .u64 (wd m 0 : Nat), .int .u64 (wd m 1 : Nat), .int .u64 (wd m 2 : Nat), .int .u64 (wd m 3 : Nat)] ∧ ByteRow wr wr.heap.size A l ∧ ByteRow wr wr.heap.size A' l)) (fun _ s _ => (intOf s + 1).toNat)
  case atStart =>
    refine ⟨(l.length : Int) - 1, by omega, by omega, by go_num, ?_, H5⟩
    rw [show ((l.length : Int) - 1 + 1).toNat = l.length by omega, List.drop_length]
    rfl
  case round =>
    obtain ⟨i, hi1, hi2, rfl, rfl, HH⟩ := hrel
    by_cases hi : 0 ≤ i
    · obtain ⟨j, rfl⟩ : ∃ j : Nat, i = (j : Int) := ⟨i.toNat, by omega⟩
      have hj : j < l.length := by omega
      have hne : l ≠ [] := fun e => by subst e; simp at hj
      obtain ⟨x, hx⟩ : ∃ x, l[j]? = some x := ⟨l[j], List.getElem?_eq_getElem hj⟩
      have hx256 := HLT.out x (List.mem_of_getElem? hx)
      have hxw : IntKind.i64.wrap (x : Int) = (x : Int) := by rw [IntKind.wrap_i64]; omega
      have hdrop : l.drop j = x :: l.drop (j + 1) := by
        rw [List.drop_eq_getElem_cons hj]
        rw [List.getElem?_eq_getElem hj] at hx
        rw [Option.some.inj hx]
      obtain ⟨b, off, hA, hbl, hcell⟩ := HH.out.2.2.1 hne
      obtain ⟨b', off', hA', hbl', hcell'⟩ := HH.out.2.2.2 hne
      have g1 := hcell j x hx
      have g2 := hcell' j x hx
      subst hA hA'
      clear hcell hcell' hi1 hi hne hx
      have HDR := Lib.hid hdrop
      clear hdrop
      go_wp2_with fail
      refine wp_region_reads 60 (fun u => u.cell? ⟨b, off + j, none⟩ = some (.int .u8 (x : Nat)) ∧ u.cell? ⟨b', off' + j, none⟩ = some (.int .u8 (x : Nat)) ∧ b < u.heap.size ∧ b' < u.heap.size)
        (by kernel_rfl) (by kernel_rfl) rfl ⟨g1, g2, hbl, hbl'⟩ (fun u u' h hb => ⟨by rw [hb.cell (by exact h.2.2.1)]; exact h.1, by rw [hb.cell (by exact h.2.2.2)]; exact h.2.1, Nat.lt_of_lt_of_le h.2.2.1 hb.size, Nat.lt_of_lt_of_le h.2.2.2 hb.size⟩) ?_
      repeat
        refine freeW_step fun K hK => ?_
        go_simp
        apply Exists.intro
        refine ⟨fun v d1 d2 _ _ => ?_, hK _ ?_⟩
        unfold freeAt
        go_simp
        exact free_val
        clear hK K
      refine freeW_nil ?_
      rintro u ⟨-, g2', -, -⟩ hb
      have HU := Lib.hid (And.intro (HH.out.1.trans (hb.mono HH.out.1.size)) (And.intro (HH.out.2.1.step hb) (And.intro (HH.out.2.2.1.step hb) (HH.out.2.2.2.step hb))))
      have ek : (j : Int) - 1 + 1 = (j : Nat) := by omega
      clear hb g1 g2 hbl hbl' HH
      by_cases hkx : k ≤ (x : Int)
      · have hd : decide (k ≤ (x : Int)) = true := decide_eq_true hkx
        have hv := nxt_yes (l := l.drop (j + 1)) hkx
        rw [← HDR.out] at hv
        go_wp2
        refine ⟨⟨(j : Int) - 1, by omega, by omega, by go_num, ?_, HU⟩, by simp [intOf]⟩
        rw [ek, Int.toNat_natCast, hv]
      · have hd : decide (k ≤ (x : Int)) = false := decide_eq_false hkx
        have hv := nxt_no (l := l.drop (j + 1)) hkx
        rw [← HDR.out] at hv
        go_wp2
        refine ⟨⟨(j : Int) - 1, by omega, by omega, by go_num, ?_, HU⟩, by simp [intOf]⟩
        rw [ek, Int.toNat_natCast, hv]
    · have : i = -1 := by omega
      subst this
      obtain ⟨c0, c1, c2, c3, _⟩ := HH.out.2.1.four
      have hn : nxt (l.drop (-1 + 1 : Int).toNat) k = nxt l k := rfl
      rw [hn]
      have hT := HT.out.step HH.out.1
      go_wp2_with fail
      refine (HN.out _ hT).mono ?_
      rintro e w6 ⟨rfl, hb6⟩
      have HE := Lib.hid (HH.out.1.trans (hb6.mono HH.out.1.size))
      clear hb6 hT
      go_wp2
      go_ret
      exact ⟨rfl, HE.out⟩
end Go.Proofs.YtjhdacckodoohaaDoor
