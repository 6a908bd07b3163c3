/-
  WHAT THE CLOSURE OF split ANSWERS: the number of a row, new or met before; the map of the rows that came: a contract. Condition: the rows are words.
-/
import Derived.Test.YtebhnfdgjbhhfaaDoorCls
import Derived.Maps.OwnSet
import Derived.RangeFuncBox
namespace Go.Proofs.YtebhnfdgjbhhfaaDoor
open Go.RowKit

/-- the rows below t are in the map in block M, each with its number -/
def SeenIs (w : World) (M : Nat) (g : Nat → Nat × Nat) (t : Nat) : Prop :=
  ∃ D : DataW Unit, w.ownsMap Tryd.prog 59 (plainElem Tryd.prog 5) M t D ∧ Maps.size D = cnt g t ∧
    (∀ x y, x < 18446744073709551616 → y < 18446744073709551616 → Maps.has D (keyL x y) = (List.range t).any fun a => decide (g a = (x, y))) ∧
    (∀ a, a < t → D.atKey (keyL (g a).1 (g a).2) (.lit (.int .u8 0)) = .lit (.int .u8 (num g a : Nat)))

theorem SeenIs.kept {w w' : World} {M : Nat} {g : Nat → Nat × Nat} {t : Nat} {row : Option Nat} (h : SeenIs w M g t) (hg : w.grownBy w' row) (hne : some M ≠ row) : SeenIs w' M g t := by
  obtain ⟨D, h1, h2⟩ := h
  exact ⟨D, h1.kept hg hne, h2⟩
theorem SeenIs.lt {w : World} {M : Nat} {g : Nat → Nat × Nat} {t : Nat} (h : SeenIs w M g t) : M < w.heap.size := by
  obtain ⟨D, h1, _⟩ := h
  exact h1.lt
theorem SeenIs.start (w : World) (g : Nat → Nat × Nat) : SeenIs (w.alloc (.map #[] 0)) w.heap.size g 0 :=
  ⟨.map [], World.ownsMap_made _ _ _ _, rfl, fun _ _ _ _ => rfl, fun a h => absurd h (by omega)⟩

theorem zero5 (w : World) : (zeroValue 5).run Tryd.prog w = .ok (.int .u8 0) w := by kernel_rfl

/-- a row that was met before -/
theorem seen_old {w : World} {M t : Nat} {g : Nat → Nat × Nat} {D : DataW Unit} (hg : ∀ b, b ≤ t → (g b).1 < 18446744073709551616 ∧ (g b).2 < 18446744073709551616) (ho : old g t = true)
    (h1 : w.ownsMap Tryd.prog 59 (plainElem Tryd.prog 5) M t D) (h2 : Maps.size D = cnt g t)
    (h3 : ∀ x y, x < 18446744073709551616 → y < 18446744073709551616 → Maps.has D (keyL x y) = (List.range t).any fun a => decide (g a = (x, y)))
    (h4 : ∀ a, a < t → D.atKey (keyL (g a).1 (g a).2) (.lit (.int .u8 0)) = .lit (.int .u8 (num g a : Nat))) :
    SeenIs w M g (t + 1) ∧ Maps.has D (keyL (g t).1 (g t).2) = true ∧ D.atKey (keyL (g t).1 (g t).2) (.lit (.int .u8 0)) = .lit (.int .u8 (num g t : Nat)) := by
  obtain ⟨a, ha, e⟩ := old_iff.1 ho
  have hat : D.atKey (keyL (g t).1 (g t).2) (.lit (.int .u8 0)) = .lit (.int .u8 (num g t : Nat)) := by rw [← e, h4 a ha, num_same e]
  refine ⟨⟨D, h1.mono (Nat.le_succ t), by rw [cnt_succ, ho]; exact h2, fun x y hx hy => ?_, fun b hb => ?_⟩, ?_, hat⟩
  · rw [h3 x y hx hy, List.range_succ, List.any_append, Bool.eq_iff_iff]
    simp only [List.any_cons, List.any_nil, Bool.or_false, Bool.or_eq_true, List.any_eq_true, List.mem_range, decide_eq_true_eq]
    exact ⟨fun h => .inl h, fun h => h.elim id fun h => ⟨a, ha, e.trans h⟩⟩
  · rcases Nat.lt_or_ge b t with hlt | hge
    · exact h4 b hlt
    · obtain rfl : b = t := by omega
      exact hat
  · rw [h3 _ _ (hg t (Nat.le_refl _)).1 (hg t (Nat.le_refl _)).2]
    exact ho

/-- a new row -/
theorem seen_new {w w' : World} {M t : Nat} {g : Nat → Nat × Nat} {D : DataW Unit} (hg : ∀ b, b ≤ t → (g b).1 < 18446744073709551616 ∧ (g b).2 < 18446744073709551616) (ho : old g t = false)
    (h1 : w.ownsMap Tryd.prog 59 (plainElem Tryd.prog 5) M t D) (h2 : Maps.size D = cnt g t)
    (h3 : ∀ x y, x < 18446744073709551616 → y < 18446744073709551616 → Maps.has D (keyL x y) = (List.range t).any fun a => decide (g a = (x, y)))
    (h4 : ∀ a, a < t → D.atKey (keyL (g a).1 (g a).2) (.lit (.int .u8 0)) = .lit (.int .u8 (num g a : Nat)))
    (h1' : w'.ownsMap Tryd.prog 59 (plainElem Tryd.prog 5) M (t + 1) (D.put (keyL (g t).1 (g t).2) (.lit (.int .u8 (num g t : Nat))))) :
    SeenIs w' M g (t + 1) := by
  have hT := h1.tidy keyLaw
  have hM := h1.isMap
  have hgt := hg t (Nat.le_refl _)
  have hno : Maps.has D (keyL (g t).1 (g t).2) = false := by rw [h3 _ _ hgt.1 hgt.2]; exact ho
  refine ⟨_, h1', ?_, fun x y hx hy => ?_, fun b hb => ?_⟩
  · rw [Maps.size_put hT, hno, cnt_succ, ho, h2]; rfl
  · rw [List.range_succ, List.any_append]
    by_cases e : (x, y) = g t
    · have e1 : x = (g t).1 := congrArg Prod.fst e
      have e2 : y = (g t).2 := congrArg Prod.snd e
      subst e1; subst e2
      rw [Maps.has_put_same hM (key_lit _ _)]
      simp
    · have hne : keyL x y ≠ keyL (g t).1 (g t).2 := fun h => by
        obtain ⟨e1, e2⟩ := key_inj hx hy hgt.1 hgt.2 h
        exact e (by rw [e1, e2])
      rw [Maps.has_put_other hne, h3 x y hx hy]
      have e' : ¬ g t = (x, y) := fun h => e h.symm
      simp [e']
  · rcases Nat.lt_or_ge b t with hlt | hge
    · have hne : keyL (g b).1 (g b).2 ≠ keyL (g t).1 (g t).2 := fun h => by
        obtain ⟨e1, e2⟩ := key_inj (hg b (by omega)).1 (hg b (by omega)).2 hgt.1 hgt.2 h
        exact (old_not.1 ho) b hlt (Prod.ext e1 e2)
      rw [Maps.atKey_put_other hne, h4 b hlt]
    · obtain rfl : b = t := by omega
      rw [Maps.atKey_put_same hM (key_lit _ _)]

set_option maxRecDepth 100000 in
set_option maxHeartbeats 1000000 in
theorem number_any (g : Nat → Nat × Nat) (t : Nat) (ht : t < 256) (hg : ∀ b, b ≤ t → (g b).1 < 18446744073709551616 ∧ (g b).2 < 18446744073709551616) (M B : Nat) (w : World)
    (hbox : BlkIs w B 57 #[.map (some M)]) (hs : SeenIs w M g t) :
    Calls Tryd.prog 27 #[keyV (g t).1 (g t).2, .pointer (some ⟨B, 0, none⟩)] w fun e w' => e = .returned (.int .u8 (num g t : Nat)) ∧ SeenIs w' M g (t + 1) ∧ w.grownBy w' (some M) := by
  obtain ⟨D, h1, h2, h3, h4⟩ := hs
  have hkey := key_of (hg t (Nat.le_refl _)).1 (hg t (Nat.le_refl _)).2
  have hc := cnt_le g t
  have hMB : M ≠ B := fun e => by
    obtain ⟨es, clock, hb, _⟩ := h1
    unfold BlkIs at hbox
    rw [e, hbox] at hb
    cases hb
  have hgrow0 := World.grownBy_alloc w (.cells #[.int .u64 (g t).1, .int .u64 (g t).2] 59) none
  have hcell := hbox.cell 0
  have hcell1 := (hbox.alloc (.cells #[.int .u64 (g t).1, .int .u64 (g t).2] 59)).cell 0
  simp only [List.getElem?_toArray, List.getElem?_cons_zero] at hcell hcell1
  have hwrap : IntKind.u8.wrap ((cnt g t : Nat) : Int) = (cnt g t : Nat) := by rw [IntKind.wrap_u8]; omega
  cases ho : old g t
  · have hno : Maps.has D (keyL (g t).1 (g t).2) = false := by rw [h3 _ _ (hg t (Nat.le_refl _)).1 (hg t (Nat.le_refl _)).2]; exact ho
    have hnum := num_new ho
    have HN := Lib.hid (fun w' => seen_new (w' := w') hg ho h1 h2 h3 h4)
    rw [hnum] at HN ⊢
    have H1 := Lib.hid h1
    have HG := Lib.hid hgrow0
    clear h1 h3 h4 hbox hg hgrow0
    generalize (g t).1 = x at *
    generalize (g t).2 = y at *
    go_enter Tryd.func27, Tryd.ntmps27
    go_wp2_with (first
      | (at_lookup; refine wpList_lookup_own_ok_int _ rfl _ _ 57 rfl 59 5 .u8 keyLaw Tryd.underlying57 Tryd.underlying5 (zero5 _) M t _ rfl (H1.out.alloc _) _ _ rfl hkey ?_; rw [hno]; intro c hat hwc)
      | (at_len; refine wpList_len_own _ rfl _ 57 rfl 59 5 Tryd.underlying57 _ M t _ rfl (H1.out.alloc _) ?_; rw [h2])
      | (at_mapUpdate; refine wpList_mapUpdate_own _ rfl _ _ _ 57 rfl 59 5 keyLaw Tryd.underlying57 _ M t _ rfl (H1.out.alloc _) (by unfold maxLen; omega) _ _ _ rfl rfl hkey _ [] (plainElem_int Tryd.underlying5 (WalkArith.wf_u8 (by omega))) ?_; intro w1 hown1 hgrow1))
    go_ret
    exact ⟨rfl, HN.out w1 hown1, (HG.out.but _).trans hgrow1⟩
  · obtain ⟨k1, k2, k3⟩ := seen_old hg ho h1 h2 h3 h4
    have H1 := Lib.hid h1
    have HG := Lib.hid hgrow0
    have HK := Lib.hid k1
    clear h1 h3 h4 hbox hg hgrow0 k1
    generalize hx : (g t).1 = x at *
    generalize hy : (g t).2 = y at *
    go_enter Tryd.func27, Tryd.ntmps27
    go_wp2_with (first
      | (at_lookup; refine wpList_lookup_own_ok_int _ rfl _ _ 57 rfl 59 5 .u8 keyLaw Tryd.underlying57 Tryd.underlying5 (zero5 _) M t _ rfl (H1.out.alloc _) _ _ rfl hkey ?_; rw [k2]; intro c hat hwc))
    go_ret
    have hc : c = (num g t : Nat) := by
      rw [k3] at hat
      simpa using hat.symm
    exact ⟨by rw [hc]; rfl, HK.out.kept HG.out (by simp), (HG.out.but _)⟩

end Go.Proofs.YtebhnfdgjbhhfaaDoor
