/-
  WHAT THE READERS OF CLASSES OF PACKAGE rxparse ANSWER: contracts. Condition: a text has at most 400 bytes.
-/
import Derived.Test.YtngagijcdehjpaaPc2
namespace Go.Proofs.Ytngagijcdehjpaa
open Go.RowKit

theorem BlkIs.kept {pb g : Nat} {t : TypeId} {cs : Array Value} {W W' : World} (h : BlkIs W g t cs) (hk : Kept pb W W') (hne : g ≠ pb) : BlkIs W' g t cs := by
  rcases Nat.lt_or_ge g pb with h1 | h1
  · exact h.below hk.1 h1
  · exact (hk.2 g (by omega) h.lt).trans h
section
variable {pb : Nat} {s : ByteArray} {F : Value} {W0 W : World} {i o : Nat}
theorem St.is (h : St pb s F W0 W i o) : PIs W pb s i o F := h.2.1
theorem St.cells (h : St pb s F W0 W i o) : W.cell? ⟨pb, 0, none⟩ = some (.string s) ∧ W.cell? ⟨pb, 1, none⟩ = some (.int .i64 (i : Nat)) ∧ W.cell? ⟨pb, 2, none⟩ = some (.int .i64 (o : Nat)) ∧ W.cell? ⟨pb, 3, none⟩ = some F ∧
    W.frozen? ⟨pb, 0, none⟩ = false ∧ W.frozen? ⟨pb, 1, none⟩ = false ∧ W.frozen? ⟨pb, 2, none⟩ = false ∧ W.frozen? ⟨pb, 3, none⟩ = false := BlkIs.four h.2.1
theorem St.kept (h : St pb s F W0 W i o) : Kept pb W0 W := h.1
theorem St.self (h : St pb s F W0 W i o) : St pb s F W W i o := ⟨Kept.refl _ _, h.2⟩
theorem St.back {W' : World} {i' o' : Nat} (h : St pb s F W0 W i o) (k : St pb s F W W' i' o') : St pb s F W0 W' i' o' := ⟨h.1.trans k.1, k.2⟩
theorem Kept.new {W' : World} (h : Kept pb W0 W') {g : Nat} (hp : pb < W0.heap.size) (hg : W0.heap.size ≤ g) (k : Nat) (u : Value) : Kept pb W0 (W'.setCell ⟨g, k, none⟩ u) :=
  ⟨h.1.setCell (p := ⟨g, k, none⟩) (by show pb ≤ g; omega) u, fun n h1 h2 => (Below.heap_setCell W' ⟨g, k, none⟩ u n (by show n ≠ g; omega)).trans (h.2 n h1 h2)⟩
theorem Kept.news {g : Nat} (hp : pb < W0.heap.size) (hg : W0.heap.size ≤ g) : ∀ (vs : List Value) (k : Nat) (W' : World), Kept pb W0 W' → Kept pb W0 (W'.setCells g k vs)
  | [], _, _, h => h
  | v :: r, k, _, h => Kept.news hp hg r (k + 1) _ (h.new hp hg k v)
theorem St.news {g : Nat} (h : St pb s F W0 W i o) (hp : pb < W0.heap.size) (hg : W0.heap.size ≤ g) (vs : List Value) (k : Nat) : St pb s F W0 (W.setCells g k vs) i o :=
  ⟨Kept.news hp hg vs k W h.1, BlkIs.farCells (by omega) vs k W h.2.1, h.2.2⟩

def setL (m : Nat → Bool) : List Value := [.int .u64 (wd m 0 : Nat), .int .u64 (wd m 1 : Nat), .int .u64 (wd m 2 : Nat), .int .u64 (wd m 3 : Nat)]
set_option maxRecDepth 100000 in
theorem info_set4 : (Try.prog.info? 28).map (·.size) = some 4 := by kernel_rfl
theorem setL_all {m : Nat → Bool} : (setL m).toArray.all (·.oneCell') = true := by simp [setL, Value.oneCell']
theorem load_setB {w : World} {g : Nat} {t : TypeId} {m : Nat → Bool} (h : BlkIs w g t (setL m).toArray) : (loadVar 28 ⟨g, 0, none⟩).run Try.prog w = .ok (setV m) w :=
  run_loadVar_mid (P := Try.prog) w g 0 28 (setL m) _ h.range Try.underlying28 rfl info_set4
theorem store_setB {w : World} {g : Nat} {t : TypeId} {m : Nat → Bool} {cs : Array Value} (h : BlkIs w g t cs) (hs : cs.size = 4) : BlkIs (w.setCells g 0 (setL m)) g t (setL m).toArray := h.fill (new := (setL m).toArray) (by rw [hs]; rfl)
def zero4 : List Value := [.int .u64 0, .int .u64 0, .int .u64 0, .int .u64 0]
theorem zero4_is : zero4 = setL fun _ => false := by unfold zero4 setL; simp only [wd_zero]; rfl

theorem member_any (h : St pb s F W0 W i o) : Calls Try.prog 68 #[ptrP pb] W (EndsAs pb s F W0 encByte o (memP s i)) := by
  have hn := fun W (h : St pb s F W0 W i o) => nextS h
  unfold memP
  by_cases hbad : sgnAt s i = 0 ∨ sgnAt s i = 10 ∨ sgnAt s i = 11 ∨ sgnAt s i = 17 ∨ sgnAt s i = 18 ∨ sgnAt s i = 15
  · rw [if_pos hbad]
    rcases hbad with hc | hc | hc | hc | hc | hc
    all_goals
      simp only [hc] at hn
      go_enter Try.func68, Try.ntmps68
      go_wp2_with (first
          | (go_at_call 42; refine (hn _ h).mono ?_; rintro e W6 ⟨rfl, g6⟩)
          | (go_at_call 28; refine (wrongS g6).mono ?_; rintro e W7 ⟨rfl, hk⟩))
      exact ⟨rfl, rfl, hk⟩
  · rw [if_neg hbad]
    have e0 : ((sgnAt s i : Int) == 0) = false := by simp; omega
    have e10 : ((sgnAt s i : Int) == 10) = false := by simp; omega
    have e11 : ((sgnAt s i : Int) == 11) = false := by simp; omega
    have e17 : ((sgnAt s i : Int) == 17) = false := by simp; omega
    have e18 : ((sgnAt s i : Int) == 18) = false := by simp; omega
    have e15 : ((sgnAt s i : Int) == 15) = false := by simp; omega
    by_cases h16 : sgnAt s i = 16
    · rw [if_pos h16]
      have e16 : ((sgnAt s i : Int) == 16) = true := by simp; omega
      have hL := fun W (h : St pb s F W0 W i o) => escape_any h h16
      clear hbad
      rcases hl : escP s i with q | ⟨n, j⟩
      · simp only [hl] at hL
        go_enter Try.func68, Try.ntmps68
        go_wp2_with (first
          | (go_at_call 42; refine (hn _ h).mono ?_; rintro e W6 ⟨rfl, g6⟩)
          | (go_at_call 53; refine (hL _ g6).mono ?_; rintro e W7 ⟨rfl, hk⟩))
        exact ⟨rfl, rfl, hk⟩
      · simp only [hl] at hL
        go_enter Try.func68, Try.ntmps68
        go_wp2_with (first
          | (go_at_call 42; refine (hn _ h).mono ?_; rintro e W6 ⟨rfl, g6⟩)
          | (go_at_call 53; refine (hL _ g6).mono ?_; rintro e W7 ⟨⟨v, rfl, rfl, hn9⟩, g7⟩))
        go_ret
        exact ⟨⟨_, rfl, rfl, hn9⟩, g7⟩
    · rw [if_neg h16]
      have e16 : ((sgnAt s i : Int) == 16) = false := by simp; omega
      have hil := sgnAt_lt (s := s) (i := i) (by omega)
      clear hbad
      go_enter Try.func68, Try.ntmps68
      go_wp2_with (first
          | (go_at_call 42; refine (hn _ h).mono ?_; rintro e W6 ⟨rfl, g6⟩)
          | (go_at_call 52; refine (takeS g6 hil).mono ?_; rintro e W7 ⟨rfl, g7⟩))
      go_ret
      exact ⟨⟨_, rfl, rfl, bt_lt _ _⟩, g7⟩

theorem span_any (h : St pb s F W0 W i o) (hp : pb < W0.heap.size) (hw : W0.heap.size ≤ W.heap.size) : Calls Try.prog 63 #[ptrP pb] W (EndsAs pb s F W0 encSet o (spanP s i)) := by
  have h1 := h.step ((Below.refl W.heap.size W).alloc (Nat.le_refl _) (.cells zero4.toArray 28))
  have hb1 := BlkIs.new W 28 zero4.toArray
  have hz : W.heap.size ≠ pb := Nat.ne_of_gt (Nat.lt_of_lt_of_le hp hw)
  have H1 := Lib.hid h1
  have HB := Lib.hid hb1
  clear h1 hb1
  unfold spanP
  have hm := fun W W0 (h : St pb s F W0 W i o) => member_any h
  rcases hl : memP s i with q | ⟨lo, j⟩
  · simp only [hl] at hm
    simp only [Res.then]
    unfold zero4 at *
    go_enter Try.func63, Try.ntmps63
    go_wp2_with (first
          | (go_at_call 68; refine (hm _ _ H1.out).mono ?_; rintro e W1 ⟨rfl, hk⟩))
    exact ⟨rfl, rfl, hk⟩
  · simp only [hl] at hm
    simp only [Res.then]
    have hmj := fun W W0 (h : St pb s F W0 W (j + 1) o) => member_any h
    cases h45 : isAt s j 45
    · rw [if_neg (by decide)]
      have k45 : ∀ W W0, St pb s F W0 W j o → Calls Try.prog 36 #[ptrP pb, .int .u8 45] W fun e W' => e = .returned (.bool false) ∧ St pb s F W0 W' j o := fun _ _ h => tookN 45 h h45
      unfold zero4 at *
      go_enter Try.func63, Try.ntmps63
      go_wp2_with (first
          | (go_at_call 68; refine (hm _ _ H1.out.self).mono ?_; rintro e W1 ⟨⟨v, rfl, rfl, hlo⟩, g1⟩)
          | (go_at_call 36; with_reducible refine (k45 _ _ g1).mono ?_; rintro e W2 ⟨rfl, g2⟩)
          | (go_at_call 51; refine (of_one lo W2.heap.size 1 _ hlo (by simp) ((BlkIs.new W2 5 #[.int .u8 (lo : Nat)]).cell 0)).mono ?_; rintro e W3 ⟨rfl, hb3⟩; have HB3 := ((HB.out.kept g2.kept hz).alloc (.cells #[.int .u8 (lo : Nat)] 5)).step hb3)
          | (refine wpList_store_mid rfl 28 (.tmp 2) (.tmp 13) rfl W.heap.size 0 (setL (sOf [lo])).toArray rfl rfl HB3.there info_set4 setL_all ?_))
      have g3 := ((H1.out.back g2).step ((Below.refl _ _).alloc (Nat.le_refl _) (.cells #[.int .u8 (lo : Nat)] 5))).step hb3
      exact bodyPost_ret (results_cell1 rfl rfl (load_setB (store_setB HB3 rfl))) rfl ⟨⟨_, rfl, rfl⟩, g3.news hp hw _ _⟩
    · rw [if_pos rfl]
      have k45 : ∀ W W0, St pb s F W0 W j o → Calls Try.prog 36 #[ptrP pb, .int .u8 45] W fun e W' => e = .returned (.bool true) ∧ St pb s F W0 W' (j + 1) o := fun _ _ h => tookY 45 h h45
      rcases hl2 : memP s (j + 1) with q | ⟨hi, k⟩
      · simp only [hl2] at hmj
        unfold zero4 at *
        go_enter Try.func63, Try.ntmps63
        go_wp2_with (first
          | (go_at_call 68; refine (hm _ _ H1.out.self).mono ?_; rintro e W1 ⟨⟨v, rfl, rfl, hlo⟩, g1⟩)
          | (go_at_call 36; with_reducible refine (k45 _ _ g1).mono ?_; rintro e W2 ⟨rfl, g2⟩; obtain ⟨c0, c1, c2, c3, f0, f1, f2, f3⟩ := g2.cells)
          | (go_at_call 68; refine (hmj _ _ (H1.out.back g2)).mono ?_; rintro e W3 ⟨rfl, hk⟩))
        exact ⟨rfl, rfl, hk⟩
      · simp only [hl2] at hmj
        dsimp only
        by_cases hlt : hi < lo
        · rw [if_pos hlt]
          have e1 : decide ((hi : Int) < (lo : Int)) = true := by simp; omega
          unfold zero4 at *
          go_enter Try.func63, Try.ntmps63
          go_wp2_with (first
          | (go_at_call 68; refine (hm _ _ H1.out.self).mono ?_; rintro e W1 ⟨⟨v, rfl, rfl, hlo⟩, g1⟩)
          | (go_at_call 36; with_reducible refine (k45 _ _ g1).mono ?_; rintro e W2 ⟨rfl, g2⟩; obtain ⟨c0, c1, c2, c3, f0, f1, f2, f3⟩ := g2.cells)
          | (go_at_call 68; refine (hmj _ _ (H1.out.back g2)).mono ?_; rintro e W3 ⟨⟨v, rfl, rfl, hhi⟩, g3⟩))
          exact ⟨rfl, rfl, g3.kept⟩
        · rw [if_neg hlt]
          have e1 : decide ((hi : Int) < (lo : Int)) = false := by simp; omega
          unfold zero4 at *
          go_enter Try.func63, Try.ntmps63
          go_wp2_with (first
          | (go_at_call 68; refine (hm _ _ H1.out.self).mono ?_; rintro e W1 ⟨⟨v, rfl, rfl, hlo⟩, g1⟩)
          | (go_at_call 36; with_reducible refine (k45 _ _ g1).mono ?_; rintro e W2 ⟨rfl, g2⟩; obtain ⟨c0, c1, c2, c3, f0, f1, f2, f3⟩ := g2.cells)
          | (go_at_call 68; refine (hmj _ _ g2).mono ?_; rintro e W3 ⟨⟨v, rfl, rfl, hhi⟩, g3⟩)
          | (go_at_call 69; refine (range_any lo hi hlo hhi _).mono ?_; rintro e W4 ⟨rfl, hb3⟩; have HB3 := (HB.out.kept g3.kept hz).step hb3)
          | (refine wpList_store_mid rfl 28 (.tmp 2) (.tmp 28) rfl W.heap.size 0 (setL (sRange lo hi)).toArray rfl rfl HB3.there info_set4 setL_all ?_))
          have g4 := (H1.out.back g3).step hb3
          exact bodyPost_ret (results_cell1 rfl rfl (load_setB (store_setB HB3 rfl))) rfl ⟨⟨_, rfl, rfl⟩, g4.news hp hw _ _⟩
end
end Go.Proofs.Ytngagijcdehjpaa

