/-
  WHAT THE READERS OF CLASSES, OF BOUNDS AND OF FRAGMENTS OF PACKAGE rxparse ANSWER: contracts. Condition: a text has at most 400 bytes.
-/
import Derived.Test.YtngagijcdehjpaaPc3
namespace Go.Proofs.Ytngagijcdehjpaa
open Go.RowKit
section
variable {pb : Nat} {s : ByteArray} {F : Value} {W0 W : World} {i o : Nat}

theorem St.drew (h : St pb s F W0 W i o) : St pb s F W0 W.drew i o := h.draw 1
theorem set_four {W : World} {g : Nat} {t : TypeId} {m : Nat → Bool} (h : BlkIs W g t (setL m).toArray) : W.cell? ⟨g, 0, none⟩ = some (.int .u64 (wd m 0 : Nat)) ∧ W.cell? ⟨g, 1, none⟩ = some (.int .u64 (wd m 1 : Nat)) ∧ W.cell? ⟨g, 2, none⟩ = some (.int .u64 (wd m 2 : Nat)) ∧ W.cell? ⟨g, 3, none⟩ = some (.int .u64 (wd m 3 : Nat)) ∧
    W.frozen? ⟨g, 0, none⟩ = false ∧ W.frozen? ⟨g, 1, none⟩ = false ∧ W.frozen? ⟨g, 2, none⟩ = false ∧ W.frozen? ⟨g, 3, none⟩ = false := BlkIs.four h
theorem tookS (b : Nat) (h : St pb s F W0 W i o) : Calls Try.prog 36 #[ptrP pb, .int .u8 b] W fun e W' => e = .returned (.bool (isAt s i b)) ∧ St pb s F W0 W' (if isAt s i b = true then i + 1 else i) o := by
  cases hb : isAt s i b
  · rw [if_neg (by decide)]; exact tookN b h hb
  · rw [if_pos rfl]; exact tookY b h hb
/-- where a parser stands -/
def plc (pb : Nat) (W : World) : Nat := match W.cell? ⟨pb, 1, none⟩ with | some (.int _ z) => z.toNat | _ => 0
theorem St.plc (h : St pb s F W0 W i o) : plc pb W = i := by unfold Proofs.Ytngagijcdehjpaa.plc; rw [h.cells.2.1]; simp
theorem spanP_on {n : Nat → Bool} {j : Nat} (h : spanP s i = .ok (n, j)) : i < j := by
  unfold spanP at h
  have key : ∀ {i x j : Nat}, memP s i = .ok (x, j) → i < j := by
    intro i x j h
    unfold memP at h
    split at h
    · simp [bad] at h
    split at h
    · unfold escP at h
      split at h
      · simp [bad] at h
      split at h
      · have kd : ∀ {b i n j : Nat}, digP s b i = .ok (n, j) → j = i + 1 := by
          intro b i n j h
          unfold digP at h
          split at h
          · injection h with h; injection h with _ h; exact h.symm
          · simp [bad] at h
        unfold letterP at h
        repeat' split at h
        all_goals first
          | (injection h with h; injection h with _ h; omega)
          | (simp [bad] at h; done)
          | skip
        rcases h1 : digP s 16 (i + 1 + 1) with q | ⟨a, k⟩
        · rw [h1] at h; simp [Res.then] at h
        · rw [h1] at h
          simp only [Res.then] at h
          rcases h2 : digP s 16 k with q | ⟨c, l⟩
          · rw [h2] at h; simp at h
          · rw [h2] at h
            injection h with h; injection h with _ h
            have := kd h1; have := kd h2; omega
      · injection h with h; injection h with _ h; omega
    · injection h with h; injection h with _ h; omega
  rcases h1 : memP s i with q | ⟨a, k⟩
  · rw [h1] at h; simp [Res.then] at h
  · rw [h1] at h
    simp only [Res.then] at h
    have k1 := key h1
    split at h
    · rcases h2 : memP s (k + 1) with q | ⟨c, l⟩
      · rw [h2] at h; simp at h
      · rw [h2] at h
        simp only at h
        have k2 := key h2
        split at h
        · simp [bad] at h
        · injection h with h; injection h with _ h; omega
    · injection h with h; injection h with _ h; omega

theorem classP_is : classP s i = (classF s (s.size + 1 - (if isAt s (i + 1) 94 = true then i + 1 + 1 else i + 1)) (fun _ => false) (if isAt s (i + 1) 94 = true then i + 1 + 1 else i + 1)).then fun m j => .ok ((if isAt s (i + 1) 94 = true then sNot m else m), j) := by
  unfold classP
  cases isAt s (i + 1) 94
  · simp only [Bool.false_eq_true, if_false]
    rcases classF s (s.size + 1 - (i + 1)) (fun _ => false) (i + 1) with q | ⟨m, j⟩ <;> rfl
  · rfl

set_option maxHeartbeats 1000000 in
theorem class_any (h : St pb s F W0 W i o) (hb : sgnAt s i = 10) (hp : pb < W0.heap.size) (hw : W0.heap.size ≤ W.heap.size) : Calls Try.prog 55 #[ptrP pb] W (EndsAs pb s F W0 encSet o (classP s i)) := by
  have hb91 := sgn_bracket hb
  have h1 := h.step ((Below.refl W.heap.size W).alloc (Nat.le_refl _) (.cells zero4.toArray 28))
  have hb1 := BlkIs.new W 28 zero4.toArray
  have hz : W.heap.size ≠ pb := Nat.ne_of_gt (Nat.lt_of_lt_of_le hp hw)
  have H1 := Lib.hid h1
  have HB := Lib.hid hb1
  have k91 : ∀ W W0, St pb s F W0 W i o → Calls Try.prog 58 #[ptrP pb, .int .u8 91] W fun e W' => e = .returned (.tuple #[]) ∧ St pb s F W0 W' (i + 1) o := fun _ _ h => mustY 91 h hb91
  have k94 : ∀ W W0, St pb s F W0 W (i + 1) o → Calls Try.prog 36 #[ptrP pb, .int .u8 94] W fun e W' => e = .returned (.bool (isAt s (i + 1) 94)) ∧ St pb s F W0 W' (if isAt s (i + 1) 94 = true then i + 1 + 1 else i + 1) o := fun _ _ h => tookS 94 h
  clear h1 hb1
  rw [classP_is]
  generalize (if isAt s (i + 1) 94 = true then i + 1 + 1 else i + 1) = j0 at *
  generalize isAt s (i + 1) 94 = neg at *
  unfold zero4 at *
  go_enter Try.func55, Try.ntmps55
  go_wp2_with (first
          | (go_at_call 58; with_reducible refine (k91 _ _ H1.out.self).mono ?_; rintro e W1 ⟨rfl, g1⟩)
          | (go_at_call 36; with_reducible refine (k94 _ _ g1).mono ?_; rintro e W2 ⟨rfl, g2⟩))
  have hg0 := BlkIs.new W2 28 zero4.toArray
  rw [zero4_is] at hg0
  have g3 := (show St pb s F W2 W2 j0 o from ⟨Kept.refl _ _, g2.2⟩).step ((Below.refl W2.heap.size W2).alloc (Nat.le_refl _) (.cells (setL fun _ => false).toArray 28))
  have hzg : W2.heap.size ≠ pb := Nat.ne_of_gt g2.is.lt
  have hpw : pb < W.heap.size := Nat.lt_of_lt_of_le hp hw
  have hsz : W.heap.size + 1 ≤ W2.heap.size := by have := g2.kept.1.size; simpa using this
  have hlt2 : W.heap.size < W2.heap.size := hsz
  have G2 := Lib.hid g2
  have HW2 : (W2.alloc (.cells #[.int .u64 0, .int .u64 0, .int .u64 0, .int .u64 0] 28)) = W2.alloc (.cells (setL fun _ => false).toArray 28) := by rw [← zero4_is]; rfl
  rw [HW2]
  generalize hR : classF s (s.size + 1 - j0) (fun _ => false) j0 = R
  have hj0 : s.size < (s.size + 1 - j0) + j0 := by have := g2.2.2.1; omega
  go_loopw [] (fun wr => ∃ (m : Nat → Bool) (j k : Nat), Hid (classF s k m j = R ∧ s.size < k + j ∧ BlkIs wr W2.heap.size 28 (setL m).toArray ∧ St pb s F W2 wr j o)) (fun wr => s.size - plc pb wr)
  case atStart => exact ⟨_, _, _, Lib.hid ⟨hR, hj0, hg0, g3⟩⟩
  case round =>
    obtain ⟨m, j, k, HH⟩ := hrel
    obtain ⟨hF, hk, hg, hS⟩ := HH.out
    have hjs := hS.2.2.1
    obtain ⟨k, rfl⟩ : ∃ k', k = k' + 1 := ⟨k - 1, by omega⟩
    rw [classF] at hF
    cases h93 : isAt s j 93
    · rw [if_neg (by rw [h93]; decide)] at hF
      have k93 : ∀ W W0, St pb s F W0 W j o → Calls Try.prog 36 #[ptrP pb, .int .u8 93] W fun e W' => e = .returned (.bool false) ∧ St pb s F W0 W' j o := fun _ _ h => tookN 93 h h93
      have hsp := fun W W0 (h : St pb s F W0 W j o) => span_any h
      have hzk : Kept pb W0 W2 := H1.out.kept.trans G2.out.kept
      have hsp2 : pb < W2.heap.size := G2.out.is.lt
      have hszr : W2.heap.size ≤ wr.heap.size := hS.kept.1.size
      have HS := Lib.hid hS
      have HZ := Lib.hid hzk
      have HG := Lib.hid hg
      clear hzk hg
      go_wp2_with (first
        | (go_at_call 36; with_reducible refine (k93 _ _ hS.self).mono ?_; rintro e W3 ⟨rfl, g4⟩))
      have hg3 := HG.out.kept g4.kept hzg
      obtain ⟨d0, d1, d2, d3, z0, z1, z2, z3⟩ := BlkIs.four (show BlkIs W3 W2.heap.size 28 #[.int .u64 (wd m 0 : Nat), .int .u64 (wd m 1 : Nat), .int .u64 (wd m 2 : Nat), .int .u64 (wd m 3 : Nat)] from hg3)
      have g5 := (HS.out.back g4).drew
      have hlt3 : pb < W3.heap.size := g4.is.lt
      have g6 := g4.drew
      have hle5 : W2.heap.size ≤ W3.drew.heap.size := Nat.le_trans hszr g4.kept.1.size
      rcases hsr : spanP s j with q | ⟨n, j2⟩
      · simp only [hsr] at hsp
        rw [hsr] at hF
        simp only [Res.then] at hF
        subst hF
        refine wp_region_any (by kernel_rfl) ?_
        change wpAny _ _ _ _ _ _ _ (World.drew _)
        refine wpAny_take (i := 1) (v := ptrP pb) rfl (by kernel_rfl) (by kernel_rfl) (by kernel_rfl) (fun _ _ _ h => h) (Or.inl ⟨by rfl, fun w => by go_simp⟩) ?_
        have fin : ∀ W4, Kept pb W2 W4 → EndsAs pb s F W0 encSet o ((classF s (s.size + 1 - j0) (fun _ => false) j0).then fun m j => .ok ((if neg = true then sNot m else m), j)) (.panicked [{ v := fltV q, recovered := false }]) W4 := fun W4 hkk => by rw [hR]; exact ⟨rfl, HZ.out.trans hkk⟩
        refine wpAny_ready (rs := [0, 2]) (by kernel_rfl) (by simp) (AllReady.cons rfl (fun K hK => ?_) (AllReady.cons rfl (fun K hK => ?_) AllReady.nil))
        · go_simp
          refine hK _ _ ?_
          refine wpAny_ready (rs := [2]) (by kernel_rfl) (by simp) (AllReady.cons rfl (fun K hK => ?_) AllReady.nil)
          go_simp
          go_at_call 63
          refine (hsp _ _ g5 hsp2 hle5).mono ?_
          rintro e W4 ⟨rfl, hkk⟩
          exact ⟨rfl, fin _ hkk⟩
        · go_simp
          go_at_call 63
          refine (hsp _ _ g5 hsp2 hle5).mono ?_
          rintro e W4 ⟨rfl, hkk⟩
          exact ⟨rfl, fin _ hkk⟩
      · simp only [hsr] at hsp
        rw [hsr] at hF
        simp only [Res.then] at hF
        have hj2 := spanP_on hsr
        go_region_with (first
          | (go_at_call 63; refine (hsp _ _ g6.self hlt3 (Nat.le_refl _)).mono ?_; rintro e W4 ⟨⟨v, rfl, rfl⟩, g7⟩; obtain ⟨y0, y1, y2, y3, x0, x1, x2, x3⟩ := set_four (hg3.drew.kept g7.kept hzg); have HB4 := hg3.drew.kept g7.kept hzg)
          | (go_at_call 62; refine (any_any m n _).mono ?_; rintro e W5 ⟨rfl, hb5⟩; have HB5 := HB4.step hb5; obtain ⟨v0, v1, v2, v3, u0, u1, u2, u3⟩ := set_four HB5))
        all_goals (
          go_wp2
          have g8 := ((((HS.out.back g4).drew).back g7).step hb5).news hsp2 (Nat.le_refl _) (setL (sOr m n)) 0
          have hj9 := g8.2.2.1
          refine ⟨⟨sOr m n, j2, k, Lib.hid ⟨hF, by omega, store_setB HB5 rfl, g8⟩⟩, ?_⟩
          have e1 := g8.plc
          have e2 := HS.out.plc
          unfold World.setCells at e1
          rw [e2]
          refine Nat.lt_of_le_of_lt (Nat.sub_le_sub_left (Nat.le_of_eq e1.symm) _) ?_
          omega)
    · rw [if_pos h93] at hF
      have k93 : ∀ W W0, St pb s F W0 W j o → Calls Try.prog 36 #[ptrP pb, .int .u8 93] W fun e W' => e = .returned (.bool true) ∧ St pb s F W0 W' (j + 1) o := fun _ _ h => tookY 93 h h93
      subst hF
      have HS := Lib.hid hS
      have HG := Lib.hid hg
      have hr2 : BlkIs W2 W.heap.size 28 zero4.toArray := HB.out.kept G2.out.kept hz
      have HR := Lib.hid hr2
      have HK := Lib.hid (H1.out.kept.trans G2.out.kept)
      clear hg hr2
      cases neg
      · go_wp2_with (first
          | (go_at_call 36; with_reducible refine (k93 _ _ hS.self).mono ?_; rintro e W3 ⟨rfl, g4⟩; have HB3 := HG.out.kept g4.kept hzg; have HR3 := HR.out.kept (HS.out.kept.trans g4.kept) hz; obtain ⟨d0, d1, d2, d3, z0, z1, z2, z3⟩ := set_four HB3)
          | (refine wpList_store_mid rfl 28 (.tmp 2) (.tmp 19) rfl W.heap.size 0 (setL m).toArray rfl rfl HR3.there info_set4 setL_all ?_))
        have g5 := ((H1.out.back G2.out).back HS.out).back g4
        exact bodyPost_ret (results_cell1 rfl rfl (load_setB (store_setB HR3 rfl))) rfl ⟨⟨_, rfl, rfl⟩, g5.news hp hw _ _⟩
      · go_wp2_with (first
          | (go_at_call 36; with_reducible refine (k93 _ _ hS.self).mono ?_; rintro e W3 ⟨rfl, g4⟩; have HB3 := HG.out.kept g4.kept hzg; have HR3 := HR.out.kept (HS.out.kept.trans g4.kept) hz; obtain ⟨d0, d1, d2, d3, z0, z1, z2, z3⟩ := set_four HB3)
          | (go_at_call 54; refine (not_any m _).mono ?_; rintro e W5 ⟨rfl, hb5⟩; have HR5 := HR3.step hb5)
          | (refine wpList_store_mid rfl 28 (.tmp 2) (.tmp 18) rfl W.heap.size 0 (setL (sNot m)).toArray rfl rfl HR5.there info_set4 setL_all ?_))
        have g5 := (((H1.out.back G2.out).back HS.out).back g4).step hb5
        exact bodyPost_ret (results_cell1 rfl rfl (load_setB (store_setB HR5 rfl))) rfl ⟨⟨_, rfl, rfl⟩, g5.news hp hw _ _⟩
end
end Go.Proofs.Ytngagijcdehjpaa

