/-
  TREES OF FEW NODES: May of the reference; a tree is like itself; what hacklelaw06's Great and many answer: contracts. Condition: a text is no longer than a machine holds.
-/
import Derived.Test.YtngagijcdehjpaaRef4d
import Derived.Test.YtngagijcdehjpaaPd10
namespace Go.Proofs.Ytngagijcdehjpaa
open Go.RowKit
mutual
theorem deepW_few : ∀ T : Tree, T.deepN ≤ 1099511627776 → T.deepW = (T.deepN : Int)
  | .node k m l lo hi => fun h => by
    have h1 := deepM_few l (by simp only [Tree.deepN] at h; omega)
    have h2 : Tree.deepW (.node k m l lo hi) = wrap64 (deepM l + 1) := by unfold Tree.deepW deepM; rfl
    rw [h2, h1]
    simp only [Tree.deepN] at h ⊢
    unfold wrap64
    omega
theorem deepM_few : ∀ l : List Tree, deepL l ≤ 1099511627776 → deepM l = (deepL l : Int)
  | [] => fun _ => rfl
  | t :: r => fun h => by
    simp only [deepL] at h
    have h1 := deepM_few r (by omega)
    have h2 := deepW_few t (by omega)
    have h3 : ∀ (xs : List Int) (a b : Int), 0 ≤ a → 0 ≤ b → (xs.foldl (fun d x => if d < x then x else d) (max a b)) = max a (xs.foldl (fun d x => if d < x then x else d) b) := by
      intro xs
      induction xs with
      | nil => intro a b _ _; rfl
      | cons y ys ih =>
        intro a b ha hb
        simp only [List.foldl_cons]
        by_cases hy : b < y
        · rw [if_pos hy]
          by_cases hy2 : max a b < y
          · rw [if_pos hy2]
            have := ih a y ha (by omega)
            rw [show max a y = y by omega] at this
            exact this
          · rw [if_neg hy2]
            have := ih a y ha (by omega)
            rw [← this]; congr 1; omega
        · rw [if_neg hy, if_neg (by omega)]
          exact ih a b ha hb
    unfold deepM at h1 ⊢
    simp only [deepsW, List.foldl_cons]
    have h4 : (if (0 : Int) < t.deepW then t.deepW else 0) = max t.deepW 0 := by rw [h2]; split <;> omega
    rw [h4, h3 _ _ _ (by rw [h2]; omega) (Int.le_refl _), h1, h2]
    simp only [deepL]
    omega
end
theorem may_few {T : Tree} (h : T.nodes ≤ 1099511627776) : T.may = T.mayN := by
  unfold Tree.may Tree.mayN
  have h1 := deepW_few T (Nat.le_trans (deep_nodes T) h)
  rw [h1]
  have h2 : wrap64 (T.nodes : Int) = (T.nodes : Int) := by unfold wrap64; omega
  rw [h2]
  congr 1
  · exact decide_eq_decide.2 (by omega)
  · congr 1
    exact decide_eq_decide.2 (by omega)
mutual
theorem like_self : ∀ T : Tree, T.same T = true
  | .node k m l lo hi => by
    unfold Tree.same
    simp [setEq_refl, likeL_self l]
theorem likeL_self : ∀ l : List Tree, sameL l l = true
  | [] => by unfold sameL; rfl
  | t :: r => by unfold sameL; rw [like_self t, likeL_self r]; rfl
end

/-- a bool is answered -/
def IsB (e : Ending) : Prop := ∃ z, e = .returned (.bool z)
theorem many_any (s : ByteArray) (w : World) (hs : s.size ≤ 9223372036854775807) : Calls Try.prog 10 #[.string s] w fun e w' => IsB e ∧ w' = w := by
  go_enter Try.func10, Try.ntmps10
  go_wp2
  go_loopw [3, 4] (fun x i wr => ∃ (y : Int) (j : Nat), x = .int .i64 y ∧ i = .int .i64 j ∧ j ≤ s.size ∧ Hid (wr = w)) (fun _ i _ => s.size - (intOf i).toNat)
  case atStart => exact ⟨0, 0, rfl, rfl, Nat.zero_le _, Lib.hid rfl⟩
  case round =>
    obtain ⟨y, j, rfl, rfl, hj, HH⟩ := hrel
    obtain rfl := HH.out
    by_cases hp : j < s.size
    · have hdl : decide ((j : Int) < (s.size : Int)) = true := by simp; omega
      have hixj := idx_bt 9 Try.underlying9 s j hp
      have hk1 : IntKind.i64.wrap ((j : Int) + 1) = ((j + 1 : Nat) : Int) := by rw [IntKind.wrap_i64]; omega
      generalize bt s j = b at *
      cases hb : ((b : Int) == 60)
      · go_wp2
        exact ⟨⟨y, j + 1, rfl, by go_num, hp, Lib.hid trivial⟩, by simp [intOf]; omega⟩
      · go_wp2
        exact ⟨⟨_, j + 1, rfl, by go_num, hp, Lib.hid trivial⟩, by simp [intOf]; omega⟩
    · have hdl : decide ((j : Int) < (s.size : Int)) = false := by simp; omega
      go_wp2
      go_ret
      exact ⟨⟨_, rfl⟩, rfl⟩

set_option maxHeartbeats 1000000 in
theorem great6_any (F : Value) (fr : Frs) (W : World) (hF : FrsAt W fr F) : Calls Try.prog 9 #[F] W fun e W' => IsB e ∧ Below W.heap.size W W' := by
  obtain ⟨A, c, rfl, hc, hx⟩ := hF
  have HX := Lib.hid hx
  have hlen : fr.length ≤ 9223372036854775807 := by omega
  clear hx hc
  go_enter Try.func9, Try.ntmps9
  go_wp2
  go_loopw [3, 4] (fun x i wr => ∃ (y : Int) (j : Nat), x = .int .i64 y ∧ i = .int .i64 j ∧ j ≤ fr.length ∧ Hid (Below W.heap.size W wr)) (fun _ i _ => fr.length - (intOf i).toNat)
  case atStart => exact ⟨0, 0, rfl, rfl, Nat.zero_le _, Lib.hid (Below.refl _ _)⟩
  case round =>
    obtain ⟨y, j, rfl, rfl, hj, HB⟩ := hrel
    by_cases hp : j < fr.length
    · have hdl : decide ((j : Int) < (fr.length : Int)) = true := by simp; omega
      have hk1 : IntKind.i64.wrap ((j : Int) + 1) = ((j + 1 : Nat) : Int) := by rw [IntKind.wrap_i64]; omega
      obtain ⟨b, o, rfl, hg⟩ := HX.out (by intro e; subst e; simp at hp)
      obtain ⟨cs, hat, h8, hrow⟩ := hg j hp
      obtain ⟨A', n', c', rfl⟩ := hat.eight
      have hrow2 : W.rangeAt b (o + j * 9 + 1) (reL (fr[j]).2.kind (fr[j]).2.set A' n' c' (fr[j]).2.lo (fr[j]).2.hi) := fun i v hv => by
        have := hrow (i + 1) v hv
        rwa [show o + j * 9 + (i + 1) = o + j * 9 + 1 + i by omega] at this
      have HR := Lib.hid hrow2
      have HAT := Lib.hid hat
      clear hrow hrow2 hat hg h8
      generalize (fr[j]).2 = T at *
      have hG := fun W (h : T.At W (.agg (reL T.kind T.set A' n' c' T.lo T.hi).toArray)) => great_any T _ W h
      have hN := fun W (h : T.At W (.agg (reL T.kind T.set A' n' c' T.lo T.hi).toArray)) => refNodes_any T _ W h
      generalize T.great = z at *
      cases z
      · go_wp2_with (first
          | (refine wpList_load_mid rfl 31 (.tmp 14) rfl b (o + j * 9 + 1) rfl (reL T.kind T.set A' n' c' T.lo T.hi) _ (rangeAt_step HR.out (by simp [reL]) HB.out) Try.underlying31 rfl info_re8 ?_)
          | (go_at_call 17; (with_reducible refine (hG _ (HAT.out.step HB.out)).mono ?_); rintro e w1 ⟨rfl, hb1⟩; have HB1 := Lib.hid (HB.out.trans (hb1.mono HB.out.size)))
          | (refine wpList_load_mid rfl 31 (.tmp 21) rfl b (o + j * 9 + 1) rfl (reL T.kind T.set A' n' c' T.lo T.hi) _ (rangeAt_step HR.out (by simp [reL]) HB1.out) Try.underlying31 rfl info_re8 ?_)
          | (go_at_call 18; (with_reducible refine (hN _ (HAT.out.step HB1.out)).mono ?_); rintro e w2 ⟨rfl, hb2⟩; have HB2 := Lib.hid (HB1.out.trans (hb2.mono HB1.out.size))))
        exact ⟨⟨_, j + 1, rfl, by go_num, hp, HB2⟩, by simp [intOf]; omega⟩
      · go_wp2_with (first
          | (refine wpList_load_mid rfl 31 (.tmp 14) rfl b (o + j * 9 + 1) rfl (reL T.kind T.set A' n' c' T.lo T.hi) _ (rangeAt_step HR.out (by simp [reL]) HB.out) Try.underlying31 rfl info_re8 ?_)
          | (go_at_call 17; (with_reducible refine (hG _ (HAT.out.step HB.out)).mono ?_); rintro e w1 ⟨rfl, hb1⟩; have HB1 := Lib.hid (HB.out.trans (hb1.mono HB.out.size))))
        go_ret
        exact ⟨⟨_, rfl⟩, HB1.out⟩
    · have hdl : decide ((j : Int) < (fr.length : Int)) = false := by simp; omega
      cases h20 : decide (20 < (fr.length : Int))
      all_goals
        go_wp2
        go_ret
        exact ⟨⟨_, rfl⟩, HB.out⟩
end Go.Proofs.Ytngagijcdehjpaa
