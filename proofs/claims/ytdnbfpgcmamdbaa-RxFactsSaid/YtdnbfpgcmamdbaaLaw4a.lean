/-
  hacklelaw04.RxLast ANSWERS true, whatever the tree and the text. No condition.
-/
import Derived.Test.YtdnbfpgcmamdbaaAlive4
import Derived.Test.YtdnbfpgcmamdbaaRef4d
namespace Go.Proofs.Ytdnbfpgcmamdbaa
open Go.RowKit

/-! ### small trees count without a wrap -/
theorem weightL_ge : ∀ (l : List Tree) (n : Nat), n ≤ 1000000 → (∀ t ∈ l, min t.nodes 1000000 ≤ t.weight) → min (n + nodesL l) 1000000 ≤ weightL l n
  | [], n, hn, _ => by simp [nodesL, weightL]; omega
  | t :: r, n, hn, h => by
    have h1 := h t (by simp)
    have h2 := weightL_ge r (min (n + t.weight) 1000000) (Nat.min_le_right _ _) (fun x hx => h x (by simp [hx]))
    unfold weightL nodesL
    omega
theorem weight_nodes (T : Tree) : min T.nodes 1000000 ≤ T.weight := by
  induction T using Tree.ind with
  | h k m l lo hi ih =>
    have h1 := weightL_ge l 1 (by omega) ih
    have h3 : min (nodesL l + 1) 1000000 ≤ weightL l 1 := by omega
    unfold Tree.nodes Tree.weight weightEnd
    split
    · split
      · rename_i h
        have h4 : 1 ≤ hi.toNat := by omega
        have h5 : weightL l 1 * 1 ≤ weightL l 1 * hi.toNat := Nat.mul_le_mul_left _ h4
        omega
      · split
        · omega
        · exact h3
    · exact h3
theorem slow_nodes {T : Tree} (h : T.slow = false) : T.nodes ≤ 20000 := by
  unfold Tree.slow at h
  rw [Bool.or_eq_false_iff] at h
  have h1 := of_decide_eq_false h.2
  have h2 := weight_nodes T
  omega
mutual
theorem deepW_small : ∀ T : Tree, T.deepN ≤ 1099511627776 → T.deepW = (T.deepN : Int)
  | .node k m l lo hi => fun h => by
    have h1 := deepM_small l (by simp only [Tree.deepN] at h; omega)
    have h2 : Tree.deepW (.node k m l lo hi) = wrap64 (deepM l + 1) := by unfold Tree.deepW deepM; rfl
    rw [h2, h1]
    simp only [Tree.deepN] at h ⊢
    unfold wrap64
    omega
theorem deepsW_small : ∀ l : List Tree, deepL l ≤ 1099511627776 → ∀ x ∈ deepsW l, 0 ≤ x ∧ x ≤ (deepL l : Int)
  | [] => fun _ x hx => by simp [deepsW] at hx
  | t :: r => fun h x hx => by
    simp only [deepL] at h ⊢
    simp only [deepsW, List.mem_cons] at hx
    rcases hx with rfl | hx
    · rw [deepW_small t (by omega)]; omega
    · have := deepsW_small r (by omega) x hx
      omega
theorem deepM_small : ∀ l : List Tree, deepL l ≤ 1099511627776 → deepM l = (deepL l : Int)
  | [] => fun _ => rfl
  | t :: r => fun h => by
    simp only [deepL] at h
    have h1 := deepM_small r (by omega)
    have h2 := deepW_small t (by omega)
    have h3 : ∀ (xs : List Int) (a b : Int), 0 ≤ a → 0 ≤ b → (xs.foldl (fun d x => if d < x then x else d) (max a b)) = max a (xs.foldl (fun d x => if d < x then x else d) b) := by
      intro xs
      induction xs with
      | nil => intro a b _ _; rfl
      | cons y ys ih =>
        intro a b ha hb
        simp only [List.foldl_cons]
        by_cases hy : b < y
        · rw [if_pos hy]
          by_cases hy2 : max a b < y
          · rw [if_pos hy2]
            have := ih a y ha (by omega)
            rw [show max a y = y by omega] at this
            exact this
          · rw [if_neg hy2]
            have := ih a y ha (by omega)
            rw [← this]; congr 1; omega
        · rw [if_neg hy, if_neg (by omega)]
          exact ih a b ha hb
    unfold deepM at h1 ⊢
    simp only [deepsW, List.foldl_cons]
    have h4 : (if (0 : Int) < t.deepW then t.deepW else 0) = max t.deepW 0 := by rw [h2]; split <;> omega
    rw [h4, h3 _ _ _ (by rw [h2]; omega) (Int.le_refl _), h1, h2]
    simp only [deepL]
    omega
end
theorem may_small {T : Tree} (h : T.nodes ≤ 1099511627776) : T.may = T.mayN := by
  unfold Tree.may Tree.mayN
  have h1 := deepW_small T (Nat.le_trans (deep_nodes T) h)
  rw [h1]
  have h2 : wrap64 (T.nodes : Int) = (T.nodes : Int) := by unfold wrap64; omega
  rw [h2]
  congr 1
  · exact decide_eq_decide.2 (by omega)
  · congr 1
    exact decide_eq_decide.2 (by omega)
theorem may_ok {T : Tree} (h : T.mayN = true) : T.ok = true := by
  unfold Tree.mayN at h
  rw [Bool.and_eq_true, Bool.and_eq_true] at h
  exact h.2.2
theorem ex_start0 {w : World} {T : Tree} {A : Option Addr} {n c : Nat} (h : T.At w (reV T.kind T.set A n c T.lo T.hi)) : ExIs w T w.heap.size A n c (w.alloc (.cells (reL T.kind T.set A n c T.lo T.hi).toArray 27)) := ExIs.start h (Below.refl _ _)


set_option maxRecDepth 20000 in
set_option maxHeartbeats 16000000 in
theorem rxLast_any (T : Tree) (v : Value) (s : ByteArray) (w : World) (hat : T.At w v) : Calls Try.prog 6 #[v, .string s] w fun e w' => e = .returned (.bool true) ∧ Below w.heap.size w w' := by
  obtain ⟨A, n, c, rfl⟩ := hat.form
  have H0 := Lib.hid (ex_start0 hat)
  have HS := Lib.hid (fun u (h : T.At u (reV T.kind T.set A n c T.lo T.hi)) => slow_any T _ u h)
  have HM := Lib.hid (fun u (h : T.At u (reV T.kind T.set A n c T.lo T.hi)) => refMayRe_any T _ u h)
  clear hat
  cases hslow : T.slow
  case true =>
    rw [hslow] at HS
    unfold reV reL at *
    go_enter Try.func6, Try.ntmps6
    go_wp2_with (first
      | (go_at_call 8; go_must (refine (alive_any _).mono ?_); rintro e w1 ⟨rfl, hb⟩; have HX := Lib.hid (H0.out.step hb); clear hb; obtain ⟨c0, c1, c2, c3, c4, c5, c6, c7⟩ := HX.out.2.1.eight)
      | (go_at_call 18; go_must (refine (HS.out _ HX.out.1).mono ?_); rintro e w2 ⟨rfl, hb⟩; have HX := Lib.hid (HX.out.step hb); clear hb))
    go_ret
    exact ⟨rfl, HX.out.2.2⟩
  rw [hslow] at HS
  have hnodes := slow_nodes hslow
  rw [may_small (by omega)] at HM
  cases hmay : T.mayN
  case false =>
    rw [hmay] at HM
    unfold reV reL at *
    go_enter Try.func6, Try.ntmps6
    go_wp2_with (first
      | (go_at_call 8; go_must (refine (alive_any _).mono ?_); rintro e w1 ⟨rfl, hb⟩; have HX := Lib.hid (H0.out.step hb); clear hb; obtain ⟨c0, c1, c2, c3, c4, c5, c6, c7⟩ := HX.out.2.1.eight)
      | (go_at_call 18; go_must (refine (HS.out _ HX.out.1).mono ?_); rintro e w2 ⟨rfl, hb⟩; have HX := Lib.hid (HX.out.step hb); clear hb c0 c1 c2 c3 c4 c5 c6 c7; obtain ⟨c0, c1, c2, c3, c4, c5, c6, c7⟩ := HX.out.2.1.eight)
      | (go_at_call 11; go_must (refine (HM.out _ HX.out.1).mono ?_); rintro e w3 ⟨rfl, hb⟩; have HX := Lib.hid (HX.out.step hb); clear hb))
    go_ret
    exact ⟨rfl, HX.out.2.2⟩
  rw [hmay] at HM
  by_cases h60 : s.size > 60
  · have d1 : decide ((s.size : Int) > 60) = true := decide_eq_true (by omega)
    unfold reV reL at *
    go_enter Try.func6, Try.ntmps6
    go_wp2_with (first
      | (go_at_call 8; go_must (refine (alive_any _).mono ?_); rintro e w1 ⟨rfl, hb⟩; have HX := Lib.hid (H0.out.step hb); clear hb; obtain ⟨c0, c1, c2, c3, c4, c5, c6, c7⟩ := HX.out.2.1.eight)
      | (go_at_call 18; go_must (refine (HS.out _ HX.out.1).mono ?_); rintro e w2 ⟨rfl, hb⟩; have HX := Lib.hid (HX.out.step hb); clear hb c0 c1 c2 c3 c4 c5 c6 c7; obtain ⟨c0, c1, c2, c3, c4, c5, c6, c7⟩ := HX.out.2.1.eight)
      | (go_at_call 11; go_must (refine (HM.out _ HX.out.1).mono ?_); rintro e w3 ⟨rfl, hb⟩; have HX := Lib.hid (HX.out.step hb); clear hb c0 c1 c2 c3 c4 c5 c6 c7; obtain ⟨c0, c1, c2, c3, c4, c5, c6, c7⟩ := HX.out.2.1.eight))
    go_ret
    exact ⟨rfl, HX.out.2.2⟩
  have d1 : decide ((s.size : Int) > 60) = false := decide_eq_false (by omega)
  by_cases h0 : s.size = 0
  · have d2 : ((s.size : Int) == 0) = true := by rw [h0]; rfl
    unfold reV reL at *
    go_enter Try.func6, Try.ntmps6
    go_wp2_with (first
      | (go_at_call 8; go_must (refine (alive_any _).mono ?_); rintro e w1 ⟨rfl, hb⟩; have HX := Lib.hid (H0.out.step hb); clear hb; obtain ⟨c0, c1, c2, c3, c4, c5, c6, c7⟩ := HX.out.2.1.eight)
      | (go_at_call 18; go_must (refine (HS.out _ HX.out.1).mono ?_); rintro e w2 ⟨rfl, hb⟩; have HX := Lib.hid (HX.out.step hb); clear hb c0 c1 c2 c3 c4 c5 c6 c7; obtain ⟨c0, c1, c2, c3, c4, c5, c6, c7⟩ := HX.out.2.1.eight)
      | (go_at_call 11; go_must (refine (HM.out _ HX.out.1).mono ?_); rintro e w3 ⟨rfl, hb⟩; have HX := Lib.hid (HX.out.step hb); clear hb c0 c1 c2 c3 c4 c5 c6 c7; obtain ⟨c0, c1, c2, c3, c4, c5, c6, c7⟩ := HX.out.2.1.eight))
    go_ret
    exact ⟨rfl, HX.out.2.2⟩
  have d2 : ((s.size : Int) == 0) = false := beq_eq_false_iff_ne.2 (by omega)
  have hok := may_ok hmay
  have HT := Lib.hid (fun u (h : T.At u (reV T.kind T.set A n c T.lo T.hi)) => refTakes_any T _ s (by omega) u hok h)
  cases htk : T.takes s.data.toList
  case false =>
    rw [htk] at HT
    unfold reV reL at *
    go_enter Try.func6, Try.ntmps6
    go_wp2_with (first
      | (go_at_call 8; go_must (refine (alive_any _).mono ?_); rintro e w1 ⟨rfl, hb⟩; have HX := Lib.hid (H0.out.step hb); clear hb; obtain ⟨c0, c1, c2, c3, c4, c5, c6, c7⟩ := HX.out.2.1.eight)
      | (go_at_call 18; go_must (refine (HS.out _ HX.out.1).mono ?_); rintro e w2 ⟨rfl, hb⟩; have HX := Lib.hid (HX.out.step hb); clear hb c0 c1 c2 c3 c4 c5 c6 c7; obtain ⟨c0, c1, c2, c3, c4, c5, c6, c7⟩ := HX.out.2.1.eight)
      | (go_at_call 11; go_must (refine (HM.out _ HX.out.1).mono ?_); rintro e w3 ⟨rfl, hb⟩; have HX := Lib.hid (HX.out.step hb); clear hb c0 c1 c2 c3 c4 c5 c6 c7; obtain ⟨c0, c1, c2, c3, c4, c5, c6, c7⟩ := HX.out.2.1.eight)
      | (go_at_call 26; go_must (refine (HT.out _ HX.out.1).mono ?_); rintro e w4 ⟨rfl, hb⟩; have HX := Lib.hid (HX.out.step hb); clear hb c0 c1 c2 c3 c4 c5 c6 c7; obtain ⟨c0, c1, c2, c3, c4, c5, c6, c7⟩ := HX.out.2.1.eight))
    go_ret
    exact ⟨rfl, HX.out.2.2⟩
  rw [htk] at HT
  obtain ⟨t1, t2, t3⟩ := takes_some T hok s.data.toList (by intro e; have : s.data.toList.length = 0 := by rw [e]; rfl
                                                            exact h0 this) htk
  obtain ⟨s1, _, s3, s4⟩ := says_any T hok
  have htx : T.txOf = T.tx := by unfold Tree.txOf; rw [if_pos hmay]
  have hpos : 0 < s.size := by omega
  have hl1 : s.size - 1 < s.size := by omega
  have hb0 : byteAt s.data.toList 0 = (s[0]'hpos).toNat := by
    rw [Lib.getD_at s 0 hpos]; rfl
  have hb1 : byteAt s.data.toList (s.data.toList.length - 1) = (s[s.size - 1]'hl1).toNat := by
    rw [Lib.getD_at s (s.size - 1) hl1]; rfl
  have hx0 : (s[0]'hpos).toNat < 256 := by have := UInt8.toNat_lt (s[0]'hpos); omega
  have hx1 : (s[s.size - 1]'hl1).toNat < 256 := by have := UInt8.toNat_lt (s[s.size - 1]'hl1); omega
  have hf : T.txOf.f (s[0]'hpos).toNat = true := by rw [htx, s3 _ hx0, ← hb0]; exact t1
  have hla : T.txOf.l (s[s.size - 1]'hl1).toNat = true := by rw [htx, s4 _ hx1, ← hb1]; exact t2
  have hvo : T.txOf.v = false := by rw [htx, s1]; exact t3
  have HF := Lib.hid (fun u (h : T.At u (reV T.kind T.set A n c T.lo T.hi)) => first_any T _ u h (by omega))
  have HL := Lib.hid (fun u (h : T.At u (reV T.kind T.set A n c T.lo T.hi)) => last_any T _ u h (by omega))
  have HV := Lib.hid (fun u (h : T.At u (reV T.kind T.set A n c T.lo T.hi)) => void_any T _ u h (by omega))
  have HH0 := Lib.hid (fun u => refHas_any T.txOf.f (s[0]'hpos).toNat hx0 u)
  have HH1 := Lib.hid (fun u => refHas_any T.txOf.l (s[s.size - 1]'hl1).toNat hx1 u)
  rw [hvo] at HV
  rw [hf] at HH0
  rw [hla] at HH1
  have hi0 := idx_byte 9 Try.underlying9 s 0 hpos (P := Try.prog)
  have hi1 := idx_byte 9 Try.underlying9 s (s.size - 1) hl1 (P := Try.prog)
  have hk0 : IntKind.i64.wrap (((s[0]'hpos).toNat : Nat) : Int) = (((s[0]'hpos).toNat : Nat) : Int) := by rw [IntKind.wrap_i64]; omega
  have hk1 : IntKind.i64.wrap (((s[s.size - 1]'hl1).toNat : Nat) : Int) = (((s[s.size - 1]'hl1).toNat : Nat) : Int) := by rw [IntKind.wrap_i64]; omega
  have hw1 : IntKind.i64.wrap ((s.size : Int) - 1) = ((s.size - 1 : Nat) : Int) := by rw [IntKind.wrap_i64]; omega
  clear t1 t2 t3 s1 s3 s4 hb0 hb1 hf hla hvo htx
  generalize T.txOf.f = ff at *
  generalize T.txOf.l = fl at *
  unfold reV reL at *
  go_enter Try.func6, Try.ntmps6
  go_wp2_with (first
    | (go_at_call 8; go_must (refine (alive_any _).mono ?_); rintro e w1 ⟨rfl, hb⟩; have HX := Lib.hid (H0.out.step hb); clear hb; obtain ⟨c0, c1, c2, c3, c4, c5, c6, c7⟩ := HX.out.2.1.eight)
    | (go_at_call 18; go_must (refine (HS.out _ HX.out.1).mono ?_); rintro e w2 ⟨rfl, hb⟩; have HX := Lib.hid (HX.out.step hb); clear hb c0 c1 c2 c3 c4 c5 c6 c7; obtain ⟨c0, c1, c2, c3, c4, c5, c6, c7⟩ := HX.out.2.1.eight)
    | (go_at_call 11; go_must (refine (HM.out _ HX.out.1).mono ?_); rintro e w3 ⟨rfl, hb⟩; have HX := Lib.hid (HX.out.step hb); clear hb c0 c1 c2 c3 c4 c5 c6 c7; obtain ⟨c0, c1, c2, c3, c4, c5, c6, c7⟩ := HX.out.2.1.eight)
    | (go_at_call 26; go_must (refine (HT.out _ HX.out.1).mono ?_); rintro e w4 ⟨rfl, hb⟩; have HX := Lib.hid (HX.out.step hb); clear hb c0 c1 c2 c3 c4 c5 c6 c7; obtain ⟨c0, c1, c2, c3, c4, c5, c6, c7⟩ := HX.out.2.1.eight))
  clear c0 c1 c2 c3 c4 c5 c6 c7
  refine wp_region_reads 52 (fun u => ExIs w T w.heap.size A n c u) (by kernel_rfl) (by kernel_rfl) rfl ⟨HX.out.1.step (Below.refl _ _).drew, HX.out.2.1.drew, HX.out.2.2.drew⟩ (fun u u' h hb => h.step hb) ?_
  repeat
    refine freeW_step fun K hK => ?_
    go_simp
    apply Exists.intro
    refine ⟨fun u h1 => ?_, hK _ ?_⟩
    have h1' := Lib.hid h1
    clear h1
    obtain ⟨c0, c1, c2, c3, c4, c5, c6, c7⟩ := h1'.out.2.1.eight
    unfold freeAt
    go_simp
    first
      | exact free_val
      | (apply free_call
         first
           | (go_at_call 22; exact HF.out _ h1'.out.1)
           | (go_at_call 23; exact HL.out _ h1'.out.1)
           | (go_at_call 20; exact HV.out _ h1'.out.1)
           | (go_at_call 27; first | with_reducible exact HH0.out _ | with_reducible exact HH1.out _))
    clear hK K
  refine freeW_nil ?_
  intro u hu _
  have HU := Lib.hid hu
  clear hu
  go_wp2
  go_ret
  exact ⟨rfl, HU.out.2.2⟩

end Go.Proofs.Ytdnbfpgcmamdbaa
