/-
  hacklelaw04's alive ANSWERS true: a contract. No condition.
-/
import Derived.Test.YtfodpkciahkehaaTx6
import Derived.Test.YtfodpkciahkehaaMake2
import Derived.Test.YtfodpkciahkehaaBegins
namespace Go.Proofs.Ytfodpkciahkehaa
open Go.RowKit

/-- the document's example -/
def exT : Tree := rowT 2 (.node 0 (fun _ => false) [] 0 0) [textT [97, 98], .node 4 (fun _ => false) [.node 1 (sRange 48 57) [] 0 0] 0 (-1)]
theorem ex_nodes : exT.nodes = 6 := by decide +kernel
theorem ex_deep : exT.deepN = 3 := by decide +kernel
theorem ex_may : exT.mayN = true := by decide +kernel
theorem ex_first : setEq exT.txOf.f (sRange 97 97) = true := by decide +kernel
theorem ex_last : exT.txOf.l 98 = true ∧ exT.txOf.l 53 = true := by decide +kernel

/-- two nodes side by side in a new block -/
theorem two_at {W : World} {T1 T2 : Tree} {k1 l1 h1 k2 l2 h2 : Int} {m1 m2 : Nat → Bool} {A1 A2 : Option Addr} {n1 c1 n2 c2 : Nat} (a1 : T1.At W (reV k1 m1 A1 n1 c1 l1 h1)) (a2 : T2.At W (reV k2 m2 A2 n2 c2 l2 h2)) :
    AllAt (W.alloc (.cells (reL k1 m1 A1 n1 c1 l1 h1 ++ reL k2 m2 A2 n2 c2 l2 h2).toArray 27)) [T1, T2] W.heap.size 0 := by
  have hb : Below W.heap.size W (W.alloc (.cells (reL k1 m1 A1 n1 c1 l1 h1 ++ reL k2 m2 A2 n2 c2 l2 h2).toArray 27)) := (Below.refl _ _).alloc (Nat.le_refl _) _
  have hr := (BlkIs.new W 27 (reL k1 m1 A1 n1 c1 l1 h1 ++ reL k2 m2 A2 n2 c2 l2 h2).toArray).range
  have h8 : (reL k1 m1 A1 n1 c1 l1 h1).length = 8 := rfl
  refine AllAt.mk _ _ _ fun i hi => ?_
  have hi' : i = 0 ∨ i = 1 := by simp at hi; omega
  rcases hi' with rfl | rfl
  · exact ⟨_, a1.step hb, rfl, fun j v hv => hr j v (by rw [List.getElem?_append_left (by have := (List.getElem?_eq_some_iff.1 hv).1; omega)]; exact hv)⟩
  · refine ⟨_, a2.step hb, rfl, fun j v hv => ?_⟩
    have := hr (8 + j) v (by rw [List.getElem?_append_right (by omega), h8, Nat.add_sub_cancel_left]; exact hv)
    rw [show 0 + 1 * 8 + j = 0 + (8 + j) by omega]
    exact this

/-- the example lies there, and a copy of its node in a box -/
def ExIs (w : World) (E : Tree) (g : Nat) (A : Option Addr) (n c : Nat) (u : World) : Prop := E.At u (reV E.kind E.set A n c E.lo E.hi) ∧ BlkIs u g 27 (reL E.kind E.set A n c E.lo E.hi).toArray ∧ Below w.heap.size w u
theorem ExIs.step {w u u' : World} {E : Tree} {g : Nat} {A : Option Addr} {n c : Nat} (h : ExIs w E g A n c u) (hb : Below u.heap.size u u') : ExIs w E g A n c u' := ⟨h.1.step hb, h.2.1.step hb, h.2.2.trans (hb.mono h.2.2.size)⟩
theorem ExIs.start {w u : World} {E : Tree} {A : Option Addr} {n c : Nat} (h : E.At u (reV E.kind E.set A n c E.lo E.hi)) (hb : Below w.heap.size w u) : ExIs w E u.heap.size A n c (u.alloc (.cells (reL E.kind E.set A n c E.lo E.hi).toArray 27)) :=
  ⟨h.step ((Below.refl _ _).alloc (Nat.le_refl _) _), BlkIs.new _ _ _, hb.alloc hb.size _⟩

set_option maxRecDepth 20000 in
set_option maxHeartbeats 8000000 in
theorem alive_any (w : World) : Calls Try.prog 6 #[] w fun e w' => e = .returned (.bool true) ∧ Below w.heap.size w w' := by
  obtain ⟨T1, hT1⟩ : ∃ T1, T1 = textT [97, 98] := ⟨_, rfl⟩
  obtain ⟨T2, hT2⟩ : ∃ T2, T2 = Tree.node 1 (sRange 48 57) [] 0 0 := ⟨_, rfl⟩
  obtain ⟨T3, hT3⟩ : ∃ T3, T3 = Tree.node 4 (fun _ => false) [T2] 0 (-1) := ⟨_, rfl⟩
  obtain ⟨E, hE⟩ : ∃ E, E = rowT 2 (.node 0 (fun _ => false) [] 0 0) [T1, T3] := ⟨_, rfl⟩
  have hEE : E = exT := by rw [hE, hT3, hT2, hT1]; rfl
  have HTX := Lib.hid (fun u => text_any ⟨#[97, 98]⟩ (by decide) u)
  have HBY := Lib.hid (fun u => byte_any (sRange 48 57) u)
  have HREP := Lib.hid (fun u v (h : T2.At u v) => rep_any T2 v 0 (-1) u h (by rw [hT2]; decide))
  have HCAT := Lib.hid (fun u b (h : AllAt u [T1, T3] b 0) => cat_any [T1, T3] (some ⟨b, 0, none⟩) 2 u (fun _ => ⟨b, 0, rfl, h⟩) (by rw [hT3, hT2, hT1]; decide +kernel))
  rw [show (⟨#[97, 98]⟩ : ByteArray).data.toList = [97, 98] from rfl, ← hT1] at HTX
  simp only [← hT3, ← hE] at HREP HCAT
  have hT2at : ∀ u, T2.At u (reV 1 (sRange 48 57) none 0 0 0 0) := fun u => by
    rw [hT2]; unfold Tree.At; exact ⟨none, 0, rfl, ⟨Nat.le_refl _, by omega⟩, fun h => absurd rfl h⟩
  have HT2 := Lib.hid hT2at
  have HN := Lib.hid (fun u v (h : E.At u v) => nodes_any E v u h (by rw [hEE, ex_deep]; decide))
  have HD := Lib.hid (fun u v (h : E.At u v) => deep_any E v u h (by rw [hEE, ex_deep]; decide))
  have HFI := Lib.hid (fun u v (h : E.At u v) => first_any E v u h (by rw [hEE, ex_nodes]; decide))
  have HLA := Lib.hid (fun u v (h : E.At u v) => last_any E v u h (by rw [hEE, ex_nodes]; decide))
  rw [hEE, ex_nodes] at HN
  rw [hEE, ex_deep] at HD
  rw [show IntKind.i64.wrap ((6 : Nat) : Int) = 6 from by decide] at HN
  have hfe := eql_set exT.txOf.f (sRange 97 97)
  rw [ex_first] at hfe
  have HL1 := Lib.hid (show ∀ u, Calls Try.prog 18 #[setV exT.txOf.l, .int .i64 98] u fun e w' => e = .returned (.bool (exT.txOf.l 98)) ∧ Below u.heap.size u w' from fun u => refHas_any exT.txOf.l 98 (by decide) u)
  have HL2 := Lib.hid (show ∀ u, Calls Try.prog 18 #[setV exT.txOf.l, .int .i64 53] u fun e w' => e = .returned (.bool (exT.txOf.l 53)) ∧ Below u.heap.size u w' from fun u => refHas_any exT.txOf.l 53 (by decide) u)
  rw [ex_last.1] at HL1
  rw [ex_last.2] at HL2
  rw [hEE] at HFI HLA
  clear hT1 hT2 hT3 hE hT2at
  generalize exT.txOf.f = ff at *
  generalize exT.txOf.l = fl at *
  generalize exT = EX at *
  subst hEE
  generalize hs1 : sRange 48 57 = S1 at *
  generalize hs2 : sRange 97 97 = S2 at *
  have HS1 := Lib.hid (show ∀ u, Calls Try.prog 28 #[.int .i64 48, .int .i64 57] u fun e w' => e = .returned (setV (sRange 48 57)) ∧ Below u.heap.size u w' from fun u => refRange_any 48 57 (by decide) u)
  have HS2 := Lib.hid (show ∀ u, Calls Try.prog 28 #[.int .i64 97, .int .i64 97] u fun e w' => e = .returned (setV (sRange 97 97)) ∧ Below u.heap.size u w' from fun u => refRange_any 97 97 (by decide) u)
  rw [hs1] at HS1
  rw [hs2] at HS2
  clear hs1 hs2
  go_enter Try.func6, Try.ntmps6
  go_wp2_with (first
    | (go_at_call 23; go_must (refine (HTX.out _).mono ?_); rintro e w1 ⟨v1, rfl, hv1, hb1⟩; obtain ⟨A1, n1, c1, rfl⟩ := hv1.form; have H1 := Lib.hid (And.intro hv1 hb1); clear hv1 hb1; unfold reV reL)
    | (go_at_call 28; (with_reducible refine (HS1.out _).mono ?_); rintro e w2 ⟨rfl, hb2⟩; have H2 := Lib.hid hb2; clear hb2)
    | (go_at_call 27; go_must (refine (HBY.out _).mono ?_); rintro e w3 ⟨rfl, hb3⟩; have H3 := Lib.hid hb3; clear hb3)
    | (go_at_call 25; go_must (refine (HREP.out _ _ (HT2.out _)).mono ?_); rintro e w4 ⟨v4, rfl, hv4, hb4⟩; obtain ⟨A4, n4, c4, rfl⟩ := hv4.form; have H4 := Lib.hid (And.intro hv4 hb4); clear hv4 hb4; unfold reV reL)
    | (go_at_call 21
       have h14 := H2.out.trans ((H3.out.trans (H4.out.2.mono H3.out.size)).mono H2.out.size)
       go_must (refine (HCAT.out _ _ (two_at (H1.out.1.step h14) H4.out.1)).mono ?_)
       rintro e w5 ⟨v5, rfl, hv5, hb5⟩
       obtain ⟨A5, n5, cc5, rfl⟩ := hv5.form
       have h04 := H1.out.2.trans (h14.mono H1.out.2.size)
       have HX := Lib.hid (ExIs.start hv5 ((h04.alloc h04.size _).trans (hb5.mono (Nat.le_trans h04.size (by simp)))))
       clear hv5 hb5 h14 h04
       obtain ⟨c0, c1, c2, c3, c4, d5, c6, c7⟩ := HX.out.2.1.eight
       unfold reV reL)
    | (go_at_call 10; go_must (refine (HN.out _ _ HX.out.1).mono ?_); rintro e w6 ⟨rfl, hb⟩; have HX := Lib.hid (HX.out.step hb); clear hb c0 c1 c2 c3 c4 d5 c6 c7; obtain ⟨c0, c1, c2, c3, c4, d5, c6, c7⟩ := HX.out.2.1.eight)
    | (go_at_call 12; go_must (refine (HD.out _ _ HX.out.1).mono ?_); rintro e w7 ⟨rfl, hb⟩; have HX := Lib.hid (HX.out.step hb); clear hb c0 c1 c2 c3 c4 d5 c6 c7; obtain ⟨c0, c1, c2, c3, c4, d5, c6, c7⟩ := HX.out.2.1.eight)
    | (go_at_call 17; go_must (refine (HFI.out _ _ HX.out.1).mono ?_); rintro e w8 ⟨rfl, hb⟩; have HX := Lib.hid (HX.out.step hb); clear hb c0 c1 c2 c3 c4 d5 c6 c7; obtain ⟨c0, c1, c2, c3, c4, d5, c6, c7⟩ := HX.out.2.1.eight)
    | (go_at_call 28; (with_reducible refine (HS2.out _).mono ?_); rintro e w9 ⟨rfl, hb⟩; have HX := Lib.hid (HX.out.step hb); clear hb c0 c1 c2 c3 c4 d5 c6 c7; obtain ⟨c0, c1, c2, c3, c4, d5, c6, c7⟩ := HX.out.2.1.eight)
    | (go_at_call 29; go_must (refine (HLA.out _ _ HX.out.1).mono ?_); rintro e w10 ⟨rfl, hb⟩; have HX := Lib.hid (HX.out.step hb); clear hb c0 c1 c2 c3 c4 d5 c6 c7; obtain ⟨c0, c1, c2, c3, c4, d5, c6, c7⟩ := HX.out.2.1.eight)
    | (go_at_call 18; (first | (with_reducible refine (HL1.out _).mono ?_) | (with_reducible refine (HL2.out _).mono ?_)); rintro e w11 ⟨rfl, hb⟩; have HX := Lib.hid (HX.out.step hb); clear hb c0 c1 c2 c3 c4 d5 c6 c7; obtain ⟨c0, c1, c2, c3, c4, d5, c6, c7⟩ := HX.out.2.1.eight))
  go_ret
  exact ⟨rfl, HX.out.2.2⟩

end Go.Proofs.Ytfodpkciahkehaa

