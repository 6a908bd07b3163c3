/-
  TREES BY LITERALS in the text of layer 8; what hacklelaw08.letter ANSWERS: a contract. No condition.
-/
import Derived.Test.YtgbljnnmhmlifaaQG42
import Derived.Test.YtgbljnnmhmlifaaQG03
import Derived.Test.YtgbljnnmhmlifaaQG33
import Derived.Test.YtgbljnnmhmlifaaQG14
import Derived.Test.YtgbljnnmhmlifaaQG13
import Derived.Test.YtgbljnnmhmlifaaQG16
import Derived.Test.YtgbljnnmhmlifaaQG38
namespace Go.Proofs.Ytgbljnnmhmlifaa
open Go.RowKit

theorem sizeS8 {W : World} {T : Tree} {k : Int} {m : Nat → Bool} {A : Option Addr} {n c : Nat} {lo hi : Int} (h : T.At W (reV k m A n c lo hi)) : T.At W (.agg (reL k m A n c lo hi).toArray) ∧ (reL k m A n c lo hi).length = 8 := ⟨h, rfl⟩
theorem ltr_at8 (W : World) (b : Int) : (ltr8 b).At W (reV 1 (sRange b b) none 0 0 0 0) := leaf_at
theorem rows28 {W : World} {T1 T2 : Tree} {k1 l1 h1 k2 l2 h2 : Int} {m1 m2 : Nat → Bool} {A1 A2 : Option Addr} {n1 c1 n2 c2 : Nat} (a1 : T1.At W (reV k1 m1 A1 n1 c1 l1 h1)) (a2 : T2.At W (reV k2 m2 A2 n2 c2 l2 h2)) :
    AllAt (W.alloc (.cells (reL k1 m1 A1 n1 c1 l1 h1 ++ reL k2 m2 A2 n2 c2 l2 h2).toArray 39)) [T1, T2] W.heap.size 0 := by
  have := laid_rows (W := W) 39 [T1, T2] [reL k1 m1 A1 n1 c1 l1 h1, reL k2 m2 A2 n2 c2 l2 h2] rfl (fun i h h' => by
    match i, h, h' with
    | 0, _, _ => exact sizeS8 a1
    | 1, _, _ => exact sizeS8 a2)
  exact this
theorem rows18 {W : World} {T1 : Tree} {k1 l1 h1 : Int} {m1 : Nat → Bool} {A1 : Option Addr} {n1 c1 : Nat} (a1 : T1.At W (reV k1 m1 A1 n1 c1 l1 h1)) :
    AllAt (W.alloc (.cells (reL k1 m1 A1 n1 c1 l1 h1).toArray 39)) [T1] W.heap.size 0 := by
  have := laid_rows (W := W) 39 [T1] [reL k1 m1 A1 n1 c1 l1 h1] rfl (fun i h h' => by
    match i, h, h' with
    | 0, _, _ => exact sizeS8 a1)
  exact this
def InBox8 (w : World) (T : Tree) (g : Nat) (A : Option Addr) (n c : Nat) (u : World) : Prop := T.At u (reV T.kind T.set A n c T.lo T.hi) ∧ BlkIs u g 39 (reL T.kind T.set A n c T.lo T.hi).toArray ∧ Below w.heap.size w u
theorem InBox8.step {w u u' : World} {T : Tree} {g : Nat} {A : Option Addr} {n c : Nat} (h : InBox8 w T g A n c u) (hb : Below u.heap.size u u') : InBox8 w T g A n c u' := ⟨h.1.step hb, h.2.1.step hb, h.2.2.trans (hb.mono h.2.2.size)⟩
theorem box_put8 {w u : World} {T : Tree} {g : Nat} {A : Option Addr} {n c : Nat} (hl : T.lit = true) (h : T.At u (reV T.kind T.set A n c T.lo T.hi)) (hz : BlkIs u g 39 zeroL.toArray) (hg : w.heap.size ≤ g) (hb : Below w.heap.size w u) :
    InBox8 w T g A n c (u.setCells g 0 (reL T.kind T.set A n c T.lo T.hi)) :=
  ⟨lit_far hz (fun p v hp hv => cells_far _ p v hp hv) T hl h, store_re hz rfl, below_cells g _ 0 _ hg hb⟩

set_option maxRecDepth 20000 in
set_option maxHeartbeats 2000000 in
theorem letter_any8 (b : Nat) (hb : b < 256) (w : World) : Calls Try.prog 20 #[.int .i64 b] w fun e w' => e = .returned (reV 1 (sRange b b) none 0 0 0 0) ∧ Below w.heap.size w w' := by
  have h0 : Below w.heap.size w (w.alloc (.cells zeroL.toArray 39)) := (Below.refl _ _).alloc (Nat.le_refl _) _
  have hz := BlkIs.new w 39 zeroL.toArray
  have HC := Lib.hid (refRange_any b b hb (w.alloc (.cells zeroL.toArray 39)))
  have H0 := Lib.hid (And.intro h0 hz)
  clear h0 hz
  unfold zeroL at *
  unfold setV at HC
  go_enter Try.func20, Try.ntmps20
  go_wp2_with (first
    | (go_at_call 44; go_must (refine HC.out.mono ?_); rintro e u ⟨rfl, hb2⟩; have hB3 := H0.out.2.step hb2; have HB2 := Lib.hid (H0.out.1.trans (hb2.mono H0.out.1.size)); clear hb2)
    | (refine wpList_store_mid rfl 39 (.tmp 2) (.tmp 6) rfl w.heap.size 0 (reL 1 (sRange b b) none 0 0 0 0).toArray rfl rfl hB3.there info_re8 reL_all ?_))
  have hl := load_re (store_re (k := 1) (m := sRange b b) (A := none) (n := 0) (c := 0) (lo := 0) (hi := 0) hB3 rfl)
  exact bodyPost_ret (results_cell1 rfl rfl hl) rfl ⟨rfl, below_cells w.heap.size _ 0 _ (Nat.le_refl _) HB2.out⟩

end Go.Proofs.Ytgbljnnmhmlifaa

namespace Go.Proofs.Ytgbljnnmhmlifaa
open Go.RowKit

theorem may_okT {T : Tree} (h : T.mayN = true) : T.ok = true := by
  unfold Tree.mayN at h
  simp only [Bool.and_eq_true] at h
  exact h.2.2
theorem ex_parts : ∀ t ∈ [exA, exB], t.mayN = true ∧ PartIs t ∧ t.nodes ≤ 1048576 := by
  intro t ht
  simp only [List.mem_cons, List.not_mem_nil, or_false] at ht
  rcases ht with rfl | rfl
  · exact ⟨exA_may, part_once exA (may_okT exA_may) ex_once.1 (by rw [ex_nodes.1]; decide), by rw [ex_nodes.1]; decide⟩
  · exact ⟨exB_may, part_once exB (may_okT exB_may) ex_once.2 (by rw [ex_nodes.2]; decide), by rw [ex_nodes.2]; decide⟩
theorem ex_okTs : okTs [exA, exB] := by
  unfold okTs
  refine ⟨ok_okT exA (may_okT exA_may), ?_⟩
  unfold okTs
  refine ⟨ok_okT exB (may_okT exB_may), ?_⟩
  unfold okTs
  trivial
theorem ex_sums : ∀ j, 0 ≤ sumP ([exA, exB].take j) ∧ sumP ([exA, exB].take j) ≤ 2000
  | 0 => by simp [sumP]
  | 1 => by
    show 0 ≤ sumP [exA] ∧ sumP [exA] ≤ 2000
    rw [ex_sumP.1]; decide
  | j + 2 => by
    show 0 ≤ sumP (exA :: exB :: [].take j) ∧ sumP (exA :: exB :: [].take j) ≤ 2000
    rw [List.take_nil, ex_sumP.2]; decide
theorem exBuild_any (A : Option Addr) (c : Nat) (w : World) (hat : ∃ b o, A = some ⟨b, o, none⟩ ∧ AllAt w [exA, exB] b o) :
    Calls Try.prog 7 #[.slice A 2 c] w fun x w' => ∃ v, x = .returned (.tuple #[v, .int .i64 0]) ∧ NfaAt w' (buildN [exA, exB]) v ∧ Below w.heap.size w w' :=
  build_any [exA, exB] (by decide) (by decide) (fun t ht => (ex_parts t ht).1) (fun t ht => (ex_parts t ht).2.1) ex_okTs (fun t ht => (ex_parts t ht).2.2) (by rw [ex_sumN]; decide) ex_sums A c w (fun _ => hat)
theorem ex_ran : ranL (buildN [exA, exB]) ⟨#[97, 98]⟩ = [1, 4] ∧ ranT (buildN [exA, exB]) ⟨#[97, 98]⟩ = 0 := by decide +kernel
end Go.Proofs.Ytgbljnnmhmlifaa

namespace Go.Proofs.Ytgbljnnmhmlifaa
open Go.RowKit

attribute [local irreducible] FreeW

def z8 (k : Int) (A : Option Addr) (n : Nat) (hi : Int) : Array Value := #[.int .i64 k, .int .u64 0, .int .u64 0, .int .u64 0, .int .u64 0, .slice A n n, .int .i64 0, .int .i64 hi]
theorem z8_is (k : Int) (A : Option Addr) (n : Nat) (hi : Int) : z8 k A n hi = (reL k (fun _ => false) A n n 0 hi).toArray := by
  have e := built_re k A n n 0 hi
  unfold reV at e
  exact (Value.agg.inj e).symm
theorem lit_box8 {w U : World} {l : List Tree} {k hi : Int} {g : Nat} (h : AllAt U l g 0) (hb : Below w.heap.size w U) (hl : l.length ≤ 9223372036854775807) :
    InBox8 w (.node k (fun _ => false) l 0 hi) U.heap.size (some ⟨g, 0, none⟩) l.length l.length (U.alloc (.cells (z8 k (some ⟨g, 0, none⟩) l.length hi) 39)) := by
  have hn := node_at (k := k) (m := fun _ => false) (lo := 0) (hi := hi) (c := l.length) h ⟨Nat.le_refl _, hl⟩
  rw [z8_is]
  exact ⟨hn.step ((Below.refl _ _).alloc (Nat.le_refl _) _), BlkIs.new _ _ _, hb.alloc hb.size _⟩
theorem lit_row8 {U : World} {l : List Tree} {k hi : Int} {g : Nat} (h : AllAt U l g 0) (hl : l.length ≤ 9223372036854775807) :
    AllAt (U.alloc (.cells (z8 k (some ⟨g, 0, none⟩) l.length hi) 39)) [.node k (fun _ => false) l 0 hi] U.heap.size 0 := by
  have hn := node_at (k := k) (m := fun _ => false) (lo := 0) (hi := hi) (c := l.length) h ⟨Nat.le_refl _, hl⟩
  rw [z8_is]
  exact rows18 hn

set_option maxRecDepth 20000 in
set_option maxHeartbeats 8000000 in
theorem alive8_any (w : World) : Calls Try.prog 5 #[] w fun e w' => e = .returned (.bool true) ∧ Below w.heap.size w w' := by
  have HA := Lib.hid (show ∀ u, Calls Try.prog 20 #[.int .i64 97] u fun e u' => e = .returned (reV 1 (sRange 97 97) none 0 0 0 0) ∧ Below u.heap.size u u' from fun u => letter_any8 97 (by omega) u)
  have HB := Lib.hid (show ∀ u, Calls Try.prog 20 #[.int .i64 98] u fun e u' => e = .returned (reV 1 (sRange 98 98) none 0 0 0 0) ∧ Below u.heap.size u u' from fun u => letter_any8 98 (by omega) u)
  have HC := Lib.hid (show ∀ u, Calls Try.prog 20 #[.int .i64 99] u fun e u' => e = .returned (reV 1 (sRange 99 99) none 0 0 0 0) ∧ Below u.heap.size u u' from fun u => letter_any8 99 (by omega) u)
  have h97 := fun (W : World) => ltr_at8 W 97
  have h98 := fun (W : World) => ltr_at8 W 98
  have h99 := fun (W : World) => ltr_at8 W 99
  generalize hs97 : sRange 97 97 = s97 at *
  generalize hs98 : sRange 98 98 = s98 at *
  generalize hs99 : sRange 99 99 = s99 at *
  have HAT := Lib.hid (And.intro h97 (And.intro h98 h99))
  clear h97 h98 h99
  go_enter Try.func5, Try.ntmps5
  go_wp2_with fail
  go_at_call 20
  refine (HB.out _).mono ?_
  rintro e u1 ⟨rfl, hb1⟩
  unfold reV reL
  go_wp2_with fail
  go_at_call 20
  refine (HC.out _).mono ?_
  rintro e u2 ⟨rfl, hb2⟩
  have HB2 := Lib.hid (hb1.trans (hb2.mono hb1.size))
  clear hb1 hb2
  unfold reV reL
  -- the first row, the second, the box
  have hr1 := rows28 (HAT.out.2.1 u2) (HAT.out.2.2 u2)
  unfold reL at hr1
  simp only [List.cons_append, List.nil_append] at hr1
  obtain ⟨U1, hU1⟩ : ∃ U1, u2.alloc (.cells #[.int .i64 1, .int .u64 (wd s98 0 : Nat), .int .u64 (wd s98 1 : Nat), .int .u64 (wd s98 2 : Nat), .int .u64 (wd s98 3 : Nat), .slice none 0 0, .int .i64 0, .int .i64 0, .int .i64 1, .int .u64 (wd s99 0 : Nat), .int .u64 (wd s99 1 : Nat), .int .u64 (wd s99 2 : Nat), .int .u64 (wd s99 3 : Nat), .slice none 0 0, .int .i64 0, .int .i64 0] 39) = U1 := ⟨_, rfl⟩
  rw [show u2.alloc (.cells ([.int .i64 1, .int .u64 (wd s98 0 : Nat), .int .u64 (wd s98 1 : Nat), .int .u64 (wd s98 2 : Nat), .int .u64 (wd s98 3 : Nat), .slice none 0 0, .int .i64 0, .int .i64 0, .int .i64 1, .int .u64 (wd s99 0 : Nat), .int .u64 (wd s99 1 : Nat), .int .u64 (wd s99 2 : Nat), .int .u64 (wd s99 3 : Nat), .slice none 0 0, .int .i64 0, .int .i64 0] : List Value).toArray 39) = U1 from hU1] at hr1
  have hbU1 : Below w.heap.size w U1 := by rw [← hU1]; exact HB2.out.alloc HB2.out.size _
  have hsU1 : U1.heap.size = u2.heap.size + 1 := by rw [← hU1]; simp
  have hr2 := lit_row8 (k := 3) (hi := 0) hr1 (by decide)
  have hx : InBox8 w starA ((U1.alloc (.cells (z8 3 (some ⟨u2.heap.size, 0, none⟩) 2 0) 39))).heap.size (some ⟨U1.heap.size, 0, none⟩) 1 1 ((U1.alloc (.cells (z8 3 (some ⟨u2.heap.size, 0, none⟩) 2 0) 39)).alloc (.cells (z8 4 (some ⟨U1.heap.size, 0, none⟩) 1 (-1)) 39)) :=
    lit_box8 (l := [altA]) (k := 4) (hi := -1) hr2 (hbU1.alloc hbU1.size _) (by decide)
  rw [hsU1, World.size_alloc, hsU1] at hx
  unfold z8 at hx
  generalize hW3 : World.alloc (World.alloc U1 _) _ = W3 at hx
  have HX : Hid (InBox8 w starA (u2.heap.size + 1 + 1) (some ⟨u2.heap.size + 1, 0, none⟩) 1 1 W3) := Lib.hid hx
  clear hx hr1 hr2 hbU1
  go_wp2_with fail
  refine wp_region_grow 5 73 (fun u => InBox8 w starA (u2.heap.size + 1 + 1) (some ⟨u2.heap.size + 1, 0, none⟩) 1 1 u) (fun i v u => match i with
    | 0 => v = reV 1 s97 none 0 0 0 0
    | 1 => v = reV 4 (fun _ => false) (some ⟨u2.heap.size + 1, 0, none⟩) 1 1 0 (-1)
    | 2 => ∃ g, v = .slice (some ⟨g, 0, none⟩) 2 2 ∧ AllAt u [ltr8 97, starA] g 0
    | 3 => ∃ g, v = reV 2 (fun _ => false) (some ⟨g, 0, none⟩) 2 2 0 0 ∧ exA.At u v
    | _ => ∃ g, v = .pointer (some ⟨g, 0, none⟩) ∧ w.heap.size ≤ g ∧ BlkIs u g 39 zeroL.toArray) (by kernel_rfl) (by kernel_rfl) rfl (HX.out.step (Below.refl _ _).drew) (fun u u' h hb => h.step hb) ?_ ?_ ?_
  · intro i v u u' hi h hb
    match i, h with
    | 0, h => exact h
    | 1, h => exact h
    | 2, ⟨g, h1, h2⟩ => exact ⟨g, h1, h2.step hb⟩
    | 3, ⟨g, h1, h2⟩ => exact ⟨g, h1, h2.step hb⟩
    | i + 4, ⟨g, h1, h2, h3⟩ => exact ⟨g, h1, h2, h3.step hb⟩
  · intro i hi vs u hC hw o ho
    have hi' : i = 0 ∨ i = 1 ∨ i = 2 ∨ i = 3 ∨ i = 4 := by omega
    rcases hi' with rfl | rfl | rfl | rfl | rfl
    · simp at ho
      subst ho
      refine ⟨rfl, ?_⟩
      simp only [textFrame]
      go_simp
      refine grow_call ((HA.out u).mono ?_)
      rintro e u' ⟨rfl, hb⟩
      exact ⟨_, rfl, hb, rfl⟩
    · simp at ho
      subst ho
      refine ⟨rfl, ?_⟩
      rw [exec_load4 39 (.tmp 1) _ rfl rfl (loadRe hC.2.1)]
      exact grow_val rfl
    · have e0 : vs 0 = reV 1 s97 none 0 0 0 0 := hw 0 (by omega) (by kernel_rfl)
      have e1 : vs 1 = reV 4 (fun _ => false) (some ⟨u2.heap.size + 1, 0, none⟩) 1 1 0 (-1) := hw 1 (by omega) (by kernel_rfl)
      simp at ho
      subst ho
      refine ⟨rfl, ?_⟩
      simp only [textFrame, Act.put]
      rw [e0, e1]
      unfold reV reL
      go_simp
      refine grow_alloc _ ⟨_, rfl, ?_⟩
      exact rows28 (T2 := starA) (k2 := 4) (m2 := fun _ => false) (A2 := some ⟨u2.heap.size + 1, 0, none⟩) (n2 := 1) (c2 := 1) (l2 := 0) (h2 := -1) (HAT.out.1 u) hC.1
    · obtain ⟨g, e2, h2⟩ : ∃ g, vs 2 = .slice (some ⟨g, 0, none⟩) 2 2 ∧ AllAt u [ltr8 97, starA] g 0 := hw 2 (by omega) (by kernel_rfl)
      simp at ho
      subst ho
      refine ⟨rfl, ?_⟩
      simp only [textFrame, Act.put]
      rw [e2]
      go_simp
      refine grow_val ⟨⟨g, (built_re 2 (some ⟨g, 0, none⟩) 2 2 0 0).symm⟩, ?_⟩
      rw [← built_re]
      exact node_at h2 ⟨Nat.le_refl _, by decide⟩
    · simp at ho
      subst ho
      refine ⟨rfl, ?_⟩
      simp only [textFrame, Act.put]
      go_simp
      exact grow_alloc _ ⟨_, rfl, hC.2.2.size, BlkIs.new _ _ _⟩
  · intro vs u hC hbu hV
    obtain ⟨g3, e3, h3⟩ : ∃ g, vs 3 = reV 2 (fun _ => false) (some ⟨g, 0, none⟩) 2 2 0 0 ∧ exA.At u (vs 3) := hV 3 (by omega)
    obtain ⟨g4, e4, h4, hz⟩ : ∃ g, vs 4 = .pointer (some ⟨g, 0, none⟩) ∧ w.heap.size ≤ g ∧ BlkIs u g 39 zeroL.toArray := hV 4 (by omega)
    rw [e3] at h3
    have hy : InBox8 w exA g4 (some ⟨g3, 0, none⟩) 2 2 (u.setCells g4 0 (reL 2 (fun _ => false) (some ⟨g3, 0, none⟩) 2 2 0 0)) := box_put8 (T := exA) rfl h3 hz h4 hC.2.2
    obtain ⟨W4, hW4⟩ : ∃ W4, W4 = u.setCells g4 0 (reL 2 (fun _ => false) (some ⟨g3, 0, none⟩) 2 2 0 0) := ⟨_, rfl⟩
    rw [← hW4] at hy
    have HY := Lib.hid hy
    have HZ := Lib.hid hz
    clear hy hz h3 hV hC hbu HX
    simp only [textFrame, Act.put, List.getElem?_toArray, List.getElem?_cons_zero, List.getElem?_cons_succ, Option.bind_some, List.setIfInBounds_toArray, List.set_cons_zero, List.set_cons_succ, List.drop_succ_cons, List.drop_zero]
    rw [e3, e4]
    clear e3 e4
    generalize vs 0 = x0
    generalize vs 1 = x1
    generalize vs 2 = x2
    unfold reV
    refine wpList_store_mid rfl 39 (.tmp 2) (.tmp 17) rfl g4 0 (reL 2 (fun _ => false) (some ⟨g3, 0, none⟩) 2 2 0 0).toArray rfl rfl HZ.out.there info_re8 reL_all ?_
    rw [show (reL 2 (fun _ => false) (some ⟨g3, 0, none⟩) 2 2 0 0).toArray.toList = reL 2 (fun _ => false) (some ⟨g3, 0, none⟩) 2 2 0 0 from rfl, ← hW4]
    clear hW4
    go_wp2_with fail
    go_at_call 20
    refine (HA.out _).mono ?_
    rintro e u5 ⟨rfl, hb5⟩
    unfold reV reL
    go_wp2_with fail
    go_at_call 20
    refine (HB.out _).mono ?_
    rintro e u6 ⟨rfl, hb6⟩
    have HY6 := Lib.hid (HY.out.step (hb5.trans (hb6.mono hb5.size)))
    clear hb5 hb6
    unfold reV reL
    have hr1 := rows18 (HAT.out.2.1 u6)
    unfold reL at hr1
    obtain ⟨U7, hU7⟩ : ∃ U7, u6.alloc (.cells #[.int .i64 1, .int .u64 (wd s98 0 : Nat), .int .u64 (wd s98 1 : Nat), .int .u64 (wd s98 2 : Nat), .int .u64 (wd s98 3 : Nat), .slice none 0 0, .int .i64 0, .int .i64 0] 39) = U7 := ⟨_, rfl⟩
    rw [show u6.alloc (.cells ([.int .i64 1, .int .u64 (wd s98 0 : Nat), .int .u64 (wd s98 1 : Nat), .int .u64 (wd s98 2 : Nat), .int .u64 (wd s98 3 : Nat), .slice none 0 0, .int .i64 0, .int .i64 0] : List Value).toArray 39) = U7 from hU7] at hr1
    have hb7 : Below u6.heap.size u6 U7 := by rw [← hU7]; exact (Below.refl _ _).alloc (Nat.le_refl _) _
    have hs7 : U7.heap.size = u6.heap.size + 1 := by rw [← hU7]; simp
    have hob : optB.At U7 (reV 4 (fun _ => false) (some ⟨u6.heap.size, 0, none⟩) 1 1 0 1) := node_at (k := 4) (m := fun _ => false) (lo := 0) (hi := 1) (c := 1) hr1 ⟨Nat.le_refl _, by decide⟩
    have hr2 := rows28 (HAT.out.1 U7) hob
    have e4' : reL 4 (fun _ => false) (some ⟨u6.heap.size, 0, none⟩) 1 1 0 1 = (z8 4 (some ⟨u6.heap.size, 0, none⟩) 1 1).toList := by rw [z8_is]
    rw [e4'] at hr2
    clear e4'
    unfold reL z8 at hr2
    simp only [List.cons_append, List.nil_append] at hr2
    obtain ⟨U8, hU8⟩ : ∃ U8, U7.alloc (.cells #[.int .i64 1, .int .u64 (wd s97 0 : Nat), .int .u64 (wd s97 1 : Nat), .int .u64 (wd s97 2 : Nat), .int .u64 (wd s97 3 : Nat), .slice none 0 0, .int .i64 0, .int .i64 0, .int .i64 4, .int .u64 0, .int .u64 0, .int .u64 0, .int .u64 0, .slice (some ⟨u6.heap.size, 0, none⟩) 1 1, .int .i64 0, .int .i64 1] 39) = U8 := ⟨_, rfl⟩
    rw [show U7.alloc (.cells ([.int .i64 1, .int .u64 (wd s97 0 : Nat), .int .u64 (wd s97 1 : Nat), .int .u64 (wd s97 2 : Nat), .int .u64 (wd s97 3 : Nat), .slice none 0 0, .int .i64 0, .int .i64 0, .int .i64 4, .int .u64 0, .int .u64 0, .int .u64 0, .int .u64 0, .slice (some ⟨u6.heap.size, 0, none⟩) 1 1, .int .i64 0, .int .i64 1] : List Value).toArray 39) = U8 from hU8] at hr2
    have hb8 : Below u6.heap.size u6 U8 := by rw [← hU8]; exact hb7.alloc hb7.size _
    have hs8 : U8.heap.size = u6.heap.size + 2 := by rw [← hU8]; simp [hs7]
    have hbz : Below U8.heap.size U8 (U8.alloc (.cells (z8 2 (some ⟨U7.heap.size, 0, none⟩) 2 0) 39)) := (Below.refl _ _).alloc (Nat.le_refl _) _
    have hzz := BlkIs.new U8 39 zeroL.toArray
    rw [hs8] at hzz
    have hth := hzz.there
    obtain ⟨t0, t1, t2, t3, t4, t5, t6, t7⟩ := (show BlkIs _ (u6.heap.size + 2) 39 #[.int .i64 0, .int .u64 0, .int .u64 0, .int .u64 0, .int .u64 0, .slice none 0 0, .int .i64 0, .int .i64 0] from hzz).eight
    unfold zeroL at hth t0 t1 t2 t3 t4 t5 t6 t7
    have hx : InBox8 w exB U8.heap.size (some ⟨U7.heap.size, 0, none⟩) 2 2 (U8.alloc (.cells (z8 2 (some ⟨U7.heap.size, 0, none⟩) 2 0) 39)) := lit_box8 (l := [ltr8 97, optB]) (k := 2) (hi := 0) hr2 (HY6.out.2.2.trans (hb8.mono HY6.out.2.2.size)) (by decide)
    have hyA := HY6.out.step (hb8.trans (hbz.mono hb8.size))
    rw [hs7] at hyA hx
    rw [hs8] at hx
    have hEA : BlkIs (U8.alloc (.cells (z8 2 (some ⟨u6.heap.size + 1, 0, none⟩) 2 0) 39)) g4 39 (z8 2 (some ⟨g3, 0, none⟩) 2 0) := by rw [z8_is 2 (some ⟨g3, 0, none⟩) 2 0]; exact hyA.2.1
    have hEB : BlkIs (U8.alloc (.cells (z8 2 (some ⟨u6.heap.size + 1, 0, none⟩) 2 0) 39)) (u6.heap.size + 2) 39 (z8 2 (some ⟨u6.heap.size + 1, 0, none⟩) 2 0) := by rw [z8_is 2 (some ⟨u6.heap.size + 1, 0, none⟩) 2 0] at hx ⊢; exact hx.2.1
    have hrow := rows28 hyA.1 hx.1
    have hrr : reL exA.kind exA.set (some ⟨g3, 0, none⟩) 2 2 exA.lo exA.hi ++ reL exB.kind exB.set (some ⟨u6.heap.size + 1, 0, none⟩) 2 2 exB.lo exB.hi = (z8 2 (some ⟨g3, 0, none⟩) 2 0).toList ++ (z8 2 (some ⟨u6.heap.size + 1, 0, none⟩) 2 0).toList := by rw [z8_is, z8_is]; rfl
    rw [hrr] at hrow
    have hlow := hx.2.2
    unfold z8 at hEA hEB hrow hlow
    simp only [List.cons_append, List.nil_append] at hrow
    have HROW := Lib.hid (And.intro hrow hlow)
    obtain ⟨d0, d1, d2, d3, d4, d5, d6, d7⟩ := hEA.eight
    obtain ⟨f0, f1, f2, f3, f4, f5, f6, f7⟩ := hEB.eight
    clear hrow hrr hx hyA hEA hEB hbz hzz hr1 hr2 hb7 hb8 hob hlow hth
    go_wp2_with fail
    go_at_call 7
    have hrow := HROW.out.1
    have hlow := HROW.out.2
    rw [World.size_alloc, hs8] at hrow
    generalize hW9 : U8.alloc _ = W9 at hrow hlow ⊢
    have hb10 : ∀ ob, Below w.heap.size w (W9.alloc ob) := fun ob => hlow.alloc hlow.size ob
    have hb10' := hb10
    clear hb10'
    refine (exBuild_any _ 2 _ ⟨_, _, rfl, hrow⟩).mono ?_
    rintro e u11 ⟨v11, rfl, hN, hb11⟩
    have hlow11 : Below w.heap.size w u11 := (hb10 _).trans (hb11.mono (hb10 _).size)
    clear hb10 hb11 hrow hlow hW9 d0 d1 d2 d3 d4 d5 d6 d7 f0 f1 f2 f3 f4 f5 f6 f7 t0 t1 t2 t3 t4 t5 t6 t7 HROW
    obtain ⟨N, hNN⟩ : ∃ N, N = buildN [exA, exB] := ⟨_, rfl⟩
    rw [← hNN] at hN
    have HNN := Lib.hid hNN
    clear hNN
    have HN := Lib.hid (And.intro hN hlow11)
    obtain ⟨v0, v1, v2, v3, v4, rfl, hs0, hs1, hs2, hs3, hs4⟩ := hN
    obtain ⟨A0, c0, rfl, _⟩ := hs0
    obtain ⟨A1, c1, rfl, _⟩ := hs1.form
    obtain ⟨A2, c2, rfl, _⟩ := hs2.form
    obtain ⟨A3, c3, rfl, _⟩ := hs3
    obtain ⟨A4, c4, rfl, _⟩ := hs4
    clear hs1 hs2 hlow11
    go_wp2_with fail
    obtain ⟨U12, hU12⟩ : ∃ U12, u11.alloc (.cells #[.slice A0 N.sets.length c0, .slice A1 N.rules.length c1, .slice A2 N.first.length c2, .slice A3 N.follow.length c3, .slice A4 N.ends.length c4, .int .i64 N.empty] 30) = U12 := ⟨_, rfl⟩
    have hb12 : Below u11.heap.size u11 U12 := by rw [← hU12]; exact (Below.refl _ _).alloc (Nat.le_refl _) _
    have hx12 : BlkIs U12 u11.heap.size 30 #[.slice A0 N.sets.length c0, .slice A1 N.rules.length c1, .slice A2 N.first.length c2, .slice A3 N.follow.length c3, .slice A4 N.ends.length c4, .int .i64 N.empty] := by rw [← hU12]; exact BlkIs.new _ _ _
    have hN12 := HN.out.1.step hb12
    have hw12 := HN.out.2.trans (hb12.mono HN.out.2.size)
    have hrun := Run_any N ⟨#[97, 98]⟩ (by decide) _ U12 hN12
    rw [hU12]
    refine hrun.mono ?_
    rintro e u13 ⟨v13, rfl, hi13, hb13⟩
    have hran : ranL N ⟨#[97, 98]⟩ = [1, 4] := by rw [HNN.out]; exact ex_ran.1
    have hrat : ranT N ⟨#[97, 98]⟩ = 0 := by rw [HNN.out]; exact ex_ran.2
    rw [hran] at hi13
    rw [hrat]
    obtain ⟨A5, c5, rfl, _⟩ := hi13.form
    have hx13 := hx12.step hb13
    have H13 := Lib.hid (And.intro (hN12.step hb13) (And.intro (hw12.trans (hb13.mono hw12.size)) (And.intro hx13 hi13)))
    have q1 : ((N.sets.length : Int) == 5) = true := by rw [HNN.out, ex_len.1]; rfl
    have q2 : ((N.follow.length : Int) == 5) = true := by rw [HNN.out, ex_len.2]; rfl
    obtain ⟨m0, m1, m2, m3, m4, m5⟩ := six hx13
    clear hb12 hx12 hN12 hw12 hrun hran hrat hi13 hx13 hb13 hU12
    go_wp2_with fail
    have two : ∀ (W : World) (g : Nat) (a b : Int), BlkIs W g 3 #[.int .i64 a, .int .i64 b] → IntsV W [a, b] (.slice (some ⟨g, 0, none⟩) 2 2) := fun W g a b h => RunAt.ints (l := [a, b]) ⟨⟨by simp, by decide⟩, fun i hi => by
      rw [Nat.zero_add]
      match i, hi with
      | 0, _ => exact h.cell 0
      | 1, _ => exact h.cell 1⟩
    obtain ⟨x0', x1', x2', x3', x4', hv, _, _, hF, hRo, _⟩ := H13.out.1
    injection hv with hv
    simp only [Array.mk.injEq, List.cons.injEq, and_true] at hv
    obtain ⟨rfl, rfl, rfl, rfl, rfl⟩ := hv
    have hba : Below u13.heap.size u13 (u13.alloc (.cells #[.int .i64 0, .int .i64 3] 3)) := (Below.refl _ _).alloc (Nat.le_refl _) _
    refine (ints_any N.first [0, 3] _ _ _ (hF.step hba) (two _ _ _ _ (BlkIs.new _ _ _))).mono ?_
    rintro e u14 ⟨rfl, hb14⟩
    have hb14' := hba.trans (hb14.mono hba.size)
    rw [show decide (N.first = [0, 3]) = true from decide_eq_true (by rw [HNN.out]; exact ex_first)]
    have hx14 := H13.out.2.2.1.step hb14'
    have hR14 := hRo.step hb14'
    have hi14 := H13.out.2.2.2.step hb14'
    have hw14 := H13.out.2.1.trans (hb14'.mono H13.out.2.1.size)
    have hfl5 : N.follow.length = 5 := by rw [HNN.out]; exact ex_len.2
    obtain ⟨A3', c3', e3', hc3', hr3⟩ := hR14
    injection e3' with e3' _ e3''
    subst e3' e3''
    obtain ⟨b3, o3, rfl, hlt3, hr3⟩ := hr3 (by intro e; rw [e] at hfl5; simp at hfl5)
    obtain ⟨rv, hrv1, hrv2⟩ := hr3 1 (by omega)
    have hrow1 : N.follow[1]'(by omega) = [1, 2] := by
      have h1 := ex_follow
      rw [← HNN.out] at h1
      rw [← h1]
      simp [hfl5]
    rw [hrow1] at hrv2
    obtain ⟨Ar, cr, rfl, _⟩ := hrv2.form
    have h1lt : (1 : Int) < (N.follow.length : Int) := by omega
    clear m0 m1 m2 m3 m4 m5
    obtain ⟨m0, m1, m2, m3, m4, m5⟩ := six hx14
    have H14 := Lib.hid (And.intro hrv2 (And.intro hi14 hw14))
    have H5 := Lib.hid hfl5
    clear hba hb14 hb14' hF hRo hr3 hrow1 hfl5 hx14 hi14 hw14 hrv2
    go_wp2_with fail
    go_at_call 21
    have hba : Below u14.heap.size u14 (u14.alloc (.cells #[.int .i64 1, .int .i64 2] 3)) := (Below.refl _ _).alloc (Nat.le_refl _) _
    refine (ints_any [1, 2] [1, 2] _ _ _ (H14.out.1.step hba) (two _ _ _ _ (BlkIs.new _ _ _))).mono ?_
    rintro e u15 ⟨rfl, hb15⟩
    have hb15' := hba.trans (hb15.mono hba.size)
    rw [show decide (([1, 2] : List Int) = [1, 2]) = true from rfl]
    have H15 := Lib.hid (And.intro (H14.out.2.1.step hb15') (H14.out.2.2.trans (hb15'.mono H14.out.2.2.size)))
    clear hba hb15 hb15'
    go_wp2_with fail
    go_at_call 21
    have hba : Below u15.heap.size u15 (u15.alloc (.cells #[.int .i64 1, .int .i64 4] 3)) := (Below.refl _ _).alloc (Nat.le_refl _) _
    refine (ints_any [1, 4] [1, 4] _ _ _ (H15.out.1.step hba) (two _ _ _ _ (BlkIs.new _ _ _))).mono ?_
    rintro e u16 ⟨rfl, hb16⟩
    have hb16' := H15.out.2.trans ((hba.trans (hb16.mono hba.size)).mono H15.out.2.size)
    rw [show decide (([1, 4] : List Int) = [1, 4]) = true from rfl]
    have H16 := Lib.hid hb16'
    clear hba hb16 hb16'
    go_wp2
    go_ret
    exact ⟨rfl, H16.out⟩
end Go.Proofs.Ytgbljnnmhmlifaa

namespace Go.Proofs.Ytgbljnnmhmlifaa
open Go.RowKit
mutual
theorem deepW_few : ∀ T : Tree, T.deepN ≤ 1099511627776 → T.deepW = (T.deepN : Int)
  | .node k m l lo hi => fun h => by
    have h1 := deepM_few l (by simp only [Tree.deepN] at h; omega)
    have h2 : Tree.deepW (.node k m l lo hi) = wrap64 (deepM l + 1) := by unfold Tree.deepW deepM; rfl
    rw [h2, h1]
    simp only [Tree.deepN] at h ⊢
    unfold wrap64
    omega
theorem deepM_few : ∀ l : List Tree, deepL l ≤ 1099511627776 → deepM l = (deepL l : Int)
  | [] => fun _ => rfl
  | t :: r => fun h => by
    simp only [deepL] at h
    have h1 := deepM_few r (by omega)
    have h2 := deepW_few t (by omega)
    have h3 : ∀ (xs : List Int) (a b : Int), 0 ≤ a → 0 ≤ b → (xs.foldl (fun d x => if d < x then x else d) (max a b)) = max a (xs.foldl (fun d x => if d < x then x else d) b) := by
      intro xs
      induction xs with
      | nil => intro a b _ _; rfl
      | cons y ys ih =>
        intro a b ha hb
        simp only [List.foldl_cons]
        by_cases hy : b < y
        · rw [if_pos hy]
          by_cases hy2 : max a b < y
          · rw [if_pos hy2]
            have := ih a y ha (by omega)
            rw [show max a y = y by omega] at this
            exact this
          · rw [if_neg hy2]
            have := ih a y ha (by omega)
            rw [← this]; congr 1; omega
        · rw [if_neg hy, if_neg (by omega)]
          exact ih a b ha hb
    unfold deepM at h1 ⊢
    simp only [deepsW, List.foldl_cons]
    have h4 : (if (0 : Int) < t.deepW then t.deepW else 0) = max t.deepW 0 := by rw [h2]; split <;> omega
    rw [h4, h3 _ _ _ (by rw [h2]; omega) (Int.le_refl _), h1, h2]
    simp only [deepL]
    omega
end
theorem may_few {T : Tree} (h : T.nodes ≤ 1099511627776) : T.may = T.mayN := by
  unfold Tree.may Tree.mayN
  have h1 := deepW_few T (Nat.le_trans (deep_nodes T) h)
  rw [h1]
  have h2 : wrap64 (T.nodes : Int) = (T.nodes : Int) := by unfold wrap64; omega
  rw [h2]
  congr 1
  · exact decide_eq_decide.2 (by omega)
  · congr 1
    exact decide_eq_decide.2 (by omega)
mutual
theorem like_self : ∀ T : Tree, T.same T = true
  | .node k m l lo hi => by
    unfold Tree.same
    simp [setEq_refl, likeL_self l]
theorem likeL_self : ∀ l : List Tree, sameL l l = true
  | [] => by unfold sameL; rfl
  | t :: r => by unfold sameL; rw [like_self t, likeL_self r]; rfl
end

end Go.Proofs.Ytgbljnnmhmlifaa

namespace Go.Proofs.Ytgbljnnmhmlifaa
open Go.RowKit

attribute [local irreducible] FreeW

theorem TreesV.step {W W' : World} {l : List Tree} {v : Value} (h : TreesV W l v) (hb : Below W.heap.size W W') : TreesV W' l v := by
  obtain ⟨A, c, e, hc, hs⟩ := h
  refine ⟨A, c, e, hc, fun hne => ?_⟩
  obtain ⟨b, o, e2, hlt, hg⟩ := hs hne
  exact ⟨b, o, e2, Nat.lt_of_lt_of_le hlt hb.size, AllAt.mk l b o fun i hi => by
    obtain ⟨cs, h1, h2, h3⟩ := AllAt.get l b o hg i hi
    exact ⟨cs, h1.step hb, h2, rangeAt_step h3 (by intro e; rw [e] at h2; cases h2) hb⟩⟩
theorem weight5L_ge : ∀ (l : List Tree) (n : Nat), n ≤ 1000000 → (∀ t ∈ l, min t.nodes 1000000 ≤ t.weight5) → min (n + nodesL l) 1000000 ≤ weight5L l n
  | [], n, hn, _ => by simp [nodesL, weight5L]; omega
  | t :: r, n, hn, h => by
    have h1 := h t (by simp)
    have h2 := weight5L_ge r (min (n + t.weight5) 1000000) (Nat.min_le_right _ _) (fun x hx => h x (by simp [hx]))
    unfold weight5L nodesL
    omega
theorem weight5_nodes (T : Tree) : min T.nodes 1000000 ≤ T.weight5 := by
  induction T using Tree.ind with
  | h k m l lo hi ih =>
    have h1 := weight5L_ge l 1 (by omega) ih
    have h3 : min (nodesL l + 1) 1000000 ≤ weight5L l 1 := by omega
    unfold Tree.nodes Tree.weight5 weight5End
    split
    · split
      · rename_i h
        have h4 : 1 ≤ hi.toNat := by omega
        have h5 : weight5L l 1 * 1 ≤ weight5L l 1 * hi.toNat := Nat.mul_le_mul_left _ h4
        omega
      · split
        · omega
        · exact h3
    · exact h3
theorem heavy_nodes {T : Tree} (h : T.heavy = false) : T.nodes ≤ 20000 := by
  unfold Tree.heavy at h
  rw [Bool.or_eq_false_iff] at h
  have h1 := of_decide_eq_false h.2
  have h2 := weight5_nodes T
  omega
theorem light {l : List Tree} (hh : ∀ t ∈ l, t.great = false ∧ t.heavy = false) (hm : mayL l = true) : 1 ≤ l.length ∧ l.length ≤ 40 ∧ ∀ t ∈ l, t.mayN = true ∧ t.ok = true ∧ t.nodes ≤ 1048576 := by
  unfold mayL at hm
  rw [Bool.and_eq_true, Bool.and_eq_true, decide_eq_true_eq, decide_eq_true_eq, List.all_eq_true] at hm
  refine ⟨hm.2.1, hm.2.2, fun t ht => ?_⟩
  have hn := heavy_nodes (hh t ht).2
  have h1 := hm.1 t ht
  rw [may_few (by omega)] at h1
  exact ⟨h1, may_ok' h1, by omega⟩
theorem build_light {l : List Tree} (hh : ∀ t ∈ l, t.great = false ∧ t.heavy = false) (hm : mayL l = true) (hs : sumP l ≤ 150) (v : Value) (w : World) (hat : TreesV w l v) :
    Calls Try.prog 7 #[v] w fun x w' => ∃ v, x = .returned (.tuple #[v, .int .i64 0]) ∧ NfaAt w' (buildN l) v ∧ Below w.heap.size w w' := by
  obtain ⟨h1, h40, hall⟩ := light hh hm
  obtain ⟨A, c, rfl, hc, hs'⟩ := hat
  have hok : ∀ t ∈ l, t.ok = true := fun t ht => (hall t ht).2.1
  have hx := sumP_exact l hok (by omega)
  refine build_any l h1 h40 (fun t ht => (hall t ht).1) (fun t ht => part_full t (hok t ht) (hall t ht).2.2) (okTs_of hok) (fun t ht => (hall t ht).2.2) (by omega) (fun j => ?_) A c w fun hne => ?_
  · have q1 := sumP_pos (l.take j) fun t ht => hok t (List.mem_of_mem_take ht)
    have q2 := sumP_pos (l.drop j) fun t ht => hok t (List.mem_of_mem_drop ht)
    have q3 : sumP l = sumP (l.take j) + sumP (l.drop j) := by
      have : ∀ a b : List Tree, sumP (a ++ b) = sumP a + sumP b := by
        intro a b
        induction a with
        | nil => simp [sumP]
        | cons x a ih => simp only [List.cons_append, sumP, ih]; omega
      rw [← this, List.take_append_drop]
    omega
  · obtain ⟨b, o, e, _, h⟩ := hs' hne
    exact ⟨b, o, e, h⟩
theorem build_much {l : List Tree} (hh : ∀ t ∈ l, t.great = false ∧ t.heavy = false) (hm : mayL l = true) (hs : 2000 < sumP l) (v : Value) (w : World) (hat : TreesV w l v) :
    Calls Try.prog 7 #[v] w fun x w' => x = .returned (.tuple #[.agg #[.slice none 0 0, .slice none 0 0, .slice none 0 0, .slice none 0 0, .slice none 0 0, .int .i64 0], .int .i64 4]) ∧ Below w.heap.size w w' := by
  obtain ⟨h1, h40, hall⟩ := light hh hm
  obtain ⟨A, c, rfl, hc, hs'⟩ := hat
  refine build_many l h1 h40 (fun t ht => (hall t ht).1) (fun t ht => (hall t ht).2.2) hs A c w fun hne => ?_
  obtain ⟨b, o, e, _, h⟩ := hs' hne
  exact ⟨b, o, e, h⟩
end Go.Proofs.Ytgbljnnmhmlifaa

