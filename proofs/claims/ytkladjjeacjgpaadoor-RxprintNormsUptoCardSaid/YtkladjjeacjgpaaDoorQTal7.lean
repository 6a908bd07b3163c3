/-
  hacklelaw07's alive ANSWERS true: a contract. Condition: math/bits' table lies where it lies.
-/
import Derived.Test.YtkladjjeacjgpaaDoorQLay
import Derived.Test.YtkladjjeacjgpaaDoorQTalv
import Derived.Test.YtkladjjeacjgpaaDoorQTnorm
namespace Go.Proofs.YtkladjjeacjgpaaDoor
open Go.RowKit

theorem sizeS {W : World} {T : Tree} {k : Int} {m : Nat → Bool} {A : Option Addr} {n c : Nat} {lo hi : Int} (h : T.At W (reV k m A n c lo hi)) : T.At W (.agg (reL k m A n c lo hi).toArray) ∧ (reL k m A n c lo hi).length = 8 := ⟨h, rfl⟩
theorem ltr_at (W : World) (b : Int) : (ltr b).At W (reV 1 (sRange b b) none 0 0 0 0) := leaf_at
theorem rows2 {W : World} {T1 T2 : Tree} {k1 l1 h1 k2 l2 h2 : Int} {m1 m2 : Nat → Bool} {A1 A2 : Option Addr} {n1 c1 n2 c2 : Nat} (a1 : T1.At W (reV k1 m1 A1 n1 c1 l1 h1)) (a2 : T2.At W (reV k2 m2 A2 n2 c2 l2 h2)) :
    AllAt (W.alloc (.cells (reL k1 m1 A1 n1 c1 l1 h1 ++ reL k2 m2 A2 n2 c2 l2 h2).toArray 27)) [T1, T2] W.heap.size 0 := by
  have := laid_rows (W := W) 27 [T1, T2] [reL k1 m1 A1 n1 c1 l1 h1, reL k2 m2 A2 n2 c2 l2 h2] rfl (fun i h h' => by
    match i, h, h' with
    | 0, _, _ => exact sizeS a1
    | 1, _, _ => exact sizeS a2)
  exact this
theorem rows1 {W : World} {T1 : Tree} {k1 l1 h1 : Int} {m1 : Nat → Bool} {A1 : Option Addr} {n1 c1 : Nat} (a1 : T1.At W (reV k1 m1 A1 n1 c1 l1 h1)) :
    AllAt (W.alloc (.cells (reL k1 m1 A1 n1 c1 l1 h1).toArray 27)) [T1] W.heap.size 0 := by
  have := laid_rows (W := W) 27 [T1] [reL k1 m1 A1 n1 c1 l1 h1] rfl (fun i h h' => by
    match i, h, h' with
    | 0, _, _ => exact sizeS a1)
  exact this
theorem rows3 {W : World} {T1 T2 T3 : Tree} {k1 l1 h1 k2 l2 h2 k3 l3 h3 : Int} {m1 m2 m3 : Nat → Bool} {A1 A2 A3 : Option Addr} {n1 c1 n2 c2 n3 c3 : Nat} (a1 : T1.At W (reV k1 m1 A1 n1 c1 l1 h1)) (a2 : T2.At W (reV k2 m2 A2 n2 c2 l2 h2)) (a3 : T3.At W (reV k3 m3 A3 n3 c3 l3 h3)) :
    AllAt (W.alloc (.cells (reL k1 m1 A1 n1 c1 l1 h1 ++ (reL k2 m2 A2 n2 c2 l2 h2 ++ reL k3 m3 A3 n3 c3 l3 h3)).toArray 27)) [T1, T2, T3] W.heap.size 0 := by
  have := laid_rows (W := W) 27 [T1, T2, T3] [reL k1 m1 A1 n1 c1 l1 h1, reL k2 m2 A2 n2 c2 l2 h2, reL k3 m3 A3 n3 c3 l3 h3] rfl (fun i h h' => by
    match i, h, h' with
    | 0, _, _ => exact sizeS a1
    | 1, _, _ => exact sizeS a2
    | 2, _, _ => exact sizeS a3)
  exact this

def cdT : Tree := .node 2 (fun _ => false) [ltr 99, ltr 100] 0 0
def altT : Tree := .node 3 (fun _ => false) [ltr 98, cdT] 0 0
def starT : Tree := .node 4 (fun _ => false) [altT] 0 (-1)
theorem exP_is : exP = .node 2 (fun _ => false) [ltr 97, starT] 0 0 := rfl

/-- what lies there: a tree, in its box -/
def InBox (w : World) (T : Tree) (g : Nat) (A : Option Addr) (n c : Nat) (u : World) : Prop := T.At u (reV T.kind T.set A n c T.lo T.hi) ∧ BlkIs u g 27 (reL T.kind T.set A n c T.lo T.hi).toArray ∧ Below w.heap.size w u
theorem InBox.step {w u u' : World} {T : Tree} {g : Nat} {A : Option Addr} {n c : Nat} (h : InBox w T g A n c u) (hb : Below u.heap.size u u') : InBox w T g A n c u' := ⟨h.1.step hb, h.2.1.step hb, h.2.2.trans (hb.mono h.2.2.size)⟩
theorem box_put {w u : World} {T : Tree} {g : Nat} {A : Option Addr} {n c : Nat} (hl : T.lit = true) (h : T.At u (reV T.kind T.set A n c T.lo T.hi)) (hz : BlkIs u g 27 zeroL.toArray) (hg : w.heap.size ≤ g) (hb : Below w.heap.size w u) :
    InBox w T g A n c (u.setCells g 0 (reL T.kind T.set A n c T.lo T.hi)) :=
  ⟨lit_far hz (fun p v hp hv => cells_far _ p v hp hv) T hl h, store_re hz rfl, below_cells g _ 0 _ hg hb⟩

/-- a node of two Subs, made by a literal, in its box -/
theorem lit_box2 {w u : World} {T1 T2 : Tree} {k k1 l1 h1 k2 l2 h2 : Int} {m1 m2 : Nat → Bool} {A1 A2 : Option Addr} {n1 c1 n2 c2 : Nat} (a1 : T1.At u (reV k1 m1 A1 n1 c1 l1 h1)) (a2 : T2.At u (reV k2 m2 A2 n2 c2 l2 h2)) (hb : Below w.heap.size w u) :
    InBox w (.node k (fun _ => false) [T1, T2] 0 0) (u.heap.size + 1) (some ⟨u.heap.size, 0, none⟩) 2 2 ((u.alloc (.cells (reL k1 m1 A1 n1 c1 l1 h1 ++ reL k2 m2 A2 n2 c2 l2 h2).toArray 27)).alloc
      (.cells #[.int .i64 k, .int .u64 0, .int .u64 0, .int .u64 0, .int .u64 0, .slice (some ⟨u.heap.size, 0, none⟩) 2 2, .int .i64 0, .int .i64 0] 27)) := by
  have hr := rows2 a1 a2
  have hn := node_at (k := k) (m := fun _ => false) (lo := 0) (hi := 0) (c := 2) hr ⟨Nat.le_refl _, by decide⟩
  generalize hU : u.alloc (.cells (reL k1 m1 A1 n1 c1 l1 h1 ++ reL k2 m2 A2 n2 c2 l2 h2).toArray 27) = U at *
  have hs : U.heap.size = u.heap.size + 1 := by rw [← hU]; simp
  have hbU : Below w.heap.size w U := by rw [← hU]; exact hb.alloc hb.size _
  have e := built_re k (some ⟨u.heap.size, 0, none⟩) 2 2 0 0
  unfold reV at e
  injection e with e
  have hx := BlkIs.new U 27 #[.int .i64 k, .int .u64 0, .int .u64 0, .int .u64 0, .int .u64 0, .slice (some ⟨u.heap.size, 0, none⟩) 2 2, .int .i64 0, .int .i64 0]
  rw [hs] at hx
  refine ⟨hn.step ((Below.refl _ _).alloc (Nat.le_refl _) _), ?_, hbU.alloc hbU.size _⟩
  rw [← e] at hx
  rw [← e]
  exact hx

theorem exP_is_text : textOf exP = ⟨#[97, 40, 98, 124, 99, 100, 41, 42]⟩ := by
  have h := exP_text
  obtain ⟨d, hd⟩ : ∃ d, textOf exP = ⟨d⟩ := ⟨_, rfl⟩
  rw [hd] at h ⊢
  have : d = #[97, 40, 98, 124, 99, 100, 41, 42] := by apply Array.ext'; exact h
  rw [this]
theorem exP_printed : printed exP = .tuple #[.string ⟨#[97, 40, 98, 124, 99, 100, 41, 42]⟩, .int .i64 0] := by
  unfold printed
  rw [if_pos exP_may, exP_is_text, if_neg (by decide)]
def emT : Tree := .node 0 (fun _ => false) [] 0 0
def inT : Tree := .node 2 (fun _ => false) [emT, ltr 97] 0 0
theorem exN_is : exN = .node 3 (fun _ => false) [ltr 97, ltr 98, inT] 0 0 := rfl
/-- the second example, made by a literal -/
theorem lit_exN {u : World} {m1 m2 : Nat → Bool} (a1 : (ltr 97).At u (reV 1 m1 none 0 0 0 0)) (a2 : (ltr 98).At u (reV 1 m2 none 0 0 0 0)) :
    exN.At ((u.alloc (.cells (#[.int .i64 0, .int .u64 0, .int .u64 0, .int .u64 0, .int .u64 0, .slice none 0 0, .int .i64 0, .int .i64 0, .int .i64 1, .int .u64 (wd m1 0 : Nat), .int .u64 (wd m1 1 : Nat), .int .u64 (wd m1 2 : Nat), .int .u64 (wd m1 3 : Nat), .slice none 0 0, .int .i64 0, .int .i64 0]) 27)).alloc
      (.cells (#[.int .i64 1, .int .u64 (wd m1 0 : Nat), .int .u64 (wd m1 1 : Nat), .int .u64 (wd m1 2 : Nat), .int .u64 (wd m1 3 : Nat), .slice none 0 0, .int .i64 0, .int .i64 0, .int .i64 1, .int .u64 (wd m2 0 : Nat), .int .u64 (wd m2 1 : Nat), .int .u64 (wd m2 2 : Nat), .int .u64 (wd m2 3 : Nat), .slice none 0 0, .int .i64 0, .int .i64 0,
        .int .i64 2, .int .u64 0, .int .u64 0, .int .u64 0, .int .u64 0, .slice (some ⟨u.heap.size, 0, none⟩) 2 2, .int .i64 0, .int .i64 0]) 27)) (reV 3 (fun _ => false) (some ⟨u.heap.size + 1, 0, none⟩) 3 3 0 0) := by
  have e0 : (zeroL : List Value) = reL 0 (fun _ => false) none 0 0 0 0 := zeroL_is
  have hr := rows2 (T1 := emT) (T2 := ltr 97) (at_none 0 u) a1
  rw [← e0] at hr
  generalize hU : u.alloc (.cells (zeroL ++ reL 1 m1 none 0 0 0 0).toArray 27) = U at hr
  have hU' : u.alloc (.cells (#[.int .i64 0, .int .u64 0, .int .u64 0, .int .u64 0, .int .u64 0, .slice none 0 0, .int .i64 0, .int .i64 0, .int .i64 1, .int .u64 (wd m1 0 : Nat), .int .u64 (wd m1 1 : Nat), .int .u64 (wd m1 2 : Nat), .int .u64 (wd m1 3 : Nat), .slice none 0 0, .int .i64 0, .int .i64 0]) 27) = U := hU
  rw [hU']
  have hb : Below u.heap.size u U := by rw [← hU]; exact (Below.refl _ _).alloc (Nat.le_refl _) _
  have hs : U.heap.size = u.heap.size + 1 := by rw [← hU]; simp
  have hn := node_at (k := 2) (m := fun _ => false) (lo := 0) (hi := 0) (c := 2) hr ⟨Nat.le_refl _, by decide⟩
  have hq := rows3 (a1.step hb) (a2.step hb) hn
  rw [hs] at hq
  have e2 := built_re 2 (some ⟨u.heap.size, 0, none⟩) 2 2 0 0
  unfold reV at e2
  injection e2 with e2
  have e3 : reL 2 (fun _ => false) (some ⟨u.heap.size, 0, none⟩) 2 2 0 0 = [.int .i64 2, .int .u64 0, .int .u64 0, .int .u64 0, .int .u64 0, .slice (some ⟨u.heap.size, 0, none⟩) 2 2, .int .i64 0, .int .i64 0] := List.toArray_inj e2
  have hq' : AllAt (U.alloc (.cells (reL 1 m1 none 0 0 0 0 ++ (reL 1 m2 none 0 0 0 0 ++ reL 2 (fun _ => false) (some ⟨u.heap.size, 0, none⟩) 2 2 0 0)).toArray 27)) [ltr 97, ltr 98, inT] (u.heap.size + 1) 0 := hq
  rw [e3] at hq'
  exact node_at (k := 3) (m := fun _ => false) (lo := 0) (hi := 0) (c := 3) hq' ⟨Nat.le_refl _, by decide⟩
theorem exN_nodes : exN.nodes ≤ 1099511627776 := by decide +kernel

set_option maxRecDepth 20000 in
set_option maxHeartbeats 8000000 in
theorem alive7_any (w : World) (hT : Tab w) : Calls Tryd.prog 6 #[] w fun e w' => e = .returned (.bool true) ∧ Below w.heap.size w w' := by
  have HA := Lib.hid (show ∀ u, Calls Tryd.prog 18 #[.int .i64 97] u fun e u' => e = .returned (reV 1 (sRange 97 97) none 0 0 0 0) ∧ Below u.heap.size u u' from fun u => letter_any 97 (by omega) u)
  have HB := Lib.hid (show ∀ u, Calls Tryd.prog 18 #[.int .i64 98] u fun e u' => e = .returned (reV 1 (sRange 98 98) none 0 0 0 0) ∧ Below u.heap.size u u' from fun u => letter_any 98 (by omega) u)
  have HC := Lib.hid (show ∀ u, Calls Tryd.prog 18 #[.int .i64 99] u fun e u' => e = .returned (reV 1 (sRange 99 99) none 0 0 0 0) ∧ Below u.heap.size u u' from fun u => letter_any 99 (by omega) u)
  have HD := Lib.hid (show ∀ u, Calls Tryd.prog 18 #[.int .i64 100] u fun e u' => e = .returned (reV 1 (sRange 100 100) none 0 0 0 0) ∧ Below u.heap.size u u' from fun u => letter_any 100 (by omega) u)
  have h97 := fun (W : World) => ltr_at W 97
  have h98 := fun (W : World) => ltr_at W 98
  have h99 := fun (W : World) => ltr_at W 99
  have h100 := fun (W : World) => ltr_at W 100
  generalize hs97 : sRange 97 97 = s97 at *
  generalize hs98 : sRange 98 98 = s98 at *
  generalize hs99 : sRange 99 99 = s99 at *
  generalize hs100 : sRange 100 100 = s100 at *
  have HAT := Lib.hid (And.intro h97 (And.intro h98 (And.intro h99 h100)))
  clear h97 h98 h99 h100
  go_enter Tryd.func6, Tryd.ntmps6
  go_wp2_with (first
    | (go_at_call 18; (with_reducible refine (HC.out _).mono ?_); rintro e u1 ⟨rfl, hb1⟩; unfold reV reL)
    | (go_at_call 18; (with_reducible refine (HD.out _).mono ?_); rintro e u2 ⟨rfl, hb2⟩; have HB2 := Lib.hid (hb1.trans (hb2.mono hb1.size)); clear hb1 hb2; unfold reV reL))
  have hx := lit_box2 (w := w) (k := 2) (HAT.out.2.2.1 u2) (HAT.out.2.2.2 u2) HB2.out
  unfold reL at hx
  simp only [List.cons_append, List.nil_append] at hx
  generalize hW3 : World.alloc (World.alloc u2 _) _ = W3 at hx ⊢
  have HX : Hid (InBox w cdT (u2.heap.size + 1) (some ⟨u2.heap.size, 0, none⟩) 2 2 W3) := Lib.hid hx
  clear hx
  refine wp_region_grow 5 55 (fun u => InBox w cdT (u2.heap.size + 1) (some ⟨u2.heap.size, 0, none⟩) 2 2 u) (fun i v u => match i with
    | 0 => v = reV 1 s98 none 0 0 0 0
    | 1 => v = reV 2 (fun _ => false) (some ⟨u2.heap.size, 0, none⟩) 2 2 0 0
    | 2 => ∃ g, v = .slice (some ⟨g, 0, none⟩) 2 2 ∧ AllAt u [ltr 98, cdT] g 0
    | 3 => ∃ g, v = reV 3 (fun _ => false) (some ⟨g, 0, none⟩) 2 2 0 0 ∧ altT.At u v
    | _ => ∃ g, v = .pointer (some ⟨g, 0, none⟩) ∧ w.heap.size ≤ g ∧ BlkIs u g 27 zeroL.toArray) (by kernel_rfl) (by kernel_rfl) rfl (HX.out.step (Below.refl _ _).drew) (fun u u' h hb => h.step hb) ?_ ?_ ?_
  · intro i v u u' hi h hb
    match i, h with
    | 0, h => exact h
    | 1, h => exact h
    | 2, ⟨g, h1, h2⟩ => exact ⟨g, h1, h2.step hb⟩
    | 3, ⟨g, h1, h2⟩ => exact ⟨g, h1, h2.step hb⟩
    | i + 4, ⟨g, h1, h2, h3⟩ => exact ⟨g, h1, h2, h3.step hb⟩
  · intro i hi vs u hC hw o ho
    have hi' : i = 0 ∨ i = 1 ∨ i = 2 ∨ i = 3 ∨ i = 4 := by omega
    rcases hi' with rfl | rfl | rfl | rfl | rfl
    · simp at ho
      subst ho
      refine ⟨rfl, ?_⟩
      simp only [textFrame]
      go_simp
      refine grow_call ((HB.out u).mono ?_)
      rintro e u' ⟨rfl, hb⟩
      exact ⟨_, rfl, hb, rfl⟩
    · simp at ho
      subst ho
      refine ⟨rfl, ?_⟩
      rw [exec_load4 27 (.tmp 1) _ rfl rfl (loadRe hC.2.1)]
      exact grow_val rfl
    · have e0 : vs 0 = reV 1 s98 none 0 0 0 0 := hw 0 (by omega) (by kernel_rfl)
      have e1 : vs 1 = reV 2 (fun _ => false) (some ⟨u2.heap.size, 0, none⟩) 2 2 0 0 := hw 1 (by omega) (by kernel_rfl)
      simp at ho
      subst ho
      refine ⟨rfl, ?_⟩
      simp only [textFrame, Act.put]
      rw [e0, e1]
      unfold reV reL
      go_simp
      refine grow_alloc _ ⟨_, rfl, ?_⟩
      exact rows2 (T2 := cdT) (k2 := 2) (m2 := fun _ => false) (A2 := some ⟨u2.heap.size, 0, none⟩) (n2 := 2) (c2 := 2) (l2 := 0) (h2 := 0) (HAT.out.2.1 u) hC.1
    · obtain ⟨g, e2, h2⟩ : ∃ g, vs 2 = .slice (some ⟨g, 0, none⟩) 2 2 ∧ AllAt u [ltr 98, cdT] g 0 := hw 2 (by omega) (by kernel_rfl)
      simp at ho
      subst ho
      refine ⟨rfl, ?_⟩
      simp only [textFrame, Act.put]
      rw [e2]
      go_simp
      refine grow_val ⟨⟨g, (built_re 3 (some ⟨g, 0, none⟩) 2 2 0 0).symm⟩, ?_⟩
      rw [← built_re]
      exact node_at h2 ⟨Nat.le_refl _, by decide⟩
    · simp at ho
      subst ho
      refine ⟨rfl, ?_⟩
      simp only [textFrame, Act.put]
      go_simp
      exact grow_alloc _ ⟨_, rfl, hC.2.2.size, BlkIs.new _ _ _⟩
  · intro vs u hC hbu hV
    obtain ⟨g3, e3, h3⟩ : ∃ g, vs 3 = reV 3 (fun _ => false) (some ⟨g, 0, none⟩) 2 2 0 0 ∧ altT.At u (vs 3) := hV 3 (by omega)
    obtain ⟨g4, e4, h4, hz⟩ : ∃ g, vs 4 = .pointer (some ⟨g, 0, none⟩) ∧ w.heap.size ≤ g ∧ BlkIs u g 27 zeroL.toArray := hV 4 (by omega)
    rw [e3] at h3
    have hy : InBox w altT g4 (some ⟨g3, 0, none⟩) 2 2 (u.setCells g4 0 (reL 3 (fun _ => false) (some ⟨g3, 0, none⟩) 2 2 0 0)) := box_put (T := altT) rfl h3 hz h4 hC.2.2
    obtain ⟨W4, hW4⟩ : ∃ W4, W4 = u.setCells g4 0 (reL 3 (fun _ => false) (some ⟨g3, 0, none⟩) 2 2 0 0) := ⟨_, rfl⟩
    rw [← hW4] at hy
    have HY := Lib.hid hy
    have HZ := Lib.hid hz
    clear hy hz h3 hV hC hbu HX
    simp only [textFrame, Act.put, List.getElem?_toArray, List.getElem?_cons_zero, List.getElem?_cons_succ, Option.bind_some, List.setIfInBounds_toArray, List.set_cons_zero, List.set_cons_succ, List.drop_succ_cons, List.drop_zero]
    rw [e3, e4]
    clear e3 e4
    generalize vs 0 = x0
    generalize vs 1 = x1
    generalize vs 2 = x2
    unfold reV
    go_wp2_with (refine wpList_store_mid rfl 27 (.tmp 2) (.tmp 15) rfl g4 0 (reL 3 (fun _ => false) (some ⟨g3, 0, none⟩) 2 2 0 0).toArray rfl rfl HZ.out.there info_re8 reL_all ?_)
    rw [← hW4]
    refine wp_region_grow 7 55 (fun u => InBox w altT g4 (some ⟨g3, 0, none⟩) 2 2 u) (fun i v u => match i with
      | 0 => v = reV 1 s97 none 0 0 0 0
      | 1 => v = reV 3 (fun _ => false) (some ⟨g3, 0, none⟩) 2 2 0 0
      | 2 => ∃ g, v = .slice (some ⟨g, 0, none⟩) 1 1 ∧ AllAt u [altT] g 0
      | 3 => ∃ g, v = reV 4 (fun _ => false) (some ⟨g, 0, none⟩) 1 1 0 (-1) ∧ starT.At u v
      | 4 => ∃ g, v = .slice (some ⟨g, 0, none⟩) 2 2 ∧ AllAt u [ltr 97, starT] g 0
      | 5 => ∃ g, v = reV 2 (fun _ => false) (some ⟨g, 0, none⟩) 2 2 0 0 ∧ exP.At u v
      | _ => ∃ g, v = .pointer (some ⟨g, 0, none⟩) ∧ w.heap.size ≤ g ∧ BlkIs u g 27 zeroL.toArray) (by kernel_rfl) (by kernel_rfl) rfl (HY.out.step (Below.refl _ _).drew) (fun u u' h hb => h.step hb) ?_ ?_ ?_
    · intro i v u u' hi h hb
      match i, h with
      | 0, h => exact h
      | 1, h => exact h
      | 2, ⟨g, h1, h2⟩ => exact ⟨g, h1, h2.step hb⟩
      | 3, ⟨g, h1, h2⟩ => exact ⟨g, h1, h2.step hb⟩
      | 4, ⟨g, h1, h2⟩ => exact ⟨g, h1, h2.step hb⟩
      | 5, ⟨g, h1, h2⟩ => exact ⟨g, h1, h2.step hb⟩
      | i + 6, ⟨g, h1, h2, h3⟩ => exact ⟨g, h1, h2, h3.step hb⟩
    · intro i hi vs u hC hw o ho
      have hi' : i = 0 ∨ i = 1 ∨ i = 2 ∨ i = 3 ∨ i = 4 ∨ i = 5 ∨ i = 6 := by omega
      rcases hi' with rfl | rfl | rfl | rfl | rfl | rfl | rfl
      · simp at ho
        subst ho
        refine ⟨rfl, ?_⟩
        simp only [textFrame]
        go_simp
        refine grow_call ((HA.out u).mono ?_)
        rintro e u' ⟨rfl, hb⟩
        exact ⟨_, rfl, hb, rfl⟩
      · simp at ho
        subst ho
        refine ⟨rfl, ?_⟩
        rw [exec_load4 27 (.tmp 2) _ rfl rfl (loadRe hC.2.1)]
        exact grow_val rfl
      · have e1 : vs 1 = reV 3 (fun _ => false) (some ⟨g3, 0, none⟩) 2 2 0 0 := hw 1 (by omega) (by kernel_rfl)
        simp at ho
        subst ho
        refine ⟨rfl, ?_⟩
        simp only [textFrame, Act.put]
        rw [e1]
        unfold reV reL
        go_simp
        refine grow_alloc _ ⟨_, rfl, ?_⟩
        exact rows1 (T1 := altT) (k1 := 3) (m1 := fun _ => false) (A1 := some ⟨g3, 0, none⟩) (n1 := 2) (c1 := 2) (l1 := 0) (h1 := 0) hC.1
      · obtain ⟨g, e2, h2⟩ : ∃ g, vs 2 = .slice (some ⟨g, 0, none⟩) 1 1 ∧ AllAt u [altT] g 0 := hw 2 (by omega) (by kernel_rfl)
        simp at ho
        subst ho
        refine ⟨rfl, ?_⟩
        simp only [textFrame, Act.put]
        rw [e2]
        go_simp
        refine grow_val ⟨⟨g, (built_re 4 (some ⟨g, 0, none⟩) 1 1 0 (-1)).symm⟩, ?_⟩
        rw [← built_re]
        exact node_at h2 ⟨Nat.le_refl _, by decide⟩
      · have e0 : vs 0 = reV 1 s97 none 0 0 0 0 := hw 0 (by omega) (by kernel_rfl)
        obtain ⟨g, e3, h3⟩ : ∃ g, vs 3 = reV 4 (fun _ => false) (some ⟨g, 0, none⟩) 1 1 0 (-1) ∧ starT.At u (vs 3) := hw 3 (by omega) (by kernel_rfl)
        rw [e3] at h3
        simp at ho
        subst ho
        refine ⟨rfl, ?_⟩
        simp only [textFrame, Act.put]
        rw [e0, e3]
        unfold reV reL
        go_simp
        refine grow_alloc _ ⟨_, rfl, ?_⟩
        exact rows2 (HAT.out.1 u) h3
      · obtain ⟨g, e4, h4⟩ : ∃ g, vs 4 = .slice (some ⟨g, 0, none⟩) 2 2 ∧ AllAt u [ltr 97, starT] g 0 := hw 4 (by omega) (by kernel_rfl)
        simp at ho
        subst ho
        refine ⟨rfl, ?_⟩
        simp only [textFrame, Act.put]
        rw [e4]
        go_simp
        refine grow_val ⟨⟨g, (built_re 2 (some ⟨g, 0, none⟩) 2 2 0 0).symm⟩, ?_⟩
        rw [← built_re]
        exact node_at h4 ⟨Nat.le_refl _, by decide⟩
      · simp at ho
        subst ho
        refine ⟨rfl, ?_⟩
        simp only [textFrame, Act.put]
        go_simp
        exact grow_alloc _ ⟨_, rfl, hC.2.2.size, BlkIs.new _ _ _⟩
    · intro vs u hC hbu hV
      obtain ⟨g5, e5, h5⟩ : ∃ g, vs 5 = reV 2 (fun _ => false) (some ⟨g, 0, none⟩) 2 2 0 0 ∧ exP.At u (vs 5) := hV 5 (by omega)
      obtain ⟨g6, e6, h6, hz⟩ : ∃ g, vs 6 = .pointer (some ⟨g, 0, none⟩) ∧ w.heap.size ≤ g ∧ BlkIs u g 27 zeroL.toArray := hV 6 (by omega)
      rw [e5] at h5
      have hy : InBox w exP g6 (some ⟨g5, 0, none⟩) 2 2 (u.setCells g6 0 (reL 2 (fun _ => false) (some ⟨g5, 0, none⟩) 2 2 0 0)) := box_put (T := exP) rfl h5 hz h6 hC.2.2
      obtain ⟨W5, hW5⟩ : ∃ W5, W5 = u.setCells g6 0 (reL 2 (fun _ => false) (some ⟨g5, 0, none⟩) 2 2 0 0) := ⟨_, rfl⟩
      rw [← hW5] at hy
      have HP := Lib.hid hy
      have HZ := Lib.hid hz
      clear hy hz h5 hV hC hbu HY
      simp only [textFrame, Act.put, List.getElem?_toArray, List.getElem?_cons_zero, List.getElem?_cons_succ, Option.bind_some, List.setIfInBounds_toArray, List.set_cons_zero, List.set_cons_succ, List.drop_succ_cons, List.drop_zero]
      rw [e5, e6]
      clear e5 e6
      generalize vs 0 = y0
      generalize vs 1 = y1
      generalize vs 2 = y2
      generalize vs 3 = y3
      generalize vs 4 = y4
      unfold reV
      have HW5 := Lib.hid hW5
      clear hW5
      obtain ⟨c0, c1, c2, c3, c4, c5, c6, c7⟩ := HP.out.2.1.eight
      have hpr := fun u (h : InBox w exP g6 (some ⟨g5, 0, none⟩) 2 2 u) => print_any exP _ u h.1 (by decide +kernel) (hT.step h.2.2)
      rw [exP_printed] at hpr
      have HPR := Lib.hid hpr
      have HN := Lib.hid (fun (u : World) (v : Value) (h : exN.At u v) => (norm_any exN v u h exN_nodes))
      have hsm := fun (u : World) (v : Value) (h : exN.plain.At u v) => refSame_any exN.plain (.node 1 (sRange 97 98) [] 0 0) v (reV 1 (sRange 97 98) none 0 0 0 0) u h leaf_at
      rw [exN_plain] at hsm
      have HR9 := Lib.hid (show ∀ u, Calls Tryd.prog 19 #[.int .i64 97, .int .i64 98] u fun e w' => e = .returned (setV (sRange 97 98)) ∧ Below u.heap.size u w' from fun u => refRange_any 97 98 (by decide) u)
      generalize sRange 97 98 = s9 at *
      have HSM := Lib.hid hsm
      have HMY := Lib.hid exN_may
      have HLN := Lib.hid (fun (u : World) => lit_exN (HAT.out.1 u) (HAT.out.2.1 u))
      clear hpr hsm hT
      unfold setV at HR9
      generalize exP = eP at *
      generalize exN = eN at *
      go_wp2_with (first
        | (refine wpList_store_mid rfl 27 (.tmp 3) (.tmp 21) rfl g6 0 (reL 2 (fun _ => false) (some ⟨g5, 0, none⟩) 2 2 0 0).toArray rfl rfl HZ.out.there info_re8 reL_all ?_; rw [← HW5.out])
        | (go_at_call 16; go_must (refine (HPR.out W5 HP.out).mono ?_); rintro e u ⟨rfl, hb⟩; have HQ := Lib.hid (HP.out.2.2.trans (hb.mono HP.out.2.2.size)); clear hb c0 c1 c2 c3 c4 c5 c6 c7)
        | (go_at_call 18; (first | (with_reducible refine (HA.out _).mono ?_) | (with_reducible refine (HB.out _).mono ?_)); rintro e u ⟨rfl, hb⟩; have HQ := Lib.hid (HQ.out.trans (hb.mono HQ.out.size)); clear hb; unfold reV reL)
        | (go_at_call 8
           go_must (refine (HN.out _ _ (HLN.out _)).mono ?_)
           rintro e u8 ⟨hb, hy, _⟩
           obtain ⟨v8, rfl, hv⟩ := hy HMY.out
           have hq1 := HQ.out.alloc HQ.out.size (.cells (#[.int .i64 0, .int .u64 0, .int .u64 0, .int .u64 0, .int .u64 0, .slice none 0 0, .int .i64 0, .int .i64 0, .int .i64 1, .int .u64 (wd s97 0 : Nat), .int .u64 (wd s97 1 : Nat), .int .u64 (wd s97 2 : Nat), .int .u64 (wd s97 3 : Nat), .slice none 0 0, .int .i64 0, .int .i64 0]) 27)
           have HQ := Lib.hid ((hq1.alloc hq1.size _).trans (hb.mono (hq1.alloc hq1.size _).size))
           obtain ⟨A8, n8, cc8, rfl⟩ := hv.form
           have HV := Lib.hid hv
           clear hb hy hv hq1
           obtain ⟨W9, hW9⟩ : ∃ W9, W9 = (u8.alloc (.cells zeroL.toArray 27)).setCells u8.heap.size 0 (reL eN.plain.kind eN.plain.set A8 n8 cc8 eN.plain.lo eN.plain.hi) := ⟨_, rfl⟩
           have hx9 : InBox w eN.plain u8.heap.size A8 n8 cc8 W9 := by
             have hbz := BlkIs.new u8 27 zeroL.toArray
             have h9 := (Below.refl u8.heap.size u8).alloc (Nat.le_refl _) (.cells zeroL.toArray 27)
             have h9' := below_cells (w0 := u8) (B := u8.heap.size) u8.heap.size (reL eN.plain.kind eN.plain.set A8 n8 cc8 eN.plain.lo eN.plain.hi) 0 _ (Nat.le_refl _) h9
             rw [← hW9] at h9'
             refine ⟨HV.out.step h9', ?_, HQ.out.trans (h9'.mono HQ.out.size)⟩
             rw [hW9]
             exact store_re hbz rfl
           have H9 := Lib.hid hx9
           have HW9 := Lib.hid hW9
           have HZ9 := Lib.hid (BlkIs.new u8 27 zeroL.toArray)
           clear hx9 hW9
           unfold zeroL at HW9 HZ9
           unfold reV)
        | (refine wpList_store_mid rfl 27 (.tmp 6) (.tmp 37) rfl _ 0 (reL eN.plain.kind eN.plain.set A8 n8 cc8 eN.plain.lo eN.plain.hi).toArray rfl rfl HZ9.out.there info_re8 reL_all ?_; rw [← HW9.out]))
      refine wp_region_reads 55 (fun u => InBox w eN.plain u8.heap.size A8 n8 cc8 u) (by kernel_rfl) (by kernel_rfl) rfl (H9.out.step (Below.refl _ _).drew) (fun u u' h hb => h.step hb) ?_
      generalize u8.heap.size = g9 at *
      repeat
        refine freeW_step fun K hK => ?_
        (first
          | (refine freeW_yes 2 41 true rfl rfl ?_ ?_; (focus (go_simp; done)))
          | (refine freeW_yes 6 45 true rfl rfl ?_ ?_; (focus (go_simp; done)))
          | (refine freeW_yes 10 49 true rfl rfl ?_ ?_; (focus (go_simp; done)))
          | skip)
        go_simp
        apply Exists.intro
        refine ⟨fun u h1 => ?_, hK _ ?_⟩
        · have h1' := Lib.hid h1
          clear h1
          obtain ⟨c0, c1, c2, c3, c4, c5, c6, c7⟩ := h1'.out.2.1.eight
          unfold freeAt
          go_simp
          first
            | exact free_val
            | (apply free_call
               first
                 | (go_at_call 19; exact HR9.out _)
                 | (go_at_call 10; exact HSM.out _ _ h1'.out.1)
               )
        clear hK K
      refine freeW_nil ?_
      intro u hu _
      have HU := Lib.hid hu
      clear hu
      go_wp2
      go_ret
      exact ⟨rfl, HU.out.2.2⟩
end Go.Proofs.YtkladjjeacjgpaaDoor

