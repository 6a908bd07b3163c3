/-
  WHAT hackleref04's May and Same ANSWER, at every tree: contracts. No condition.
-/
import Derived.Test.YtngagijcdehjpaaRef4
import Derived.Test.YtngagijcdehjpaaFree
namespace Go.Proofs.Ytngagijcdehjpaa
open Go.RowKit

def Tree.may (T : Tree) : Bool := decide (wrap64 (T.nodes : Int) ≤ 300) && (decide (T.deepW ≤ 30) && T.ok)

theorem wrap_is (x : Int) : IntKind.i64.wrap x = wrap64 x := by unfold wrap64; exact IntKind.wrap_i64 x

set_option maxHeartbeats 1000000 in
theorem refMayRe_any (T : Tree) (v : Value) (w : World) (hat : T.At w v) : Calls Try.prog 13 #[v] w fun e w' => e = .returned (.bool T.may) ∧ Below w.heap.size w w' := by
  have H1 := Lib.hid (fun W (h : T.At W v) => refNodes_any T v W h)
  have H2 := Lib.hid (fun W (h : T.At W v) => refDeep_any T v W h)
  have H3 := Lib.hid (fun W (h : T.At W v) => refNode_any T v W h)
  simp only [wrap_is] at H1
  unfold Tree.may
  cases T with
  | node k m l lo hi =>
  have HAT := Lib.hid hat
  obtain ⟨A, c, rfl, _, _⟩ := hat.open
  generalize wrap64 ((Tree.node k m l lo hi).nodes : Int) = n at *
  generalize (Tree.node k m l lo hi).deepW = d at *
  generalize (Tree.node k m l lo hi).ok = q at *
  clear hat
  unfold reV reL at *
  have HA1 : ∀ u, Below w.heap.size w u → Tree.At u (.node k m l lo hi) (.agg (reL k m A l.length c lo hi).toArray) := fun u hb => HAT.out.step hb
  unfold reL at HA1
  have HAA := Lib.hid HA1
  clear HA1 HAT
  by_cases h1 : n ≤ 300
  · have e1 : decide (n ≤ 300) = true := by simp [h1]
    by_cases h2 : d ≤ 30
    · have e2 : decide (d ≤ 30) = true := by simp [h2]
      rw [e1, e2, Bool.true_and, Bool.true_and]
      go_enter Try.func13, Try.ntmps13
      go_wp2_with fail
      have hB0 : Below w.heap.size w (w.alloc (.cells (reL k m A l.length c lo hi).toArray 31)) := (Below.refl _ _).alloc (Nat.le_refl _) _
      have hX0 := BlkIs.new w 31 (reL k m A l.length c lo hi).toArray
      unfold reL at hB0 hX0
      refine (H1.out _ (HAA.out _ hB0)).mono ?_
      rintro e w1 ⟨rfl, hb1⟩
      have HB1 := Lib.hid (hB0.trans (hb1.mono hB0.size))
      have HX1 := hX0.step hb1
      obtain ⟨c0, c1, c2, c3, c4, c5, c6, c7⟩ := HX1.eight
      have HXX := Lib.hid HX1
      clear hb1 hB0 hX0 HX1
      go_wp2_with fail
      refine (H2.out _ (HAA.out _ HB1.out)).mono ?_
      rintro e w2 ⟨rfl, hb2⟩
      have HB2 := Lib.hid (HB1.out.trans (hb2.mono HB1.out.size))
      have HX2 := HXX.out.step hb2
      clear c0 c1 c2 c3 c4 c5 c6 c7
      obtain ⟨c0, c1, c2, c3, c4, c5, c6, c7⟩ := HX2.eight
      clear hb2 HX2
      go_wp2_with fail
      refine (H3.out _ (HAA.out _ HB2.out)).mono ?_
      rintro e w3 ⟨rfl, hb3⟩
      have HB3 := Lib.hid (HB2.out.trans (hb3.mono HB2.out.size))
      clear hb3
      go_wp2
      go_ret
      exact ⟨rfl, HB3.out⟩
    · have e2 : decide (d ≤ 30) = false := by simp; omega
      rw [e1, e2, Bool.true_and, Bool.false_and]
      go_enter Try.func13, Try.ntmps13
      go_wp2_with fail
      have hB0 : Below w.heap.size w (w.alloc (.cells (reL k m A l.length c lo hi).toArray 31)) := (Below.refl _ _).alloc (Nat.le_refl _) _
      have hX0 := BlkIs.new w 31 (reL k m A l.length c lo hi).toArray
      unfold reL at hB0 hX0
      refine (H1.out _ (HAA.out _ hB0)).mono ?_
      rintro e w1 ⟨rfl, hb1⟩
      have HB1 := Lib.hid (hB0.trans (hb1.mono hB0.size))
      have HX1 := hX0.step hb1
      obtain ⟨c0, c1, c2, c3, c4, c5, c6, c7⟩ := HX1.eight
      clear hb1 hB0 hX0 HX1
      go_wp2_with fail
      refine (H2.out _ (HAA.out _ HB1.out)).mono ?_
      rintro e w2 ⟨rfl, hb2⟩
      have HB2 := Lib.hid (HB1.out.trans (hb2.mono HB1.out.size))
      clear hb2
      go_wp2
      go_ret
      exact ⟨rfl, HB2.out⟩
  · have e1 : decide (n ≤ 300) = false := by simp; omega
    rw [e1, Bool.false_and]
    go_enter Try.func13, Try.ntmps13
    go_wp2_with fail
    have hB0 : Below w.heap.size w (w.alloc (.cells (reL k m A l.length c lo hi).toArray 31)) := (Below.refl _ _).alloc (Nat.le_refl _) _
    unfold reL at hB0
    refine (H1.out _ (HAA.out _ hB0)).mono ?_
    rintro e w1 ⟨rfl, hb1⟩
    have HB1 := Lib.hid (hB0.trans (hb1.mono hB0.size))
    clear hb1 hB0
    go_wp2
    go_ret
    exact ⟨rfl, HB1.out⟩

mutual
def Tree.same : Tree → Tree → Bool
  | .node k m l lo hi, .node k' m' l' lo' hi' => (k == k' && (setEq m m' && (lo == lo' && (hi == hi' && l.length == l'.length)))) && sameL l l'
def sameL : List Tree → List Tree → Bool
  | [], _ => true
  | _ :: _, [] => true
  | t :: r, t' :: r' => t.same t' && sameL r r'
end
theorem sameL_iff : ∀ {l l' : List Tree}, sameL l l' = true ↔ ∀ i (h : i < l.length) (h' : i < l'.length), (l[i]).same l'[i] = true
  | [], _ => by simp [sameL]
  | _ :: _, [] => by simp [sameL]
  | t :: r, t' :: r' => by
    simp only [sameL, Bool.and_eq_true, sameL_iff (l := r) (l' := r')]
    constructor
    · rintro ⟨h1, h2⟩ i h h'
      cases i with
      | zero => exact h1
      | succ i => exact h2 i (by simpa using h) (by simpa using h')
    · intro h
      exact ⟨h 0 (by simp) (by simp), fun i h1 h2 => h (i + 1) (by simpa using h1) (by simpa using h2)⟩
theorem sameL_take {l l' : List Tree} {j : Nat} (h : j < l.length) (h' : j < l'.length) (ha : sameL (l.take j) (l'.take j) = true) (hx : (l[j]).same l'[j] = true) : sameL (l.take (j + 1)) (l'.take (j + 1)) = true := by
  rw [sameL_iff] at ha ⊢
  intro i h1 h2
  rw [List.length_take] at h1 h2
  rw [List.getElem_take, List.getElem_take]
  by_cases e : i = j
  · subst e; exact hx
  · have := ha i (by rw [List.length_take]; omega) (by rw [List.length_take]; omega)
    rw [List.getElem_take, List.getElem_take] at this
    exact this
theorem sameL_bad {l l' : List Tree} {j : Nat} (h : j < l.length) (h' : j < l'.length) (hx : (l[j]).same l'[j] = false) : sameL l l' = false := by
  rw [Bool.eq_false_iff]; intro ha
  rw [sameL_iff] at ha
  rw [ha j h h'] at hx; cases hx
def headEq (k : Int) (m : Nat → Bool) (n : Nat) (lo hi k' : Int) (m' : Nat → Bool) (n' : Nat) (lo' hi' : Int) : Bool := k == k' && (setEq m m' && (lo == lo' && (hi == hi' && n == n')))
theorem same_eq (k : Int) (m : Nat → Bool) (l : List Tree) (lo hi k' : Int) (m' : Nat → Bool) (l' : List Tree) (lo' hi' : Int) :
    Tree.same (.node k m l lo hi) (.node k' m' l' lo' hi') = (headEq k m l.length lo hi k' m' l'.length lo' hi' && sameL l l') := by
  unfold Tree.same headEq; rfl

set_option maxRecDepth 100000 in
set_option maxHeartbeats 4000000 in
theorem refSame_any : ∀ (T T' : Tree) (v v' : Value) (w : World), T.At w v → T'.At w v' → Calls Try.prog 12 #[v, v'] w fun e w' => e = .returned (.bool (T.same T')) ∧ Below w.heap.size w w' := by
  intro T
  induction T using Tree.ind with
  | h k m l lo hi ih =>
    intro T' v v' w hat hat'
    cases T' with
    | node k' m' l' lo' hi' =>
    obtain ⟨A, c, rfl, hc, hs⟩ := hat.open
    obtain ⟨A', c', rfl, hc', hs'⟩ := hat'.open
    have HS := Lib.hid hs
    have HS' := Lib.hid hs'
    have IH := Lib.hid ih
    clear hat hs ih hat' hs'
    obtain ⟨R, hR⟩ : ∃ R, Tree.same (.node k m l lo hi) (.node k' m' l' lo' hi') = R := ⟨_, rfl⟩
    rw [hR]
    rw [same_eq] at hR
    have hne := ne_set m m'
    unfold setV at hne
    have hB0 : Below w.heap.size w ((w.alloc (.cells (reL k m A l.length c lo hi).toArray 31)).alloc (.cells (reL k' m' A' l'.length c' lo' hi').toArray 31)) := ((Below.refl _ _).alloc (Nat.le_refl _) _).alloc (by simp) _
    have hX0 := (BlkIs.new w 31 (reL k m A l.length c lo hi).toArray).alloc (.cells (reL k' m' A' l'.length c' lo' hi').toArray 31)
    have hY0 := BlkIs.new (w.alloc (.cells (reL k m A l.length c lo hi).toArray 31)) 31 (reL k' m' A' l'.length c' lo' hi').toArray
    rw [World.size_alloc] at hY0
    have HB0 := Lib.hid (And.intro hB0 (And.intro hX0 hY0))
    clear hB0 hX0 hY0
    unfold reV reL at *
    by_cases hh : headEq k m l.length lo hi k' m' l'.length lo' hi' = true
    · rw [hh, Bool.true_and] at hR
      unfold headEq at hh
      simp only [Bool.and_eq_true, beq_iff_eq] at hh
      obtain ⟨rfl, hset, rfl, rfl, hlen⟩ := hh
      have HR := Lib.hid hR
      have HLen := Lib.hid hlen
      have b1 : ((l.length : Int) != (l'.length : Int)) = false := by simp; omega
      clear hR hlen
      go_enter Try.func12, Try.ntmps12
      go_wp2
      go_loopw [5] (fun i wr => ∃ j : Nat, i = .int .i64 j ∧ j ≤ l.length ∧ Hid (Below w.heap.size w wr ∧ BlkIs wr w.heap.size 31 (reL k m A l.length c lo hi).toArray ∧ BlkIs wr (w.heap.size + 1) 31 (reL k m' A' l'.length c' lo hi).toArray ∧ sameL (l.take j) (l'.take j) = true)) (fun i _ => l.length - (intOf i).toNat)
      case atStart => exact ⟨0, rfl, Nat.zero_le _, Lib.hid ⟨HB0.out.1, HB0.out.2.1, HB0.out.2.2, rfl⟩⟩
      case round =>
        obtain ⟨j, rfl, hj, HH⟩ := hrel
        obtain ⟨hb, hx, hy, hall⟩ := HH.out
        have HB := Lib.hid HH.out
        unfold reL at hx hy
        obtain ⟨_, _, _, _, _, x5, _, _⟩ := hx.eight
        obtain ⟨_, _, _, _, _, y5, _, _⟩ := hy.eight
        by_cases hp : j < l.length
        · have hdl : decide ((j : Int) < (l.length : Int)) = true := by simp; omega
          have hp' : j < l'.length := by have := HLen.out; omega
          obtain ⟨b, o, rfl, hbw, hg⟩ := HS.out (by intro e; subst e; simp at hp)
          obtain ⟨b', o', rfl, hbw', hg'⟩ := HS'.out (by intro e; subst e; simp at hp')
          obtain ⟨cs, hcat, _, hrow⟩ := hg j hp
          obtain ⟨cs', hcat', _, hrow'⟩ := hg' j hp'
          obtain ⟨A1, n1, c1, rfl⟩ := hcat.eight
          obtain ⟨A2, n2, c2, rfl⟩ := hcat'.eight
          have hk1 : IntKind.i64.wrap ((j : Int) + 1) = ((j + 1 : Nat) : Int) := by rw [IntKind.wrap_i64]; omega
          have hcall : ∀ u, Below w.heap.size w u → Calls Try.prog 12 #[.agg (reL (l[j]).kind (l[j]).set A1 n1 c1 (l[j]).lo (l[j]).hi).toArray, .agg (reL (l'[j]).kind (l'[j]).set A2 n2 c2 (l'[j]).lo (l'[j]).hi).toArray] u fun e w' => e = .returned (.bool ((l[j]).same l'[j])) ∧ Below u.heap.size u w' :=
            fun u hu => IH.out _ (List.getElem_mem hp) _ _ _ u (hcat.step hu) (hcat'.step hu)
          have hrows : ∀ u, Below w.heap.size w u → _ := fun u hu => And.intro (row_eight hrow hu) (row_eight hrow' hu)
          have hcells : ∀ u, BlkIs u w.heap.size 31 (reL k m (some ⟨b, o, none⟩) l.length c lo hi).toArray → BlkIs u (w.heap.size + 1) 31 (reL k m' (some ⟨b', o', none⟩) l'.length c' lo hi).toArray →
              u.cell? ⟨w.heap.size, 5, none⟩ = some (.slice (some ⟨b, o, none⟩) l.length c) ∧ u.cell? ⟨w.heap.size + 1, 5, none⟩ = some (.slice (some ⟨b', o', none⟩) l'.length c') := fun u h1 h2 => ⟨h1.cell 5, h2.cell 5⟩
          unfold reL at hcall
          have HC := Lib.hid hcall
          have HRW := Lib.hid hrows
          have HCE := Lib.hid hcells
          clear hrow hrow' hcat hcat' hg hg' hcall hrows hcells y5 hx hy hb
          go_wp2_with fail
          refine wp_region_reads 60 (fun u => Below w.heap.size w u ∧ BlkIs u w.heap.size 31 (reL k m (some ⟨b, o, none⟩) l.length c lo hi).toArray ∧ BlkIs u (w.heap.size + 1) 31 (reL k m' (some ⟨b', o', none⟩) l'.length c' lo hi).toArray)
            (by kernel_rfl) (by kernel_rfl) rfl ⟨HB.out.1.drew, HB.out.2.1, HB.out.2.2.1⟩ (fun u u' h hb => ⟨h.1.trans (hb.mono h.1.size), h.2.1.step hb, h.2.2.step hb⟩) ?_
          clear x5 hdl
          repeat
            refine freeW_step fun K hK => ?_
            go_simp
            apply Exists.intro
            refine ⟨fun v hv1 hv2 hv3 => ?_, hK _ ?_⟩
            have hcl := HC.out v hv1
            obtain ⟨⟨r0, r1, r2, r3, r4, r5, r6, r7⟩, ⟨q0, q1, q2, q3, q4, q5, q6, q7⟩⟩ := HRW.out v hv1
            obtain ⟨x5, y5⟩ := HCE.out v hv2 hv3
            unfold freeAt
            first
              | (go_simp; exact free_val)
              | (go_simp; exact free_call hcl)
            clear hK K
          refine freeW_nil ?_
          rintro u ⟨hu1, hu2, hu3⟩ hb
          have HU := Lib.hid (And.intro hu1 (And.intro hu2 hu3))
          have HSB := Lib.hid (sameL_bad hp hp')
          have HST := Lib.hid (sameL_take hp hp' hall)
          clear hu1 hu2 hu3 hb hall
          generalize (l[j]).same l'[j] = x at *
          cases x with
          | true =>
            go_wp2
            exact ⟨⟨j + 1, by go_num, hp, Lib.hid ⟨HU.out.1, HU.out.2.1, HU.out.2.2, HST.out (by first | trivial | rfl)⟩⟩, by simp [intOf]; omega⟩
          | false =>
            go_wp2
            go_ret
            rw [← HR.out, HSB.out (by first | trivial | rfl)]
            exact ⟨rfl, HU.out.1⟩
        · have hdl : decide ((j : Int) < (l.length : Int)) = false := by simp; omega
          obtain rfl : j = l.length := by omega
          rw [List.take_length, List.take_of_length_le (Nat.le_of_eq HLen.out.symm)] at hall
          have HA := Lib.hid hall
          clear hall
          go_wp2
          go_ret
          rw [← HR.out, HA.out]
          exact ⟨rfl, hb⟩
    · have hh2 : headEq k m l.length lo hi k' m' l'.length lo' hi' = false := by simpa using hh
      rw [hh2, Bool.false_and] at hR
      subst hR
      unfold headEq at hh2
      clear hh
      go_enter Try.func12, Try.ntmps12
      go_wp2
      all_goals first
        | (go_ret; exact ⟨rfl, ((Below.refl _ _).alloc (Nat.le_refl _) _).alloc (by simp) _⟩)
        | (exfalso; clear hne HB0 HS HS' IH hc hc'; simp_all; omega)

end Go.Proofs.Ytngagijcdehjpaa

