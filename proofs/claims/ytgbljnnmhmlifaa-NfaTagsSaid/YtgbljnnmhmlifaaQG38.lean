/-
  WHAT hacklelaw08's Great AND may, hackleref08's Which AND Begins ANSWER of a row of trees: contracts. Condition of Which and Begins: each tree's nodes may be, a text of at most 2^30 bytes.
-/
import Derived.Test.YtgbljnnmhmlifaaQG14
import Derived.Test.YtgbljnnmhmlifaaQG36
import Derived.Test.YtgbljnnmhmlifaaQG37
import Derived.Test.YtgbljnnmhmlifaaQG12
namespace Go.Proofs.Ytgbljnnmhmlifaa
open Go.RowKit

attribute [local irreducible] FreeW

def Great8 (l : List Tree) (w : World) : Ending → World → Prop := fun e w' => (∃ b : Bool, e = .returned (.bool b) ∧ (b = false → l.length ≤ 45 ∧ (∀ t ∈ l, t.great = false ∧ t.heavy = false) ∧ ((∀ t ∈ l, t.ok = true ∧ t.nodes ≤ 1048576) → sumP l ≤ 150 ∨ 2000 < sumP l))) ∧ Below w.heap.size w w'
set_option maxRecDepth 20000 in
set_option maxHeartbeats 8000000 in
theorem great8_any (l : List Tree) (v : Value) (w : World) (hat : TreesV w l v) : Calls Try.prog 6 #[v] w (Great8 l w) := by
  obtain ⟨A, c, rfl, hc, hs⟩ := hat
  have HS := Lib.hid hs
  clear hs
  go_enter Try.func6, Try.ntmps6
  go_wp2
  go_loopw [3, 4] (fun n i wr => ∃ (j : Nat) (z : Int), n = .int .i64 z ∧ i = .int .i64 j ∧ j ≤ l.length ∧ Hid (Below w.heap.size w wr ∧ (∀ t ∈ l.take j, t.great = false ∧ t.heavy = false) ∧ (l.length ≤ 45 → (∀ t ∈ l.take j, t.ok = true ∧ t.nodes ≤ 1048576) → z = sumP (l.take j)))) (fun _ i _ => l.length - (intOf i).toNat)
  case atStart => exact ⟨0, 0, rfl, rfl, Nat.zero_le _, Lib.hid ⟨Below.refl _ _, fun t ht => by simp at ht, fun _ _ => rfl⟩⟩
  case round =>
    obtain ⟨j, z, rfl, rfl, hj, HH⟩ := hrel
    by_cases hp : j < l.length
    · have hdl : decide ((j : Int) < (l.length : Int)) = true := by simp; omega
      obtain ⟨b, o, rfl, hbw, hg⟩ := HS.out (by intro e; subst e; simp at hp)
      obtain ⟨A', n', c', hcat, hrow⟩ := rangeT hg hp
      obtain ⟨r0, r1, r2, r3, r4, r5, r6, r7⟩ := row_eight hrow HH.out.1
      have hk1 : IntKind.i64.wrap ((j : Int) + 1) = ((j + 1 : Nat) : Int) := by rw [IntKind.wrap_i64]; omega
      have hG := great_any l[j] _ wr (hcat.step HH.out.1)
      have HV := Lib.hid (fun u (hu : Below w.heap.size w u) => heavy_any l[j] _ u (hcat.step hu))
      have HP := Lib.hid (fun u (hu : Below w.heap.size w u) => rplaces_some l[j] _ u (hcat.step hu))
      have HQ := Lib.hid (fun u (hu : Below w.heap.size w u) (h1 : l[j].ok = true) (h2 : l[j].nodes ≤ 1048576) => rplaces_any l[j] h1 h2 _ u (hcat.step hu))
      have HR := Lib.hid (fun (u : World) (hu : Below w.heap.size w u) => row_eight hrow hu)
      have hmem : ∀ t ∈ l.take (j + 1), t ∈ l.take j ∨ t = l[j] := fun t ht => mem_take_succ hp ht
      have htk := List.take_succ_eq_append_getElem hp
      have HM := Lib.hid (And.intro hmem htk)
      have HP2 := Lib.hid (show ∀ u, Below w.heap.size w u → Calls Try.prog 9 #[.agg (reL l[j].kind l[j].set A' n' c' l[j].lo l[j].hi).toArray] u fun e w' => (∃ y : Int, e = .returned (.int .i64 y) ∧ (l[j].ok = true ∧ l[j].nodes ≤ 1048576 → y = l[j].places)) ∧ Below u.heap.size u w' from fun u hu => by
        by_cases hx : l[j].ok = true ∧ l[j].nodes ≤ 1048576
        · exact (HQ.out u hu hx.1 hx.2).mono fun e w' ⟨h1, h2⟩ => ⟨⟨_, h1, fun _ => rfl⟩, h2⟩
        · exact (HP.out u hu).mono fun e w' ⟨⟨y, h1⟩, h2⟩ => ⟨⟨y, h1, fun h => absurd h hx⟩, h2⟩)
      have HG := Lib.hid hG
      have hsum : IntKind.i64.wrap (z + l[j].places) = z + l[j].places ∨ ¬ (l.length ≤ 45 ∧ ∀ t ∈ l.take (j + 1), t.ok = true ∧ t.nodes ≤ 1048576) := by
        by_cases hx : l.length ≤ 45 ∧ ∀ t ∈ l.take (j + 1), t.ok = true ∧ t.nodes ≤ 1048576
        · left
          have hz := HH.out.2.2 hx.1 fun t ht => hx.2 t (by rw [htk]; exact List.mem_append_left _ ht)
          have h1 := sumP_most (l.take j)
          have h2 := sumP_pos (l.take j) fun t ht => (hx.2 t (by rw [htk]; exact List.mem_append_left _ ht)).1
          have h3 := places_most l[j]
          have h4 := places_pos l[j] (hx.2 _ (by rw [htk]; exact List.mem_append_right _ (List.mem_singleton.2 rfl))).1
          have h5 : (l.take j).length ≤ 45 := by rw [List.length_take]; omega
          rw [IntKind.wrap_i64]; omega
        · exact .inr hx
      have HSM := Lib.hid hsum
      have HIN := Lib.hid (List.getElem_mem hp)
      unfold reL at HP2 HV HG
      clear hcat hrow hG hg HP HQ hmem htk hsum
      generalize (l[j]).kind = kk at *
      generalize (l[j]).set = mm at *
      generalize (l[j]).lo = ll at *
      generalize (l[j]).hi = hh at *
      obtain ⟨gb, hgb⟩ : ∃ gb, (l[j]).great = gb := ⟨_, rfl⟩
      obtain ⟨vb, hvb⟩ : ∃ vb, (l[j]).heavy = vb := ⟨_, rfl⟩
      rw [hgb] at HG
      rw [hvb] at HV
      have HGV := Lib.hid (And.intro hgb hvb)
      clear hgb hvb
      cases gb with
      | true =>
        go_wp2_with fail
        refine HG.out.mono ?_
        rintro e w1 ⟨rfl, hb1⟩
        have HB1 := Lib.hid (HH.out.1.trans (hb1.mono HH.out.1.size))
        clear hb1
        go_wp2
        go_ret
        exact ⟨⟨true, rfl, fun h => by cases h⟩, HB1.out⟩
      | false =>
        go_wp2_with fail
        refine HG.out.mono ?_
        rintro e w1 ⟨rfl, hb1⟩
        have hB1 := HH.out.1.trans (hb1.mono HH.out.1.size)
        clear hb1 r0 r1 r2 r3 r4 r5 r6 r7
        obtain ⟨r0, r1, r2, r3, r4, r5, r6, r7⟩ := HR.out w1 hB1
        have HB1 := Lib.hid hB1
        clear hB1
        cases vb with
        | true =>
          go_wp2_with fail
          refine (HV.out _ HB1.out).mono ?_
          rintro e w2 ⟨rfl, hb2⟩
          have HB2 := Lib.hid (HB1.out.trans (hb2.mono HB1.out.size))
          clear hb2
          go_wp2
          go_ret
          exact ⟨⟨true, rfl, fun h => by cases h⟩, HB2.out⟩
        | false =>
          go_wp2_with fail
          refine (HV.out _ HB1.out).mono ?_
          rintro e w2 ⟨rfl, hb2⟩
          have hB2 := HB1.out.trans (hb2.mono HB1.out.size)
          clear hb2 r0 r1 r2 r3 r4 r5 r6 r7
          obtain ⟨r0, r1, r2, r3, r4, r5, r6, r7⟩ := HR.out w2 hB2
          have HB2 := Lib.hid hB2
          clear hB2
          go_wp2_with fail
          refine (HP2.out _ HB2.out).mono ?_
          rintro e w3 ⟨⟨y, rfl, hy⟩, hb3⟩
          have HB3 := Lib.hid (HB2.out.trans (hb3.mono HB2.out.size))
          have HY := Lib.hid hy
          clear hb3 hy r0 r1 r2 r3 r4 r5 r6 r7
          go_wp2
          refine ⟨⟨j + 1, _, rfl, by go_num, hp, Lib.hid ⟨HB3.out, fun t ht => ?_, fun h45 hall => ?_⟩⟩, by simp [intOf]; omega⟩
          · rcases HM.out.1 t ht with ht | rfl
            · exact HH.out.2.1 t ht
            · exact HGV.out
          · have hx := hall l[j] (by rw [HM.out.2]; exact List.mem_append_right _ (List.mem_singleton.2 rfl))
            rw [HY.out hx]
            rcases HSM.out with h | h
            · have hw : wrap64 (z + (l[j]).places) = z + (l[j]).places := by rw [← wrap_is]; exact h
              have hz := HH.out.2.2 h45 fun t ht => hall t (by rw [HM.out.2]; exact List.mem_append_left _ ht)
              rw [HM.out.2, sumP_snoc, ← hz]
              first
                | exact h
                | exact hw
            · exact absurd ⟨h45, hall⟩ h
    · have hdl : decide ((j : Int) < (l.length : Int)) = false := by simp; omega
      obtain rfl : j = l.length := by omega
      have HE := HH.out
      rw [List.take_length] at HE
      have HX := Lib.hid HE
      clear HE
      by_cases h45 : 45 < l.length
      · have q1 : decide ((l.length : Int) > 45) = true := by simp; omega
        have q2 : decide ((45 : Int) < (l.length : Int)) = true := by simp; omega
        go_wp2
        go_ret
        exact ⟨⟨true, rfl, fun h => by cases h⟩, HX.out.1⟩
      have q1 : decide ((l.length : Int) > 45) = false := by simp; omega
      have q2 : decide ((45 : Int) < (l.length : Int)) = false := by simp; omega
      by_cases h150 : 150 < z
      · have q3 : decide (z > 150) = true := by simp; omega
        have q4 : decide (150 < z) = true := by simp; omega
        by_cases h2000 : z ≤ 2000
        · have q5 : decide (z ≤ 2000) = true := by simp; omega
          go_wp2
          go_ret
          exact ⟨⟨true, rfl, fun h => by cases h⟩, HX.out.1⟩
        · have q5 : decide (z ≤ 2000) = false := by simp; omega
          go_wp2
          go_ret
          exact ⟨⟨false, rfl, fun _ => ⟨by omega, HX.out.2.1, fun h => by have := HX.out.2.2 (by omega) h; omega⟩⟩, HX.out.1⟩
      · have q3 : decide (z > 150) = false := by simp; omega
        have q4 : decide (150 < z) = false := by simp; omega
        go_wp2
        go_ret
        exact ⟨⟨false, rfl, fun _ => ⟨by omega, HX.out.2.1, fun h => by have := HX.out.2.2 (by omega) h; omega⟩⟩, HX.out.1⟩
def mayL (l : List Tree) : Bool := l.all (fun t => t.may) && (decide (1 ≤ l.length) && decide (l.length ≤ 40))
set_option maxRecDepth 20000 in
set_option maxHeartbeats 8000000 in
theorem may8_any (l : List Tree) (v : Value) (w : World) (hat : TreesV w l v) : Calls Try.prog 11 #[v] w fun e w' => e = .returned (.bool (mayL l)) ∧ Below w.heap.size w w' := by
  obtain ⟨A, c, rfl, hc, hs⟩ := hat
  have HS := Lib.hid hs
  obtain ⟨R, hR⟩ : ∃ R, R = mayL l := ⟨_, rfl⟩
  rw [← hR]
  have HR := Lib.hid hR
  clear hs hR
  go_enter Try.func11, Try.ntmps11
  go_wp2
  go_loopw [3] (fun i wr => ∃ (j : Nat), i = .int .i64 j ∧ j ≤ l.length ∧ Hid (Below w.heap.size w wr ∧ ∀ t ∈ l.take j, t.may = true)) (fun i _ => l.length - (intOf i).toNat)
  case atStart => exact ⟨0, rfl, Nat.zero_le _, Lib.hid ⟨Below.refl _ _, fun t ht => by simp at ht⟩⟩
  case round =>
    obtain ⟨j, rfl, hj, HH⟩ := hrel
    by_cases hp : j < l.length
    · have hdl : decide ((j : Int) < (l.length : Int)) = true := by simp; omega
      obtain ⟨b, o, rfl, hbw, hg⟩ := HS.out (by intro e; subst e; simp at hp)
      obtain ⟨A', n', c', hcat, hrow⟩ := rangeT hg hp
      obtain ⟨r0, r1, r2, r3, r4, r5, r6, r7⟩ := row_eight hrow HH.out.1
      have hk1 : IntKind.i64.wrap ((j : Int) + 1) = ((j + 1 : Nat) : Int) := by rw [IntKind.wrap_i64]; omega
      have hG := refMayRe_any l[j] _ wr (hcat.step HH.out.1)
      have HM := Lib.hid (fun t (ht : t ∈ l.take (j + 1)) => mem_take_succ hp ht)
      have HIN := Lib.hid (List.getElem_mem hp)
      unfold reL at hG
      have HG := Lib.hid hG
      clear hcat hrow hG hg
      generalize (l[j]).kind = kk at *
      generalize (l[j]).set = mm at *
      generalize (l[j]).lo = ll at *
      generalize (l[j]).hi = hh at *
      obtain ⟨gb, hgb⟩ : ∃ gb, (l[j]).may = gb := ⟨_, rfl⟩
      rw [hgb] at HG
      have HGV := Lib.hid hgb
      clear hgb
      cases gb with
      | false =>
        have HF := Lib.hid (show R = false by
          rw [HR.out]; unfold mayL
          have : l.all (fun t => t.may) = false := by
            rw [Bool.eq_false_iff]; intro h
            have := List.all_eq_true.1 h _ HIN.out
            rw [HGV.out] at this; cases this
          rw [this]; rfl)
        go_wp2_with fail
        refine HG.out.mono ?_
        rintro e w1 ⟨rfl, hb1⟩
        have HB1 := Lib.hid (HH.out.1.trans (hb1.mono HH.out.1.size))
        clear hb1
        go_wp2
        go_ret
        exact ⟨by rw [HF.out]; rfl, HB1.out⟩
      | true =>
        go_wp2_with fail
        refine HG.out.mono ?_
        rintro e w1 ⟨rfl, hb1⟩
        have HB1 := Lib.hid (HH.out.1.trans (hb1.mono HH.out.1.size))
        clear hb1
        go_wp2
        refine ⟨⟨j + 1, by go_num, hp, Lib.hid ⟨HB1.out, fun t ht => ?_⟩⟩, by simp [intOf]; omega⟩
        rcases HM.out t ht with ht | rfl
        · exact HH.out.2 t ht
        · exact HGV.out
    · have hdl : decide ((j : Int) < (l.length : Int)) = false := by simp; omega
      obtain rfl : j = l.length := by omega
      have HE := HH.out
      rw [List.take_length] at HE
      have HX := Lib.hid HE
      have HF := Lib.hid (show R = (decide (1 ≤ l.length) && decide (l.length ≤ 40)) by
        rw [HR.out]; unfold mayL
        have : l.all (fun t => t.may) = true := List.all_eq_true.2 HX.out.2
        rw [this]; rfl)
      clear HE
      by_cases h1 : 1 ≤ l.length
      · have q1 : decide ((l.length : Int) ≥ 1) = true := by simp; omega
        have q2 : decide ((1 : Int) ≤ (l.length : Int)) = true := by simp; omega
        by_cases h40 : l.length ≤ 40
        · have q3 : decide ((l.length : Int) ≤ 40) = true := by simp; omega
          have HF2 := Lib.hid (show R = true by rw [HF.out, decide_eq_true h1, decide_eq_true h40]; rfl)
          go_wp2
          go_ret
          exact ⟨by rw [HF2.out]; rfl, HX.out.1⟩
        · have q3 : decide ((l.length : Int) ≤ 40) = false := by simp; omega
          have HF2 := Lib.hid (show R = false by rw [HF.out, decide_eq_false h40, Bool.and_false])
          go_wp2
          go_ret
          exact ⟨by rw [HF2.out]; rfl, HX.out.1⟩
      · have q1 : decide ((l.length : Int) ≥ 1) = false := by simp; omega
        have q2 : decide ((1 : Int) ≤ (l.length : Int)) = false := by simp; omega
        have HF2 := Lib.hid (show R = false by rw [HF.out, decide_eq_false h1]; rfl)
        go_wp2
        go_ret
        exact ⟨by rw [HF2.out]; rfl, HX.out.1⟩
theorem which_cut (s : List UInt8) : ∀ (l : List Tree) (i : Int) (j : Nat), (∀ t ∈ l.take j, t.takes s = false) → whichI s i l = whichI s (i + j) (l.drop j)
  | [], i, j, _ => by simp [whichI]
  | t :: r, i, 0, _ => by simp
  | t :: r, i, j + 1, h => by
    have h1 : t.takes s = false := h t (by simp)
    rw [whichI, h1, if_neg (by simp), which_cut s r (i + 1) j fun x hx => h x (by simp [hx]), List.drop_succ_cons]
    congr 1; omega
set_option maxRecDepth 20000 in
set_option maxHeartbeats 8000000 in
theorem which8_any (l : List Tree) (hok : ∀ t ∈ l, t.ok = true) (s : ByteArray) (hs30 : s.size ≤ 1073741824) (v : Value) (w : World) (hat : TreesV w l v) :
    Calls Try.prog 18 #[v, .string s] w fun e w' => e = .returned (.int .i64 (whichI s.data.toList 0 l)) ∧ Below w.heap.size w w' := by
  obtain ⟨A, c, rfl, hc, hs⟩ := hat
  have HS := Lib.hid hs
  have HO := Lib.hid hok
  obtain ⟨R, hR⟩ : ∃ R, R = whichI s.data.toList 0 l := ⟨_, rfl⟩
  rw [← hR]
  have HR := Lib.hid hR
  clear hs hR hok
  go_enter Try.func18, Try.ntmps18
  go_wp2
  go_loopw [5] (fun i wr => ∃ (j : Nat), i = .int .i64 j ∧ j ≤ l.length ∧ Hid (Below w.heap.size w wr ∧ ∀ t ∈ l.take j, t.takes s.data.toList = false)) (fun i _ => l.length - (intOf i).toNat)
  case atStart => exact ⟨0, rfl, Nat.zero_le _, Lib.hid ⟨Below.refl _ _, fun t ht => by simp at ht⟩⟩
  case round =>
    obtain ⟨j, rfl, hj, HH⟩ := hrel
    have HW := Lib.hid (HR.out.trans (which_cut s.data.toList l 0 j HH.out.2))
    by_cases hp : j < l.length
    · have hdl : decide ((j : Int) < (l.length : Int)) = true := by simp; omega
      obtain ⟨b, o, rfl, hbw, hg⟩ := HS.out (by intro e; subst e; simp at hp)
      obtain ⟨A', n', c', hcat, hrow⟩ := rangeT hg hp
      obtain ⟨r0, r1, r2, r3, r4, r5, r6, r7⟩ := row_eight hrow HH.out.1
      have hk1 : IntKind.i64.wrap ((j : Int) + 1) = ((j + 1 : Nat) : Int) := by rw [IntKind.wrap_i64]; omega
      have hG := refTakes_any l[j] _ s hs30 wr (HO.out _ (List.getElem_mem hp)) (hcat.step HH.out.1)
      have HM := Lib.hid (fun t (ht : t ∈ l.take (j + 1)) => mem_take_succ hp ht)
      have HD := Lib.hid (List.drop_eq_getElem_cons hp)
      unfold reL at hG
      have HG := Lib.hid hG
      clear hcat hrow hG hg
      generalize (l[j]).kind = kk at *
      generalize (l[j]).set = mm at *
      generalize (l[j]).lo = ll at *
      generalize (l[j]).hi = hh at *
      obtain ⟨gb, hgb⟩ : ∃ gb, (l[j]).takes s.data.toList = gb := ⟨_, rfl⟩
      rw [hgb] at HG
      have HGV := Lib.hid hgb
      clear hgb
      cases gb with
      | true =>
        have HF := Lib.hid (show R = (j : Int) by
          rw [HW.out, HD.out, whichI, HGV.out, if_pos rfl]; omega)
        go_wp2_with fail
        refine HG.out.mono ?_
        rintro e w1 ⟨rfl, hb1⟩
        have HB1 := Lib.hid (HH.out.1.trans (hb1.mono HH.out.1.size))
        clear hb1
        go_wp2
        go_ret
        exact ⟨by rw [HF.out]; rfl, HB1.out⟩
      | false =>
        go_wp2_with fail
        refine HG.out.mono ?_
        rintro e w1 ⟨rfl, hb1⟩
        have HB1 := Lib.hid (HH.out.1.trans (hb1.mono HH.out.1.size))
        clear hb1
        go_wp2
        refine ⟨⟨j + 1, by go_num, hp, Lib.hid ⟨HB1.out, fun t ht => ?_⟩⟩, by simp [intOf]; omega⟩
        rcases HM.out t ht with ht | rfl
        · exact HH.out.2 t ht
        · exact HGV.out
    · have hdl : decide ((j : Int) < (l.length : Int)) = false := by simp; omega
      obtain rfl : j = l.length := by omega
      have HF := Lib.hid (show R = -1 by rw [HW.out, List.drop_length, whichI])
      go_wp2
      go_ret
      exact ⟨by rw [HF.out]; rfl, HH.out.1⟩
end Go.Proofs.Ytgbljnnmhmlifaa

namespace Go.Proofs.Ytgbljnnmhmlifaa
open Go.RowKit

attribute [local irreducible] FreeW

theorem load_rowT {W : World} {b o : Nat} {k : Int} {m : Nat → Bool} {A : Option Addr} {q c : Nat} {lo hi : Int} (h : W.rangeAt b o (reL k m A q c lo hi)) : (Instr.loadAt 39 (.pointer (some ⟨b, o, none⟩))).run Try.prog W = .ok (reV k m A q c lo hi) W := by
  have := run_loadVar_mid (P := Try.prog) W b o 39 (reL k m A q c lo hi) _ h Try.underlying39 rfl (by kernel_rfl)
  exact this
theorem begins_cut (s : List UInt8) (l : List Tree) (j : Nat) (h : ∀ t ∈ l.take j, t.begins s (atP 0) = false) : (l.any fun t => t.begins s (atP 0)) = ((l.drop j).any fun t => t.begins s (atP 0)) := by
  conv => lhs; rw [← List.take_append_drop j l, List.any_append]
  have : ((l.take j).any fun t => t.begins s (atP 0)) = false := by
    rw [List.any_eq_false]; intro t ht; rw [h t ht]; simp
  rw [this, Bool.false_or]
set_option maxRecDepth 20000 in
set_option maxHeartbeats 8000000 in
theorem begins8_any (l : List Tree) (hok : ∀ t ∈ l, t.ok = true) (s : ByteArray) (hs30 : s.size ≤ 1073741824) (v : Value) (w : World) (hat : TreesV w l v) :
    Calls Try.prog 19 #[v, .string s] w fun e w' => e = .returned (.bool (l.any fun t => t.begins s.data.toList (atP 0))) ∧ Below w.heap.size w w' := by
  obtain ⟨n, hn⟩ : ∃ n, n = s.size + 1 := ⟨_, rfl⟩
  have HAt := Lib.hid (fun W => refAt_any s hs30 n hn 0 (by omega) W)
  have HBe := Lib.hid (fun W (T : Tree) (v : Value) (g0 : Nat) (h : T.At W v) (ho : T.ok = true) (hf : BlkIs W g0 4 (bl n (atP 0))) => refBegins_any s hs30 n hn T v W g0 (atP 0) ho h hf)
  obtain ⟨A, c, rfl, hc, hs⟩ := hat
  have HS := Lib.hid hs
  have HO := Lib.hid hok
  have HN := Lib.hid hn
  obtain ⟨R, hR⟩ : ∃ R, R = (l.any fun t => t.begins s.data.toList (atP 0)) := ⟨_, rfl⟩
  rw [← hR]
  have HR := Lib.hid hR
  clear hs hR hok hn
  unfold EndsIs BoolIs at *
  go_enter Try.func19, Try.ntmps19
  go_wp2
  go_loopw [5] (fun i wr => ∃ (j : Nat), i = .int .i64 j ∧ j ≤ l.length ∧ Hid (Below w.heap.size w wr ∧ ∀ t ∈ l.take j, t.begins s.data.toList (atP 0) = false)) (fun i _ => l.length - (intOf i).toNat)
  case atStart => exact ⟨0, rfl, Nat.zero_le _, Lib.hid ⟨Below.refl _ _, fun t ht => by simp at ht⟩⟩
  case round =>
    obtain ⟨j, rfl, hj, HH⟩ := hrel
    have HW := Lib.hid (HR.out.trans (begins_cut s.data.toList l j HH.out.2))
    by_cases hp : j < l.length
    · have hdl : decide ((j : Int) < (l.length : Int)) = true := by simp; omega
      obtain ⟨b, o, rfl, hbw, hg⟩ := HS.out (by intro e; subst e; simp at hp)
      obtain ⟨A', n', c', hcat, hrow⟩ := rangeT hg hp
      have hk1 : IntKind.i64.wrap ((j : Int) + 1) = ((j + 1 : Nat) : Int) := by rw [IntKind.wrap_i64]; omega
      have HM := Lib.hid (fun t (ht : t ∈ l.take (j + 1)) => mem_take_succ hp ht)
      have HD := Lib.hid (List.drop_eq_getElem_cons hp)
      have HROW := Lib.hid (fun (u : World) (hu : Below w.heap.size w u) => load_rowT (rangeAt_step hrow (by simp [reL]) hu))
      have HCAT := Lib.hid (fun (u : World) (hu : Below w.heap.size w u) => hcat.step hu)
      have HOK := Lib.hid (HO.out _ (List.getElem_mem hp))
      obtain ⟨T, hT⟩ : ∃ T, T = l[j] := ⟨_, rfl⟩
      rw [← hT] at HD HM HROW HCAT HOK
      clear hcat hrow hg hT
      go_wp2_with fail
      refine wp_region_held_drew (S := fun u => Below w.heap.size w u) (by kernel_rfl) HH.out.1.drew ?_
      intro hS0
      refine wpAnyH_take (i := 0) (v := .slice (some ⟨b, o, none⟩) l.length c) rfl (by kernel_rfl) (by kernel_rfl) (by kernel_rfl) (fun _ _ _ h => h) (.inl ⟨rfl, fun u hu => by go_simp⟩) hS0 ?_
      refine wpAnyH_take (i := 1) (v := .int .i64 (j : Int)) rfl (by kernel_rfl) (by kernel_rfl) (by kernel_rfl) (fun _ _ _ h => h) (.inl ⟨rfl, fun u hu => by go_simp⟩) hS0 ?_
      refine wpAnyH_take (i := 2) (v := .pointer (some ⟨b, o + j * 8, none⟩)) rfl (by kernel_rfl) (by kernel_rfl) (by kernel_rfl) (fun _ _ _ h => h) (.inl ⟨rfl, fun u hu => by go_simp⟩) hS0 ?_
      refine wpAnyH_take (i := 3) (v := reV T.kind T.set A' n' c' T.lo T.hi) rfl (by kernel_rfl) (by kernel_rfl) (by kernel_rfl) (fun _ _ _ h => h) (.inl ⟨rfl, fun u hu => exec_load4 39 (.tmp 14) _ rfl rfl (HROW.out u hu)⟩) hS0 ?_
      refine wpAnyH_take (i := 4) (v := .string s) rfl (by kernel_rfl) (by kernel_rfl) (by kernel_rfl) (fun _ _ _ h => h) (.inl ⟨rfl, fun u hu => by go_simp⟩) hS0 ?_
      refine wpAnyH_take (i := 5) (v := .string s) rfl (by kernel_rfl) (by kernel_rfl) (by kernel_rfl) (fun _ _ _ h => h) (.inl ⟨rfl, fun u hu => by go_simp⟩) hS0 ?_
      refine wpAnyH_ready (rs := [6]) (by kernel_rfl) (by simp) ?_
      refine AllReadyH.cons rfl (fun K hK => ?_) AllReadyH.nil
      go_simp
      go_at_call 43
      refine (HAt.out _).mono ?_
      rintro e w3 ⟨g3, rfl, hg3, hr3, hb3⟩
      refine hK.out _ _ (hS0.trans (hb3.mono hS0.size)) (fun hS => ?_)
      clear hK K
      have HE := Lib.hid (HBe.out _ T _ g3 (HCAT.out _ hS) HOK.out hr3)
      clear hS0 hb3 hr3 hg3
      refine wpAnyH_ready (rs := [7]) (by kernel_rfl) (by simp) ?_
      refine AllReadyH.cons rfl (fun K hK => ?_) AllReadyH.nil
      go_simp
      go_at_call 42
      refine HE.out.mono ?_
      rintro e w4 ⟨rfl, hb4⟩
      refine hK.out _ _ (hS.trans (hb4.mono hS.size)) (fun hS2 => ?_)
      clear hK K
      have HS2 := Lib.hid hS2
      clear hS hb4 HE hS2
      obtain ⟨gb, hgb⟩ : ∃ gb, T.begins s.data.toList (atP 0) = gb := ⟨_, rfl⟩
      rw [hgb]
      have HGV := Lib.hid hgb
      clear hgb
      refine wpAnyH_done (by kernel_rfl) ?_ _
      cases gb with
      | true =>
        have HF := Lib.hid (show R = true by rw [HW.out, HD.out, List.any_cons, HGV.out]; rfl)
        go_wp2
        go_ret
        exact ⟨by rw [HF.out]; rfl, HS2.out⟩
      | false =>
        go_wp2
        refine ⟨⟨j + 1, by go_num, hp, Lib.hid ⟨HS2.out, fun t ht => ?_⟩⟩, by simp [intOf]; omega⟩
        rcases HM.out t ht with ht | rfl
        · exact HH.out.2 t ht
        · exact HGV.out
    · have hdl : decide ((j : Int) < (l.length : Int)) = false := by simp; omega
      obtain rfl : j = l.length := by omega
      have HF := Lib.hid (show R = false by rw [HW.out, List.drop_length]; rfl)
      go_wp2
      go_ret
      exact ⟨by rw [HF.out]; rfl, HH.out.1⟩
end Go.Proofs.Ytgbljnnmhmlifaa

