/-
  WHAT ranges TELLS: the ranges of bytes of a set, as long as may be, rising: the iterator's contract. No condition.
-/
import Derived.Test.YtkladjjeacjgpaaDoorQG03
import Derived.Test.YtkladjjeacjgpaaDoorQTbyt
import Derived.Test.YtkladjjeacjgpaaDoorQTflat
namespace Go.Proofs.YtkladjjeacjgpaaDoor
open Go.RowKit

theorem nextS_spec (m : Nat → Bool) (k : Int) : nextS m k = -1 ∨ ∃ b : Nat, b < 256 ∧ m b = true ∧ k ≤ (b : Int) ∧ nextS m k = (b : Int) := by
  unfold nextS
  cases h : mems (sLess m (sBelow k)) 256 with
  | nil => exact .inl rfl
  | cons b r =>
    refine .inr ⟨b, ?_⟩
    have hb : b ∈ mems (sLess m (sBelow k)) 256 := by rw [h]; simp
    unfold mems at hb
    rw [List.mem_filter, List.mem_range] at hb
    have h2 := hb.2
    simp only [sLess, sBelow, Bool.and_eq_true, Bool.not_eq_true', decide_eq_false_iff_not] at h2
    exact ⟨hb.1, h2.1, by omega, rfl⟩
def upto (b : Int) : Int := if b < 0 then 256 else b
def rangesFrom (m : Nat → Bool) : Nat → Int → List (Int × Int)
  | 0, _ => []
  | f + 1, lo => if lo < 0 then [] else (lo, upto (nextS (sNot m) lo) - 1) :: rangesFrom m f (nextS m (upto (nextS (sNot m) lo)))
def rangesOf (m : Nat → Bool) : List (Int × Int) := rangesFrom m 257 (nextS m 0)
/-- where a range ends: behind where it begins -/
theorem upto_gt {m : Nat → Bool} {lo : Nat} (h : lo < 256) (hm : m lo = true) : (lo : Int) < upto (nextS (sNot m) (lo : Int)) ∧ upto (nextS (sNot m) (lo : Int)) ≤ 256 := by
  unfold upto
  rcases nextS_spec (sNot m) (lo : Int) with e | ⟨b, h1, h2, h3, e⟩
  · rw [e]; simp; omega
  · rw [e, if_neg (by omega)]
    refine ⟨?_, by omega⟩
    rcases Nat.lt_or_ge lo b with g | g
    · omega
    · have : b = lo := by omega
      subst this
      simp [sNot, hm] at h2

theorem from_len (m : Nat → Bool) : ∀ (f : Nat) (lo : Int), (rangesFrom m f lo).length ≤ f
  | 0, _ => by simp [rangesFrom]
  | f + 1, lo => by
    unfold rangesFrom
    split
    · simp
    · have := from_len m f (nextS m (upto (nextS (sNot m) lo)))
      simp only [List.length_cons]; omega
theorem from_pos (m : Nat → Bool) : ∀ (f : Nat) (lo : Int), 0 < f → 0 ≤ lo → 0 < (rangesFrom m f lo).length
  | f + 1, lo, _, h => by
    unfold rangesFrom
    rw [if_neg (by omega)]
    simp
def leftR (x : Int) : Nat := if x < 0 then 0 else (257 - x).toNat
attribute [local go_sem] Oper.semAt_some

set_option maxRecDepth 100000 in
set_option maxHeartbeats 4000000 in
theorem ranges1_in (l Bs : Nat) (m : Nat → Bool) (J : List (Int × Int) → World → Prop) (Jx : World → Prop)
    (hJ : ∀ pre W W', J pre W → Below W.heap.size W W' → J pre W') (hbox : ∀ pre W, J pre W → BlkIs W Bs 24 (set4 m).toArray ∧ Tab W)
    (hY : ∀ pre (x : Int × Int) W, J pre W → pre.length < 257 → 0 ≤ x.1 → x.1 ≤ x.2 → x.2 ≤ 255 → YieldAt Fence.wide 1 Tryd.prog l #[.int .u8 x.1, .int .u8 x.2] W fun e W' => (e = .returned (.bool true) ∧ J (pre ++ [x]) W') ∨ (e = .returned (.bool false) ∧ Jx W'))
    (W : World) (h0 : J [] W) :
    CallsIn Fence.wide 2 Tryd.prog 83 #[.func (.yield l) #[] #[], .pointer (some ⟨Bs, 0, none⟩)] W fun e W' => (∃ v, e = .returned v) ∧ (J (rangesOf m) W' ∨ Jx W') := by
  have HJ := Lib.hid hJ
  have HB := Lib.hid hbox
  have HY := Lib.hid hY
  have H0 := Lib.hid h0
  have HN := Lib.hid (fun (m : Nat → Bool) (k : Int) (hk : k ≤ 9223372036854775807) (u : World) (hT : Tab u) => next_any m k hk u hT)
  have HNOT := Lib.hid (fun (u : World) => not_any m u)
  obtain ⟨c0, c1, c2, c3, _⟩ := (hbox _ _ h0).1.four
  clear hJ hbox hY h0
  refine callsIn_wide.2 ((callsIn_wide (n := 5)).1 ?_)
  refine callsIn_of_wp Tryd.func83 rfl trivial ?_ rfl
  simp only [Tryd.ntmps83, List.size_toArray, List.length_cons, List.length_nil, Nat.reduceAdd, Nat.reduceSub, Array.replicate_succ, Array.replicate_zero, List.push_toArray, List.append_toArray, List.nil_append, List.cons_append]
  unfold setV at HN HNOT
  gi_wp2
  refine ⟨trivial, ?_⟩
  gi_at_call 64
  refine (callsIn_wide.2 (HN.out m 0 (by omega) W (HB.out _ _ H0.out).2)).mono ?_
  rintro e w1 ⟨rfl, hb1⟩
  have H1 := Lib.hid (HJ.out _ _ _ H0.out hb1)
  clear hb1 c0 c1 c2 c3
  gi_wp2
  gi_loopw [3] (fun s wr => ∃ (lo : Int) (f : Nat) (pre : List (Int × Int)), s = .int .i64 lo ∧ (lo = -1 ∨ (0 ≤ lo ∧ lo ≤ 255)) ∧ Hid ((0 ≤ lo → m lo.toNat = true) ∧ J pre wr ∧ pre ++ rangesFrom m f lo = rangesOf m ∧ (lo < 0 ∨ 256 - lo ≤ (f : Int)))) (fun s _ => leftR (intOf s))
  case atStart =>
    rcases nextS_spec m 0 with e | ⟨b, h1, h2, h3, e⟩
    · exact ⟨nextS m 0, 257, [], rfl, .inl e, Lib.hid ⟨fun h => by omega, H1.out, rfl, .inl (by omega)⟩⟩
    · refine ⟨nextS m 0, 257, [], rfl, .inr (by omega), Lib.hid ⟨fun h => ?_, H1.out, rfl, .inr (by omega)⟩⟩
      rw [e]; exact h2
  case round =>
    obtain ⟨lo, f, pre, rfl, hlo, HH⟩ := hrel
    by_cases hneg : lo < 0
    · have e0 : decide (lo ≥ 0) = false := decide_eq_false (by omega)
      gi_wp2
      go_end0
      obtain ⟨_, h2, h3, _⟩ := HH.out
      refine ⟨⟨_, rfl⟩, .inl ?_⟩
      have : rangesFrom m f lo = [] := by
        cases f with
        | zero => rfl
        | succ f => unfold rangesFrom; rw [if_pos hneg]
      rw [this, List.append_nil] at h3
      rw [← h3]; exact h2
    · have e0 : decide (lo ≥ 0) = true := decide_eq_true (by omega)
      obtain ⟨n, rfl⟩ : ∃ n : Nat, lo = (n : Int) := ⟨lo.toNat, by omega⟩
      obtain ⟨g1, g2, g3, g4⟩ := HH.out
      have hn : n < 256 := by omega
      have hmn : m n = true := g1 (by omega)
      obtain ⟨u1, u2⟩ := upto_gt hn hmn
      obtain ⟨c0, c1, c2, c3, _⟩ := (HB.out _ _ g2).1.four
      obtain ⟨q, hq⟩ : ∃ q, q = nextS (sNot m) (n : Int) := ⟨_, rfl⟩
      have hq1 : q = -1 ∨ (0 ≤ q ∧ q ≤ 255) := by
        rcases nextS_spec (sNot m) (n : Int) with e | ⟨b, h1, h2, h3, e⟩
        · exact .inl (hq.trans e)
        · exact .inr (by omega)
      have HQ := Lib.hid (And.intro hq (And.intro u1 u2))
      have HG := Lib.hid (And.intro hmn (And.intro g2 (And.intro g3 g4)))
      have hpl : pre.length < 257 := by
        have h1 := congrArg List.length g3
        rw [List.length_append] at h1
        have h2 := from_len m 257 (nextS m 0)
        have h3 := from_pos m f (n : Int) (by omega) (by omega)
        unfold rangesOf at h1
        omega
      clear g1 g2 g3 g4 u1 u2 hmn hq
      gi_wp2
      refine ⟨trivial, ?_⟩
      gi_at_call 84
      refine (callsIn_wide.2 (HNOT.out _)).mono ?_
      rintro e w2 ⟨rfl, hb2⟩
      have hj2 := HJ.out _ _ _ HG.out.2.1 hb2
      have HJ2 := Lib.hid hj2
      clear hb2 hj2 c0 c1 c2 c3
      gi_wp2
      refine ⟨trivial, ?_⟩
      gi_at_call 64
      refine (callsIn_wide.2 (HN.out (sNot m) (n : Int) (by omega) w2 (HB.out _ _ HJ2.out).2)).mono ?_
      rintro e w3 ⟨rfl, hb3⟩
      rw [← HQ.out.1]
      have HJ3 := Lib.hid (HJ.out _ _ _ HJ2.out hb3)
      clear hb3
      rcases hq1 with hq1 | hq1
      · have eq0 : decide (q < 0) = true := decide_eq_true (by omega)
        have hbh : upto q = 256 := by unfold upto; rw [if_pos (by omega)]
        have hb1 := HQ.out.2
        rw [← HQ.out.1, hbh] at hb1
        have hw1 : IntKind.u8.wrap (n : Int) = (n : Int) := by rw [IntKind.wrap_u8]; omega
        have hw2 : IntKind.u8.wrap (255) = 255 := by rw [IntKind.wrap_u8]; omega
        have hw3 : IntKind.i64.wrap (255) = 255 := by rw [IntKind.wrap_i64]; omega
        obtain ⟨fn, tmps, assign, body, hy, hR⟩ := YieldAt.anyN (m := 4) (HY.out pre ((n : Int), 255) w3 HJ3.out hpl (by show (0 : Int) ≤ (n : Int); omega) (by show (n : Int) ≤ 255; omega) (by show 255 ≤ 255; omega))
        have HR := Lib.hid hR
        have HBB := Lib.hid (And.intro hb1 hbh)
        clear hR hb1 hbh
        gi_wp2
        refine HR.out.mono ?_
        rintro e w4 (⟨rfl, hj4⟩ | ⟨rfl, hx4⟩)
        · obtain ⟨d0, d1, d2, d3, _⟩ := (HB.out _ _ hj4).1.four
          have HJ4 := Lib.hid hj4
          clear hj4 hy HR
          gi_wp2
          refine ⟨trivial, ?_⟩
          gi_at_call 64
          refine (callsIn_wide.2 (HN.out m 256 (by omega) w4 (HB.out _ _ HJ4.out).2)).mono ?_
          rintro e w5 ⟨rfl, hb5⟩
          have HJ5 := Lib.hid (HJ.out _ _ _ HJ4.out hb5)
          clear hb5 d0 d1 d2 d3
          gi_wp2
          obtain ⟨g1, g2, g3, g4⟩ := HG.out
          obtain ⟨f', rfl⟩ : ∃ f', f = f' + 1 := ⟨f - 1, by omega⟩
          have hstep : (pre ++ [((n : Int), 255)]) ++ rangesFrom m f' (nextS m 256) = rangesOf m := by
            rw [← g3]
            conv => rhs; unfold rangesFrom
            rw [if_neg (by omega), ← HQ.out.1, HBB.out.2, List.append_assoc]
            rfl
          have hbb := HBB.out.1
          rcases nextS_spec m 256 with e | ⟨b, h1, h2, h3, e⟩
          · exact ⟨⟨nextS m 256, f', _, rfl, .inl e, Lib.hid ⟨fun h => by omega, HJ5.out, hstep, .inl (by omega)⟩⟩, by show leftR (nextS m (256)) < leftR (n : Int); rw [e]; unfold leftR; split <;> split <;> omega⟩
          · refine ⟨⟨nextS m 256, f', _, rfl, .inr (by omega), Lib.hid ⟨fun h => ?_, HJ5.out, hstep, .inr (by omega)⟩⟩, by show leftR (nextS m (256)) < leftR (n : Int); rw [e]; unfold leftR; split <;> split <;> omega⟩
            rw [e]; exact h2
        · have HX4 := Lib.hid hx4
          clear hx4 hy HR
          gi_wp2
          refine bodyPost_ret (results_none rfl _ _ _) rfl ?_
          exact ⟨⟨_, rfl⟩, .inr HX4.out⟩
      · have eq0 : decide (q < 0) = false := decide_eq_false (by omega)
        have hbh : upto q = q := by unfold upto; rw [if_neg (by omega)]
        have hb1 := HQ.out.2
        rw [← HQ.out.1, hbh] at hb1
        have hw1 : IntKind.u8.wrap (n : Int) = (n : Int) := by rw [IntKind.wrap_u8]; omega
        have hw2 : IntKind.u8.wrap (q - 1) = q - 1 := by rw [IntKind.wrap_u8]; omega
        have hw3 : IntKind.i64.wrap (q - 1) = q - 1 := by rw [IntKind.wrap_i64]; omega
        obtain ⟨fn, tmps, assign, body, hy, hR⟩ := YieldAt.anyN (m := 4) (HY.out pre ((n : Int), q - 1) w3 HJ3.out hpl (by show (0 : Int) ≤ (n : Int); omega) (by show (n : Int) ≤ q - 1; omega) (by show q - 1 ≤ 255; omega))
        have HR := Lib.hid hR
        have HBB := Lib.hid (And.intro hb1 hbh)
        clear hR hb1 hbh
        gi_wp2
        refine HR.out.mono ?_
        rintro e w4 (⟨rfl, hj4⟩ | ⟨rfl, hx4⟩)
        · obtain ⟨d0, d1, d2, d3, _⟩ := (HB.out _ _ hj4).1.four
          have HJ4 := Lib.hid hj4
          clear hj4 hy HR
          gi_wp2
          refine ⟨trivial, ?_⟩
          gi_at_call 64
          refine (callsIn_wide.2 (HN.out m q (by omega) w4 (HB.out _ _ HJ4.out).2)).mono ?_
          rintro e w5 ⟨rfl, hb5⟩
          have HJ5 := Lib.hid (HJ.out _ _ _ HJ4.out hb5)
          clear hb5 d0 d1 d2 d3
          gi_wp2
          obtain ⟨g1, g2, g3, g4⟩ := HG.out
          obtain ⟨f', rfl⟩ : ∃ f', f = f' + 1 := ⟨f - 1, by omega⟩
          have hstep : (pre ++ [((n : Int), q - 1)]) ++ rangesFrom m f' (nextS m q) = rangesOf m := by
            rw [← g3]
            conv => rhs; unfold rangesFrom
            rw [if_neg (by omega), ← HQ.out.1, HBB.out.2, List.append_assoc]
            rfl
          have hbb := HBB.out.1
          rcases nextS_spec m q with e | ⟨b, h1, h2, h3, e⟩
          · exact ⟨⟨nextS m q, f', _, rfl, .inl e, Lib.hid ⟨fun h => by omega, HJ5.out, hstep, .inl (by omega)⟩⟩, by show leftR (nextS m q) < leftR (n : Int); rw [e]; unfold leftR; split <;> split <;> omega⟩
          · refine ⟨⟨nextS m q, f', _, rfl, .inr (by omega), Lib.hid ⟨fun h => ?_, HJ5.out, hstep, .inr (by omega)⟩⟩, by show leftR (nextS m q) < leftR (n : Int); rw [e]; unfold leftR; split <;> split <;> omega⟩
            rw [e]; exact h2
        · have HX4 := Lib.hid hx4
          clear hx4 hy HR
          gi_wp2
          refine bodyPost_ret (results_none rfl _ _ _) rfl ?_
          exact ⟨⟨_, rfl⟩, .inr HX4.out⟩

end Go.Proofs.YtkladjjeacjgpaaDoor

