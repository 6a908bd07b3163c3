/-
  WHAT hackleref04's Ends ANSWERS at a ReCat and at a ReAlt, where it answers rightly at their Subs. Condition: the text has at most 2^30 bytes.
-/
import Derived.Test.YtkladjjeacjgpaaDoorQEnds
namespace Go.Proofs.YtkladjjeacjgpaaDoor
open Go.RowKit

/-- the first k places of both, of the one behind -/
def mix (k : Nat) (a x : Nat → Bool) : Nat → Bool := fun p => if p < k then a p || x p else a p
theorem mix_zero (a x : Nat → Bool) : mix 0 a x = a := by funext p; simp [mix]
theorem mix_succ (k : Nat) (a x : Nat → Bool) : updS (mix k a x) k (a k || x k) = mix (k + 1) a x := by
  funext p
  unfold updS mix
  by_cases h : p = k
  · subst h; simp
  · rw [if_neg h]
    by_cases h2 : p < k
    · rw [if_pos h2, if_pos (by omega)]
    · rw [if_neg h2, if_neg (by omega)]
theorem mix_at (k : Nat) (a x : Nat → Bool) : mix k a x k = a k := by simp [mix]
theorem mix_all (n : Nat) (a x : Nat → Bool) : bl n (mix n a x) = bl n (orB a x) := bl_congr fun i hi => by unfold mix orB; rw [if_pos hi]

set_option maxHeartbeats 8000000 in
set_option maxRecDepth 20000 in
theorem ends_k2 (s : ByteArray) (hs30 : s.size ≤ 1073741824) (n : Nat) (hn : n = s.size + 1) (m : Nat → Bool) (l : List Tree) (lo hi : Int) (A : Option Addr) (c : Nat) (hc : l.length ≤ c ∧ c ≤ 9223372036854775807) (w : World) (g0 : Nat) (f : Nat → Bool) (hf0 : BlkIs w g0 4 (bl n f))
    (hs : l ≠ [] → ∃ b o, A = some ⟨b, o, none⟩ ∧ b < w.heap.size ∧ ∀ (i : Nat) (h : i < l.length), ∃ cs : List Value, Tree.At w l[i] (.agg cs.toArray) ∧ cs.length = 8 ∧ w.rangeAt b (o + i * 8) cs)
    (ih : ∀ t ∈ l, ∀ (v : Value) (w : World) (g0 : Nat) (f : Nat → Bool), Tree.At w t v → BlkIs w g0 4 (bl n f) → Calls Tryd.prog 28 #[v, .string s, .slice (some ⟨g0, 0, none⟩) n n] w (EndsIs n (t.ends s.data.toList f) w)) :
    Calls Tryd.prog 28 #[reV 2 m A l.length c lo hi, .string s, .slice (some ⟨g0, 0, none⟩) n n] w (EndsIs n (endsCat s.data.toList l f) w) := by
  have hw0 : IntKind.i64.wrap ((s.size : Int) + 1) = ((n : Nat) : Int) := by rw [IntKind.wrap_i64]; omega
  have hmk := fun w => make_bools n (by omega) w
  have hg0 := hf0.lt
  have HB0 := Lib.hid (ends_begin 2 m A l.length c n lo hi w)
  have HF0 := Lib.hid hf0
  have HN := Lib.hid hn
  have HS := Lib.hid hs
  have IH := Lib.hid ih
  clear hs ih
  clear hf0 hn
  unfold EndsIs at *
  unfold reV reL at *
  go_enter Tryd.func28, Tryd.ntmps28
  have hcp := copy_bools HB0.out.2.2 ((HF0.out.alloc _).alloc _)
  go_wp2
  clear hcp hmk hw0
  go_loopw [7, 9] (fun x i wr => ∃ (j g : Nat), x = .slice (some ⟨g, 0, none⟩) n n ∧ i = .int .i64 j ∧ j ≤ l.length ∧ Hid (w.heap.size ≤ g ∧ Below w.heap.size w wr ∧ BlkIs wr w.heap.size 27 (reL 2 m A l.length c lo hi).toArray ∧ BlkIs wr g 4 (bl n (endsCat s.data.toList (l.take j) f)))) (fun _ i _ => l.length - (intOf i).toNat)
  case atStart =>
    have hb := HB0.out
    exact ⟨0, w.heap.size + 1, rfl, rfl, Nat.zero_le _, Lib.hid ⟨by omega, below_setRow hb.1 (by omega) _, row_far hb.2.1 (by omega), by rw [List.take_zero]; exact row_set hb.2.2⟩⟩
  case round =>
    obtain ⟨j, g, rfl, rfl, hj, HH⟩ := hrel
    have hbl := HH.out.2.2.1
    unfold reL at hbl
    obtain ⟨_, _, _, _, _, c5, _, _⟩ := hbl.eight
    by_cases hp : j < l.length
    · have hdl : decide ((j : Int) < (l.length : Int)) = true := by simp; omega
      obtain ⟨b, o, rfl, hbw, hg⟩ := HS.out (by intro e; subst e; simp at hp)
      obtain ⟨cs, hcat, hlen, hrow⟩ := hg j hp
      obtain ⟨A', n', c', rfl⟩ := hcat.eight
      obtain ⟨r0, r1, r2, r3, r4, r5, r6, r7⟩ := row_eight hrow HH.out.2.1
      have hcall := IH.out _ (List.getElem_mem hp) _ wr g _ (hcat.step HH.out.2.1) HH.out.2.2.2
      rw [← endsCat_take hp] at hcall
      have hk1 : IntKind.i64.wrap ((j : Int) + 1) = ((j + 1 : Nat) : Int) := by rw [IntKind.wrap_i64]; omega
      have HC := Lib.hid hcall
      clear hrow hcat hcall hg hbl
      go_wp2_with fail
      refine HC.out.mono ?_
      rintro e w1 ⟨g1, rfl, hg1, hbl1, hb1⟩
      have HB1 := Lib.hid (And.intro hg1 (And.intro hbl1 hb1))
      clear hg1 hbl1 hb1
      go_wp2
      have hz := HH.out.2.1.size
      exact ⟨⟨j + 1, g1, rfl, by go_num, hp, Lib.hid ⟨Nat.le_trans hz HB1.out.1, HH.out.2.1.trans (HB1.out.2.2.mono hz), HH.out.2.2.1.step HB1.out.2.2, HB1.out.2.1⟩⟩, by simp [intOf]; omega⟩
    · have hdl : decide ((j : Int) < (l.length : Int)) = false := by simp; omega
      obtain rfl : j = l.length := by omega
      have HH2 := HH
      rw [List.take_length] at HH2
      clear HH hbl
      go_wp2
      go_ret
      exact ⟨g, rfl, HH2.out.1, HH2.out.2.2.2, HH2.out.2.1⟩

set_option maxHeartbeats 8000000 in
set_option maxRecDepth 20000 in
theorem ends_k3 (s : ByteArray) (hs30 : s.size ≤ 1073741824) (n : Nat) (hn : n = s.size + 1) (m : Nat → Bool) (l : List Tree) (lo hi : Int) (A : Option Addr) (c : Nat) (hc : l.length ≤ c ∧ c ≤ 9223372036854775807) (w : World) (g0 : Nat) (f : Nat → Bool) (hf0 : BlkIs w g0 4 (bl n f))
    (hs : l ≠ [] → ∃ b o, A = some ⟨b, o, none⟩ ∧ b < w.heap.size ∧ ∀ (i : Nat) (h : i < l.length), ∃ cs : List Value, Tree.At w l[i] (.agg cs.toArray) ∧ cs.length = 8 ∧ w.rangeAt b (o + i * 8) cs)
    (ih : ∀ t ∈ l, ∀ (v : Value) (w : World) (g0 : Nat) (f : Nat → Bool), Tree.At w t v → BlkIs w g0 4 (bl n f) → Calls Tryd.prog 28 #[v, .string s, .slice (some ⟨g0, 0, none⟩) n n] w (EndsIs n (t.ends s.data.toList f) w)) :
    Calls Tryd.prog 28 #[reV 3 m A l.length c lo hi, .string s, .slice (some ⟨g0, 0, none⟩) n n] w (EndsIs n (endsAlt s.data.toList l f) w) := by
  have hw0 : IntKind.i64.wrap ((s.size : Int) + 1) = ((n : Nat) : Int) := by rw [IntKind.wrap_i64]; omega
  have hmk := fun w => make_bools n (by omega) w
  have hg0 := hf0.lt
  have HB0 := Lib.hid (ends_begin 3 m A l.length c n lo hi w)
  have HF0 := Lib.hid hf0
  have HN := Lib.hid hn
  have HS := Lib.hid hs
  have IH := Lib.hid ih
  clear hs ih
  clear hf0 hn
  unfold EndsIs at *
  unfold reV reL at *
  go_enter Tryd.func28, Tryd.ntmps28
  go_wp2
  clear hmk hw0
  go_loopw [10] (fun i wr => ∃ (j : Nat), i = .int .i64 j ∧ j ≤ l.length ∧ Hid (Below w.heap.size w wr ∧ BlkIs wr w.heap.size 27 (reL 3 m A l.length c lo hi).toArray ∧ BlkIs wr (w.heap.size + 1) 4 (bl n (endsAlt s.data.toList (l.take j) f)) ∧ BlkIs wr g0 4 (bl n f))) (fun i _ => l.length - (intOf i).toNat)
  case atStart =>
    have hb := HB0.out
    exact ⟨0, rfl, Nat.zero_le _, Lib.hid ⟨hb.1, hb.2.1, by rw [List.take_zero]; exact hb.2.2, (HF0.out.alloc _).alloc _⟩⟩
  case round =>
    obtain ⟨j, rfl, hj, HH⟩ := hrel
    have hbl := HH.out.2.1
    unfold reL at hbl
    obtain ⟨_, _, _, _, _, c5, _, _⟩ := hbl.eight
    by_cases hp : j < l.length
    · have hdl : decide ((j : Int) < (l.length : Int)) = true := by simp; omega
      obtain ⟨b, o, rfl, hbw, hg⟩ := HS.out (by intro e; subst e; simp at hp)
      obtain ⟨cs, hcat, hlen, hrow⟩ := hg j hp
      obtain ⟨A', n', c', rfl⟩ := hcat.eight
      obtain ⟨r0, r1, r2, r3, r4, r5, r6, r7⟩ := row_eight hrow HH.out.1
      have hcall := IH.out _ (List.getElem_mem hp) _ wr g0 _ (hcat.step HH.out.1) HH.out.2.2.2
      have htk := endsAlt_take (s := s.data.toList) (f := f) hp
      have hk1 : IntKind.i64.wrap ((j : Int) + 1) = ((j + 1 : Nat) : Int) := by rw [IntKind.wrap_i64]; omega
      generalize (l[j]).ends s.data.toList f = X at *
      generalize ha : endsAlt s.data.toList (l.take j) f = a at *
      have HC := Lib.hid hcall
      have HTK := Lib.hid htk
      clear hrow hcat hcall hg hbl htk ha
      go_wp2_with fail
      refine HC.out.mono ?_
      rintro e w1 ⟨gx, rfl, hg1, hbl1, hb1⟩
      have hz := HH.out.1.size
      have hlt := HH.out.2.2.1.lt
      have hne : gx ≠ w.heap.size + 1 := by omega
      have HB1 := Lib.hid (And.intro (HH.out.1.trans (hb1.mono hz)) (And.intro (HH.out.2.1.step hb1) (And.intro (HH.out.2.2.1.step hb1) (And.intro (HH.out.2.2.2.step hb1) hbl1))))
      clear hg1 hbl1 hb1 hz hlt
      go_wp2
      go_loopw [12] (fun i wr => ∃ (k : Nat), i = .int .i64 k ∧ k ≤ n ∧ Hid (Below w.heap.size w wr ∧ BlkIs wr w.heap.size 27 (reL 3 m (some ⟨b, o, none⟩) l.length c lo hi).toArray ∧ BlkIs wr (w.heap.size + 1) 4 (bl n (mix k a X)) ∧ BlkIs wr g0 4 (bl n f) ∧ BlkIs wr gx 4 (bl n X))) (fun i _ => n - (intOf i).toNat)
      case atStart =>
        exact ⟨0, rfl, Nat.zero_le _, Lib.hid ⟨HB1.out.1, HB1.out.2.1, by rw [mix_zero]; exact HB1.out.2.2.1, HB1.out.2.2.2.1, HB1.out.2.2.2.2⟩⟩
      case round =>
        obtain ⟨k, rfl, hk, H3⟩ := hrel
        by_cases hkn : k < n
        · have hdk : decide ((k : Int) < (n : Int)) = true := by simp; omega
          have hk2 : IntKind.i64.wrap ((k : Int) + 1) = ((k + 1 : Nat) : Int) := by have := HN.out; rw [IntKind.wrap_i64]; omega
          have x1 := bl_range H3.out.2.2.1 hkn
          rw [mix_at] at x1
          have x2 := bl_range H3.out.2.2.2.2 hkn
          have x3 := H3.out.2.2.1.frozen k
          have hms := mix_succ k a X
          generalize a k = p at *
          generalize X k = q at *
          have HMS := Lib.hid hms
          clear hms
          cases p with
          | true =>
            go_wp2
            refine ⟨⟨k + 1, by go_num, hkn, Lib.hid ⟨H3.out.1.setCell (p := ⟨_, _, none⟩) (by simp) _, H3.out.2.1.far (by simp) _, ?_, H3.out.2.2.2.1.far (by simp; omega) _, H3.out.2.2.2.2.far (by simpa using hne) _⟩⟩, by simp [intOf]; omega⟩
            rw [← HMS.out, ← bl_set]
            exact H3.out.2.2.1.put _ _
          | false =>
            go_wp2
            refine ⟨⟨k + 1, by go_num, hkn, Lib.hid ⟨H3.out.1.setCell (p := ⟨_, _, none⟩) (by simp) _, H3.out.2.1.far (by simp) _, ?_, H3.out.2.2.2.1.far (by simp; omega) _, H3.out.2.2.2.2.far (by simpa using hne) _⟩⟩, by simp [intOf]; omega⟩
            rw [← HMS.out, ← bl_set]
            exact H3.out.2.2.1.put _ _
        · have hdk : decide ((k : Int) < (n : Int)) = false := by simp; omega
          obtain rfl : k = n := by omega
          go_wp2
          refine ⟨⟨j + 1, by go_num, hp, Lib.hid ⟨H3.out.1, H3.out.2.1, ?_, H3.out.2.2.2.1⟩⟩, by simp [intOf]; omega⟩
          have h := H3.out.2.2.1
          rw [mix_all] at h
          rw [bl_congr (g := orB a X) fun i _ => HTK.out i]
          exact h
    · have hdl : decide ((j : Int) < (l.length : Int)) = false := by simp; omega
      obtain rfl : j = l.length := by omega
      have HH2 := HH
      rw [List.take_length] at HH2
      clear HH hbl
      go_wp2
      go_ret
      exact ⟨_, rfl, by omega, HH2.out.2.2.1, HH2.out.1⟩

end Go.Proofs.YtkladjjeacjgpaaDoor

