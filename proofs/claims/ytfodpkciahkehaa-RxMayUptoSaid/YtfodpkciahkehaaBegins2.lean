/-
  WHAT hackleref04's Begins ANSWERS at a ReEmpty, a ReCat, a ReAlt and a ReRep, where it answers rightly at their Subs. Condition: the text has at most 2^30 bytes.
-/
import Derived.Test.YtfodpkciahkehaaLang
namespace Go.Proofs.Ytfodpkciahkehaa
open Go.RowKit

def BoolIs (b : Bool) (w : World) : Ending → World → Prop := fun e w' => e = .returned (.bool b) ∧ Below w.heap.size w w'
theorem beginsAlt_iff (s : List UInt8) (f : Nat → Bool) : ∀ {l : List Tree}, beginsAlt s l f = true ↔ ∃ t ∈ l, t.begins s f = true
  | [] => by simp [beginsAlt]
  | a :: l => by simp only [beginsAlt, Bool.or_eq_true, List.mem_cons, exists_eq_or_imp, beginsAlt_iff s f (l := l)]

set_option maxHeartbeats 8000000 in
set_option maxRecDepth 20000 in
theorem begins_k0 (s : ByteArray) (n : Nat) (hn : n = s.size + 1) (m : Nat → Bool) (l : List Tree) (lo hi : Int) (A : Option Addr) (c : Nat) (w : World) (g0 : Nat) (f : Nat → Bool) (hf0 : BlkIs w g0 4 (bl n f)) :
    Calls Try.prog 19 #[reV 0 m A l.length c lo hi, .string s, .slice (some ⟨g0, 0, none⟩) n n] w (BoolIs (f s.size) w) := by
  have hB0 : Below w.heap.size w (w.alloc (.cells (reL 0 m A l.length c lo hi).toArray 27)) := (Below.refl _ _).alloc (Nat.le_refl _) _
  have hX0 := BlkIs.new w 27 (reL 0 m A l.length c lo hi).toArray
  have HB0 := Lib.hid (And.intro hB0 (And.intro hX0 (hf0.alloc (.cells (reL 0 m A l.length c lo hi).toArray 27))))
  have hsn : s.size < n := by omega
  have hsi : (s.size : Int) < (n : Int) := by omega
  have HN := Lib.hid hn
  clear hB0 hX0 hn
  unfold BoolIs at *
  unfold reV reL at *
  have d0 := bl_range (hf0.alloc (.cells (reL 0 m A l.length c lo hi).toArray 27)) hsn
  unfold reL at d0
  have hg0 := hf0.lt
  have d1 := bl_range hf0 hsn
  clear hf0
  go_enter Try.func19, Try.ntmps19
  go_wp2
  go_ret
  exact ⟨rfl, (Below.refl _ _).alloc (Nat.le_refl _) _⟩

set_option maxHeartbeats 8000000 in
set_option maxRecDepth 20000 in
theorem begins_k3 (s : ByteArray) (n : Nat) (hn : n = s.size + 1) (m : Nat → Bool) (l : List Tree) (lo hi : Int) (A : Option Addr) (c : Nat) (hc : l.length ≤ c ∧ c ≤ 9223372036854775807) (w : World) (g0 : Nat) (f : Nat → Bool) (hf0 : BlkIs w g0 4 (bl n f))
    (hs : l ≠ [] → ∃ b o, A = some ⟨b, o, none⟩ ∧ b < w.heap.size ∧ ∀ (i : Nat) (h : i < l.length), ∃ cs : List Value, Tree.At w l[i] (.agg cs.toArray) ∧ cs.length = 8 ∧ w.rangeAt b (o + i * 8) cs)
    (ih : ∀ t ∈ l, ∀ (v : Value) (w : World) (g0 : Nat) (f : Nat → Bool), Tree.At w t v → BlkIs w g0 4 (bl n f) → Calls Try.prog 19 #[v, .string s, .slice (some ⟨g0, 0, none⟩) n n] w (BoolIs (t.begins s.data.toList f) w)) :
    Calls Try.prog 19 #[reV 3 m A l.length c lo hi, .string s, .slice (some ⟨g0, 0, none⟩) n n] w (BoolIs (beginsAlt s.data.toList l f) w) := by
  have hB0 : Below w.heap.size w (w.alloc (.cells (reL 3 m A l.length c lo hi).toArray 27)) := (Below.refl _ _).alloc (Nat.le_refl _) _
  have hX0 := BlkIs.new w 27 (reL 3 m A l.length c lo hi).toArray
  have HB0 := Lib.hid (And.intro hB0 (And.intro hX0 (hf0.alloc (.cells (reL 3 m A l.length c lo hi).toArray 27))))
  have hsn : s.size < n := by omega
  have hsi : (s.size : Int) < (n : Int) := by omega
  have HN := Lib.hid hn
  have HS := Lib.hid hs
  have IH := Lib.hid ih
  clear hs ih
  clear hsn hsi HN
  clear hB0 hX0 hn
  unfold BoolIs at *
  unfold reV reL at *
  clear hf0
  obtain ⟨R, hR⟩ : ∃ R, beginsAlt s.data.toList l f = R := ⟨_, rfl⟩
  rw [hR]
  have HR := Lib.hid hR
  clear hR
  go_enter Try.func19, Try.ntmps19
  go_wp2
  go_loopw [9] (fun i wr => ∃ (j : Nat), i = .int .i64 j ∧ j ≤ l.length ∧ Hid (Below w.heap.size w wr ∧ BlkIs wr w.heap.size 27 (reL 3 m A l.length c lo hi).toArray ∧ BlkIs wr g0 4 (bl n f) ∧ ∀ t ∈ l.take j, t.begins s.data.toList f = false)) (fun i _ => l.length - (intOf i).toNat)
  case atStart => exact ⟨0, rfl, Nat.zero_le _, Lib.hid ⟨HB0.out.1, HB0.out.2.1, HB0.out.2.2, by simp⟩⟩
  case round =>
    obtain ⟨j, rfl, hj, HH⟩ := hrel
    have hbl := HH.out.2.1
    unfold reL at hbl
    obtain ⟨_, _, _, _, _, c5, _, _⟩ := hbl.eight
    by_cases hp : j < l.length
    · have hdl : decide ((j : Int) < (l.length : Int)) = true := by simp; omega
      obtain ⟨b, o, rfl, hbw, hg⟩ := HS.out (by intro e; subst e; simp at hp)
      obtain ⟨cs, hcat, hlen, hrow⟩ := hg j hp
      obtain ⟨A', n', c', rfl⟩ := hcat.eight
      obtain ⟨r0, r1, r2, r3, r4, r5, r6, r7⟩ := row_eight hrow HH.out.1
      have hcall := IH.out _ (List.getElem_mem hp) _ wr g0 _ (hcat.step HH.out.1) HH.out.2.2.1
      have hk1 : IntKind.i64.wrap ((j : Int) + 1) = ((j + 1 : Nat) : Int) := by rw [IntKind.wrap_i64]; omega
      by_cases hx : (l[j]).begins s.data.toList f = true
      · rw [hx] at hcall
        have HC := Lib.hid hcall
        have HA := Lib.hid (show R = true by rw [← HR.out, beginsAlt_iff]; exact ⟨_, List.getElem_mem hp, hx⟩)
        clear hrow hcat hcall hg hbl hx
        go_wp2_with fail
        refine HC.out.mono ?_
        rintro e w1 ⟨rfl, hb1⟩
        have HB1 := Lib.hid hb1
        clear hb1
        go_wp2
        go_ret
        rw [HA.out]
        exact ⟨rfl, HH.out.1.trans (HB1.out.mono HH.out.1.size)⟩
      · have hx2 : (l[j]).begins s.data.toList f = false := by simpa using hx
        rw [hx2] at hcall
        have HC := Lib.hid hcall
        have HA := Lib.hid (show ∀ t ∈ l.take (j + 1), t.begins s.data.toList f = false from fun t ht => (mem_take_succ hp ht).elim (HH.out.2.2.2 t) (fun e => e ▸ hx2))
        clear hrow hcat hcall hg hbl hx hx2
        go_wp2_with fail
        refine HC.out.mono ?_
        rintro e w1 ⟨rfl, hb1⟩
        have HB1 := Lib.hid hb1
        clear hb1
        go_wp2
        exact ⟨⟨j + 1, by go_num, hp, Lib.hid ⟨HH.out.1.trans (HB1.out.mono HH.out.1.size), HH.out.2.1.step HB1.out, HH.out.2.2.1.step HB1.out, HA.out⟩⟩, by simp [intOf]; omega⟩
    · have hdl : decide ((j : Int) < (l.length : Int)) = false := by simp; omega
      obtain rfl : j = l.length := by omega
      have HA := Lib.hid (show R = false by
        have hall := HH.out.2.2.2
        rw [List.take_length] at hall
        rw [← HR.out, Bool.eq_false_iff]; intro h
        rw [beginsAlt_iff] at h
        obtain ⟨t, ht, hv⟩ := h
        rw [hall t ht] at hv; cases hv)
      clear hbl
      go_wp2
      go_ret
      rw [HA.out]
      exact ⟨rfl, HH.out.1⟩

set_option maxHeartbeats 8000000 in
set_option maxRecDepth 20000 in
theorem begins_k2 (s : ByteArray) (n : Nat) (hn : n = s.size + 1) (m : Nat → Bool) (l : List Tree) (lo hi : Int) (A : Option Addr) (c : Nat) (hc : l.length ≤ c ∧ c ≤ 9223372036854775807) (V : Bool) (w : World) (g0 : Nat) (f : Nat → Bool) (hf0 : BlkIs w g0 4 (bl n f))
    (hs : l ≠ [] → ∃ b o, A = some ⟨b, o, none⟩ ∧ b < w.heap.size ∧ ∀ (i : Nat) (h : i < l.length), ∃ cs : List Value, Tree.At w l[i] (.agg cs.toArray) ∧ cs.length = 8 ∧ w.rangeAt b (o + i * 8) cs)
    (ih : ∀ t ∈ l, ∀ (v : Value) (w : World) (g0 : Nat) (f : Nat → Bool), Tree.At w t v → BlkIs w g0 4 (bl n f) → Calls Try.prog 19 #[v, .string s, .slice (some ⟨g0, 0, none⟩) n n] w (BoolIs (t.begins s.data.toList f) w))
    (ie : ∀ t ∈ l, ∀ (v : Value) (w : World) (g0 : Nat) (f : Nat → Bool), Tree.At w t v → BlkIs w g0 4 (bl n f) → Calls Try.prog 37 #[v, .string s, .slice (some ⟨g0, 0, none⟩) n n] w (EndsIs n (t.ends s.data.toList f) w))
    (iv : ∀ u, Below w.heap.size w u → Calls Try.prog 36 #[reV 2 m A l.length c lo hi] u (BoolIs V u)) :
    Calls Try.prog 19 #[reV 2 m A l.length c lo hi, .string s, .slice (some ⟨g0, 0, none⟩) n n] w (BoolIs (if V then false else beginsCat s.data.toList l f) w) := by
  have hB0 : Below w.heap.size w (w.alloc (.cells (reL 2 m A l.length c lo hi).toArray 27)) := (Below.refl _ _).alloc (Nat.le_refl _) _
  have hX0 := BlkIs.new w 27 (reL 2 m A l.length c lo hi).toArray
  have HB0 := Lib.hid (And.intro hB0 (And.intro hX0 (hf0.alloc (.cells (reL 2 m A l.length c lo hi).toArray 27))))
  have hsn : s.size < n := by omega
  have hsi : (s.size : Int) < (n : Int) := by omega
  have HN := Lib.hid hn
  have IE := Lib.hid ie
  have IV := Lib.hid iv
  clear ie iv
  have HS := Lib.hid hs
  have IH := Lib.hid ih
  clear hs ih
  clear hB0 hX0 hn
  unfold BoolIs at *
  unfold reV reL at *
  clear hf0
  have hiv := IV.out _ HB0.out.1
  have HIV := Lib.hid hiv
  clear hiv IV
  cases V with
  | true =>
    go_enter Try.func19, Try.ntmps19
    go_wp2_with fail
    refine HIV.out.mono ?_
    rintro e w1 ⟨rfl, hb1⟩
    have HB1 := Lib.hid (HB0.out.1.trans (hb1.mono HB0.out.1.size))
    clear hb1
    go_wp2
    go_ret
    exact ⟨rfl, HB1.out⟩
  | false =>
    obtain ⟨R, hR⟩ : ∃ R, beginsCat s.data.toList l f = R := ⟨_, rfl⟩
    rw [if_neg (by simp), hR]
    have HR := Lib.hid hR
    clear hR
    go_enter Try.func19, Try.ntmps19
    go_wp2_with fail
    refine HIV.out.mono ?_
    rintro e w1 ⟨rfl, hb1⟩
    have HB1 := Lib.hid (And.intro (HB0.out.1.trans (hb1.mono HB0.out.1.size)) (And.intro (HB0.out.2.1.step hb1) (HB0.out.2.2.step hb1)))
    clear hb1
    go_wp2
    go_loopw [2, 8] (fun x i wr => ∃ (j g : Nat) (f' : Nat → Bool), x = .slice (some ⟨g, 0, none⟩) n n ∧ i = .int .i64 j ∧ j ≤ l.length ∧ Hid (Below w.heap.size w wr ∧ BlkIs wr w.heap.size 27 (reL 2 m A l.length c lo hi).toArray ∧ BlkIs wr g 4 (bl n f') ∧ beginsCat s.data.toList (l.drop j) f' = R)) (fun _ i _ => l.length - (intOf i).toNat)
    case atStart => exact ⟨0, g0, f, rfl, rfl, Nat.zero_le _, Lib.hid ⟨HB1.out.1, HB1.out.2.1, HB1.out.2.2, HR.out⟩⟩
    case round =>
      obtain ⟨j, g, f', rfl, rfl, hj, HH⟩ := hrel
      have hbl := HH.out.2.1
      unfold reL at hbl
      obtain ⟨_, _, _, _, _, c5, _, _⟩ := hbl.eight
      by_cases hp : j < l.length
      · have hdl : decide ((j : Int) < (l.length : Int)) = true := by simp; omega
        obtain ⟨b, o, rfl, hbw, hg⟩ := HS.out (by intro e; subst e; simp at hp)
        obtain ⟨cs, hcat, hlen, hrow⟩ := hg j hp
        obtain ⟨A', n', c', rfl⟩ := hcat.eight
        obtain ⟨r0, r1, r2, r3, r4, r5, r6, r7⟩ := row_eight hrow HH.out.1
        have hrows := fun u (hu : Below w.heap.size w u) => row_eight hrow hu
        have hcall := IH.out _ (List.getElem_mem hp) _ wr g _ (hcat.step HH.out.1) HH.out.2.2.1
        have hends := fun u (hu : Below w.heap.size w u) (hgu : BlkIs u g 4 (bl n f')) => IE.out _ (List.getElem_mem hp) _ u g _ (hcat.step hu) hgu
        have hk1 : IntKind.i64.wrap ((j : Int) + 1) = ((j + 1 : Nat) : Int) := by rw [IntKind.wrap_i64]; omega
        have hdrop : beginsCat s.data.toList (l.drop j) f' = ((l[j]).begins s.data.toList f' || beginsCat s.data.toList (l.drop (j + 1)) ((l[j]).ends s.data.toList f')) := by
          rw [List.drop_eq_getElem_cons hp]; rfl
        have HD := Lib.hid (hdrop.symm.trans HH.out.2.2.2)
        clear hdrop
        by_cases hx : (l[j]).begins s.data.toList f' = true
        · rw [hx] at hcall
          have HC := Lib.hid hcall
          have HA := Lib.hid (show R = true by rw [← HD.out, hx]; rfl)
          clear hrow hrows hcat hcall hends hg hbl hx
          go_wp2_with fail
          refine HC.out.mono ?_
          rintro e w2 ⟨rfl, hb2⟩
          have HB2 := Lib.hid hb2
          clear hb2
          go_wp2
          go_ret
          rw [HA.out]
          exact ⟨rfl, HH.out.1.trans (HB2.out.mono HH.out.1.size)⟩
        · have hx2 : (l[j]).begins s.data.toList f' = false := by simpa using hx
          rw [hx2] at hcall
          have HC := Lib.hid hcall
          have HA := Lib.hid (show beginsCat s.data.toList (l.drop (j + 1)) ((l[j]).ends s.data.toList f') = R by rw [← HD.out, hx2]; rfl)
          have HRW := Lib.hid hrows
          have HEN := Lib.hid hends
          clear hrow hrows hcat hcall hends hg hbl hx hx2
          go_wp2_with fail
          refine HC.out.mono ?_
          rintro e w2 ⟨rfl, hb2⟩
          have HB2 := Lib.hid (And.intro (HH.out.1.trans (hb2.mono HH.out.1.size)) (And.intro (HH.out.2.1.step hb2) (HH.out.2.2.1.step hb2)))
          have hbl := HB2.out.2.1
          unfold reL at hbl
          clear c5 r0 r1 r2 r3 r4 r5 r6 r7 hb2
          obtain ⟨_, _, _, _, _, c5, _, _⟩ := hbl.eight
          obtain ⟨r0, r1, r2, r3, r4, r5, r6, r7⟩ := HRW.out _ HB2.out.1
          have hcall := HEN.out _ HB2.out.1 HB2.out.2.2
          have HC2 := Lib.hid hcall
          clear hcall hbl
          go_wp2_with fail
          refine HC2.out.mono ?_
          rintro e w3 ⟨g3, rfl, hg3, hbl3, hb3⟩
          have HB3 := Lib.hid (And.intro (HB2.out.1.trans (hb3.mono HB2.out.1.size)) (And.intro (HB2.out.2.1.step hb3) hbl3))
          clear hg3 hbl3 hb3
          go_wp2
          exact ⟨⟨j + 1, g3, _, rfl, by go_num, hp, Lib.hid ⟨HB3.out.1, HB3.out.2.1, HB3.out.2.2, HA.out⟩⟩, by simp [intOf]; omega⟩
      · have hdl : decide ((j : Int) < (l.length : Int)) = false := by simp; omega
        obtain rfl : j = l.length := by omega
        have HA := Lib.hid (show f' s.size = R by
          have h := HH.out.2.2.2
          rw [List.drop_length] at h
          exact h)
        have d0 := bl_range HH.out.2.2.1 hsn
        clear hbl
        go_wp2
        go_ret
        rw [← HA.out]
        exact ⟨rfl, HH.out.1⟩

end Go.Proofs.Ytfodpkciahkehaa

