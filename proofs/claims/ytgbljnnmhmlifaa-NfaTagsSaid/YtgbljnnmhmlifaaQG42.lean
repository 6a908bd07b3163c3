/-
  WHAT nfa's part ANSWERS of every tree that may be: a contract. Condition: at most 2^20 places, at most 2^20 nodes.
-/
import Derived.Test.YtgbljnnmhmlifaaQG41
import Derived.Test.YtgbljnnmhmlifaaQG39
import Derived.Test.YtgbljnnmhmlifaaQG16
import Derived.Test.YtgbljnnmhmlifaaQG18
import Derived.Test.YtgbljnnmhmlifaaQG10
namespace Go.Proofs.Ytgbljnnmhmlifaa
open Go.RowKit

attribute [local irreducible] FreeW textFrame

set_option maxRecDepth 20000 in
set_option maxHeartbeats 16000000 in
theorem part_repN (ms : Nat → Bool) (l : List Tree) (lo hi : Int) (IH : ∀ t ∈ l, PartIs t) (hokT : okTs l) (hl1 : l.length = 1) (h0 : 0 ≤ copiesI lo hi) (hcm : copiesI lo hi ≤ 1048576) : PartIs (.node 4 ms l lo hi) := by
  intro M K S v pb r f e m w hm hat hS hn hM hK
  obtain ⟨A, c, rfl, hc, hrows⟩ := hat.open
  obtain ⟨SS, PP, hSS⟩ : ∃ SS PP, (SS, PP) = (if (copiesI lo hi).toNat = 0 then (S, []) else (⟨(copyN ((partsP l S).2.headD ⟨[], [], true⟩) S.sets.length (partsP l S).1.sets.length ((copiesI lo hi).toNat - 1) (partsP l S).1 [(partsP l S).2.headD ⟨[], [], true⟩]).1.sets, if hi = -1 then linkF (copyN ((partsP l S).2.headD ⟨[], [], true⟩) S.sets.length (partsP l S).1.sets.length ((copiesI lo hi).toNat - 1) (partsP l S).1 [(partsP l S).2.headD ⟨[], [], true⟩]).1.follow ((copyN ((partsP l S).2.headD ⟨[], [], true⟩) S.sets.length (partsP l S).1.sets.length ((copiesI lo hi).toNat - 1) (partsP l S).1 [(partsP l S).2.headD ⟨[], [], true⟩]).2.getLastD ⟨[], [], true⟩).ends ((copyN ((partsP l S).2.headD ⟨[], [], true⟩) S.sets.length (partsP l S).1.sets.length ((copiesI lo hi).toNat - 1) (partsP l S).1 [(partsP l S).2.headD ⟨[], [], true⟩]).2.getLastD ⟨[], [], true⟩).first else (copyN ((partsP l S).2.headD ⟨[], [], true⟩) S.sets.length (partsP l S).1.sets.length ((copiesI lo hi).toNat - 1) (partsP l S).1 [(partsP l S).2.headD ⟨[], [], true⟩]).1.follow⟩, (copyN ((partsP l S).2.headD ⟨[], [], true⟩) S.sets.length (partsP l S).1.sets.length ((copiesI lo hi).toNat - 1) (partsP l S).1 [(partsP l S).2.headD ⟨[], [], true⟩]).2) : Mk × List Prt) := ⟨_, _, rfl⟩
  have hp1 : partP (.node 4 ms l lo hi) S = (⟨SS.sets, (inRowP lo 0 PP SS.follow).1⟩, (inRowP lo 0 PP SS.follow).2) := by
    unfold partP
    by_cases hz : (copiesI lo hi).toNat = 0
    · rw [if_pos hz] at hSS
      injection hSS with h1 h2
      subst h1 h2
      simp [hz, inRowP]
    · rw [if_neg hz] at hSS
      injection hSS with h1 h2
      subst h1 h2
      simp [hz]
  rw [hp1]
  obtain ⟨w2, hw2⟩ : ∃ w2, (w.alloc (.cells #[.int .i64 4, .int .u64 (wd ms 0 : Nat), .int .u64 (wd ms 1 : Nat), .int .u64 (wd ms 2 : Nat), .int .u64 (wd ms 3 : Nat), .slice A l.length c, .int .i64 lo, .int .i64 hi] 39)).alloc (.cells #[.slice none 0 0, .slice none 0 0, .bool false] 78) = w2 := ⟨_, rfl⟩
  have hb2 : Below w.heap.size w w2 := by rw [← hw2]; exact ((Below.refl _ _).alloc (Nat.le_refl _) _).alloc (by simp) _
  have hs2 : w2.heap.size = w.heap.size + 2 := by rw [← hw2]; simp
  have hx0 : BlkIs w2 w.heap.size 39 #[.int .i64 4, .int .u64 (wd ms 0 : Nat), .int .u64 (wd ms 1 : Nat), .int .u64 (wd ms 2 : Nat), .int .u64 (wd ms 3 : Nat), .slice A l.length c, .int .i64 lo, .int .i64 hi] := by rw [← hw2]; exact (BlkIs.new w _ _).alloc _
  have hx1 : BlkIs w2 (w.heap.size + 1) 78 #[.slice none 0 0, .slice none 0 0, .bool false] := by
    rw [← hw2]
    have h := BlkIs.new (w.alloc (.cells #[.int .i64 4, .int .u64 (wd ms 0 : Nat), .int .u64 (wd ms 1 : Nat), .int .u64 (wd ms 2 : Nat), .int .u64 (wd ms 3 : Nat), .slice A l.length c, .int .i64 lo, .int .i64 hi] 39)) 78 #[.slice none 0 0, .slice none 0 0, .bool false]
    rw [World.size_alloc] at h
    exact h
  have hMf : ∀ k, w.heap.size ≤ k → M k = false := fun k hk => by
    rw [Bool.eq_false_iff]; intro e; have := hM k e; omega
  have hK2 : ∀ k, Kor K (w.heap.size + 1) k = true → k < w2.heap.size := Kor_lt (fun k hk => by have := hK k hk; omega) (by omega)
  have hM2 : ∀ k, M k = true → k < w2.heap.size := fun k hk => by have := hM k hk; omega
  have hm2 : MkAt M (Kor K (w.heap.size + 1)) w2 pb S r f e m := hm.new hb2 (by omega)
  have HBX := Lib.hid (And.intro hx0 hx1)
  have HMF := Lib.hid hMf
  have HW2 := Lib.hid (And.intro hb2 hs2)
  have hHO : SS.Ok ∧ (∀ p ∈ PP, p.Ok SS.sets.length) ∧ SS.sets.length ≤ 1048576 ∧ PP.length ≤ 1048576 := by
    obtain ⟨t, rfl⟩ := List.length_eq_one_iff.1 hl1
    simp only [Tree.plN, sumN] at hn
    by_cases hz : (copiesI lo hi).toNat = 0
    · rw [if_pos hz] at hSS
      injection hSS with h1 h2
      subst h1 h2
      exact ⟨hS, fun p hp => by simp at hp, by omega, by simp⟩
    · rw [if_neg hz] at hSS
      injection hSS with h1 h2
      have hokt := okTs_mem hokT t (by simp)
      obtain ⟨g1, g2, g3⟩ := partP_ok t S hokt hS
      simp only [partsP, List.headD_cons] at h1 h2
      have hle : S.sets.length ≤ (partP t S).1.sets.length := by omega
      obtain ⟨k1, k2, k3, k4⟩ := copyN_ok hle g2 ((copiesI lo hi).toNat - 1) (partP t S).1 [(partP t S).2] g1 (Nat.le_refl _) (fun r hr => g1.2 r (List.mem_of_mem_drop (List.mem_of_mem_take hr))) (fun q hq => by obtain rfl := List.mem_singleton.1 hq; exact g2)
      obtain ⟨C, hC⟩ : ∃ C, copyN (partP t S).2 S.sets.length (partP t S).1.sets.length ((copiesI lo hi).toNat - 1) (partP t S).1 [(partP t S).2] = C := ⟨_, rfl⟩
      rw [hC] at k1 k2 k3 k4 h1 h2
      have hlz : C.2.getLastD ⟨[], [], true⟩ ∈ C.2 := by
        have hne : C.2 ≠ [] := by intro e; rw [e] at k3; simp only [List.length_nil, List.length_singleton] at k3; omega
        rw [List.getLastD_eq_getLast?, List.getLast?_eq_some_getLast hne]
        exact List.getLast_mem hne
      have hzo := k4 _ hlz
      have hsz : SS.sets.length = C.1.sets.length := by rw [h1]
      have hd : (partP t S).1.sets.length - S.sets.length = t.plN := by omega
      have hss : SS.sets.length ≤ 1048576 := by
        rw [hsz, k2, hd, g3]
        obtain ⟨n9, hn9⟩ : ∃ n9, (copiesI lo hi).toNat = n9 + 1 := ⟨(copiesI lo hi).toNat - 1, by omega⟩
        rw [hn9] at hn ⊢
        have hn' : S.sets.length + (n9 + 1) * t.plN ≤ 1048576 := by simpa [Nat.mul_comm] using hn
        rw [Nat.succ_mul] at hn'
        simp only [Nat.add_sub_cancel]
        omega
      refine ⟨?_, fun q hq => by rw [hsz]; rw [h2] at hq; exact k4 q hq, hss, by rw [h2, k3]; simp; omega⟩
      rw [h1]
      split
      · exact ⟨(linkF_len _ _ _).trans k1.1, linkF_ok _ k1.2 hzo.1⟩
      · exact k1
  have HPA := Lib.hid (show Calls Try.prog 59 #[.pointer (some ⟨pb, 0, none⟩), reV 4 ms A l.length c lo hi] w2.drew fun x w' => ∃ M' v', x = .returned v' ∧ Nx M M' w2.drew w' ∧ (∀ k, M' k = true → k < w'.heap.size) ∧ MkAt M' (Kor K (w.heap.size + 1)) w' pb SS r f e m ∧ PrtsAt (hide w' (MK M' (Kor K (w.heap.size + 1)))) (hide w' M') PP v' from by
    have hmd := hm2.step (Below.refl w2.heap.size w2).drew
    obtain ⟨t, rfl⟩ := List.length_eq_one_iff.1 hl1
    by_cases hz : (copiesI lo hi).toNat = 0
    · rw [if_pos hz] at hSS
      injection hSS with h1 h2
      subst h1 h2
      refine (repeated_none ms A 1 c lo hi (by omega) pb w2.drew).mono ?_
      rintro x u ⟨rfl, hu⟩
      exact ⟨M, _, rfl, Nx.below hu, fun k hk => Nat.lt_of_lt_of_le (hM2 k hk) hu.size, hmd.step hu, ⟨none, 0, rfl, ⟨by simp, by decide⟩, fun h => absurd rfl h⟩⟩
    · rw [if_neg hz] at hSS
      injection hSS with h1 h2
      simp only [partsP, List.headD_cons] at h1 h2
      have hbd : Below w.heap.size w w2.drew := hb2.drew
      obtain ⟨n9, hn9⟩ : ∃ n9, (copiesI lo hi).toNat = n9 + 1 := ⟨(copiesI lo hi).toNat - 1, by omega⟩
      rw [hn9] at h1 h2
      simp only [Nat.add_sub_cancel] at h1 h2
      refine (repeated_many t (IH t (by simp)) (okTs_mem hokT t (by simp)) M (Kor K (w.heap.size + 1)) S ms A c lo hi n9 (by omega) (by omega) pb r f e m w2.drew hmd ?_ hS ?_ hM2 hK2).mono ?_
      · obtain ⟨b, o, e1, _, hg⟩ := hrows (by simp)
        obtain ⟨cs, h1, h2, h3⟩ := hg 0 (by simp)
        exact ⟨b, o, e1, cs, h1.sub (below_sub _ hbd), h2, fun j x hx => below_sub _ hbd _ _ (by have := h3 j x hx; simpa using this)⟩
      · simp only [Tree.plN, sumN] at hn
        rw [hn9] at hn
        simpa [Nat.mul_comm] using hn
      · rintro x u ⟨M', v', rfl, a1, a2, C, L, hCL, a3, a4⟩
        rw [hCL] at h1 h2
        subst h1 h2
        exact ⟨M', v', rfl, a1, a2, a3, a4⟩)
  have HO := Lib.hid hHO
  have HK2 := Lib.hid hK2
  obtain ⟨d0, d1, d2, d3, d4, d5, d6, d7⟩ := hx0.eight
  unfold reV reL at *
  clear hb2 hs2 hx0 hx1 hMf hK2 hM2 hm2 hm hat hS hn hM hK hp1 hrows IH hokT hSS hHO h0 hcm hl1
  go_enter Try.func45, Try.ntmps45
  go_wp2_with fail
  refine wp_region_turn 6 41 3 (fun cph u => match cph with | false => u = w2.drew | true => BlkIs u w.heap.size 39 #[.int .i64 4, .int .u64 (wd ms 0 : Nat), .int .u64 (wd ms 1 : Nat), .int .u64 (wd ms 2 : Nat), .int .u64 (wd ms 3 : Nat), .slice A l.length c, .int .i64 lo, .int .i64 hi]) (fun i u u' => (i = 3 → BlkIs u' w.heap.size 39 #[.int .i64 4, .int .u64 (wd ms 0 : Nat), .int .u64 (wd ms 1 : Nat), .int .u64 (wd ms 2 : Nat), .int .u64 (wd ms 3 : Nat), .slice A l.length c, .int .i64 lo, .int .i64 hi]) ∧ (i ≠ 3 → u' = u))
    (fun i v u => match i with
      | 0 => v = .pointer (some ⟨pb, 0, none⟩)
      | 1 => v = .pointer (some ⟨pb, 0, none⟩)
      | 2 => v = .agg #[.int .i64 4, .int .u64 (wd ms 0 : Nat), .int .u64 (wd ms 1 : Nat), .int .u64 (wd ms 2 : Nat), .int .u64 (wd ms 3 : Nat), .slice A l.length c, .int .i64 lo, .int .i64 hi]
      | 3 => ∃ M1, Nx M M1 w2 u ∧ (∀ k, M1 k = true → k < u.heap.size) ∧ MkAt M1 (Kor K (w.heap.size + 1)) u pb SS r f e m ∧ PrtsAt (hide u (MK M1 (Kor K (w.heap.size + 1)))) (hide u M1) PP v ∧ BlkIs u (w.heap.size + 1) 78 #[.slice none 0 0, .slice none 0 0, .bool false]
      | 4 => v = .pointer (some ⟨w.heap.size, 6, none⟩)
      | 5 => v = .int .i64 lo
      | _ => True) (by kernel_rfl) (by kernel_rfl) rfl rfl ?_ ?_ ?_ ?_
  · intro i cph u u' hix hcx hC hr
    by_cases hi3 : i = 3
    · rw [show (cph || decide (i = 3)) = true by simp [hi3]]
      exact hr.1 hi3
    · rw [show (cph || decide (i = 3)) = cph by simp [hi3], hr.2 hi3]
      exact hC
  · intro i j v u u' hix hj hne hv hr
    match i, hix, hne, hv with
    | 0, _, _, hv => exact hv
    | 1, _, _, hv => exact hv
    | 2, _, _, hv => exact hv
    | 3, _, hne, hv =>
      rw [hr.2 (Ne.symm hne)]
      exact hv
    | 4, _, _, hv => exact hv
    | 5, _, _, hv => exact hv
    | i + 6, hix, _, _ => omega
  · intro i hix cph vs u hcx hC hw oq ho
    match i, hix, hcx, hw, ho with
    | 0, _, hcx, hw, ho =>
      simp only [List.getElem?_toArray, List.getElem?_cons_zero, Option.some.injEq] at ho
      subst ho
      refine ⟨rfl, ?_⟩
      clear hw hcx
      simp only [textFrame_eq, tmpsTo]
      go_simp
      exact act_val (rfl) rfl
    | 1, _, hcx, hw, ho =>
      simp only [List.getElem?_toArray, List.getElem?_cons_zero, List.getElem?_cons_succ, Option.some.injEq] at ho
      subst ho
      refine ⟨rfl, ?_⟩
      clear hw hcx
      simp only [textFrame_eq, tmpsTo, putT, List.getElem?_toArray, List.getElem?_cons_zero, Option.bind_some, List.setIfInBounds_toArray, List.set_cons_zero, List.set_cons_succ]
      go_simp
      exact act_val (rfl) rfl
    | 2, _, hcx, hw, ho =>
      simp only [List.getElem?_toArray, List.getElem?_cons_zero, List.getElem?_cons_succ, Option.some.injEq] at ho
      subst ho
      refine ⟨rfl, ?_⟩
      have hbx : BlkIs u w.heap.size 39 #[.int .i64 4, .int .u64 (wd ms 0 : Nat), .int .u64 (wd ms 1 : Nat), .int .u64 (wd ms 2 : Nat), .int .u64 (wd ms 3 : Nat), .slice A l.length c, .int .i64 lo, .int .i64 hi] := by
        cases cph with
        | false => have hC : u = w2.drew := hC; rw [hC]; exact HBX.out.1.drew
        | true => exact hC
      obtain ⟨d0, d1, d2, d3, d4, d5, d6, d7⟩ := hbx.eight
      clear hbx hC
      clear hw hcx
      simp only [textFrame_eq, tmpsTo, putT, List.getElem?_toArray, List.getElem?_cons_zero, List.getElem?_cons_succ, Option.bind_some, List.setIfInBounds_toArray, List.set_cons_zero, List.set_cons_succ]
      go_simp
      exact act_val (rfl) rfl
    | 3, _, hcx, hw, ho =>
      have e1 : vs 1 = .pointer (some ⟨pb, 0, none⟩) := hw 1 (by omega) (by kernel_rfl)
      have e2 : vs 2 = .agg #[.int .i64 4, .int .u64 (wd ms 0 : Nat), .int .u64 (wd ms 1 : Nat), .int .u64 (wd ms 2 : Nat), .int .u64 (wd ms 3 : Nat), .slice A l.length c, .int .i64 lo, .int .i64 hi] := hw 2 (by omega) (by kernel_rfl)
      simp only [List.getElem?_toArray, List.getElem?_cons_zero, List.getElem?_cons_succ, Option.some.injEq] at ho
      subst ho
      refine ⟨rfl, ?_⟩
      clear hw
      simp only [textFrame_eq, tmpsTo, putT, List.getElem?_toArray, List.getElem?_cons_zero, List.getElem?_cons_succ, Option.bind_some, List.setIfInBounds_toArray, List.set_cons_zero, List.set_cons_succ]
      rw [e1, e2]
      clear e1 e2
      have hc := hcx rfl
      subst hc
      have hC : u = w2.drew := hC
      subst hC
      clear hcx
      go_simp
      refine act_call (HPA.out.mono ?_)
      rintro e u' ⟨M1, v1, rfl, h1, h2, h3, h4⟩
      refine ⟨v1, rfl, ?_, M1, (Nx.below ((Below.refl _ w2).drew)).trans h1, h2, h3, h4, (HBX.out.2.drew).nx h1 (HMF.out _ (by omega))⟩
      first | exact (HBX.out.1.drew).nx h1 (HMF.out _ (Nat.le_refl _)) | exact ⟨fun _ => (HBX.out.1.drew).nx h1 (HMF.out _ (Nat.le_refl _)), fun h => absurd rfl h⟩
    | 4, _, hcx, hw, ho =>
      simp only [List.getElem?_toArray, List.getElem?_cons_zero, List.getElem?_cons_succ, Option.some.injEq] at ho
      subst ho
      refine ⟨rfl, ?_⟩
      clear hw hcx
      simp only [textFrame_eq, tmpsTo, putT, List.getElem?_toArray, List.getElem?_cons_zero, List.getElem?_cons_succ, Option.bind_some, List.setIfInBounds_toArray, List.set_cons_zero, List.set_cons_succ]
      go_simp
      exact act_val (rfl) rfl
    | 5, _, hcx, hw, ho =>
      have e4 : vs 4 = .pointer (some ⟨w.heap.size, 6, none⟩) := hw 4 (by omega) (by kernel_rfl)
      simp only [List.getElem?_toArray, List.getElem?_cons_zero, List.getElem?_cons_succ, Option.some.injEq] at ho
      subst ho
      refine ⟨rfl, ?_⟩
      have hbx : BlkIs u w.heap.size 39 #[.int .i64 4, .int .u64 (wd ms 0 : Nat), .int .u64 (wd ms 1 : Nat), .int .u64 (wd ms 2 : Nat), .int .u64 (wd ms 3 : Nat), .slice A l.length c, .int .i64 lo, .int .i64 hi] := by
        cases cph with
        | false => have hC : u = w2.drew := hC; rw [hC]; exact HBX.out.1.drew
        | true => exact hC
      obtain ⟨d0, d1, d2, d3, d4, d5, d6, d7⟩ := hbx.eight
      clear hbx hC
      clear hw hcx
      simp only [textFrame_eq, tmpsTo, putT, List.getElem?_toArray, List.getElem?_cons_zero, List.getElem?_cons_succ, Option.bind_some, List.setIfInBounds_toArray, List.set_cons_zero, List.set_cons_succ]
      rw [e4]
      clear e4
      go_simp
      exact act_val (rfl) rfl
    | i + 6, hix, _, _, _ => omega
  intro vs1 u hC hV
  obtain ⟨v4, h4⟩ : ∃ v, v = vs1 3 := ⟨_, rfl⟩
  have hV4 : ∃ M1, Nx M M1 w2 u ∧ (∀ k, M1 k = true → k < u.heap.size) ∧ MkAt M1 (Kor K (w.heap.size + 1)) u pb SS r f e m ∧ PrtsAt (hide u (MK M1 (Kor K (w.heap.size + 1)))) (hide u M1) PP v4 ∧ BlkIs u (w.heap.size + 1) 78 #[.slice none 0 0, .slice none 0 0, .bool false] := by rw [h4]; exact hV 3 (by omega)
  obtain ⟨M1, hn1, hlt1, hmk, hps, hb1⟩ := hV4
  have e0 : vs1 0 = .pointer (some ⟨pb, 0, none⟩) := hV 0 (by omega)
  have eL : vs1 5 = .int .i64 lo := hV 5 (by omega)
  clear hV hC
  simp only [textFrame_eq, tmpsTo, putT, List.getElem?_toArray, List.getElem?_cons_zero, List.getElem?_cons_succ, Option.bind_some, List.setIfInBounds_toArray, List.set_cons_zero, List.set_cons_succ, List.drop_succ_cons, List.drop_zero]
  rw [e0, eL, ← h4]
  clear e0 eL h4
  generalize vs1 1 = q1
  generalize vs1 2 = q2
  generalize vs1 4 = q4
  have hkk : ∀ k, Kor K (w.heap.size + 1) k = true → k < u.heap.size := fun k hk => Nat.lt_of_lt_of_le (HK2.out k hk) hn1.size
  have HIR := Lib.hid (inRow_any M1 (Kor K (w.heap.size + 1)) SS PP v4 lo pb r f e m u hmk hps HO.out.1 HO.out.2.1 HO.out.2.2.1 HO.out.2.2.2 hlt1 hkk)
  obtain ⟨k0, k1, k2, l0, l1, l2⟩ := three hb1
  have HN1 := Lib.hid (And.intro hn1 (And.intro hlt1 (And.intro hb1 (hn1.keeps (by have := HW2.out.2; omega) (HMF.out (w.heap.size + 1) (by omega))))))
  clear hn1 hlt1 hmk hps hb1 hkk
  go_wp2_with fail
  go_at_call 56
  refine HIR.out.mono ?_
  rintro x u2 ⟨v2, rfl, hnx, hmk2, p1, p2, rfl, hp1, hp2⟩
  have hb2 := HN1.out.2.2.1.nx hnx HN1.out.2.2.2
  have hfin := part_fin hb2 ((Nx.below HW2.out.1).trans (HN1.out.1.trans hnx)) (by omega) HN1.out.2.2.2 (fun k hk => Nat.lt_of_lt_of_le (HN1.out.2.1 k hk) hnx.size) hmk2 hp1 hp2 _ rfl
  obtain ⟨Y1, y1, rfl, _⟩ := hp1.form
  obtain ⟨Y2, y2, rfl, _⟩ := hp2.form
  clear k0 k1 k2 l0 l1 l2
  obtain ⟨k0, k1, k2, l0, l1, l2⟩ := three hb2
  have HFN := Lib.hid hfin
  have hlt := hb2.lt
  clear hfin hb2 hnx hmk2 hp1 hp2
  go_wp2
  obtain ⟨hl, M2, v', hv, h1, h2, h3, h4⟩ := HFN.out
  exact ⟨rfl, _, results_cell1 rfl rfl hl, M2, _, congrArg Ending.returned hv, h1, h2, h3, h4⟩
theorem part_full (T : Tree) (h : T.ok = true) (hn : T.nodes ≤ 1048576) : PartIs T := by
  induction T using Tree.ind with
  | h k m l lo hi ih =>
    have hokT := ok_okT _ h
    have hop := ok_open h
    have hkind := okNode_kind hop.2
    simp only [Tree.nodes] at hn
    unfold Tree.okT at hokT
    have hl := nodesL_len8 l
    have IH : ∀ t ∈ l, PartIs t := fun t ht => by
      obtain ⟨j, hj, rfl⟩ := List.getElem_of_mem ht
      exact ih _ ht (hop.1 _ ht) (Nat.le_trans (nodesL_get8 l j hj) (by omega))
    rcases hkind with ⟨rfl, hl⟩ | ⟨rfl, hl⟩ | ⟨rfl, hl⟩ | ⟨rfl, hl⟩ | ⟨rfl, hl, hlo⟩
    · obtain rfl := List.eq_nil_of_length_eq_zero hl
      exact part_void m lo hi
    · obtain rfl := List.eq_nil_of_length_eq_zero hl
      exact part_leaf m lo hi
    · exact part_cat m l lo hi IH hokT.2 (by omega)
    · exact part_alt m l lo hi IH hokT.2 (by omega)
    · exact part_repN m l lo hi IH hokT.2 hl (by unfold copiesI; split <;> omega) (by unfold copiesI; split <;> omega)
end Go.Proofs.Ytgbljnnmhmlifaa

namespace Go.Proofs.Ytgbljnnmhmlifaa
open Go.RowKit

attribute [local irreducible] FreeW textFrame

theorem may_ok' {T : Tree} (h : T.mayN = true) : T.ok = true := by
  unfold Tree.mayN at h
  simp only [Bool.and_eq_true] at h
  exact h.2.2
theorem below_cellsB {B : Nat} {w0 : World} (g : Nat) : ∀ (vs : List Value) (o : Nat) (w : World), B ≤ g → Below B w0 w → Below B w0 (w.setCells g o vs)
  | [], _, _, _, h => h
  | x :: vs, o, _, hB, h => below_cellsB g vs (o + 1) _ hB (h.setCell (p := ⟨g, o, none⟩) hB x)
mutual
theorem places_exact : ∀ T : Tree, T.ok = true → T.places ≤ 2000 → (T.plN : Int) = T.places
  | .node k m l lo hi => fun h h2 => by
    have hop := ok_open h
    have hk := okNode_kind hop.2
    have hp := sumP_pos l hop.1
    unfold Tree.places at h2 ⊢
    unfold Tree.plN
    have hc : 0 ≤ (if k = 4 then copiesI lo hi else 1) := by
      unfold copiesI
      split
      · split <;> omega
      · omega
    have he : ((if k = 4 then (copiesI lo hi).toNat else 1 : Nat) : Int) = (if k = 4 then copiesI lo hi else 1) := by
      split
      · rename_i h4
        rw [if_pos h4] at hc
        omega
      · rfl
    have hone : (((if k = 1 then 1 else 0) + sumN l : Nat) : Int) = (if k = 1 then 1 else 0) + (sumN l : Int) := by split <;> omega
    rw [Int.natCast_mul, he, hone]
    generalize (if k = 4 then copiesI lo hi else 1) = c at *
    have hx : 0 ≤ ((if k = 1 then 1 else 0) + sumP l) := by split <;> omega
    by_cases h0 : c < 1
    · obtain rfl : c = 0 := by omega
      rw [Int.mul_zero, Int.mul_zero]; decide
    · have hm : ((if k = 1 then 1 else 0) + sumP l) ≤ ((if k = 1 then 1 else 0) + sumP l) * c := by
        have := Int.mul_le_mul_of_nonneg_left (show 1 ≤ c by omega) hx
        rwa [Int.mul_one] at this
      have hs : sumP l ≤ 2000 := by
        have h9 : sumP l ≤ ((if k = 1 then 1 else 0) + sumP l) := by split <;> omega
        omega
      rw [sumP_exact l hop.1 hs]
      omega
theorem sumP_exact : ∀ l : List Tree, (∀ t ∈ l, t.ok = true) → sumP l ≤ 2000 → (sumN l : Int) = sumP l
  | [] => fun _ _ => rfl
  | t :: r => fun h h2 => by
    simp only [sumP] at h2
    have h3 := places_pos t (h t (by simp))
    have h4 := sumP_pos r fun x hx => h x (by simp [hx])
    have h5 := places_exact t (h t (by simp)) (by omega)
    have h6 := sumP_exact r (fun x hx => h x (by simp [hx])) (by omega)
    simp only [sumN, sumP]
    omega
end
set_option maxRecDepth 20000 in
set_option maxHeartbeats 16000000 in
theorem build_many (l : List Tree) (h1 : 1 ≤ l.length) (h40 : l.length ≤ 40) (hmay : ∀ t ∈ l, t.mayN = true) (hnod : ∀ t ∈ l, t.nodes ≤ 1048576) (hsN : 2000 < sumP l)
    (A : Option Addr) (c : Nat) (w : World) (hat : l ≠ [] → ∃ b o, A = some ⟨b, o, none⟩ ∧ AllAt w l b o) :
    Calls Try.prog 7 #[.slice A l.length c] w fun x w' => x = .returned (.tuple #[.agg #[.slice none 0 0, .slice none 0 0, .slice none 0 0, .slice none 0 0, .slice none 0 0, .int .i64 0], .int .i64 4]) ∧ Below w.heap.size w w' := by
  have hsP : ∀ j, 0 ≤ sumP (l.take j) ∧ sumP (l.take j) ≤ 40000000 := fun j => by
    have q1 := sumP_pos (l.take j) fun t ht => may_ok' (hmay t (List.mem_of_mem_take ht))
    have q2 := sumP_most (l.take j)
    have q3 : (l.take j).length ≤ 40 := by rw [List.length_take]; omega
    exact ⟨q1, by omega⟩
  have hb1 : Below w.heap.size w (w.alloc (.cells #[.slice none 0 0, .slice none 0 0, .slice none 0 0, .slice none 0 0, .slice none 0 0, .int .i64 0] 30)) := (Below.refl _ _).alloc (Nat.le_refl _) _
  have hx1 := BlkIs.new w 30 #[.slice none 0 0, .slice none 0 0, .slice none 0 0, .slice none 0 0, .slice none 0 0, .int .i64 0]
  have H0 := Lib.hid (And.intro hb1 hx1)
  obtain ⟨b, o, rfl, hall⟩ := hat (by intro e; rw [e] at h1; simp at h1)
  have HALL := Lib.hid (fun (j : Nat) (hj : j < l.length) => AllAt.get l b o hall j hj)
  have HM := Lib.hid (fun (j : Nat) (hj : j < l.length) => And.intro (hmay _ (List.getElem_mem hj)) (hnod _ (List.getElem_mem hj)))
  have HSP := Lib.hid (fun (j : Nat) (hj : j < l.length) => (show sumP (l.take (j + 1)) = sumP (l.take j) + placesZ l[j] by
    rw [List.take_succ_eq_append_getElem hj, sumP_snoc]; unfold placesZ; rw [if_pos (hmay _ (List.getElem_mem hj))]))
  have HSB := Lib.hid hsP
  have HSN := Lib.hid hsN
  have e1 : decide ((l.length : Int) < 1) = false := by simp; omega
  have e2 : decide ((l.length : Int) > 40) = false := by simp; omega
  have e2b : decide (40 < (l.length : Int)) = false := by simp; omega
  clear hb1 hx1 hat hall hmay hnod hsN hsP h1
  go_enter Try.func7, Try.ntmps7
  go_wp2
  go_loopw [4, 22] (fun s i wr => ∃ (j : Nat) (n : Int), s = .int .i64 n ∧ i = .int .i64 (j : Int) ∧ j ≤ l.length ∧ Hid (n = sumP (l.take j) ∧ Below w.heap.size w wr ∧ BlkIs wr w.heap.size 30 #[.slice none 0 0, .slice none 0 0, .slice none 0 0, .slice none 0 0, .slice none 0 0, .int .i64 0])) (fun _ i _ => l.length - (intOf i).toNat)
  case atStart => exact ⟨0, 0, rfl, rfl, Nat.zero_le _, Lib.hid ⟨by simp [sumP], H0.out⟩⟩
  case round =>
    obtain ⟨j, n, rfl, rfl, hj, HH⟩ := hrel
    by_cases hp : j < l.length
    · have hk1 : IntKind.i64.wrap ((j : Int) + 1) = ((j + 1 : Nat) : Int) := by rw [IntKind.wrap_i64]; omega
      have hdl : decide ((j : Int) < (l.length : Int)) = true := by simp; omega
      obtain ⟨cs, hcat, hlen, hrow⟩ := HALL.out j hp
      obtain ⟨A', n', c', rfl⟩ := hcat.eight
      obtain ⟨r0, r1, r2, r3, r4, r5, r6, r7⟩ := row_eight (W' := wr) (fun i x hi => (HH.out.2.1.cell (World.block_lt_of_cell? w _ (hrow i x hi))).trans (hrow i x hi)) (Below.refl _ _)
      have hxb := BlkIs.new wr 39 (reL (l[j]).kind (l[j]).set A' n' c' (l[j]).lo (l[j]).hi).toArray
      have hxw : Below wr.heap.size wr (wr.alloc (.cells (reL (l[j]).kind (l[j]).set A' n' c' (l[j]).lo (l[j]).hi).toArray 39)) := (Below.refl _ _).alloc (Nat.le_refl _) _
      obtain ⟨W9, hW9⟩ : ∃ W9, wr.alloc (.cells (reL (l[j]).kind (l[j]).set A' n' c' (l[j]).lo (l[j]).hi).toArray 39) = W9 := ⟨_, rfl⟩
      rw [hW9] at hxb hxw
      have hcx := Places_any l[j] _ W9 ((hcat.step HH.out.2.1).step hxw) (HM.out j hp).2
      have hss := HSP.out j hp
      have hs1 := HSB.out (j + 1)
      have hs0 := HSB.out j
      have hpz : 0 ≤ placesZ l[j] := by
        have hm := (HM.out j hp).1
        unfold placesZ
        rw [if_pos hm]
        unfold Tree.mayN at hm
        simp only [Bool.and_eq_true] at hm
        exact places_pos _ hm.2.2
      have hen := HH.out.1
      simp only [reL] at hW9
      unfold reV reL at *
      rw [← hen] at hss hs0
      have HX := Lib.hid (And.intro (HH.out.2.1.trans (hxw.mono HH.out.2.1.size)) (HH.out.2.2.step hxw))
      have HC := Lib.hid hcx
      have HSS := Lib.hid hss
      generalize placesZ l[j] = pz at *
      generalize (l[j]).kind = kx at *
      generalize (l[j]).set = mx at *
      generalize (l[j]).lo = lx at *
      generalize (l[j]).hi = hx at *
      have hk2 : IntKind.i64.wrap (n + pz) = n + pz := by rw [IntKind.wrap_i64]; omega
      have hneg : decide (pz < 0) = false := by simp; omega
      obtain ⟨x0, x1, x2, x3, x4, x5, x6, x7⟩ := hxb.eight
      clear hcat hrow hlen hcx hss hs1 hs0 hpz hen hxb hxw
      go_wp2_with fail
      go_at_call 10
      refine HC.out.mono ?_
      rintro x u ⟨rfl, hbu⟩
      have HU := Lib.hid (And.intro (HX.out.1.trans (hbu.mono HX.out.1.size)) (HX.out.2.step hbu))
      clear hbu x0 x1 x2 x3 x4 x5 x6 x7 r0 r1 r2 r3 r4 r5 r6 r7
      go_wp2
      exact ⟨⟨j + 1, n + pz, rfl, rfl, hp, Lib.hid ⟨HSS.out.symm, HU.out⟩⟩, by simp [intOf]; omega⟩
    · have hdl : decide ((j : Int) < (l.length : Int)) = false := by simp; omega
      obtain rfl : j = l.length := by omega
      have hen := HH.out.1
      rw [List.take_length] at hen
      have hsn := HSN.out
      rw [← hen] at hsn
      have hgt : decide (n > 2000) = true := by simp; omega
      have hgt2 : decide (2000 < n) = true := by simp; omega
      have HX := Lib.hid HH.out
      have hth : World.there wr w.heap.size 0 ([Value.slice none 0 0, .slice none 0 0, .slice none 0 0, .slice none 0 0, .slice none 0 0, .int .i64 0]).toArray.size := HH.out.2.2.there
      have hal : ([Value.slice none 0 0, .slice none 0 0, .slice none 0 0, .slice none 0 0, .slice none 0 0, .int .i64 0]).toArray.all (·.oneCell') = true := by simp [Value.oneCell']
      have hin : (Try.prog.info? 30).map (·.size) = some ([Value.slice none 0 0, .slice none 0 0, .slice none 0 0, .slice none 0 0, .slice none 0 0, .int .i64 0]).toArray.size := info_nfa66
      have hl := load_nfa6 (HH.out.2.2.fill (new := ([Value.slice none 0 0, .slice none 0 0, .slice none 0 0, .slice none 0 0, .slice none 0 0, .int .i64 0]).toArray) rfl)
      have hb9 : Below w.heap.size w _ := below_cellsB (w0 := w) (B := w.heap.size) w.heap.size [Value.slice none 0 0, .slice none 0 0, .slice none 0 0, .slice none 0 0, .slice none 0 0, .int .i64 0] 0 _ (Nat.le_refl _) HH.out.2.1
      clear hen hsn
      go_wp2_with ((with_reducible refine wpList_store_mid ?_ 30 (.tmp 2) (.tmp 37) ?_ w.heap.size 0 ([Value.slice none 0 0, .slice none 0 0, .slice none 0 0, .slice none 0 0, .slice none 0 0, .int .i64 0]).toArray ?_ ?_ hth hin hal ?_); exact rfl; exact rfl; exact rfl; exact rfl)
      exact ⟨rfl, _, results_cell_two rfl rfl hl, rfl, hb9⟩
end Go.Proofs.Ytgbljnnmhmlifaa

namespace Go.Proofs.Ytgbljnnmhmlifaa
open Go.RowKit

theorem built_re (k : Int) (A : Option Addr) (n c : Nat) (lo hi : Int) : reV k (fun _ => false) A n c lo hi = .agg #[.int .i64 k, .int .u64 0, .int .u64 0, .int .u64 0, .int .u64 0, .slice A n c, .int .i64 lo, .int .i64 hi] := by
  unfold reV reL
  simp only [wd_zero]; rfl
def cellsOf : List (List Value) → List Value
  | [] => []
  | c :: r => c ++ cellsOf r
theorem rows_at {W U : World} (hs : ∀ p v, W.cell? p = some v → U.cell? p = some v) {g : Nat} : ∀ (ts : List Tree) (css : List (List Value)) (pre : Nat), ts.length = css.length →
    (∀ (i : Nat) (h : i < ts.length) (h' : i < css.length), ts[i].At W (.agg css[i].toArray) ∧ css[i].length = 8) → (∀ j v, (cellsOf css)[j]? = some v → U.cell? ⟨g, pre + j, none⟩ = some v) → AllAt U ts g pre
  | [], _, _, _, _, _ => trivial
  | t :: r, [], _, h, _, _ => by simp at h
  | t :: r, c :: css, pre, hl, h, hc => by
    have h0 := h 0 (by simp) (by simp)
    refine ⟨⟨c, ?_, h0.2, fun j v hv => ?_⟩, ?_⟩
    · have h1 := h0.1
      exact Tree.At.sub hs _ h1
    · refine hc j v ?_
      show (c ++ cellsOf css)[j]? = some v
      rw [List.getElem?_append_left (List.getElem?_eq_some_iff.1 hv).1]; exact hv
    · refine rows_at hs r css (pre + 8) (by simpa using hl) (fun i h1 h2 => ?_) (fun j v hv => ?_)
      · have := h (i + 1) (by simpa using h1) (by simpa using h2)
        simpa using this
      · rw [Nat.add_assoc]
        refine hc (8 + j) v ?_
        show (c ++ cellsOf css)[8 + j]? = some v
        rw [List.getElem?_append_right (by have : c.length = 8 := h0.2; omega), show 8 + j - c.length = j by have : c.length = 8 := h0.2; omega]
        exact hv
theorem laid_rows {W : World} (t : TypeId) (ts : List Tree) (css : List (List Value)) (hl : ts.length = css.length) (h : ∀ (i : Nat) (h : i < ts.length) (h' : i < css.length), ts[i].At W (.agg css[i].toArray) ∧ css[i].length = 8) :
    AllAt (W.alloc (.cells (cellsOf css).toArray t)) ts W.heap.size 0 := by
  have hb : Below W.heap.size W (W.alloc (.cells (cellsOf css).toArray t)) := (Below.refl _ _).alloc (Nat.le_refl _) _
  refine rows_at (W := W) (fun p v hv => by rw [hb.cell (World.block_lt_of_cell? W p hv)]; exact hv) ts css 0 hl h (fun j v hv => ?_)
  have := (BlkIs.new W t (cellsOf css).toArray).cell j
  rw [Nat.zero_add, this]
  simpa using hv
theorem node_at {W : World} {k : Int} {m : Nat → Bool} {l : List Tree} {lo hi : Int} {g c : Nat} (h : AllAt W l g 0) (hc : l.length ≤ c ∧ c ≤ 9223372036854775807) : Tree.At W (.node k m l lo hi) (reV k m (some ⟨g, 0, none⟩) l.length c lo hi) := by
  unfold Tree.At
  exact ⟨_, c, rfl, hc, fun _ => ⟨g, 0, rfl, h⟩⟩
theorem leaf_at {W : World} {k : Int} {m : Nat → Bool} : Tree.At W (.node k m [] 0 0) (reV k m none 0 0 0 0) := by
  unfold Tree.At
  exact ⟨none, 0, rfl, ⟨Nat.le_refl _, by decide⟩, fun h => absurd rfl h⟩

mutual
def Tree.lit : Tree → Bool
  | .node k _ l _ _ => (k != 0) && litL l
def litL : List Tree → Bool
  | [] => true
  | t :: r => t.lit && litL r
end
theorem zero_kind {W : World} {g j : Nat} {t : TypeId} (h : BlkIs W g t zeroL.toArray) {k : Int} (hk : k ≠ 0) : W.cell? ⟨g, j, none⟩ ≠ some (.int .i64 k) := by
  rw [h.cell j]
  intro e
  match j with
  | 0 => simp [zeroL] at e; exact hk e.symm
  | 1 => simp [zeroL] at e
  | 2 => simp [zeroL] at e
  | 3 => simp [zeroL] at e
  | 4 => simp [zeroL] at e
  | 5 => simp [zeroL] at e
  | 6 => simp [zeroL] at e; exact hk e.symm
  | 7 => simp [zeroL] at e; exact hk e.symm
  | j + 8 => simp [zeroL] at e
mutual
theorem lit_far {W U : World} {g : Nat} {t : TypeId} (hz : BlkIs W g t zeroL.toArray) (hs : ∀ p v, p.block ≠ g → W.cell? p = some v → U.cell? p = some v) : ∀ (T : Tree) {v : Value}, T.lit = true → Tree.At W T v → Tree.At U T v
  | .node k m l lo hi, v, hl, h => by
    simp only [Tree.lit, Bool.and_eq_true] at hl
    unfold Tree.At at h ⊢
    obtain ⟨A, c, h1, h2, h3⟩ := h
    refine ⟨A, c, h1, h2, fun hne => ?_⟩
    obtain ⟨b, o, h4, h5⟩ := h3 hne
    exact ⟨b, o, h4, litL_far hz hs l hl.2 h5⟩
theorem litL_far {W U : World} {g : Nat} {t : TypeId} (hz : BlkIs W g t zeroL.toArray) (hs : ∀ p v, p.block ≠ g → W.cell? p = some v → U.cell? p = some v) : ∀ (l : List Tree) {b o : Nat}, litL l = true → AllAt W l b o → AllAt U l b o
  | [], b, o, _, _ => trivial
  | .node k m s lo hi :: r, b, o, hl, h => by
    simp only [litL, Bool.and_eq_true] at hl
    obtain ⟨⟨cs, h1, h2, h3⟩, h4⟩ := h
    refine ⟨⟨cs, lit_far hz hs _ hl.1 h1, h2, fun j v hv => hs _ v ?_ (h3 j v hv)⟩, litL_far hz hs r hl.2 h4⟩
    intro e
    have e' : b = g := e
    subst e'
    obtain ⟨A, c, e1, _⟩ : ∃ A c, Value.agg cs.toArray = reV k m A s.length c lo hi ∧ _ := by
      unfold Tree.At at h1
      obtain ⟨A, c, h1, h1'⟩ := h1
      exact ⟨A, c, h1, h1'⟩
    have e2 : cs = reL k m A s.length c lo hi := by
      unfold reV at e1
      injection e1 with e1
      exact List.toArray_inj e1
    have h5 := h3 0 (.int .i64 k) (by rw [e2]; rfl)
    have hk : k ≠ 0 := by
      have := hl.1
      simp only [Tree.lit, Bool.and_eq_true] at this
      simpa using this.1
    exact zero_kind hz hk h5
end
theorem cells_far {u : World} {g : Nat} (vs : List Value) (p : Addr) (v : Value) (hp : p.block ≠ g) (h : u.cell? p = some v) : (u.setCells g 0 vs).cell? p = some v := by
  rw [World.cell?_of_block (w := u) (heap_cells g p.block hp vs 0 u)]
  exact h
end Go.Proofs.Ytgbljnnmhmlifaa

namespace Go.Proofs.Ytgbljnnmhmlifaa
open Go.RowKit

def ltr8 (b : Int) : Tree := .node 1 (sRange b b) [] 0 0
def altA : Tree := .node 3 (fun _ => false) [ltr8 98, ltr8 99] 0 0
def starA : Tree := .node 4 (fun _ => false) [altA] 0 (-1)
def exA : Tree := .node 2 (fun _ => false) [ltr8 97, starA] 0 0
def optB : Tree := .node 4 (fun _ => false) [ltr8 98] 0 1
def exB : Tree := .node 2 (fun _ => false) [ltr8 97, optB] 0 0
theorem exA_may : exA.mayN = true := by decide +kernel
theorem exB_may : exB.mayN = true := by decide +kernel
theorem ex_once : exA.once = true ∧ exB.once = true := by decide +kernel
theorem ex_nodes : exA.nodes = 6 ∧ exB.nodes = 4 := by decide +kernel
theorem ex_sumN : sumN [exA, exB] = 5 := by decide +kernel
theorem ex_sumP : sumP [exA] = 3 ∧ sumP [exA, exB] = 5 := by decide +kernel
theorem ex_first : (buildN [exA, exB]).first = [0, 3] := by decide +kernel
theorem ex_len : (buildN [exA, exB]).sets.length = 5 ∧ (buildN [exA, exB]).follow.length = 5 := by decide +kernel
theorem ex_follow : (buildN [exA, exB]).follow.getD 1 [] = [1, 2] := by decide +kernel
end Go.Proofs.Ytgbljnnmhmlifaa

