/-
  WHAT hackleref04's Void AND Sets ANSWER, at every tree that may be: contracts. Condition: each node of the tree may be.
-/
import Derived.Test.YtfodpkciahkehaaRef4
namespace Go.Proofs.Ytfodpkciahkehaa
open Go.RowKit

theorem okNode_kind {k : Int} {m : Nat → Bool} {n : Nat} {lo hi : Int} (h : okNode k m n lo hi = true) :
    (k = 0 ∧ n = 0) ∨ (k = 1 ∧ n = 0) ∨ (k = 2 ∧ 2 ≤ n) ∨ (k = 3 ∧ 2 ≤ n) ∨ (k = 4 ∧ n = 1 ∧ 0 ≤ lo ∧ lo ≤ 64 ∧ (hi = -1 ∨ lo ≤ hi ∧ hi ≤ 64)) := by
  unfold okNode at h
  split at h
  · cases h
  · split at h
    · rename_i h2; have := of_decide_eq_true h; omega
    · split at h
      · rename_i h2; have := of_decide_eq_true h; omega
      · split at h
        · have := of_decide_eq_true h; omega
        · cases h
theorem ok_open {k : Int} {m : Nat → Bool} {l : List Tree} {lo hi : Int} (h : Tree.ok (.node k m l lo hi) = true) : (∀ t ∈ l, t.ok = true) ∧ okNode k m l.length lo hi = true := by
  unfold Tree.ok at h
  rw [Bool.and_eq_true, allOk_iff] at h
  exact h

mutual
def Tree.void : Tree → Bool
  | .node k m l lo _ => if k = 0 then false else if k = 1 then setEq m (fun _ => false) else if k = 2 then anyVoid l else if k = 3 then allVoid l else (decide (0 < lo) && headVoid l)
def anyVoid : List Tree → Bool
  | [] => false
  | t :: r => t.void || anyVoid r
def allVoid : List Tree → Bool
  | [] => true
  | t :: r => t.void && allVoid r
def headVoid : List Tree → Bool
  | [] => false
  | t :: _ => t.void
end
theorem anyVoid_iff : ∀ {l : List Tree}, anyVoid l = true ↔ ∃ t ∈ l, t.void = true
  | [] => by simp [anyVoid]
  | a :: l => by simp only [anyVoid, Bool.or_eq_true, List.mem_cons, exists_eq_or_imp, anyVoid_iff (l := l)]
theorem allVoid_iff : ∀ {l : List Tree}, allVoid l = true ↔ ∀ t ∈ l, t.void = true
  | [] => by simp [allVoid]
  | a :: l => by simp only [allVoid, Bool.and_eq_true, List.mem_cons, forall_eq_or_imp, allVoid_iff (l := l)]
theorem mem_take_succ {l : List Tree} {i : Nat} (h : i < l.length) {t : Tree} (ht : t ∈ l.take (i + 1)) : t ∈ l.take i ∨ t = l[i] := by
  rw [← List.take_append_getElem h, List.mem_append] at ht
  rcases ht with ht | ht
  · exact .inl ht
  · exact .inr (by simpa using ht)

set_option maxHeartbeats 4000000 in
theorem refVoid_any : ∀ (T : Tree) (v : Value) (w : World), T.ok = true → T.At w v → Calls Try.prog 36 #[v] w fun e w' => e = .returned (.bool T.void) ∧ Below w.heap.size w w' := by
  intro T
  induction T using Tree.ind with
  | h k m l lo hi ih =>
    intro v w hok hat
    obtain ⟨A, c, rfl, hc, hs⟩ := hat.open
    obtain ⟨hoks, hn⟩ := ok_open hok
    have hkind := okNode_kind hn
    have HS := Lib.hid hs
    have IH := Lib.hid (fun t ht v w => ih t ht v w (hoks t ht))
    have hbox := BlkIs.new w 27 (reL k m A l.length c lo hi).toArray
    have hB0 : Below w.heap.size w (w.alloc (.cells (reL k m A l.length c lo hi).toArray 27)) := (Below.refl _ _).alloc (Nat.le_refl _) _
    have HB0 := Lib.hid (And.intro hB0 hbox)
    clear hat hs ih hok hoks hn hbox hB0
    unfold reV reL at *
    unfold Tree.void
    rcases hkind with ⟨rfl, hl⟩ | ⟨rfl, hl⟩ | ⟨rfl, hl⟩ | ⟨rfl, hl⟩ | ⟨rfl, hl, hlo⟩
    · rw [if_pos rfl]
      go_enter Try.func36, Try.ntmps36
      go_wp2
      go_ret
      exact ⟨rfl, (Below.refl _ _).alloc (Nat.le_refl _) _⟩
    · rw [if_neg (by decide), if_pos rfl]
      have he := eql_set m (fun _ => false)
      rw [set0_build] at he
      unfold setV at he
      generalize setEq m (fun _ => false) = q at *
      go_enter Try.func36, Try.ntmps36
      go_wp2
      go_ret
      exact ⟨rfl, (Below.refl _ _).alloc (Nat.le_refl _) _⟩
    · rw [if_neg (by decide), if_neg (by decide), if_pos rfl]
      obtain ⟨R, hR⟩ : ∃ R, anyVoid l = R := ⟨_, rfl⟩
      rw [hR]
      have HR := Lib.hid hR
      clear hR
      go_enter Try.func36, Try.ntmps36
      go_wp2
      go_loopw [3] (fun i wr => ∃ j : Nat, i = .int .i64 j ∧ j ≤ l.length ∧ Hid (Below w.heap.size w wr ∧ BlkIs wr w.heap.size 27 (reL 2 m A l.length c lo hi).toArray ∧ ∀ t ∈ l.take j, t.void = false)) (fun i _ => l.length - (intOf i).toNat)
      case atStart => exact ⟨0, rfl, Nat.zero_le _, Lib.hid ⟨HB0.out.1, HB0.out.2, by simp⟩⟩
      case round =>
        obtain ⟨j, rfl, hj, HH⟩ := hrel
        obtain ⟨hb, hbl, hall⟩ := HH.out
        have HB := Lib.hid HH.out
        unfold reL at hbl
        obtain ⟨_, _, _, _, _, c5, _, _⟩ := hbl.eight
        by_cases hp : j < l.length
        · have hdl : decide ((j : Int) < (l.length : Int)) = true := by simp; omega
          obtain ⟨b, o, rfl, hbw, hg⟩ := HS.out (by intro e; subst e; simp at hp)
          obtain ⟨cs, hcat, hlen, hrow⟩ := hg j hp
          obtain ⟨A', n', c', rfl⟩ := hcat.eight
          obtain ⟨r0, r1, r2, r3, r4, r5, r6, r7⟩ := row_eight hrow hb
          have hcall := IH.out _ (List.getElem_mem hp) _ wr (hcat.step hb)
          have hk1 : IntKind.i64.wrap ((j : Int) + 1) = ((j + 1 : Nat) : Int) := by rw [IntKind.wrap_i64]; omega
          by_cases hx : (l[j]).void = true
          · rw [hx] at hcall
            have HC := Lib.hid hcall
            have HA := Lib.hid (show R = true by rw [← HR.out, anyVoid_iff]; exact ⟨_, List.getElem_mem hp, hx⟩)
            clear hrow hcat hcall hg hb hbl hall hx
            go_wp2_with fail
            refine HC.out.mono ?_
            rintro e w1 ⟨rfl, hb1⟩
            have HB1 := Lib.hid hb1
            clear hb1
            go_wp2
            go_ret
            rw [HA.out]
            exact ⟨rfl, HB.out.1.trans (HB1.out.mono HB.out.1.size)⟩
          · have hx2 : (l[j]).void = false := by simpa using hx
            rw [hx2] at hcall
            have HC := Lib.hid hcall
            have HA := Lib.hid (show ∀ t ∈ l.take (j + 1), t.void = false from fun t ht => (mem_take_succ hp ht).elim (hall t) (fun e => e ▸ hx2))
            clear hrow hcat hcall hg hb hbl hall hx hx2
            go_wp2_with fail
            refine HC.out.mono ?_
            rintro e w1 ⟨rfl, hb1⟩
            have HB1 := Lib.hid hb1
            clear hb1
            go_wp2
            exact ⟨⟨j + 1, by go_num, hp, Lib.hid ⟨HB.out.1.trans (HB1.out.mono HB.out.1.size), HB.out.2.1.step HB1.out, HA.out⟩⟩, by simp [intOf]; omega⟩
        · have hdl : decide ((j : Int) < (l.length : Int)) = false := by simp; omega
          obtain rfl : j = l.length := by omega
          rw [List.take_length] at hall
          have HA := Lib.hid (show R = false by
            rw [← HR.out, Bool.eq_false_iff]; intro h
            rw [anyVoid_iff] at h
            obtain ⟨t, ht, hv⟩ := h
            rw [hall t ht] at hv; cases hv)
          clear hall hbl
          go_wp2
          go_ret
          rw [HA.out]
          exact ⟨rfl, hb⟩
    · rw [if_neg (by decide), if_neg (by decide), if_neg (by decide), if_pos rfl]
      obtain ⟨R, hR⟩ : ∃ R, allVoid l = R := ⟨_, rfl⟩
      rw [hR]
      have HR := Lib.hid hR
      clear hR
      go_enter Try.func36, Try.ntmps36
      go_wp2
      go_loopw [4] (fun i wr => ∃ j : Nat, i = .int .i64 j ∧ j ≤ l.length ∧ Hid (Below w.heap.size w wr ∧ BlkIs wr w.heap.size 27 (reL 3 m A l.length c lo hi).toArray ∧ ∀ t ∈ l.take j, t.void = true)) (fun i _ => l.length - (intOf i).toNat)
      case atStart => exact ⟨0, rfl, Nat.zero_le _, Lib.hid ⟨HB0.out.1, HB0.out.2, by simp⟩⟩
      case round =>
        obtain ⟨j, rfl, hj, HH⟩ := hrel
        obtain ⟨hb, hbl, hall⟩ := HH.out
        have HB := Lib.hid HH.out
        unfold reL at hbl
        obtain ⟨_, _, _, _, _, c5, _, _⟩ := hbl.eight
        by_cases hp : j < l.length
        · have hdl : decide ((j : Int) < (l.length : Int)) = true := by simp; omega
          obtain ⟨b, o, rfl, hbw, hg⟩ := HS.out (by intro e; subst e; simp at hp)
          obtain ⟨cs, hcat, hlen, hrow⟩ := hg j hp
          obtain ⟨A', n', c', rfl⟩ := hcat.eight
          obtain ⟨r0, r1, r2, r3, r4, r5, r6, r7⟩ := row_eight hrow hb
          have hcall := IH.out _ (List.getElem_mem hp) _ wr (hcat.step hb)
          have hk1 : IntKind.i64.wrap ((j : Int) + 1) = ((j + 1 : Nat) : Int) := by rw [IntKind.wrap_i64]; omega
          by_cases hx : (l[j]).void = true
          · rw [hx] at hcall
            have HC := Lib.hid hcall
            have HA := Lib.hid (show ∀ t ∈ l.take (j + 1), t.void = true from fun t ht => (mem_take_succ hp ht).elim (hall t) (fun e => e ▸ hx))
            clear hrow hcat hcall hg hb hbl hall hx
            go_wp2_with fail
            refine HC.out.mono ?_
            rintro e w1 ⟨rfl, hb1⟩
            have HB1 := Lib.hid hb1
            clear hb1
            go_wp2
            exact ⟨⟨j + 1, by go_num, hp, Lib.hid ⟨HB.out.1.trans (HB1.out.mono HB.out.1.size), HB.out.2.1.step HB1.out, HA.out⟩⟩, by simp [intOf]; omega⟩
          · have hx2 : (l[j]).void = false := by simpa using hx
            rw [hx2] at hcall
            have HC := Lib.hid hcall
            have HA := Lib.hid (show R = false by
              rw [← HR.out, Bool.eq_false_iff]; intro h
              rw [allVoid_iff] at h
              rw [h _ (List.getElem_mem hp)] at hx2; cases hx2)
            clear hrow hcat hcall hg hb hbl hall hx hx2
            go_wp2_with fail
            refine HC.out.mono ?_
            rintro e w1 ⟨rfl, hb1⟩
            have HB1 := Lib.hid hb1
            clear hb1
            go_wp2
            go_ret
            rw [HA.out]
            exact ⟨rfl, HB.out.1.trans (HB1.out.mono HB.out.1.size)⟩
        · have hdl : decide ((j : Int) < (l.length : Int)) = false := by simp; omega
          obtain rfl : j = l.length := by omega
          rw [List.take_length] at hall
          have HA := Lib.hid (show R = true by rw [← HR.out, allVoid_iff]; exact hall)
          clear hall hbl
          go_wp2
          go_ret
          rw [HA.out]
          exact ⟨rfl, hb⟩
    · rw [if_neg (by decide), if_neg (by decide), if_neg (by decide), if_neg (by decide)]
      obtain ⟨t, rfl⟩ : ∃ t, l = [t] := by
        match l, hl with
        | [t], _ => exact ⟨t, rfl⟩
      obtain ⟨b, o, rfl, hbw, hg⟩ := HS.out (by simp)
      obtain ⟨cs, hcat, hlen, hrow⟩ := hg 0 (by simp)
      obtain ⟨A', n', c', rfl⟩ := hcat.eight
      rw [show o + 0 * 8 = o by omega] at hrow
      simp only [List.getElem_cons_zero] at hcat hrow
      obtain ⟨r0, r1, r2, r3, r4, r5, r6, r7⟩ := row_eight hrow (Below.refl _ _)
      have hcall := IH.out t (by simp) _ _ (hcat.step HB0.out.1)
      have hhv : headVoid [t] = t.void := by unfold headVoid; rfl
      rw [hhv]
      unfold reL at hcall
      generalize t.void = q at *
      have HC := Lib.hid hcall
      clear hcall hrow hcat hg hc hlen hl hhv
      by_cases h0 : 0 < lo
      · have hd : decide (lo > 0) = true := by simp; omega
        rw [show decide (0 < lo) = true by simp [h0], Bool.true_and]
        go_enter Try.func36, Try.ntmps36
        go_wp2_with fail
        refine HC.out.mono ?_
        rintro e w1 ⟨rfl, hb1⟩
        have HB1 := Lib.hid hb1
        clear hb1
        go_wp2
        go_ret
        exact ⟨rfl, HB0.out.1.trans (HB1.out.mono HB0.out.1.size)⟩
      · have hd : decide (lo > 0) = false := by simp; omega
        rw [show decide (0 < lo) = false by simp; omega, Bool.false_and]
        go_enter Try.func36, Try.ntmps36
        go_wp2
        go_ret
        exact ⟨rfl, (Below.refl _ _).alloc (Nat.le_refl _) _⟩

end Go.Proofs.Ytfodpkciahkehaa

