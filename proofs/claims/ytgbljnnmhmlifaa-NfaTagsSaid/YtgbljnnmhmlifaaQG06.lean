/-
  WHAT IS SAID OF NO PROGRAM: an operation with a guard, in a region that is walked once in text order: wanted or not, by the slot that the guard looks at. No condition.
-/
import Derived.Test.YtgbljnnmhmlifaaQG05
import Derived.Test.YtgbljnnmhmlifaaQG03
import Derived.Test.YtgbljnnmhmlifaaQG01
namespace Go.Proofs.Ytgbljnnmhmlifaa
open Go.RowKit

theorem wanted_guard {o : Oper} {ops : Array Oper} {tmps : Array Value} {i d : Nat} {b b' : Bool} (hg : o.guard = some (i, b)) (hi : (ops[i]?).bind (·.dst) = some d) (hv : tmps.getD d undef = .bool b') : Region.wanted o (yielded ops tmps) = (b' == b) := by
  have h2 : tmps[d]? = some (.bool b') := by
    cases h : tmps[d]? with
    | none => rw [Array.getD_eq_getD_getElem?, h] at hv; cases hv
    | some x => rw [Array.getD_eq_getD_getElem?, h] at hv; exact congrArg some hv
  unfold Region.wanted yielded
  rw [hg]
  simp [hi, h2]
theorem freeW_yes {P : Program} {C : World → Prop} {o : Oper} {a : Act} {ops : Array Oper} {K : Act → Prop} (i d : Nat) (b : Bool) (hg : o.guard = some (i, b)) (hi : (ops[i]?).bind (·.dst) = some d) (hv : a.tmps.getD d undef = .bool b) (h1 : ∃ v, (∀ w, C w → freeAt P o a w v) ∧ K (a.put o.dst v)) :
    if Region.wanted o (yielded ops a.tmps) = true then ∃ v, (∀ w, C w → freeAt P o a w v) ∧ K (a.put o.dst v) else K (a.put o.dst undef) := by rw [if_pos (by rw [wanted_guard hg hi hv]; simp)]; exact h1
theorem freeW_no {P : Program} {C : World → Prop} {o : Oper} {a : Act} {ops : Array Oper} {K : Act → Prop} (i d : Nat) (b : Bool) (hg : o.guard = some (i, b)) (hi : (ops[i]?).bind (·.dst) = some d) (hv : a.tmps.getD d undef = .bool (!b)) (h1 : K (a.put o.dst undef)) :
    if Region.wanted o (yielded ops a.tmps) = true then ∃ v, (∀ w, C w → freeAt P o a w v) ∧ K (a.put o.dst v) else K (a.put o.dst undef) := by rw [if_neg (by rw [wanted_guard hg hi hv]; cases b <;> simp)]; exact h1

end Go.Proofs.Ytgbljnnmhmlifaa

namespace Go.Proofs.Ytgbljnnmhmlifaa
open Go.RowKit

attribute [local irreducible] FreeW

def IntsV (W : World) (l : List Int) (v : Value) : Prop := ∃ A c, v = .slice A l.length c ∧ (l.length ≤ c ∧ c ≤ 9223372036854775807) ∧ (l ≠ [] → ∃ b o, A = some ⟨b, o, none⟩ ∧ b < W.heap.size ∧ ∀ (i : Nat) (h : i < l.length), W.cell? ⟨b, o + i, none⟩ = some (.int .i64 l[i]))
theorem IntsV.step {W W' : World} {l : List Int} {v : Value} (h : IntsV W l v) (hb : Below W.heap.size W W') : IntsV W' l v := by
  obtain ⟨A, c, e, hc, hs⟩ := h
  refine ⟨A, c, e, hc, fun hne => ?_⟩
  obtain ⟨b, o, e2, hlt, hg⟩ := hs hne
  exact ⟨b, o, e2, Nat.lt_of_lt_of_le hlt hb.size, fun i hi => (hb.cell (p := ⟨b, o + i, none⟩) hlt).trans (hg i hi)⟩
theorem IntsV.nil (W : World) : IntsV W [] (.slice none 0 0) := ⟨none, 0, rfl, ⟨Nat.le_refl _, by decide⟩, fun h => absurd rfl h⟩
def risesB (all : Int) : Int → List Int → Bool
  | _, [] => true
  | a, p :: r => (decide (a < p) && decide (p < all)) && risesB all p r

set_option maxHeartbeats 2000000 in
theorem rising_any (l : List Int) (v : Value) (all : Int) (w : World) (hv : IntsV w l v) : Calls Try.prog 36 #[v, .int .i64 all] w fun e w' => e = .returned (.bool (risesB all (-1) l)) ∧ w' = w := by
  obtain ⟨A, c, rfl, hc, hs⟩ := hv
  have HS := Lib.hid hs
  obtain ⟨R, hR⟩ : ∃ R, R = risesB all (-1) l := ⟨_, rfl⟩
  rw [← hR]
  have HR := Lib.hid hR
  clear hs hR
  go_enter Try.func36, Try.ntmps36
  go_wp2
  go_loopw [5, 10] (fun s i wr => ∃ (j : Nat) (a : Int), s = .int .i64 a ∧ i = .int .i64 j ∧ j ≤ l.length ∧ Hid (wr = w ∧ R = risesB all a (l.drop j))) (fun _ i _ => l.length - (intOf i).toNat)
  case atStart => exact ⟨0, -1, rfl, rfl, Nat.zero_le _, Lib.hid ⟨rfl, HR.out⟩⟩
  case round =>
    obtain ⟨j, a, rfl, rfl, hj, HH⟩ := hrel
    obtain ⟨rfl, hRR⟩ := HH.out
    have HH := Lib.hid hRR
    clear hRR
    by_cases hp : j < l.length
    · have hk1 : IntKind.i64.wrap ((j : Int) + 1) = ((j + 1 : Nat) : Int) := by rw [IntKind.wrap_i64]; omega
      have hdl : decide ((j : Int) < (l.length : Int)) = true := by simp; omega
      obtain ⟨b, o, rfl, hlt, hg⟩ := HS.out (by intro e; subst e; simp at hp)
      have hcell := hg j hp
      have hd := HH.out
      rw [List.drop_eq_getElem_cons hp] at hd
      unfold risesB at hd
      clear hg
      generalize l[j] = p at *
      have HD := Lib.hid hd
      clear hd
      by_cases h1 : a < p
      · have e1 : decide (p ≤ a) = false := by simp; omega
        by_cases h2 : p < all
        · have e2 : decide (p ≥ all) = false := by simp; omega
          have e2b : decide (all ≤ p) = false := by simp; omega
          have HN := Lib.hid (show R = risesB all p (l.drop (j + 1)) by rw [HD.out]; simp [h1, h2])
          clear h1 h2
          go_wp2
          exact ⟨⟨j + 1, p, rfl, rfl, hp, Lib.hid ⟨by trivial, HN.out⟩⟩, by simp [intOf]; omega⟩
        · have e2 : decide (p ≥ all) = true := by simp; omega
          have e2b : decide (all ≤ p) = true := by simp; omega
          have HN := Lib.hid (show R = false by rw [HD.out]; simp [h2])
          clear h1 h2
          go_wp2
          go_ret
          exact ⟨by rw [HN.out]; rfl, rfl⟩
      · have e1 : decide (p ≤ a) = true := by simp; omega
        have HN := Lib.hid (show R = false by rw [HD.out]; simp [h1])
        clear h1
        go_wp2
        go_ret
        exact ⟨by rw [HN.out]; rfl, rfl⟩
    · have hdl : decide ((j : Int) < (l.length : Int)) = false := by simp; omega
      have HN := Lib.hid (show R = true by rw [HH.out, List.drop_eq_nil_of_le (by omega)]; rfl)
      go_wp2
      go_ret
      exact ⟨by rw [HN.out]; rfl, rfl⟩

theorem six {w : World} {g : Nat} {t : TypeId} {a b c d e f : Value} (h : BlkIs w g t #[a, b, c, d, e, f]) : w.cell? ⟨g, 0, none⟩ = some a ∧ w.cell? ⟨g, 1, none⟩ = some b ∧ w.cell? ⟨g, 2, none⟩ = some c ∧ w.cell? ⟨g, 3, none⟩ = some d ∧ w.cell? ⟨g, 4, none⟩ = some e ∧ w.cell? ⟨g, 5, none⟩ = some f := by
  refine ⟨?_, ?_, ?_, ?_, ?_, ?_⟩
  · simpa using h.cell 0
  · simpa using h.cell 1
  · simpa using h.cell 2
  · simpa using h.cell 3
  · simpa using h.cell 4
  · simpa using h.cell 5
end Go.Proofs.Ytgbljnnmhmlifaa

namespace Go.Proofs.Ytgbljnnmhmlifaa
open Go.RowKit

structure Nf where
  sets : List (Nat → Bool)
  rules : List Int
  first : List Int
  follow : List (List Int)
  ends : List Bool
  empty : Int
def SetsV (W : World) (ms : List (Nat → Bool)) (v : Value) : Prop := ∃ A c, v = .slice A ms.length c ∧ (ms.length ≤ c ∧ c ≤ 9223372036854775807) ∧ (ms ≠ [] → ∃ b o, A = some ⟨b, o, none⟩ ∧ b < W.heap.size ∧ ∀ (i : Nat) (h : i < ms.length) (k : Nat), k < 4 → W.cell? ⟨b, o + i * 4 + k, none⟩ = some (.int .u64 (wd ms[i] k : Nat)))
def BoolsV (W : World) (l : List Bool) (v : Value) : Prop := ∃ A c, v = .slice A l.length c ∧ (l.length ≤ c ∧ c ≤ 9223372036854775807) ∧ (l ≠ [] → ∃ b o, A = some ⟨b, o, none⟩ ∧ b < W.heap.size ∧ ∀ (i : Nat) (h : i < l.length), W.cell? ⟨b, o + i, none⟩ = some (.bool l[i]))
def RowsI (W : World) (ll : List (List Int)) (v : Value) : Prop := ∃ A c, v = .slice A ll.length c ∧ (ll.length ≤ c ∧ c ≤ 9223372036854775807) ∧ (ll ≠ [] → ∃ b o, A = some ⟨b, o, none⟩ ∧ b < W.heap.size ∧ ∀ (i : Nat) (h : i < ll.length), ∃ u, W.cell? ⟨b, o + i, none⟩ = some u ∧ IntsV W ll[i] u)
def NfaAt (W : World) (N : Nf) (v : Value) : Prop := ∃ v0 v1 v2 v3 v4, v = .agg #[v0, v1, v2, v3, v4, .int .i64 N.empty] ∧ SetsV W N.sets v0 ∧ IntsV W N.rules v1 ∧ IntsV W N.first v2 ∧ RowsI W N.follow v3 ∧ BoolsV W N.ends v4
theorem SetsV.step {W W' : World} {l : List (Nat → Bool)} {v : Value} (h : SetsV W l v) (hb : Below W.heap.size W W') : SetsV W' l v := by
  obtain ⟨A, c, e, hc, hs⟩ := h
  refine ⟨A, c, e, hc, fun hne => ?_⟩
  obtain ⟨b, o, e2, hlt, hg⟩ := hs hne
  exact ⟨b, o, e2, Nat.lt_of_lt_of_le hlt hb.size, fun i hi k hk => (hb.cell (p := ⟨b, o + i * 4 + k, none⟩) hlt).trans (hg i hi k hk)⟩
theorem BoolsV.step {W W' : World} {l : List Bool} {v : Value} (h : BoolsV W l v) (hb : Below W.heap.size W W') : BoolsV W' l v := by
  obtain ⟨A, c, e, hc, hs⟩ := h
  refine ⟨A, c, e, hc, fun hne => ?_⟩
  obtain ⟨b, o, e2, hlt, hg⟩ := hs hne
  exact ⟨b, o, e2, Nat.lt_of_lt_of_le hlt hb.size, fun i hi => (hb.cell (p := ⟨b, o + i, none⟩) hlt).trans (hg i hi)⟩
theorem RowsI.step {W W' : World} {l : List (List Int)} {v : Value} (h : RowsI W l v) (hb : Below W.heap.size W W') : RowsI W' l v := by
  obtain ⟨A, c, e, hc, hs⟩ := h
  refine ⟨A, c, e, hc, fun hne => ?_⟩
  obtain ⟨b, o, e2, hlt, hg⟩ := hs hne
  refine ⟨b, o, e2, Nat.lt_of_lt_of_le hlt hb.size, fun i hi => ?_⟩
  obtain ⟨u, h1, h2⟩ := hg i hi
  exact ⟨u, (hb.cell (p := ⟨b, o + i, none⟩) hlt).trans h1, h2.step hb⟩
theorem NfaAt.step {W W' : World} {N : Nf} {v : Value} (h : NfaAt W N v) (hb : Below W.heap.size W W') : NfaAt W' N v := by
  obtain ⟨v0, v1, v2, v3, v4, e, h0, h1, h2, h3, h4⟩ := h
  exact ⟨v0, v1, v2, v3, v4, e, h0.step hb, h1.step hb, h2.step hb, h3.step hb, h4.step hb⟩
def okR (r : Int) : Bool := decide (0 ≤ r) && decide (r < 40)
def Nf.sized (N : Nf) : Bool := (decide (N.sets.length ≤ 2000) && (N.rules.length == N.sets.length)) && ((N.follow.length == N.sets.length) && (N.ends.length == N.sets.length))
def Nf.rest (N : Nf) : Bool := risesB N.sets.length (-1) N.first && (decide (-1 ≤ N.empty) && decide (N.empty < 40))
def Nf.follows (N : Nf) : Bool := N.follow.all (risesB N.sets.length (-1))
def Nf.may (N : Nf) : Bool := N.sized && (N.rules.all okR && (N.follow.all (risesB N.sets.length (-1)) && N.rest))

set_option maxRecDepth 20000 in
set_option maxHeartbeats 8000000 in
theorem mayN_any (N : Nf) (v : Value) (w : World) (h : NfaAt w N v) : Calls Try.prog 15 #[v] w fun e w' => e = .returned (.bool N.may) ∧ Below w.heap.size w w' := by
  obtain ⟨v0, v1, v2, v3, v4, rfl, hs0, hs1, hs2, hs3, hs4⟩ := h
  have hb0 := (Below.refl w.heap.size w).alloc (Nat.le_refl _) (.cells #[v0, v1, v2, v3, v4, .int .i64 N.empty] 30)
  have hr1 := hs1.step hb0
  have hr2 := hs2.step hb0
  have hr3 := hs3.step hb0
  obtain ⟨A0, c0, rfl, hc0, hx0⟩ := hs0
  obtain ⟨A4, c4, rfl, hc4, hx4⟩ := hs4
  have HR2 := Lib.hid (rising_any N.first v2 N.sets.length _ hr2)
  obtain ⟨A1, c1, rfl, hc1, hg1⟩ := hr1
  obtain ⟨A2, c2, rfl, hc2, hg2⟩ := hr2
  obtain ⟨A3, c3, rfl, hc3, hg3⟩ := hr3
  have hx := BlkIs.new w 30 #[.slice A0 N.sets.length c0, .slice A1 N.rules.length c1, .slice A2 N.first.length c2, .slice A3 N.follow.length c3, .slice A4 N.ends.length c4, .int .i64 N.empty]
  obtain ⟨R, hR⟩ : ∃ R, R = N.may := ⟨_, rfl⟩
  rw [← hR]
  unfold Nf.may Nf.sized Nf.rest at hR
  obtain ⟨W1, hW1⟩ : ∃ W1, w.alloc (.cells #[.slice A0 N.sets.length c0, .slice A1 N.rules.length c1, .slice A2 N.first.length c2, .slice A3 N.follow.length c3, .slice A4 N.ends.length c4, .int .i64 N.empty] 30) = W1 := ⟨_, rfl⟩
  rw [hW1] at hb0 hx HR2 hg1 hg3
  obtain ⟨d0, d1, d2, d3, d4, d5⟩ := six hx
  have HB := Lib.hid hb0
  have HG1 := Lib.hid hg1
  have HG3 := Lib.hid hg3
  clear hs1 hs2 hs3 hb0 hx hg1 hg2 hg3 hx0 hx4
  generalize N.empty = em at *
  generalize N.first = fi at *
  generalize N.rules = ru at *
  generalize N.follow = fo at *
  generalize N.ends.length = n4 at *
  generalize N.sets.length = n0 at *
  by_cases hk : n0 ≤ 2000
  case neg =>
    have e0 : decide ((n0 : Int) > 2000) = true := by simp; omega
    have e0b : decide ((2000 : Int) < (n0 : Int)) = true := by simp; omega
    have HN := Lib.hid (show R = false by rw [hR]; simp [hk])
    clear hR hk
    go_enter Try.func15, Try.ntmps15
    go_wp2
    go_ret
    exact ⟨by rw [HN.out]; rfl, HB.out⟩
  have e0 : decide ((n0 : Int) > 2000) = false := by simp; omega
  have e0b : decide ((2000 : Int) < (n0 : Int)) = false := by simp; omega
  by_cases h1 : ru.length = n0
  case neg =>
    have e1 : ((ru.length : Int) != (n0 : Int)) = true := by simp; omega
    have HN := Lib.hid (show R = false by rw [hR]; simp [h1])
    clear hR hk h1
    go_enter Try.func15, Try.ntmps15
    go_wp2
    go_ret
    exact ⟨by rw [HN.out]; rfl, HB.out⟩
  have e1 : ((ru.length : Int) != (n0 : Int)) = false := by simp; omega
  by_cases h3 : fo.length = n0
  case neg =>
    have e3 : ((fo.length : Int) != (n0 : Int)) = true := by simp; omega
    have HN := Lib.hid (show R = false by rw [hR]; simp [h3])
    clear hR hk h1 h3
    go_enter Try.func15, Try.ntmps15
    go_wp2
    go_ret
    exact ⟨by rw [HN.out]; rfl, HB.out⟩
  have e3 : ((fo.length : Int) != (n0 : Int)) = false := by simp; omega
  by_cases h4 : n4 = n0
  case neg =>
    have e4 : ((n4 : Int) != (n0 : Int)) = true := by simp; omega
    have HN := Lib.hid (show R = false by rw [hR]; simp [h4])
    clear hR hk h1 h3 h4
    go_enter Try.func15, Try.ntmps15
    go_wp2
    go_ret
    exact ⟨by rw [HN.out]; rfl, HB.out⟩
  have e4 : ((n4 : Int) != (n0 : Int)) = false := by simp; omega
  have HN := Lib.hid (show R = (ru.all okR && (fo.all (risesB n0 (-1)) && (risesB n0 (-1) fi && (decide (-1 ≤ em) && decide (em < 40))))) by rw [hR]; simp [h1, h3, h4, hk])
  clear hR hk h1 h3 h4
  go_enter Try.func15, Try.ntmps15
  go_wp2
  go_loopw [37] (fun i wr => ∃ j : Nat, i = .int .i64 j ∧ j ≤ ru.length ∧ Hid (wr = W1 ∧ R = ((ru.drop j).all okR && (fo.all (risesB n0 (-1)) && (risesB n0 (-1) fi && (decide (-1 ≤ em) && decide (em < 40))))))) (fun i _ => ru.length - (intOf i).toNat)
  case atStart => exact ⟨0, rfl, Nat.zero_le _, Lib.hid ⟨by trivial, HN.out⟩⟩
  case round =>
    obtain ⟨j, rfl, hj, HH⟩ := hrel
    obtain ⟨rfl, hRR⟩ := HH.out
    have HH := Lib.hid hRR
    clear hRR
    by_cases hp : j < ru.length
    · have hk1 : IntKind.i64.wrap ((j : Int) + 1) = ((j + 1 : Nat) : Int) := by rw [IntKind.wrap_i64]; omega
      have hdl : decide ((j : Int) < (ru.length : Int)) = true := by simp; omega
      obtain ⟨b, o, rfl, hlt, hg⟩ := HG1.out (by intro e; subst e; simp at hp)
      have hcell := hg j hp
      have hd := HH.out
      rw [List.drop_eq_getElem_cons hp, List.all_cons] at hd
      unfold okR at hd
      clear hg
      generalize ru[j] = p at *
      have HD := Lib.hid hd
      clear hd
      by_cases g1 : p < 0
      · have q1 : decide (p < 0) = true := by simp; omega
        have HF := Lib.hid (show R = false by rw [HD.out]; simp; intro; omega)
        clear g1
        go_wp2
        go_ret
        exact ⟨by rw [HF.out]; rfl, HB.out⟩
      · have q1 : decide (p < 0) = false := by simp; omega
        by_cases g2 : 40 ≤ p
        · have q2 : decide (p ≥ 40) = true := by simp; omega
          have q2b : decide (40 ≤ p) = true := by simp; omega
          have HF := Lib.hid (show R = false by rw [HD.out]; simp; intro; omega)
          clear g1 g2
          go_wp2
          go_ret
          exact ⟨by rw [HF.out]; rfl, HB.out⟩
        · have q2 : decide (p ≥ 40) = false := by simp; omega
          have q2b : decide (40 ≤ p) = false := by simp; omega
          have HF := Lib.hid (show R = ((ru.drop (j + 1)).all okR && (fo.all (risesB n0 (-1)) && (risesB n0 (-1) fi && (decide (-1 ≤ em) && decide (em < 40))))) by rw [HD.out, show decide (0 ≤ p) = true by simp; omega, show decide (p < 40) = true by simp; omega]; rfl)
          clear g1 g2
          go_wp2
          exact ⟨⟨j + 1, rfl, hp, Lib.hid ⟨by trivial, HF.out⟩⟩, by simp [intOf]; omega⟩
    · have hdl : decide ((j : Int) < (ru.length : Int)) = false := by simp; omega
      have HN2 := Lib.hid (show R = (fo.all (risesB n0 (-1)) && (risesB n0 (-1) fi && (decide (-1 ≤ em) && decide (em < 40)))) by rw [HH.out, List.drop_eq_nil_of_le (by omega)]; rfl)
      go_wp2
      go_loopw [51] (fun i wz => ∃ q : Nat, i = .int .i64 q ∧ q ≤ fo.length ∧ Hid (Below wr.heap.size wr wz ∧ wz = wr ∧ R = ((fo.drop q).all (risesB n0 (-1)) && (risesB n0 (-1) fi && (decide (-1 ≤ em) && decide (em < 40)))))) (fun i _ => fo.length - (intOf i).toNat)
      case atStart => exact ⟨0, rfl, Nat.zero_le _, Lib.hid ⟨Below.refl _ _, rfl, HN2.out⟩⟩
      case round =>
        obtain ⟨q, rfl, hq, HK⟩ := hrel
        obtain ⟨_, rfl, hRR⟩ := HK.out
        have HK := Lib.hid hRR
        clear hRR
        by_cases hpq : q < fo.length
        · have hk1 : IntKind.i64.wrap ((q : Int) + 1) = ((q + 1 : Nat) : Int) := by rw [IntKind.wrap_i64]; omega
          have hdq : decide ((q : Int) < (fo.length : Int)) = true := by simp; omega
          obtain ⟨b, o, rfl, hlt, hg⟩ := HG3.out (by intro e; subst e; simp at hpq)
          obtain ⟨u, hcell, hrow⟩ := hg q hpq
          have hcall := rising_any _ u n0 _ hrow
          obtain ⟨Ar, cr, rfl, _, _⟩ := hrow
          have hd := HK.out
          rw [List.drop_eq_getElem_cons hpq, List.all_cons] at hd
          clear hg
          generalize fo[q] = row at *
          generalize risesB n0 (-1) row = rb at *
          have HC := Lib.hid hcall
          have HD := Lib.hid hd
          clear hcall hd
          cases rb with
          | true =>
            go_wp2_with fail
            go_at_call 36
            refine HC.out.mono ?_
            rintro e u2 ⟨rfl, rfl⟩
            go_wp2
            exact ⟨⟨q + 1, rfl, hpq, Lib.hid ⟨Below.refl _ _, by trivial, by rw [HD.out]; rfl⟩⟩, by simp [intOf]; omega⟩
          | false =>
            go_wp2_with fail
            go_at_call 36
            refine HC.out.mono ?_
            rintro e u2 ⟨rfl, rfl⟩
            go_wp2
            go_ret
            exact ⟨by rw [HD.out]; rfl, HB.out⟩
        · have hdq : decide ((q : Int) < (fo.length : Int)) = false := by simp; omega
          have HN3 := Lib.hid (show R = (risesB n0 (-1) fi && (decide (-1 ≤ em) && decide (em < 40))) by rw [HK.out, List.drop_eq_nil_of_le (by omega)]; rfl)
          generalize risesB n0 (-1) fi = rb at *
          generalize hm1 : decide (-1 ≤ em) = g1 at *
          generalize hm2 : decide (em < 40) = g2 at *
          have hm1b : decide (em ≥ -1) = g1 := hm1
          cases rb <;> cases g1 <;> cases g2 <;>
          (go_wp2_with fail
           go_at_call 36
           refine HR2.out.mono ?_
           rintro e u2 ⟨rfl, rfl⟩
           go_wp2
           go_ret
           exact ⟨by rw [HN3.out]; rfl, HB.out⟩)
end Go.Proofs.Ytgbljnnmhmlifaa

namespace Go.Proofs.Ytgbljnnmhmlifaa
open Go.RowKit

attribute [local irreducible] FreeW

def Nf.ruleAt (N : Nf) (p : Int) : Int := N.rules.getD p.toNat 0
def Nf.endAt (N : Nf) (p : Int) : Bool := N.ends.getD p.toNat false
def tagStep (N : Nf) (least p : Int) : Int := if N.endAt p && (decide (least < 0) || decide (N.ruleAt p < least)) then N.ruleAt p else least
def tagL (N : Nf) (at' : List Int) : Int := at'.foldl (tagStep N) (-1)
def hitR (N : Nf) (at' : List Int) (r : Int) : Bool := at'.any fun p => (N.ruleAt p == r) && N.endAt p
theorem tag_snoc (N : Nf) (l : List Int) (p : Int) : tagL N (l ++ [p]) = tagStep N (tagL N l) p := by unfold tagL; rw [List.foldl_append]; rfl
theorem tag_least (N : Nf) (hR : ∀ p, 0 ≤ N.ruleAt p ∧ N.ruleAt p < 40) : ∀ l : List Int, (tagL N l = -1 ∧ ∀ r, hitR N l r = false) ∨ (0 ≤ tagL N l ∧ tagL N l < 40 ∧ hitR N l (tagL N l) = true ∧ ∀ r, hitR N l r = true → tagL N l ≤ r) := by
  intro l
  have hsn : ∀ (l : List Int) (p r : Int), hitR N (l ++ [p]) r = (hitR N l r || ((N.ruleAt p == r) && N.endAt p)) := fun l p r => by unfold hitR; rw [List.any_append]; simp
  have hrec : ∀ n, n ≤ l.length → ((tagL N (l.take n) = -1 ∧ ∀ r, hitR N (l.take n) r = false) ∨ (0 ≤ tagL N (l.take n) ∧ tagL N (l.take n) < 40 ∧ hitR N (l.take n) (tagL N (l.take n)) = true ∧ ∀ r, hitR N (l.take n) r = true → tagL N (l.take n) ≤ r)) := by
    intro n
    induction n with
    | zero => intro _; exact .inl ⟨rfl, fun r => rfl⟩
    | succ n ih =>
      intro hn
      have ih := ih (by omega)
      rw [List.take_succ_eq_append_getElem (by omega)]
      generalize l.take n = t at *
      generalize l[n] = p at *
      rw [tag_snoc]
      simp only [hsn]
      have hp := hR p
      unfold tagStep
      cases he : N.endAt p with
      | false => simpa using ih
      | true =>
        rcases ih with ⟨i1, i2⟩ | ⟨i1, i2, i3, i4⟩
        · rw [i1]
          refine .inr ?_
          simp only [i2, Bool.true_and, Bool.false_or, Bool.and_true]
          simp
          exact ⟨hp.1, hp.2⟩
        · refine .inr ?_
          by_cases hl : N.ruleAt p < tagL N t
          · simp only [hl, decide_true, Bool.or_true, Bool.and_true, if_true]
            refine ⟨hp.1, hp.2, by simp, fun r hr => ?_⟩
            rw [Bool.or_eq_true] at hr
            rcases hr with hr | hr
            · have := i4 r hr; omega
            · have : N.ruleAt p = r := by simpa using hr
              omega
          · have h0 : decide (tagL N t < 0) = false := by simp; omega
            simp only [h0, hl, decide_false, Bool.or_false, Bool.and_false, Bool.false_eq_true, if_false]
            refine ⟨i1, i2, by rw [i3]; rfl, fun r hr => ?_⟩
            rw [Bool.or_eq_true] at hr
            rcases hr with hr | hr
            · exact i4 r hr
            · have : N.ruleAt p = r := by simpa using hr
              omega
  have := hrec l.length (Nat.le_refl _)
  rwa [List.take_length] at this
set_option maxRecDepth 20000 in
set_option maxHeartbeats 4000000 in
theorem tag_any (N : Nf) (at' : List Int) (v va : Value) (w : World) (h : NfaAt w N v) (ha : IntsV w at' va) (hin : ∀ p ∈ at', 0 ≤ p ∧ p < N.rules.length) (hle : N.ends.length = N.rules.length) :
    Calls Try.prog 40 #[v, va] w fun e w' => e = .returned (.int .i64 (tagL N at')) ∧ Below w.heap.size w w' := by
  obtain ⟨v0, v1, v2, v3, v4, rfl, hs0, hs1, hs2, hs3, hs4⟩ := h
  have hb0 := (Below.refl w.heap.size w).alloc (Nat.le_refl _) (.cells #[v0, v1, v2, v3, v4, .int .i64 N.empty] 30)
  have hr1 := hs1.step hb0
  have hr4 := hs4.step hb0
  have hra := ha.step hb0
  obtain ⟨A0, c0, rfl, hc0, hx0⟩ := hs0
  obtain ⟨A2, c2, rfl, hc2, hx2⟩ := hs2
  obtain ⟨A3, c3, rfl, hc3, hx3⟩ := hs3
  obtain ⟨A1, c1, rfl, hc1, hg1⟩ := hr1
  obtain ⟨A4, c4, rfl, hc4, hg4⟩ := hr4
  obtain ⟨Aa, ca, rfl, hca, hga⟩ := hra
  have hx := BlkIs.new w 30 #[.slice A0 N.sets.length c0, .slice A1 N.rules.length c1, .slice A2 N.first.length c2, .slice A3 N.follow.length c3, .slice A4 N.ends.length c4, .int .i64 N.empty]
  obtain ⟨W1, hW1⟩ : ∃ W1, w.alloc (.cells #[.slice A0 N.sets.length c0, .slice A1 N.rules.length c1, .slice A2 N.first.length c2, .slice A3 N.follow.length c3, .slice A4 N.ends.length c4, .int .i64 N.empty] 30) = W1 := ⟨_, rfl⟩
  rw [hW1] at hb0 hx hg1 hg4 hga
  obtain ⟨d0, d1, d2, d3, d4, d5⟩ := six hx
  have HB := Lib.hid hb0
  have HGA := Lib.hid hga
  have HIN := Lib.hid (fun (j : Nat) (h : j < at'.length) => hin _ (List.getElem_mem h))
  have HCELL := Lib.hid (fun (pn : Nat) (h : pn < N.rules.length) => (show ∃ b o b' o', A1 = some ⟨b, o, none⟩ ∧ A4 = some ⟨b', o', none⟩ ∧ W1.cell? ⟨b, o + pn, none⟩ = some (.int .i64 (N.ruleAt pn)) ∧ W1.cell? ⟨b', o' + pn, none⟩ = some (.bool (N.endAt pn)) by
    obtain ⟨b, o, e1, _, g1⟩ := hg1 (by intro e; rw [e] at h; simp at h)
    have h' : pn < N.ends.length := by rw [hle]; exact h
    obtain ⟨b', o', e2, _, g2⟩ := hg4 (by intro e; rw [e] at h'; simp at h')
    refine ⟨b, o, b', o', e1, e2, ?_, ?_⟩
    · rw [g1 pn h]; unfold Nf.ruleAt; simp [h]
    · rw [g2 pn h']; unfold Nf.endAt; simp [h']))
  obtain ⟨R, hR⟩ : ∃ R, R = tagL N at' := ⟨_, rfl⟩
  rw [← hR]
  have HR := Lib.hid hR
  have HLE := Lib.hid hle
  clear hs1 hs4 hb0 hx hg1 hg4 hga hx0 hx2 hx3 ha hin hR hle
  go_enter Try.func40, Try.ntmps40
  go_wp2
  go_loopw [5, 11] (fun s i wr => ∃ (j : Nat) (a : Int), s = .int .i64 a ∧ i = .int .i64 j ∧ j ≤ at'.length ∧ Hid (wr = W1 ∧ a = tagL N (at'.take j))) (fun _ i _ => at'.length - (intOf i).toNat)
  case atStart => exact ⟨0, -1, rfl, rfl, Nat.zero_le _, Lib.hid ⟨by trivial, rfl⟩⟩
  case round =>
    obtain ⟨j, a, rfl, rfl, hj, HH⟩ := hrel
    obtain ⟨rfl, hRR⟩ := HH.out
    have HH := Lib.hid hRR
    clear hRR
    by_cases hp : j < at'.length
    · have hk1 : IntKind.i64.wrap ((j : Int) + 1) = ((j + 1 : Nat) : Int) := by rw [IntKind.wrap_i64]; omega
      have hdl : decide ((j : Int) < (at'.length : Int)) = true := by simp; omega
      obtain ⟨b, o, rfl, hlt, hg⟩ := HGA.out (by intro e; subst e; simp at hp)
      have hcell := hg j hp
      have hpin := HIN.out j hp
      have htk : tagL N (at'.take (j + 1)) = tagStep N (tagL N (at'.take j)) at'[j] := by rw [List.take_succ_eq_append_getElem hp, tag_snoc]
      rw [← HH.out] at htk
      clear hg hlt
      generalize at'[j] = p at *
      obtain ⟨pn, rfl⟩ := Int.eq_ofNat_of_zero_le hpin.1
      have hpn : pn < N.rules.length := by omega
      obtain ⟨b1, o1, b4, o4, rfl, rfl, y1, y4⟩ := HCELL.out pn hpn
      have hi1 : (pn : Int) < (N.rules.length : Int) := by omega
      have hi4 : (pn : Int) < (N.ends.length : Int) := by rw [HLE.out]; omega
      unfold tagStep at htk
      generalize N.ruleAt (pn : Int) = r at *
      generalize N.endAt (pn : Int) = en at *
      have HT := Lib.hid htk
      clear htk hpin
      cases en with
      | false =>
        have HN := Lib.hid (show a = tagL N (at'.take (j + 1)) by rw [HT.out]; simp)
        go_wp2
        exact ⟨⟨j + 1, a, rfl, rfl, hp, Lib.hid ⟨by trivial, HN.out⟩⟩, by simp [intOf]; omega⟩
      | true =>
        by_cases h1 : a < 0
        · have q1 : decide (a < 0) = true := by simp; omega
          have HN := Lib.hid (show r = tagL N (at'.take (j + 1)) by rw [HT.out]; simp [h1])
          clear h1
          go_wp2
          exact ⟨⟨j + 1, r, rfl, rfl, hp, Lib.hid ⟨by trivial, HN.out⟩⟩, by simp [intOf]; omega⟩
        · have q1 : decide (a < 0) = false := by simp; omega
          by_cases h2 : r < a
          · have q2 : decide (r < a) = true := by simp; omega
            have HN := Lib.hid (show r = tagL N (at'.take (j + 1)) by rw [HT.out]; simp [h2])
            clear h1 h2
            go_wp2
            exact ⟨⟨j + 1, r, rfl, rfl, hp, Lib.hid ⟨by trivial, HN.out⟩⟩, by simp [intOf]; omega⟩
          · have q2 : decide (r < a) = false := by simp; omega
            have HN := Lib.hid (show a = tagL N (at'.take (j + 1)) by rw [HT.out]; simp [h1, h2])
            clear h1 h2
            go_wp2
            exact ⟨⟨j + 1, a, rfl, rfl, hp, Lib.hid ⟨by trivial, HN.out⟩⟩, by simp [intOf]; omega⟩
    · have hdl : decide ((j : Int) < (at'.length : Int)) = false := by simp; omega
      have HN := Lib.hid (show a = R by rw [HH.out, HR.out, List.take_of_length_le (by omega)])
      go_wp2
      go_ret
      exact ⟨by rw [← HN.out]; rfl, HB.out⟩
end Go.Proofs.Ytgbljnnmhmlifaa

