/-
  ROWS OF NUMBERS IN MEMORY; WHAT nfa's rising AND hackleref08's rising, Rising, Ints ANSWER: contracts. No condition but that the rows lie there.
-/
import Derived.Test.YtojejnjjenmfaaaQG02
import Derived.Test.YtojejnjjenmfaaaQG03
import Derived.Test.YtojejnjjenmfaaaQG01
namespace Go.Proofs.Ytojejnjjenmfaaa
open Go.RowKit

attribute [local irreducible] FreeW

/-- v is the row l of numbers in W -/
def IntsV (W : World) (l : List Int) (v : Value) : Prop := ∃ A c, v = .slice A l.length c ∧ (l.length ≤ c ∧ c ≤ 9223372036854775807) ∧ (l ≠ [] → ∃ b o, A = some ⟨b, o, none⟩ ∧ b < W.heap.size ∧ ∀ (i : Nat) (h : i < l.length), W.cell? ⟨b, o + i, none⟩ = some (.int .i64 l[i]))
theorem IntsV.step {W W' : World} {l : List Int} {v : Value} (h : IntsV W l v) (hb : Below W.heap.size W W') : IntsV W' l v := by
  obtain ⟨A, c, e, hc, hs⟩ := h
  refine ⟨A, c, e, hc, fun hne => ?_⟩
  obtain ⟨b, o, e2, hlt, hg⟩ := hs hne
  exact ⟨b, o, e2, Nat.lt_of_lt_of_le hlt hb.size, fun i hi => (hb.cell (p := ⟨b, o + i, none⟩) hlt).trans (hg i hi)⟩
theorem IntsV.nil (W : World) : IntsV W [] (.slice none 0 0) := ⟨none, 0, rfl, ⟨Nat.le_refl _, by decide⟩, fun h => absurd rfl h⟩
/-- each greater than the one ahead, and less than all -/
def risesB (all : Int) : Int → List Int → Bool
  | _, [] => true
  | a, p :: r => (decide (a < p) && decide (p < all)) && risesB all p r

set_option maxHeartbeats 2000000 in
theorem rising_any (l : List Int) (v : Value) (all : Int) (w : World) (hv : IntsV w l v) : Calls Try.prog 45 #[v, .int .i64 all] w fun e w' => e = .returned (.bool (risesB all (-1) l)) ∧ w' = w := by
  obtain ⟨A, c, rfl, hc, hs⟩ := hv
  have HS := Lib.hid hs
  obtain ⟨R, hR⟩ : ∃ R, R = risesB all (-1) l := ⟨_, rfl⟩
  rw [← hR]
  have HR := Lib.hid hR
  clear hs hR
  go_enter Try.func45, Try.ntmps45
  go_wp2
  go_loopw [5, 10] (fun s i wr => ∃ (j : Nat) (a : Int), s = .int .i64 a ∧ i = .int .i64 j ∧ j ≤ l.length ∧ Hid (wr = w ∧ R = risesB all a (l.drop j))) (fun _ i _ => l.length - (intOf i).toNat)
  case atStart => exact ⟨0, -1, rfl, rfl, Nat.zero_le _, Lib.hid ⟨rfl, HR.out⟩⟩
  case round =>
    obtain ⟨j, a, rfl, rfl, hj, HH⟩ := hrel
    obtain ⟨rfl, hRR⟩ := HH.out
    have HH := Lib.hid hRR
    clear hRR
    by_cases hp : j < l.length
    · have hk1 : IntKind.i64.wrap ((j : Int) + 1) = ((j + 1 : Nat) : Int) := by rw [IntKind.wrap_i64]; omega
      have hdl : decide ((j : Int) < (l.length : Int)) = true := by simp; omega
      obtain ⟨b, o, rfl, hlt, hg⟩ := HS.out (by intro e; subst e; simp at hp)
      have hcell := hg j hp
      have hd := HH.out
      rw [List.drop_eq_getElem_cons hp] at hd
      unfold risesB at hd
      clear hg
      generalize l[j] = p at *
      have HD := Lib.hid hd
      clear hd
      by_cases h1 : a < p
      · have e1 : decide (p ≤ a) = false := by simp; omega
        by_cases h2 : p < all
        · have e2 : decide (p ≥ all) = false := by simp; omega
          have e2b : decide (all ≤ p) = false := by simp; omega
          have HN := Lib.hid (show R = risesB all p (l.drop (j + 1)) by rw [HD.out]; simp [h1, h2])
          clear h1 h2
          go_wp2
          exact ⟨⟨j + 1, p, rfl, rfl, hp, Lib.hid ⟨by trivial, HN.out⟩⟩, by simp [intOf]; omega⟩
        · have e2 : decide (p ≥ all) = true := by simp; omega
          have e2b : decide (all ≤ p) = true := by simp; omega
          have HN := Lib.hid (show R = false by rw [HD.out]; simp [h2])
          clear h1 h2
          go_wp2
          go_ret
          exact ⟨by rw [HN.out]; rfl, rfl⟩
      · have e1 : decide (p ≤ a) = true := by simp; omega
        have HN := Lib.hid (show R = false by rw [HD.out]; simp [h1])
        clear h1
        go_wp2
        go_ret
        exact ⟨by rw [HN.out]; rfl, rfl⟩
    · have hdl : decide ((j : Int) < (l.length : Int)) = false := by simp; omega
      have HN := Lib.hid (show R = true by rw [HH.out, List.drop_eq_nil_of_le (by omega)]; rfl)
      go_wp2
      go_ret
      exact ⟨by rw [HN.out]; rfl, rfl⟩

/-- six cells -/
theorem six {w : World} {g : Nat} {t : TypeId} {a b c d e f : Value} (h : BlkIs w g t #[a, b, c, d, e, f]) : w.cell? ⟨g, 0, none⟩ = some a ∧ w.cell? ⟨g, 1, none⟩ = some b ∧ w.cell? ⟨g, 2, none⟩ = some c ∧ w.cell? ⟨g, 3, none⟩ = some d ∧ w.cell? ⟨g, 4, none⟩ = some e ∧ w.cell? ⟨g, 5, none⟩ = some f := by
  refine ⟨?_, ?_, ?_, ?_, ?_, ?_⟩
  · simpa using h.cell 0
  · simpa using h.cell 1
  · simpa using h.cell 2
  · simpa using h.cell 3
  · simpa using h.cell 4
  · simpa using h.cell 5
set_option maxRecDepth 20000 in
set_option maxHeartbeats 4000000 in
theorem refRising_any (l : List Int) (v : Value) (A0 A1 A2 A3 A4 : Option Addr) (n0 n1 n2 n3 n4 c0 c1 c2 c3 c4 : Nat) (em : Int) (w : World) (hv : IntsV w l v) :
    Calls Try.prog 53 #[.agg #[.slice A0 n0 c0, .slice A1 n1 c1, .slice A2 n2 c2, .slice A3 n3 c3, .slice A4 n4 c4, .int .i64 em], v] w fun e w' => e = .returned (.bool (risesB n0 (-1) l)) ∧ Below w.heap.size w w' := by
  obtain ⟨A, c, rfl, hc, hs⟩ := hv
  have HS := Lib.hid hs
  have hb0 : Below w.heap.size w (w.alloc (.cells #[.slice A0 n0 c0, .slice A1 n1 c1, .slice A2 n2 c2, .slice A3 n3 c3, .slice A4 n4 c4, .int .i64 em] 42)) := (Below.refl _ _).alloc (Nat.le_refl _) _
  have H0 := Lib.hid (And.intro hb0 (BlkIs.new w 42 #[.slice A0 n0 c0, .slice A1 n1 c1, .slice A2 n2 c2, .slice A3 n3 c3, .slice A4 n4 c4, .int .i64 em]))
  obtain ⟨R, hR⟩ : ∃ R, R = risesB n0 (-1) l := ⟨_, rfl⟩
  rw [← hR]
  have HR := Lib.hid hR
  clear hs hR hb0
  go_enter Try.func53, Try.ntmps53
  go_wp2
  go_loopw [5, 6] (fun s i wr => ∃ (j : Nat) (a : Int), s = .int .i64 a ∧ i = .int .i64 j ∧ j ≤ l.length ∧ Hid ((Below w.heap.size w wr ∧ BlkIs wr w.heap.size 42 #[.slice A0 n0 c0, .slice A1 n1 c1, .slice A2 n2 c2, .slice A3 n3 c3, .slice A4 n4 c4, .int .i64 em]) ∧ R = risesB n0 a (l.drop j))) (fun _ i _ => l.length - (intOf i).toNat)
  case atStart => exact ⟨0, -1, rfl, rfl, Nat.zero_le _, Lib.hid ⟨H0.out, HR.out⟩⟩
  case round =>
    obtain ⟨j, a, rfl, rfl, hj, HH⟩ := hrel
    by_cases hp : j < l.length
    · have hk1 : IntKind.i64.wrap ((j : Int) + 1) = ((j + 1 : Nat) : Int) := by rw [IntKind.wrap_i64]; omega
      have hdl : decide ((j : Int) < (l.length : Int)) = true := by simp; omega
      have hjI : (j : Int) < (l.length : Int) := by omega
      obtain ⟨b, o, rfl, hlt, hg⟩ := HS.out (by intro e; subst e; simp at hp)
      have hcell := hg j hp
      have HB := Lib.hid (fun u (h : Below w.heap.size w u) => (h.cell (p := ⟨b, o + j, none⟩) hlt).trans hcell)
      have hd := HH.out.2
      rw [List.drop_eq_getElem_cons hp] at hd
      unfold risesB at hd
      clear hg hcell
      generalize l[j] = p at *
      have HD := Lib.hid hd
      clear hd
      by_cases h1 : a < p
      · have e1 : decide (p ≤ a) = false := by simp; omega
        by_cases h2 : p < (n0 : Int)
        · have e2 : decide (p ≥ (n0 : Int)) = false := by simp; omega
          have e2b : decide ((n0 : Int) ≤ p) = false := by simp; omega
          have HN := Lib.hid (show R = risesB n0 p (l.drop (j + 1)) by rw [HD.out]; simp [h1, h2])
          clear h1 h2
          go_wp2_with fail
          refine wp_region_reads 33 (fun u => Hid (Below w.heap.size w u ∧ BlkIs u w.heap.size 42 #[.slice A0 n0 c0, .slice A1 n1 c1, .slice A2 n2 c2, .slice A3 n3 c3, .slice A4 n4 c4, .int .i64 em])) (by kernel_rfl) (by kernel_rfl) rfl (Lib.hid ⟨HH.out.1.1.drew, HH.out.1.2.drew⟩) (fun u u' h hb => Lib.hid ⟨h.out.1.trans (hb.mono h.out.1.size), h.out.2.step hb⟩) ?_
          repeat
            refine freeW_step fun K hK => ?_
            (first
              | (refine freeW_yes 6 19 false rfl rfl ?_ ?_; (focus (go_simp; done)))
              | skip)
            go_simp
            apply Exists.intro
            refine ⟨fun u h1 => ?_, hK _ ?_⟩
            · have y0 := (HB.out u h1.out.1)
              obtain ⟨k0, k1, k2, k3, k4, k5⟩ := six h1.out.2
              unfold freeAt
              go_simp
              first
                | exact free_val
                | (apply free_call
                   first
                     | fail
                   )
            clear hK K
          refine freeW_nil ?_
          intro u hC hb2
          have HC := Lib.hid hC.out
          have y0 := HB.out u hC.out.1
          clear hC hb2
          go_wp2
          exact ⟨⟨j + 1, p, rfl, rfl, hp, Lib.hid ⟨HC.out, HN.out⟩⟩, by simp [intOf]; omega⟩
        · have e2 : decide (p ≥ (n0 : Int)) = true := by simp; omega
          have e2b : decide ((n0 : Int) ≤ p) = true := by simp; omega
          have HN := Lib.hid (show R = false by rw [HD.out]; simp [h2])
          clear h1 h2
          go_wp2_with fail
          refine wp_region_reads 33 (fun u => Hid (Below w.heap.size w u ∧ BlkIs u w.heap.size 42 #[.slice A0 n0 c0, .slice A1 n1 c1, .slice A2 n2 c2, .slice A3 n3 c3, .slice A4 n4 c4, .int .i64 em])) (by kernel_rfl) (by kernel_rfl) rfl (Lib.hid ⟨HH.out.1.1.drew, HH.out.1.2.drew⟩) (fun u u' h hb => Lib.hid ⟨h.out.1.trans (hb.mono h.out.1.size), h.out.2.step hb⟩) ?_
          repeat
            refine freeW_step fun K hK => ?_
            (first
              | (refine freeW_yes 6 19 false rfl rfl ?_ ?_; (focus (go_simp; done)))
              | skip)
            go_simp
            apply Exists.intro
            refine ⟨fun u h1 => ?_, hK _ ?_⟩
            · have y0 := (HB.out u h1.out.1)
              obtain ⟨k0, k1, k2, k3, k4, k5⟩ := six h1.out.2
              unfold freeAt
              go_simp
              first
                | exact free_val
                | (apply free_call
                   first
                     | fail
                   )
            clear hK K
          refine freeW_nil ?_
          intro u hC hb2
          have HC := Lib.hid hC.out
          have y0 := HB.out u hC.out.1
          clear hC hb2
          go_wp2
          go_ret
          exact ⟨by rw [HN.out]; rfl, HC.out.1⟩
      · have e1 : decide (p ≤ a) = true := by simp; omega
        have HN := Lib.hid (show R = false by rw [HD.out]; simp [h1])
        clear h1
        go_wp2_with fail
        refine wp_region_reads 33 (fun u => Hid (Below w.heap.size w u ∧ BlkIs u w.heap.size 42 #[.slice A0 n0 c0, .slice A1 n1 c1, .slice A2 n2 c2, .slice A3 n3 c3, .slice A4 n4 c4, .int .i64 em])) (by kernel_rfl) (by kernel_rfl) rfl (Lib.hid ⟨HH.out.1.1.drew, HH.out.1.2.drew⟩) (fun u u' h hb => Lib.hid ⟨h.out.1.trans (hb.mono h.out.1.size), h.out.2.step hb⟩) ?_
        repeat
          refine freeW_step fun K hK => ?_
          first
            | ((first
                  | (refine freeW_no 6 19 false rfl rfl ?_ ?_; (focus (go_simp; done))))
               have HK := Go.Lib.hid hK
               clear hK
               go_simp
               have hK := HK.out
               clear HK
               refine hK _ ?_
               clear hK K)
            | (skip
               (first
                 | skip)
               go_simp
               apply Exists.intro
               refine ⟨fun u h1 => ?_, hK _ ?_⟩
               · have y0 := (HB.out u h1.out.1)
                 obtain ⟨k0, k1, k2, k3, k4, k5⟩ := six h1.out.2
                 unfold freeAt
                 go_simp
                 first
                   | exact free_val
                   | (apply free_call
                      first
                        | fail
                      )
               clear hK K)
        refine freeW_nil ?_
        intro u hC hb2
        have HC := Lib.hid hC.out
        have y0 := HB.out u hC.out.1
        clear hC hb2
        go_wp2
        go_ret
        exact ⟨by rw [HN.out]; rfl, HC.out.1⟩
    · have hdl : decide ((j : Int) < (l.length : Int)) = false := by simp; omega
      have HN := Lib.hid (show R = true by rw [HH.out.2, List.drop_eq_nil_of_le (by omega)]; rfl)
      go_wp2
      go_ret
      exact ⟨by rw [HN.out]; rfl, HH.out.1.1⟩
/-- two rows alike -/
def sameI : List Int → List Int → Bool
  | [], [] => true
  | a :: r, b :: s => a == b && sameI r s
  | _, _ => false
theorem sameI_eq : ∀ l r : List Int, sameI l r = decide (l = r)
  | [], [] => by simp [sameI]
  | a :: r, b :: s => by simp [sameI, sameI_eq r s]; by_cases h : a = b <;> simp [h]
  | [], _ :: _ => by simp [sameI]
  | _ :: _, [] => by simp [sameI]
end Go.Proofs.Ytojejnjjenmfaaa

/-
  AN AUTOMATON WITH CHOICES IN MEMORY; WHAT nfa.May ANSWERS: a contract. No condition but that it lies there.
-/
namespace Go.Proofs.Ytojejnjjenmfaaa
open Go.RowKit

/-- an automaton with choices -/
structure Nf where
  sets : List (Nat → Bool)
  rules : List Int
  first : List Int
  follow : List (List Int)
  ends : List Bool
  empty : Int
def SetsV (W : World) (ms : List (Nat → Bool)) (v : Value) : Prop := ∃ A c, v = .slice A ms.length c ∧ (ms.length ≤ c ∧ c ≤ 9223372036854775807) ∧ (ms ≠ [] → ∃ b o, A = some ⟨b, o, none⟩ ∧ b < W.heap.size ∧ ∀ (i : Nat) (h : i < ms.length) (k : Nat), k < 4 → W.cell? ⟨b, o + i * 4 + k, none⟩ = some (.int .u64 (wd ms[i] k : Nat)))
def BoolsV (W : World) (l : List Bool) (v : Value) : Prop := ∃ A c, v = .slice A l.length c ∧ (l.length ≤ c ∧ c ≤ 9223372036854775807) ∧ (l ≠ [] → ∃ b o, A = some ⟨b, o, none⟩ ∧ b < W.heap.size ∧ ∀ (i : Nat) (h : i < l.length), W.cell? ⟨b, o + i, none⟩ = some (.bool l[i]))
def RowsI (W : World) (ll : List (List Int)) (v : Value) : Prop := ∃ A c, v = .slice A ll.length c ∧ (ll.length ≤ c ∧ c ≤ 9223372036854775807) ∧ (ll ≠ [] → ∃ b o, A = some ⟨b, o, none⟩ ∧ b < W.heap.size ∧ ∀ (i : Nat) (h : i < ll.length), ∃ u, W.cell? ⟨b, o + i, none⟩ = some u ∧ IntsV W ll[i] u)
def NfaAt (W : World) (N : Nf) (v : Value) : Prop := ∃ v0 v1 v2 v3 v4, v = .agg #[v0, v1, v2, v3, v4, .int .i64 N.empty] ∧ SetsV W N.sets v0 ∧ IntsV W N.rules v1 ∧ IntsV W N.first v2 ∧ RowsI W N.follow v3 ∧ BoolsV W N.ends v4
theorem SetsV.step {W W' : World} {l : List (Nat → Bool)} {v : Value} (h : SetsV W l v) (hb : Below W.heap.size W W') : SetsV W' l v := by
  obtain ⟨A, c, e, hc, hs⟩ := h
  refine ⟨A, c, e, hc, fun hne => ?_⟩
  obtain ⟨b, o, e2, hlt, hg⟩ := hs hne
  exact ⟨b, o, e2, Nat.lt_of_lt_of_le hlt hb.size, fun i hi k hk => (hb.cell (p := ⟨b, o + i * 4 + k, none⟩) hlt).trans (hg i hi k hk)⟩
theorem BoolsV.step {W W' : World} {l : List Bool} {v : Value} (h : BoolsV W l v) (hb : Below W.heap.size W W') : BoolsV W' l v := by
  obtain ⟨A, c, e, hc, hs⟩ := h
  refine ⟨A, c, e, hc, fun hne => ?_⟩
  obtain ⟨b, o, e2, hlt, hg⟩ := hs hne
  exact ⟨b, o, e2, Nat.lt_of_lt_of_le hlt hb.size, fun i hi => (hb.cell (p := ⟨b, o + i, none⟩) hlt).trans (hg i hi)⟩
theorem RowsI.step {W W' : World} {l : List (List Int)} {v : Value} (h : RowsI W l v) (hb : Below W.heap.size W W') : RowsI W' l v := by
  obtain ⟨A, c, e, hc, hs⟩ := h
  refine ⟨A, c, e, hc, fun hne => ?_⟩
  obtain ⟨b, o, e2, hlt, hg⟩ := hs hne
  refine ⟨b, o, e2, Nat.lt_of_lt_of_le hlt hb.size, fun i hi => ?_⟩
  obtain ⟨u, h1, h2⟩ := hg i hi
  exact ⟨u, (hb.cell (p := ⟨b, o + i, none⟩) hlt).trans h1, h2.step hb⟩
theorem NfaAt.step {W W' : World} {N : Nf} {v : Value} (h : NfaAt W N v) (hb : Below W.heap.size W W') : NfaAt W' N v := by
  obtain ⟨v0, v1, v2, v3, v4, e, h0, h1, h2, h3, h4⟩ := h
  exact ⟨v0, v1, v2, v3, v4, e, h0.step hb, h1.step hb, h2.step hb, h3.step hb, h4.step hb⟩
def okR (r : Int) : Bool := decide (0 ≤ r) && decide (r < 40)
def Nf.sized (N : Nf) : Bool := (decide (N.sets.length ≤ 2000) && (N.rules.length == N.sets.length)) && ((N.follow.length == N.sets.length) && (N.ends.length == N.sets.length))
def Nf.rest (N : Nf) : Bool := risesB N.sets.length (-1) N.first && (decide (-1 ≤ N.empty) && decide (N.empty < 40))
def Nf.follows (N : Nf) : Bool := N.follow.all (risesB N.sets.length (-1))
def Nf.may (N : Nf) : Bool := N.sized && (N.rules.all okR && (N.follow.all (risesB N.sets.length (-1)) && N.rest))

set_option maxRecDepth 20000 in
set_option maxHeartbeats 8000000 in
theorem mayN_any (N : Nf) (v : Value) (w : World) (h : NfaAt w N v) : Calls Try.prog 16 #[v] w fun e w' => e = .returned (.bool N.may) ∧ Below w.heap.size w w' := by
  obtain ⟨v0, v1, v2, v3, v4, rfl, hs0, hs1, hs2, hs3, hs4⟩ := h
  have hb0 := (Below.refl w.heap.size w).alloc (Nat.le_refl _) (.cells #[v0, v1, v2, v3, v4, .int .i64 N.empty] 30)
  have hr1 := hs1.step hb0
  have hr2 := hs2.step hb0
  have hr3 := hs3.step hb0
  obtain ⟨A0, c0, rfl, hc0, hx0⟩ := hs0
  obtain ⟨A4, c4, rfl, hc4, hx4⟩ := hs4
  have HR2 := Lib.hid (rising_any N.first v2 N.sets.length _ hr2)
  obtain ⟨A1, c1, rfl, hc1, hg1⟩ := hr1
  obtain ⟨A2, c2, rfl, hc2, hg2⟩ := hr2
  obtain ⟨A3, c3, rfl, hc3, hg3⟩ := hr3
  have hx := BlkIs.new w 30 #[.slice A0 N.sets.length c0, .slice A1 N.rules.length c1, .slice A2 N.first.length c2, .slice A3 N.follow.length c3, .slice A4 N.ends.length c4, .int .i64 N.empty]
  obtain ⟨R, hR⟩ : ∃ R, R = N.may := ⟨_, rfl⟩
  rw [← hR]
  unfold Nf.may Nf.sized Nf.rest at hR
  obtain ⟨W1, hW1⟩ : ∃ W1, w.alloc (.cells #[.slice A0 N.sets.length c0, .slice A1 N.rules.length c1, .slice A2 N.first.length c2, .slice A3 N.follow.length c3, .slice A4 N.ends.length c4, .int .i64 N.empty] 30) = W1 := ⟨_, rfl⟩
  rw [hW1] at hb0 hx HR2 hg1 hg3
  obtain ⟨d0, d1, d2, d3, d4, d5⟩ := six hx
  have HB := Lib.hid hb0
  have HG1 := Lib.hid hg1
  have HG3 := Lib.hid hg3
  clear hs1 hs2 hs3 hb0 hx hg1 hg2 hg3 hx0 hx4
  generalize N.empty = em at *
  generalize N.first = fi at *
  generalize N.rules = ru at *
  generalize N.follow = fo at *
  generalize N.ends.length = n4 at *
  generalize N.sets.length = n0 at *
  by_cases hk : n0 ≤ 2000
  case neg =>
    have e0 : decide ((n0 : Int) > 2000) = true := by simp; omega
    have e0b : decide ((2000 : Int) < (n0 : Int)) = true := by simp; omega
    have HN := Lib.hid (show R = false by rw [hR]; simp [hk])
    clear hR hk
    go_enter Try.func16, Try.ntmps16
    go_wp2
    go_ret
    exact ⟨by rw [HN.out]; rfl, HB.out⟩
  have e0 : decide ((n0 : Int) > 2000) = false := by simp; omega
  have e0b : decide ((2000 : Int) < (n0 : Int)) = false := by simp; omega
  by_cases h1 : ru.length = n0
  case neg =>
    have e1 : ((ru.length : Int) != (n0 : Int)) = true := by simp; omega
    have HN := Lib.hid (show R = false by rw [hR]; simp [h1])
    clear hR hk h1
    go_enter Try.func16, Try.ntmps16
    go_wp2
    go_ret
    exact ⟨by rw [HN.out]; rfl, HB.out⟩
  have e1 : ((ru.length : Int) != (n0 : Int)) = false := by simp; omega
  by_cases h3 : fo.length = n0
  case neg =>
    have e3 : ((fo.length : Int) != (n0 : Int)) = true := by simp; omega
    have HN := Lib.hid (show R = false by rw [hR]; simp [h3])
    clear hR hk h1 h3
    go_enter Try.func16, Try.ntmps16
    go_wp2
    go_ret
    exact ⟨by rw [HN.out]; rfl, HB.out⟩
  have e3 : ((fo.length : Int) != (n0 : Int)) = false := by simp; omega
  by_cases h4 : n4 = n0
  case neg =>
    have e4 : ((n4 : Int) != (n0 : Int)) = true := by simp; omega
    have HN := Lib.hid (show R = false by rw [hR]; simp [h4])
    clear hR hk h1 h3 h4
    go_enter Try.func16, Try.ntmps16
    go_wp2
    go_ret
    exact ⟨by rw [HN.out]; rfl, HB.out⟩
  have e4 : ((n4 : Int) != (n0 : Int)) = false := by simp; omega
  have HN := Lib.hid (show R = (ru.all okR && (fo.all (risesB n0 (-1)) && (risesB n0 (-1) fi && (decide (-1 ≤ em) && decide (em < 40))))) by rw [hR]; simp [h1, h3, h4, hk])
  clear hR hk h1 h3 h4
  go_enter Try.func16, Try.ntmps16
  go_wp2
  go_loopw [37] (fun i wr => ∃ j : Nat, i = .int .i64 j ∧ j ≤ ru.length ∧ Hid (wr = W1 ∧ R = ((ru.drop j).all okR && (fo.all (risesB n0 (-1)) && (risesB n0 (-1) fi && (decide (-1 ≤ em) && decide (em < 40))))))) (fun i _ => ru.length - (intOf i).toNat)
  case atStart => exact ⟨0, rfl, Nat.zero_le _, Lib.hid ⟨by trivial, HN.out⟩⟩
  case round =>
    obtain ⟨j, rfl, hj, HH⟩ := hrel
    obtain ⟨rfl, hRR⟩ := HH.out
    have HH := Lib.hid hRR
    clear hRR
    by_cases hp : j < ru.length
    · have hk1 : IntKind.i64.wrap ((j : Int) + 1) = ((j + 1 : Nat) : Int) := by rw [IntKind.wrap_i64]; omega
      have hdl : decide ((j : Int) < (ru.length : Int)) = true := by simp; omega
      obtain ⟨b, o, rfl, hlt, hg⟩ := HG1.out (by intro e; subst e; simp at hp)
      have hcell := hg j hp
      have hd := HH.out
      rw [List.drop_eq_getElem_cons hp, List.all_cons] at hd
      unfold okR at hd
      clear hg
      generalize ru[j] = p at *
      have HD := Lib.hid hd
      clear hd
      by_cases g1 : p < 0
      · have q1 : decide (p < 0) = true := by simp; omega
        have HF := Lib.hid (show R = false by rw [HD.out]; simp; intro; omega)
        clear g1
        go_wp2
        go_ret
        exact ⟨by rw [HF.out]; rfl, HB.out⟩
      · have q1 : decide (p < 0) = false := by simp; omega
        by_cases g2 : 40 ≤ p
        · have q2 : decide (p ≥ 40) = true := by simp; omega
          have q2b : decide (40 ≤ p) = true := by simp; omega
          have HF := Lib.hid (show R = false by rw [HD.out]; simp; intro; omega)
          clear g1 g2
          go_wp2
          go_ret
          exact ⟨by rw [HF.out]; rfl, HB.out⟩
        · have q2 : decide (p ≥ 40) = false := by simp; omega
          have q2b : decide (40 ≤ p) = false := by simp; omega
          have HF := Lib.hid (show R = ((ru.drop (j + 1)).all okR && (fo.all (risesB n0 (-1)) && (risesB n0 (-1) fi && (decide (-1 ≤ em) && decide (em < 40))))) by rw [HD.out, show decide (0 ≤ p) = true by simp; omega, show decide (p < 40) = true by simp; omega]; rfl)
          clear g1 g2
          go_wp2
          exact ⟨⟨j + 1, rfl, hp, Lib.hid ⟨by trivial, HF.out⟩⟩, by simp [intOf]; omega⟩
    · have hdl : decide ((j : Int) < (ru.length : Int)) = false := by simp; omega
      have HN2 := Lib.hid (show R = (fo.all (risesB n0 (-1)) && (risesB n0 (-1) fi && (decide (-1 ≤ em) && decide (em < 40)))) by rw [HH.out, List.drop_eq_nil_of_le (by omega)]; rfl)
      go_wp2
      go_loopw [51] (fun i wz => ∃ q : Nat, i = .int .i64 q ∧ q ≤ fo.length ∧ Hid (Below wr.heap.size wr wz ∧ wz = wr ∧ R = ((fo.drop q).all (risesB n0 (-1)) && (risesB n0 (-1) fi && (decide (-1 ≤ em) && decide (em < 40)))))) (fun i _ => fo.length - (intOf i).toNat)
      case atStart => exact ⟨0, rfl, Nat.zero_le _, Lib.hid ⟨Below.refl _ _, rfl, HN2.out⟩⟩
      case round =>
        obtain ⟨q, rfl, hq, HK⟩ := hrel
        obtain ⟨_, rfl, hRR⟩ := HK.out
        have HK := Lib.hid hRR
        clear hRR
        by_cases hpq : q < fo.length
        · have hk1 : IntKind.i64.wrap ((q : Int) + 1) = ((q + 1 : Nat) : Int) := by rw [IntKind.wrap_i64]; omega
          have hdq : decide ((q : Int) < (fo.length : Int)) = true := by simp; omega
          obtain ⟨b, o, rfl, hlt, hg⟩ := HG3.out (by intro e; subst e; simp at hpq)
          obtain ⟨u, hcell, hrow⟩ := hg q hpq
          have hcall := rising_any _ u n0 _ hrow
          obtain ⟨Ar, cr, rfl, _, _⟩ := hrow
          have hd := HK.out
          rw [List.drop_eq_getElem_cons hpq, List.all_cons] at hd
          clear hg
          generalize fo[q] = row at *
          generalize risesB n0 (-1) row = rb at *
          have HC := Lib.hid hcall
          have HD := Lib.hid hd
          clear hcall hd
          cases rb with
          | true =>
            go_wp2_with fail
            go_at_call 45
            refine HC.out.mono ?_
            rintro e u2 ⟨rfl, rfl⟩
            go_wp2
            exact ⟨⟨q + 1, rfl, hpq, Lib.hid ⟨Below.refl _ _, by trivial, by rw [HD.out]; rfl⟩⟩, by simp [intOf]; omega⟩
          | false =>
            go_wp2_with fail
            go_at_call 45
            refine HC.out.mono ?_
            rintro e u2 ⟨rfl, rfl⟩
            go_wp2
            go_ret
            exact ⟨by rw [HD.out]; rfl, HB.out⟩
        · have hdq : decide ((q : Int) < (fo.length : Int)) = false := by simp; omega
          have HN3 := Lib.hid (show R = (risesB n0 (-1) fi && (decide (-1 ≤ em) && decide (em < 40))) by rw [HK.out, List.drop_eq_nil_of_le (by omega)]; rfl)
          generalize risesB n0 (-1) fi = rb at *
          generalize hm1 : decide (-1 ≤ em) = g1 at *
          generalize hm2 : decide (em < 40) = g2 at *
          have hm1b : decide (em ≥ -1) = g1 := hm1
          cases rb <;> cases g1 <;> cases g2 <;>
          (go_wp2_with fail
           go_at_call 45
           refine HR2.out.mono ?_
           rintro e u2 ⟨rfl, rfl⟩
           go_wp2
           go_ret
           exact ⟨by rw [HN3.out]; rfl, HB.out⟩)
end Go.Proofs.Ytojejnjjenmfaaa

