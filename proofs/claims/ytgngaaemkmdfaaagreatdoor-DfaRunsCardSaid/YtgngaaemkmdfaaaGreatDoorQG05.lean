/-
 AN AUTOMATON WITH CHOICES IN MEMORY; WHAT nfa.May ANSWERS: a contract. No condition but that it lies there.
-/
import Derived.Laws.IdiomArrays
import Derived.Test.YtgngaaemkmdfaaaGreatDoorQG04
import Derived.Test.YtgngaaemkmdfaaaGreatDoorQG02
namespace Go.Proofs.YtgngaaemkmdfaaaGreatDoor
section
open Go.RowKit

structure Nf where
 sets : List (Nat → Bool)
 rules : List Int
 first : List Int
 follow : List (List Int)
 ends : List Bool
 empty : Int
def SetsV (W : World) (ms : List (Nat → Bool)) (v : Value) : Prop := ∃ A c, v = .slice A ms.length c ∧ (ms.length ≤ c ∧ c ≤ 9223372036854775807) ∧ (ms ≠ [] → ∃ b o, A = some ⟨b, o, none⟩ ∧ b < W.heap.size ∧ ∀ (i : Nat) (h : i < ms.length) (k : Nat), k < 4 → W.cell? ⟨b, o + i * 4 + k, none⟩ = some (.int .u64 (wd ms[i] k : Nat)))
def BoolsV (W : World) (l : List Bool) (v : Value) : Prop := ∃ A c, v = .slice A l.length c ∧ (l.length ≤ c ∧ c ≤ 9223372036854775807) ∧ (l ≠ [] → ∃ b o, A = some ⟨b, o, none⟩ ∧ b < W.heap.size ∧ ∀ (i : Nat) (h : i < l.length), W.cell? ⟨b, o + i, none⟩ = some (.bool l[i]))
def RowsI (W : World) (ll : List (List Int)) (v : Value) : Prop := ∃ A c, v = .slice A ll.length c ∧ (ll.length ≤ c ∧ c ≤ 9223372036854775807) ∧ (ll ≠ [] → ∃ b o, A = some ⟨b, o, none⟩ ∧ b < W.heap.size ∧ ∀ (i : Nat) (h : i < ll.length), ∃ u, W.cell? ⟨b, o + i, none⟩ = some u ∧ IntsV W ll[i] u)
def NfaAt (W : World) (N : Nf) (v : Value) : Prop := ∃ v0 v1 v2 v3 v4, v = .agg #[v0, v1, v2, v3, v4, .int .i64 N.empty] ∧ SetsV W N.sets v0 ∧ IntsV W N.rules v1 ∧ IntsV W N.first v2 ∧ RowsI W N.follow v3 ∧ BoolsV W N.ends v4
theorem SetsV.step {W W' : World} {l : List (Nat → Bool)} {v : Value} (h : SetsV W l v) (hb : Below W.heap.size W W') : SetsV W' l v := by
 obtain ⟨A, c, e, hc, hs⟩ := h; refine ⟨A, c, e, hc, fun hne => ?_⟩; obtain ⟨b, o, e2, hlt, hg⟩ := hs hne; exact ⟨b, o, e2, Nat.lt_of_lt_of_le hlt hb.size, fun i hi k hk => (hb.cell (p := ⟨b, o + i * 4 + k, none⟩) hlt).trans (hg i hi k hk)⟩
theorem BoolsV.step {W W' : World} {l : List Bool} {v : Value} (h : BoolsV W l v) (hb : Below W.heap.size W W') : BoolsV W' l v := by
 obtain ⟨A, c, e, hc, hs⟩ := h; refine ⟨A, c, e, hc, fun hne => ?_⟩; obtain ⟨b, o, e2, hlt, hg⟩ := hs hne; exact ⟨b, o, e2, Nat.lt_of_lt_of_le hlt hb.size, fun i hi => (hb.cell (p := ⟨b, o + i, none⟩) hlt).trans (hg i hi)⟩
theorem RowsI.step {W W' : World} {l : List (List Int)} {v : Value} (h : RowsI W l v) (hb : Below W.heap.size W W') : RowsI W' l v := by
 obtain ⟨A, c, e, hc, hs⟩ := h; refine ⟨A, c, e, hc, fun hne => ?_⟩; obtain ⟨b, o, e2, hlt, hg⟩ := hs hne; refine ⟨b, o, e2, Nat.lt_of_lt_of_le hlt hb.size, fun i hi => ?_⟩; obtain ⟨u, h1, h2⟩ := hg i hi; exact ⟨u, (hb.cell (p := ⟨b, o + i, none⟩) hlt).trans h1, h2.step hb⟩
theorem NfaAt.step {W W' : World} {N : Nf} {v : Value} (h : NfaAt W N v) (hb : Below W.heap.size W W') : NfaAt W' N v := by
 obtain ⟨v0, v1, v2, v3, v4, e, h0, h1, h2, h3, h4⟩ := h; exact ⟨v0, v1, v2, v3, v4, e, h0.step hb, h1.step hb, h2.step hb, h3.step hb, h4.step hb⟩
def okR (r : Int) : Bool := decide (0 ≤ r) && decide (r < 40)
def Nf.sized (N : Nf) : Bool := (decide (N.sets.length ≤ 2000) && (N.rules.length == N.sets.length)) && ((N.follow.length == N.sets.length) && (N.ends.length == N.sets.length))
def Nf.rest (N : Nf) : Bool := risesB N.sets.length (-1) N.first && (decide (-1 ≤ N.empty) && decide (N.empty < 40))
def Nf.follows (N : Nf) : Bool := N.follow.all (risesB N.sets.length (-1))
def Nf.may (N : Nf) : Bool := N.sized && (N.rules.all okR && (N.follow.all (risesB N.sets.length (-1)) && N.rest))

set_option maxRecDepth 20000 in
set_option maxHeartbeats 8000000 in
theorem xzyw (N : Nf) (v : Value) (w : World) (h : NfaAt w N v) : Calls Tryz.prog 36 #[v] w fun e w' => e = .returned (.bool N.may) ∧ Below w.heap.size w w' := by
 obtain ⟨v0, v1, v2, v3, v4, rfl, hs0, hs1, hs2, hs3, hs4⟩ := h; have hb0 := (Below.refl w.heap.size w).alloc (Nat.le_refl _) (.cells #[v0, v1, v2, v3, v4, .int .i64 N.empty] 49); have hr1 := hs1.step hb0; have hr2 := hs2.step hb0; have hr3 := hs3.step hb0; obtain ⟨A0, c0, rfl, hc0, hx0⟩ := hs0; obtain ⟨A4, c4, rfl, hc4, hx4⟩ := hs4; have HR2 := Lib.hid (xzjr N.first v2 N.sets.length _ hr2); obtain ⟨A1, c1, rfl, hc1, hg1⟩ := hr1; obtain ⟨A2, c2, rfl, hc2, hg2⟩ := hr2; obtain ⟨A3, c3, rfl, hc3, hg3⟩ := hr3; have hx := BlkIs.new w 49 #[.slice A0 N.sets.length c0, .slice A1 N.rules.length c1, .slice A2 N.first.length c2, .slice A3 N.follow.length c3, .slice A4 N.ends.length c4, .int .i64 N.empty]; obtain ⟨R, hR⟩ : ∃ R, R = N.may := ⟨_, rfl⟩; rw [← hR]; unfold Nf.may Nf.sized Nf.rest at hR; obtain ⟨W1, hW1⟩ : ∃ W1, w.alloc (.cells #[.slice A0 N.sets.length c0, .slice A1 N.rules.length c1, .slice A2 N.first.length c2, .slice A3 N.follow.length c3, .slice A4 N.ends.length c4, .int .i64 N.empty] 49) = W1 := ⟨_, rfl⟩; rw [hW1] at hb0 hx HR2 hg1 hg3; obtain ⟨d0, d1, d2, d3, d4, d5⟩ := six hx; have HB := Lib.hid hb0; have HG1 := Lib.hid hg1; have HG3 := Lib.hid hg3; clear hs1 hs2 hs3 hb0 hx hg1 hg2 hg3 hx0 hx4; generalize N.empty = em at *; generalize N.first = fi at *; generalize N.rules = ru at *; generalize N.follow = fo at *; generalize N.ends.length = n4 at *; generalize N.sets.length = n0 at *
 by_cases hk : n0 ≤ 2000
 case neg =>
   have e0 : decide ((n0 : Int) > 2000) = true := by simp; omega
   have e0b : decide ((2000 : Int) < (n0 : Int)) = true := by simp; omega
   have HN := Lib.hid (show R = false by rw [hR]; simp [hk]); clear hR hk
   go_enter Tryz.func36, Tryz.ntmps36
   go_wp2; go_ret; exact ⟨by rw [HN.out]; rfl, HB.out⟩
 have e0 : decide ((n0 : Int) > 2000) = false := by simp; omega
 have e0b : decide ((2000 : Int) < (n0 : Int)) = false := by simp; omega
 by_cases h1 : ru.length = n0
 case neg =>
   have e1 : ((ru.length : Int) != (n0 : Int)) = true := by simp; omega
   have HN := Lib.hid (show R = false by rw [hR]; simp [h1]); clear hR hk h1
   go_enter Tryz.func36, Tryz.ntmps36
   go_wp2; go_ret; exact ⟨by rw [HN.out]; rfl, HB.out⟩
 have e1 : ((ru.length : Int) != (n0 : Int)) = false := by simp; omega
 by_cases h3 : fo.length = n0
 case neg =>
   have e3 : ((fo.length : Int) != (n0 : Int)) = true := by simp; omega
   have HN := Lib.hid (show R = false by rw [hR]; simp [h3]); clear hR hk h1 h3
   go_enter Tryz.func36, Tryz.ntmps36
   go_wp2; go_ret; exact ⟨by rw [HN.out]; rfl, HB.out⟩
 have e3 : ((fo.length : Int) != (n0 : Int)) = false := by simp; omega
 by_cases h4 : n4 = n0
 case neg =>
   have e4 : ((n4 : Int) != (n0 : Int)) = true := by simp; omega
   have HN := Lib.hid (show R = false by rw [hR]; simp [h4]); clear hR hk h1 h3 h4
   go_enter Tryz.func36, Tryz.ntmps36
   go_wp2; go_ret; exact ⟨by rw [HN.out]; rfl, HB.out⟩
 have e4 : ((n4 : Int) != (n0 : Int)) = false := by simp; omega
 have HN := Lib.hid (show R = (ru.all okR && (fo.all (risesB n0 (-1)) && (risesB n0 (-1) fi && (decide (-1 ≤ em) && decide (em < 40))))) by rw [hR]; simp [h1, h3, h4, hk]); clear hR hk h1 h3 h4
 go_enter Tryz.func36, Tryz.ntmps36
 go_wp2
 go_loopw [37] (fun i wr => ∃ j : Nat, i = .int .i64 j ∧ j ≤ ru.length ∧ Hid (wr = W1 ∧ R = ((ru.drop j).all okR && (fo.all (risesB n0 (-1)) && (risesB n0 (-1) fi && (decide (-1 ≤ em) && decide (em < 40))))))) (fun i _ => ru.length - (intOf i).toNat)
 case atStart => exact ⟨0, rfl, Nat.zero_le _, Lib.hid ⟨by trivial, HN.out⟩⟩
 case round =>
   obtain ⟨j, rfl, hj, HH⟩ := hrel; obtain ⟨rfl, hRR⟩ := HH.out; have HH := Lib.hid hRR; clear hRR
   by_cases hp : j < ru.length
   · have hk1 : IntKind.i64.wrap ((j : Int) + 1) = ((j + 1 : Nat) : Int) := by rw [IntKind.wrap_i64]; omega
     have hdl : decide ((j : Int) < (ru.length : Int)) = true := by simp; omega
     obtain ⟨b, o, rfl, hlt, hg⟩ := HG1.out (by intro e; subst e; simp at hp); have hcell := hg j hp; have hd := HH.out; rw [List.drop_eq_getElem_cons hp, List.all_cons] at hd; unfold okR at hd; clear hg; generalize ru[j] = p at *; have HD := Lib.hid hd; clear hd
     by_cases g1 : p < 0
     · have q1 : decide (p < 0) = true := by simp; omega
       have HF := Lib.hid (show R = false by rw [HD.out]; simp; intro; omega); clear g1; go_wp2; go_ret; exact ⟨by rw [HF.out]; rfl, HB.out⟩
     · have q1 : decide (p < 0) = false := by simp; omega
       by_cases g2 : 40 ≤ p
       · have q2 : decide (p ≥ 40) = true := by simp; omega
         have q2b : decide (40 ≤ p) = true := by simp; omega
         have HF := Lib.hid (show R = false by rw [HD.out]; simp; intro; omega); clear g1 g2; go_wp2; go_ret; exact ⟨by rw [HF.out]; rfl, HB.out⟩
       · have q2 : decide (p ≥ 40) = false := by simp; omega
         have q2b : decide (40 ≤ p) = false := by simp; omega
         have HF := Lib.hid (show R = ((ru.drop (j + 1)).all okR && (fo.all (risesB n0 (-1)) && (risesB n0 (-1) fi && (decide (-1 ≤ em) && decide (em < 40))))) by rw [HD.out, show decide (0 ≤ p) = true by simp; omega, show decide (p < 40) = true by simp; omega]; rfl); clear g1 g2; go_wp2; exact ⟨⟨j + 1, rfl, hp, Lib.hid ⟨by trivial, HF.out⟩⟩, by simp [intOf]; omega⟩
   · have hdl : decide ((j : Int) < (ru.length : Int)) = false := by simp; omega
     have HN2 := Lib.hid (show R = (fo.all (risesB n0 (-1)) && (risesB n0 (-1) fi && (decide (-1 ≤ em) && decide (em < 40)))) by rw [HH.out, List.drop_eq_nil_of_le (by omega)]; rfl); go_wp2
     go_loopw [51] (fun i wz => ∃ q : Nat, i = .int .i64 q ∧ q ≤ fo.length ∧ Hid (Below wr.heap.size wr wz ∧ wz = wr ∧ R = ((fo.drop q).all (risesB n0 (-1)) && (risesB n0 (-1) fi && (decide (-1 ≤ em) && decide (em < 40)))))) (fun i _ => fo.length - (intOf i).toNat)
     case atStart => exact ⟨0, rfl, Nat.zero_le _, Lib.hid ⟨Below.refl _ _, rfl, HN2.out⟩⟩
     case round =>
       obtain ⟨q, rfl, hq, HK⟩ := hrel; obtain ⟨_, rfl, hRR⟩ := HK.out; have HK := Lib.hid hRR; clear hRR
       by_cases hpq : q < fo.length
       · have hk1 : IntKind.i64.wrap ((q : Int) + 1) = ((q + 1 : Nat) : Int) := by rw [IntKind.wrap_i64]; omega
         have hdq : decide ((q : Int) < (fo.length : Int)) = true := by simp; omega
         obtain ⟨b, o, rfl, hlt, hg⟩ := HG3.out (by intro e; subst e; simp at hpq); obtain ⟨u, hcell, hrow⟩ := hg q hpq; have hcall := xzjr _ u n0 _ hrow; obtain ⟨Ar, cr, rfl, _, _⟩ := hrow; have hd := HK.out; rw [List.drop_eq_getElem_cons hpq, List.all_cons] at hd; clear hg; generalize fo[q] = row at *; generalize risesB n0 (-1) row = rb at *; have HC := Lib.hid hcall; have HD := Lib.hid hd; clear hcall hd
         cases rb with
         | true =>
           go_wp2_with fail
           go_at_call 48
           refine HC.out.mono ?_; rintro e u2 ⟨rfl, rfl⟩; go_wp2; exact ⟨⟨q + 1, rfl, hpq, Lib.hid ⟨Below.refl _ _, by trivial, by rw [HD.out]; rfl⟩⟩, by simp [intOf]; omega⟩
         | false =>
           go_wp2_with fail
           go_at_call 48
           refine HC.out.mono ?_; rintro e u2 ⟨rfl, rfl⟩; go_wp2; go_ret; exact ⟨by rw [HD.out]; rfl, HB.out⟩
       · have hdq : decide ((q : Int) < (fo.length : Int)) = false := by simp; omega
         have HN3 := Lib.hid (show R = (risesB n0 (-1) fi && (decide (-1 ≤ em) && decide (em < 40))) by rw [HK.out, List.drop_eq_nil_of_le (by omega)]; rfl); generalize risesB n0 (-1) fi = rb at *; generalize hm1 : decide (-1 ≤ em) = g1 at *; generalize hm2 : decide (em < 40) = g2 at *; have hm1b : decide (em ≥ -1) = g1 := hm1
         cases rb <;> cases g1 <;> cases g2 <;>
         (go_wp2_with fail
          go_at_call 48
          refine HR2.out.mono ?_; rintro e u2 ⟨rfl, rfl⟩; go_wp2; go_ret
          exact ⟨by rw [HN3.out]; rfl, HB.out⟩)
end

section
open Go.ChangeShapes Go.WideShapes Go.ChangeAt Go.RowKit Go.Deep

section
variable {H : Type} {enc : TypeId × Value → H} {W : World} {base : Nat} {spare : Nat → Bool} {held : Bool}

theorem xznh {α : Type} [Inhabited α] {te ts : TypeId} {k : Nat} (hu : Tryz.prog.underlying ts = some (.slice te)) (hce : Tryz.prog.cellsOf te = k) (hk : 0 < k) (Q : α → List Value → Prop)
   (hone : ∀ (fuel : Nat) (cs : List Value) (x : DataW H × List MemPlace), cs.length = k → DataW.trod enc Tryz.prog W base spare held fuel te cs = some x → ∃ a, Q a cs)
   {fuel : Nat} {v : Value} {x : DataW H × List MemPlace} (hf : DataW.trod enc Tryz.prog W base spare held fuel ts [v] = some x) :
   ∃ (A : Option Addr) (l : List α) (c : Nat), v = .slice A l.length c ∧ (l.length ≤ c ∧ c ≤ 9223372036854775807) ∧ (l ≠ [] → ∃ b o, A = some ⟨b, o, none⟩ ∧ b < W.heap.size ∧ ∀ (i : Nat) (h : i < l.length), ∃ cs, Q l[i] cs ∧ ∀ j v, cs[j]? = some v → W.cell? ⟨b, o + i * k + j, none⟩ = some v) := by
 rcases DataW.trod_slice hu hf with ⟨e5, hx⟩ | ⟨a, len, cap, elems, rest, n', hn', e5, hx, _, hl, hm, hel, hcell, _, _⟩
 · simp at e5
   subst e5; exact ⟨none, [], 0, rfl, ⟨Nat.le_refl _, by omega⟩, fun h => absurd rfl h⟩
 · simp at e5
   subst e5
   have hone2 : ∀ i, i < len → ∃ q : α × List Value, Q q.1 q.2 ∧ W.cells? base (a.add (i * k)) k = some q.2 := fun i hi => by
     have h1 := hcell i hi; rw [hce, List.getElem?_eq_getElem (by omega), Option.bind_eq_some_iff] at h1; obtain ⟨cs', h2, h3⟩ := h1; obtain ⟨q, hq⟩ := hone _ _ _ (World.cells?_some h2).2.1 h3; exact ⟨(q, cs'), hq, h2⟩
   obtain ⟨F, hF⟩ := choose_lt hone2
   have hll : ((List.range len).map fun i => (F i).1).length = len := by simp
   have hcellx : ∀ i, i < len → ∀ j v, (F i).2[j]? = some v → W.cell? ((a.add (i * k)).add j) = some v := fun i hi j v hv => by
     have h8 := World.cells?_some (hF i hi).2
     have hj : j < k := by have := (List.getElem?_eq_some_iff.1 hv).1; have := h8.2.1; omega
     rw [← hv]; exact h8.2.2 j hj
   refine ⟨some a, (List.range len).map fun i => (F i).1, cap, by rw [hll], ⟨by rw [hll]; exact hl, by unfold maxLen at hm; omega⟩, fun hne => ?_⟩
   have hpos : 0 < len := by
     rcases Nat.eq_zero_or_pos len with h | h
     · subst h; simp at hne
     · exact h
   obtain ⟨ab, ao, spot⟩ := a; obtain ⟨v, r, hv⟩ : ∃ v r, (F 0).2 = v :: r := List.exists_cons_of_ne_nil (by intro e; have := (World.cells?_some (hF 0 hpos).2).2.1; rw [e] at this; simp at this; omega); have h0 := hcellx 0 hpos 0 v (by rw [hv]; rfl)
   have hspot : spot = none := by simpa [Addr.add] using World.cell?_spot h0
   subst hspot
   have h0b : W.cell? ⟨ab, ao, none⟩ = some v := by simpa [Addr.add_lit] using h0
   refine ⟨ab, ao, rfl, World.block_lt_of_cell? W ⟨ab, ao, none⟩ h0b, fun i hi => ?_⟩
   have hi' : i < len := by simpa using hi
   refine ⟨(F i).2, ?_, fun j v hv => ?_⟩
   · simpa using (hF i hi').1
   · have := hcellx i hi' j v hv
     rw [Addr.add_lit, Addr.add_lit] at this; exact this

theorem xzjs : Tryz.prog.cellsOf 26 = 1 := by kernel_rfl
theorem xzni {fuel : Nat} {v : Value} {x : DataW H × List MemPlace} (hf : DataW.trod enc Tryz.prog W base spare held fuel 26 [v] = some x) : ∃ l, IntsV W l v := by
 obtain ⟨A, l, c, h1, h2, h3⟩ := xznh (α := Int) Tryz.underlying26 xzng (by decide) (fun a cs => cs = [.int .i64 a]) (fun fuel cs x hlen h => by
   obtain ⟨n, e, _, _⟩ := DataW.trod_int Tryz.underlying3 h
   exact ⟨n, e⟩) hf
 refine ⟨l, A, c, h1, h2, fun hne => ?_⟩; obtain ⟨b, o, e, hlt, hg⟩ := h3 hne; refine ⟨b, o, e, hlt, fun i hi => ?_⟩; obtain ⟨cs, e2, h4⟩ := hg i hi; have := h4 0 _ (by rw [e2]; rfl)
 simpa using this
theorem xzqp {fuel : Nat} {v : Value} {x : DataW H × List MemPlace} (hf : DataW.trod enc Tryz.prog W base spare held fuel 25 [v] = some x) : ∃ l, RowsI W l v := by
 obtain ⟨A, l, c, h1, h2, h3⟩ := xznh (α := List Int) Tryz.underlying25 xzjs (by decide) (fun a cs => ∃ u, cs = [u] ∧ IntsV W a u) (fun fuel cs x hlen h => by
   rcases DataW.trod_slice Tryz.underlying26 h with ⟨e5, _⟩ | ⟨a, len, cap, elems, rest, n', hn', e5, _⟩
   all_goals
     subst e5; obtain ⟨l, hl⟩ := xzni h
     exact ⟨l, _, rfl, hl⟩) hf
 refine ⟨l, A, c, h1, h2, fun hne => ?_⟩; obtain ⟨b, o, e, hlt, hg⟩ := h3 hne; refine ⟨b, o, e, hlt, fun i hi => ?_⟩; obtain ⟨cs, ⟨u, e2, h5⟩, h4⟩ := hg i hi; have := h4 0 _ (by rw [e2]; rfl); exact ⟨u, by simpa using this, h5⟩
end
end

section
open Go.RowKit

section
variable {α β : Type} [DecidableEq α] [DecidableEq β]

def old (g : Nat → α) (b : Nat) : Bool := (List.range b).any fun a => decide (g a = g b)
def cnt (g : Nat → α) : Nat → Nat
 | 0 => 0
 | b + 1 => cnt g b + (if old g b then 0 else 1)
def fst' (g : Nat → α) (b : Nat) : Nat := ((List.range (b + 1)).find? fun a => decide (g a = g b)).getD b
def num (g : Nat → α) (b : Nat) : Nat := cnt g (fst' g b)

theorem old_iff {g : Nat → α} {b : Nat} : old g b = true ↔ ∃ a, a < b ∧ g a = g b := by
 unfold old; rw [List.any_eq_true]
 constructor
 · rintro ⟨a, ha, h⟩; exact ⟨a, List.mem_range.1 ha, of_decide_eq_true h⟩
 · rintro ⟨a, ha, h⟩; exact ⟨a, List.mem_range.2 ha, decide_eq_true h⟩
theorem old_not {g : Nat → α} {b : Nat} : old g b = false ↔ ∀ a, a < b → g a ≠ g b := by
 rw [← Bool.not_eq_true, old_iff]; exact ⟨fun h a ha e => h ⟨a, ha, e⟩, fun h ⟨a, ha, e⟩ => h a ha e⟩
theorem xzbr (g : Nat → α) (b : Nat) : cnt g (b + 1) = cnt g b + (if old g b then 0 else 1) := rfl
theorem xzqq (g : Nat → α) : ∀ b, cnt g b ≤ b
 | 0 => Nat.le_refl _
 | b + 1 => by have := xzqq g b; rw [xzbr]; split <;> omega
theorem xzfy (g : Nat → α) {a b : Nat} (h : a ≤ b) : cnt g a ≤ cnt g b := by
 induction h with
 | refl => exact Nat.le_refl _
 | step _ ih => rw [xzbr]; omega

theorem xzfz {p : Nat → Bool} : ∀ (n : Nat), (∃ i, i < n ∧ p i = true) → ∃ i, (List.range n).find? p = some i ∧ i < n ∧ p i = true ∧ ∀ j, j < i → p j = false
 | 0, ⟨i, hi, _⟩ => absurd hi (by omega)
 | n + 1, ⟨i, hi, hp⟩ => by
   rw [List.range_succ, List.find?_append]
   by_cases h : ∃ i, i < n ∧ p i = true
   · obtain ⟨i, h1, h2, h3, h4⟩ := xzfz n h
     exact ⟨i, by rw [h1]; rfl, by omega, h3, h4⟩
   · have hin : i = n := by
       rcases Nat.lt_or_ge i n with hlt | hge
       · exact absurd ⟨i, hlt, hp⟩ h
       · omega
     subst hin
     have hn : (List.range i).find? p = none := by
       rw [List.find?_eq_none]; intro x hx hpx; exact h ⟨x, List.mem_range.1 hx, hpx⟩
     refine ⟨i, by rw [hn]; simp [hp], by omega, hp, fun j hj => ?_⟩
     cases hpj : p j
     · rfl
     · exact absurd ⟨j, hj, hpj⟩ h

theorem xzdl (g : Nat → α) (b : Nat) : fst' g b ≤ b ∧ g (fst' g b) = g b ∧ ∀ j, j < fst' g b → g j ≠ g b := by
 obtain ⟨i, h1, h2, h3, h4⟩ := xzfz (p := fun a => decide (g a = g b)) (b + 1) ⟨b, by omega, decide_eq_true rfl⟩
 have e : fst' g b = i := by unfold fst'; rw [h1]; rfl
 rw [e]; exact ⟨by omega, of_decide_eq_true h3, fun j hj => of_decide_eq_false (h4 j hj)⟩
theorem xzip {g : Nat → α} {b i : Nat} (h1 : g i = g b) (h2 : ∀ j, j < i → g j ≠ g b) : fst' g b = i := by
 obtain ⟨_, k2, k3⟩ := xzdl g b
 rcases Nat.lt_trichotomy (fst' g b) i with h | h | h
 · exact absurd k2 (h2 _ h)
 · exact h
 · exact absurd h1 (k3 _ h)
theorem xzqr {g : Nat → α} {b : Nat} (h : old g b = false) : num g b = cnt g b := by
 unfold num; rw [xzip (i := b) rfl (old_not.1 h)]
theorem xziq {g : Nat → α} {a b : Nat} (h : g a = g b) : num g a = num g b := by
 obtain ⟨_, h2, h3⟩ := xzdl g a; unfold num; rw [xzip (b := b) (i := fst' g a) (h2.trans h) (fun j hj => by rw [← h]; exact h3 j hj)]
theorem xzir (g : Nat → α) (b : Nat) : old g (fst' g b) = false := by
 obtain ⟨_, h2, h3⟩ := xzdl g b
 exact old_not.2 fun a ha => by rw [h2]; exact h3 a ha
theorem xzyx (g : Nat → α) (b : Nat) : num g b < cnt g (b + 1) := by
 have h := xzir g b; have h1 := (xzdl g b).1
 have h2 : cnt g (fst' g b + 1) = num g b + 1 := by rw [xzbr, h]; rfl
 have h3 := xzfy g (a := fst' g b + 1) (b := b + 1) (by omega); omega
theorem num_le (g : Nat → α) (b : Nat) : num g b ≤ b := Nat.le_trans (xzfy g (xzdl g b).1) (xzqq g b)
theorem xzxw {g : Nat → α} {a b : Nat} (h : num g a = num g b) : g a = g b := by
 have ha := xzir g a; have hb := xzir g b
 have key : ∀ i j, old g i = false → i < j → cnt g i < cnt g j := fun i j hi hij => by
   have := xzfy g (a := i + 1) (b := j) hij; rw [xzbr, hi] at this; exact this
 rcases Nat.lt_trichotomy (fst' g a) (fst' g b) with h1 | h1 | h1
 · have := key _ _ ha h1; unfold num at h; omega
 · rw [← (xzdl g a).2.1, h1, (xzdl g b).2.1]
 · have := key _ _ hb h1; unfold num at h; omega
theorem xzqs (g : Nat → α) {k : Nat} : ∀ b, k < cnt g b → ∃ a, a < b ∧ num g a = k
 | 0, h => absurd h (by simp [cnt])
 | b + 1, h => by
   rcases Nat.lt_or_ge k (cnt g b) with hlt | hge
   · obtain ⟨a, h1, h2⟩ := xzqs g b hlt
     exact ⟨a, by omega, h2⟩
   · rw [xzbr] at h
     cases ho : old g b
     · rw [ho] at h
       exact ⟨b, by omega, by rw [xzqr ho]; simp at h; omega⟩
     · rw [ho] at h; simp at h; omega

theorem xzur {g : Nat → α} {g' : Nat → β} {b : Nat} (h : ∀ a, a < b → (g a = g b ↔ g' a = g' b)) : old g b = old g' b := by
 rw [Bool.eq_iff_iff, old_iff, old_iff]; exact ⟨fun ⟨a, ha, e⟩ => ⟨a, ha, (h a ha).1 e⟩, fun ⟨a, ha, e⟩ => ⟨a, ha, (h a ha).2 e⟩⟩
theorem xzfl {g : Nat → α} {g' : Nat → β} {n : Nat} (h : ∀ a b, a < n → b < n → (g a = g b ↔ g' a = g' b)) : ∀ b, b ≤ n → cnt g b = cnt g' b
 | 0, _ => rfl
 | b + 1, hb => by rw [xzbr, xzbr, xzfl h b (by omega), xzur fun a ha => h a b (by omega) (by omega)]
theorem xznj {g : Nat → α} {g' : Nat → β} {n : Nat} (h : ∀ a b, a < n → b < n → (g a = g b ↔ g' a = g' b)) {b : Nat} (hb : b < n) : num g b = num g' b := by
 obtain ⟨h1, h2, h3⟩ := xzdl g b; unfold num; rw [xzip (g := g') (b := b) (i := fst' g b) ((h _ _ (by omega) hb).1 h2) (fun j hj e => h3 j hj ((h _ _ (by omega) hb).2 e)), xzfl h _ (by omega)]
theorem num_num (g : Nat → α) {n b : Nat} (hb : b < n) : num (num g) b = num g b :=
 xznj (n := n) (fun _ _ _ _ => ⟨xzxw, xziq⟩) hb
theorem cnt_num (g : Nat → α) (b : Nat) : cnt (num g) b = cnt g b :=
 xzfl (n := b) (fun _ _ _ _ => ⟨xzxw, xziq⟩) b (Nat.le_refl _)
end

def MayTo (f : Nat → Nat) (t : Nat) : Prop := ∀ b, b < t → f b = num f b
theorem xzjt {f : Nat → Nat} {t : Nat} (h : cnt f t < f t) : f t ≠ num f t := by
 have := xzyx f t; rw [xzbr] at this
 split at this <;> omega
theorem xznk {f : Nat → Nat} {t : Nat} (hm : MayTo f t) (h : f t = cnt f t) : f t = num f t ∧ cnt f (t + 1) = cnt f t + 1 := by
 have ho : old f t = false := old_not.2 fun a ha e => by
   have h1 := hm a ha; have h2 := xzyx f a; have h3 := xzfy f (a := a + 1) (b := t) (by omega); omega
 exact ⟨by rw [xzqr ho, h], by rw [xzbr, ho]; rfl⟩
theorem xznl {f : Nat → Nat} {t : Nat} (hm : MayTo f t) (h : f t < cnt f t) : f t = num f t ∧ cnt f (t + 1) = cnt f t := by
 obtain ⟨a, ha, e⟩ := xzqs f t h; have h1 := hm a ha
 have h2 : f a = f t := by omega
 have ho : old f t = true := old_iff.2 ⟨a, ha, h2⟩; exact ⟨by rw [← xziq h2, e], by rw [xzbr, ho]; rfl⟩
theorem MayTo.succ {f : Nat → Nat} {t : Nat} (hm : MayTo f t) (h : f t = num f t) : MayTo f (t + 1) := fun b hb => by
 rcases Nat.lt_or_ge b t with h1 | h1
 · exact hm b h1
 · obtain rfl : b = t := by omega
   exact h

def mayB (f : Nat → Nat) (n : Int) : Bool := (List.range 256).all (fun b => decide (f b = num f b)) && decide (n = (cnt f 256 : Nat))
theorem mayB_iff {f : Nat → Nat} {n : Int} : mayB f n = true ↔ MayTo f 256 ∧ n = (cnt f 256 : Nat) := by
 unfold mayB; rw [Bool.and_eq_true, List.all_eq_true, decide_eq_true_iff]; exact and_congr ⟨fun h b hb => of_decide_eq_true (h b (List.mem_range.2 hb)), fun h b hb => decide_eq_true (h b (List.mem_range.1 hb))⟩ Iff.rfl
theorem xzqt {f : Nat → Nat} {n : Int} (h : MayTo f 256) : mayB f n = decide (n = (cnt f 256 : Nat)) := by
 rw [Bool.eq_iff_iff, mayB_iff, decide_eq_true_iff]; exact ⟨fun h => h.2, fun h' => ⟨h, h'⟩⟩
theorem xzqu {f : Nat → Nat} {n : Int} {t : Nat} (ht : t < 256) (h : f t ≠ num f t) : mayB f n = false := by
 rw [← Bool.not_eq_true, mayB_iff]
 exact fun h' => h (h'.1 t ht)

def sameB (f f' : Nat → Nat) (n n' : Int) : Bool := (List.range 256).all (fun b => decide (f b = f' b)) && decide (n = n')
theorem xzqv {α : Type} [DecidableEq α] (g : Nat → α) : mayB (num g) (cnt g 256 : Nat) = true :=
 mayB_iff.2 ⟨fun b hb => (num_num g hb).symm, by rw [cnt_num]⟩

def cellsN (N : Nat) (g : Nat → Value) : Array Value := ((List.range N).map g).toArray
theorem xzax (N : Nat) (g : Nat → Value) : (cellsN N g).size = N := by simp [cellsN]
theorem xzbq {N : Nat} (g : Nat → Value) {i : Nat} (h : i < N) : (cellsN N g)[i]? = some (g i) := by
 unfold cellsN; rw [List.getElem?_toArray, List.getElem?_map, List.getElem?_range h]; rfl
theorem xzak {N : Nat} {g h : Nat → Value} (e : ∀ i, i < N → g i = h i) : cellsN N g = cellsN N h := by
 unfold cellsN; rw [List.map_congr_left (fun i hi => e i (List.mem_range.1 hi))]
theorem xzeg (N : Nat) (g : Nat → Value) (i : Nat) (v : Value) : (cellsN N g).setIfInBounds i v = cellsN N (fun j => if j = i then v else g j) := by
 apply Array.ext_getElem?
 intro j
 by_cases hj : j < N
 · rw [Array.getElem?_setIfInBounds, xzbq _ hj, xzbq _ hj, xzax]
   by_cases e : i = j
   · subst e; simp [hj]
   · have e' : ¬ j = i := fun h => e h.symm
     simp [e, e']
 · rw [Array.getElem?_eq_none (by rw [Array.size_setIfInBounds, xzax]; omega), Array.getElem?_eq_none (by rw [xzax]; omega)]
theorem xzdm {N : Nat} {g : Nat → Value} (h : ∀ i, (g i).oneCell' = true) : (cellsN N g).all (·.oneCell') = true := by
 rw [Array.all_eq_true_iff_forall_mem]; intro v hv; unfold cellsN at hv; simp only [List.mem_toArray, List.mem_map] at hv; obtain ⟨i, _, rfl⟩ := hv; exact h i
def clsG (f : Nat → Nat) (n : Int) (i : Nat) : Value := if i < 256 then .int .u8 (f i) else .int .i64 n
def clsC (f : Nat → Nat) (n : Int) : Array Value := cellsN 257 (clsG f n)
theorem xzag (f : Nat → Nat) (n : Int) : (clsC f n).size = 257 := xzax _ _
theorem xzho (f : Nat → Nat) (n : Int) {i : Nat} (h : i < 256) : (clsC f n)[i]? = some (.int .u8 (f i)) := by
 unfold clsC; rw [xzbq _ (by omega)]; unfold clsG; rw [if_pos h]
theorem xzlj (f : Nat → Nat) (n : Int) : (clsC f n)[256]? = some (.int .i64 n) := by
 unfold clsC; rw [xzbq _ (by omega)]; rfl
theorem xzeb (f : Nat → Nat) (n : Int) : (clsC f n).all (·.oneCell') = true := xzdm fun i => by unfold clsG; split <;> rfl
theorem xzdn {f f' : Nat → Nat} (n : Int) (h : ∀ b, b < 256 → f b = f' b) : clsC f n = clsC f' n := xzak fun i _ => by
 unfold clsG
 split
 · rename_i hi; rw [h i hi]
 · rfl
def updN (f : Nat → Nat) (i v : Nat) : Nat → Nat := fun j => if j = i then v else f j
theorem xzyy (f : Nat → Nat) (n : Int) {i : Nat} (h : i < 256) (v : Nat) : (clsC f n).setIfInBounds i (.int .u8 v) = clsC (updN f i v) n := by
 unfold clsC; rw [xzeg]
 refine xzak fun j _ => ?_
 unfold clsG updN
 by_cases e : j = i
 · subst e; simp [h]
 · simp [e]
theorem xzus (f : Nat → Nat) (n n' : Int) : (clsC f n).setIfInBounds 256 (.int .i64 n') = clsC f n' := by
 unfold clsC; rw [xzeg]
 refine xzak fun j hj => ?_
 unfold clsG
 by_cases e : j = 256
 · subst e; simp
 · have : j < 256 := by omega
   simp [e, this]

attribute [irreducible] clsC

end
end Go.Proofs.YtgngaaemkmdfaaaGreatDoor
