/-
  THE PART OF A REPEATED TREE, and of every tree. Condition: each node of the tree may be.
-/
import Derived.Test.YtgbljnnmhmlifaaQG31
import Derived.Test.YtgbljnnmhmlifaaQG08
namespace Go.Proofs.Ytgbljnnmhmlifaa
open Go.RowKit

theorem laid_mem {G : Gr} {q : Prt} {hi : Nat} : ∀ {l : List Prt} {lo : Nat}, Laid G lo l hi → q ∈ l → ∃ a b, lo ≤ a ∧ b ≤ hi ∧ InP a b q ∧ Cl G a b
  | [], _, _, h => by cases h
  | p :: r, lo, ⟨m, k1, k2, k3, k4⟩, h => by
    rcases List.mem_cons.1 h with rfl | h
    · exact ⟨lo, m, Nat.le_refl _, k4.le, k2, k3⟩
    · obtain ⟨a, b, z1, z2⟩ := laid_mem k4 h
      exact ⟨a, b, by omega, z2⟩
theorem gkReps {R : Nat → Nat → Prop} {L : Nat} (hle : ∀ j k, R j k → j ≤ k ∧ (j < k → k ≤ L)) (lo j k : Nat) :
    (∃ n, n < lo + L + 1 + 1 ∧ lo ≤ n ∧ It R n j k) ↔ (∃ m, It R (max lo 1 - 1) j m ∧ Pls R m k) ∨ (lo = 0 ∧ j = k) := by
  constructor
  · rintro ⟨n, h1, h2, h3⟩
    by_cases h0 : n = 0
    · subst h0
      exact .inr ⟨by omega, h3⟩
    · refine .inl ?_
      obtain ⟨b, hb⟩ : ∃ b, n = (max lo 1 - 1) + (b + 1) := ⟨n - (max lo 1 - 1) - 1, by omega⟩
      rw [hb, It.cat] at h3
      obtain ⟨m, g1, g2⟩ := h3
      exact ⟨m, g1, g2.pls⟩
  · rintro (⟨m, h1, h2⟩ | ⟨rfl, rfl⟩)
    · obtain ⟨g1, n, g2, g3⟩ := h2.it fun j k h => (hle j k h).1
      have g4 := h2.far hle
      have hn : n ≤ L := by
        rcases Nat.lt_or_ge m k with h | h
        · have := g4 h; omega
        · omega
      exact ⟨(max lo 1 - 1) + (n + 1), by omega, by omega, (It.cat _).2 ⟨m, h1, g3⟩⟩
    · exact ⟨0, by omega, Nat.le_refl _, rfl⟩
theorem rep_says (ms : Nat → Bool) (t : Tree) (lo hi : Int) (S : Mk) (hS : S.Ok) (hok : t.ok = true) (hlo : 0 ≤ lo) (hhi : hi = -1 ∨ lo ≤ hi) (h : PartS t S) : PartS (.node 4 ms [t] lo hi) S := by
  have e2 : ∀ s f, (Tree.node 4 ms [t] lo hi).ends s f = repTo (t.ends s) lo.toNat (mostOf s lo hi + 1) f := fun s f => by
    have hE : headEnds s [t] = t.ends s := by unfold headEnds; rfl
    rw [← hE]
    unfold Tree.ends; rw [if_neg (by decide), if_neg (by decide), if_neg (by decide), if_neg (by decide)]
  have hcz : 0 ≤ copiesI lo hi := by unfold copiesI; split <;> omega
  obtain ⟨a1, a2, a3, a4⟩ := h
  obtain ⟨o1, o2, o3⟩ := partP_ok t S (ok_okT t hok) hS
  by_cases hz : (copiesI lo hi).toNat = 0
  · have hz0 : hi = 0 ∧ lo = 0 := by
      unfold copiesI at hz
      split at hz
      · omega
      · omega
    obtain ⟨rfl, rfl⟩ := hz0
    refine nothing_says _ S ?_ fun s f k => ?_
    · unfold partP; rw [if_neg (by decide), if_neg (by decide), if_neg (by decide), if_pos rfl, if_pos hz]
    · rw [e2, rep_it (a4 s)]
      constructor
      · rintro ⟨j, h1, n, h2, h3, h4⟩
        have : n = 0 := by
          unfold mostOf at h2
          rw [if_neg (by decide)] at h2
          have h2 : n < 0 + 1 := h2
          omega
        subst this
        obtain rfl : j = k := h4
        exact h1
      · intro h
        exact ⟨k, h, 0, by omega, Nat.le_refl _, rfl⟩
  · have ep : partsP [t] S = ((partP t S).1, [(partP t S).2]) := by rw [partsP, partsP]
    obtain ⟨X, hX⟩ : ∃ X, partP t S = X := ⟨_, rfl⟩
    rw [hX] at a1 a2 a3 a4 o1 o2 o3 ep
    have e : partP (.node 4 ms [t] lo hi) S = (let c := copyN X.2 S.sets.length X.1.sets.length ((copiesI lo hi).toNat - 1) X.1 [X.2]
        let z := c.2.getLastD ⟨[], [], true⟩
        let F := if hi = -1 then linkF c.1.follow z.ends z.first else c.1.follow
        let y := inRowP lo 0 c.2 F
        (⟨c.1.sets, y.1⟩, y.2)) := by
      unfold partP; rw [if_neg (by decide), if_neg (by decide), if_neg (by decide), if_pos rfl, if_neg hz, ep]; rfl
    have hlt : S.sets.length ≤ X.1.sets.length := by omega
    clear hX ep
    generalize X.1 = S1 at *
    generalize X.2 = p at *
    have key := fun s => copyN_says s p S.sets.length S1.sets.length hlt o2 a2 ((copiesI lo hi).toNat - 1) S1 [p] o1 (Nat.le_refl _) (fun r hr => o1.2 r (List.mem_of_mem_drop (List.mem_of_mem_take hr))) a3
      ⟨_, hlt, a2, a3, rfl⟩ (fun q hq x y => by obtain rfl := List.mem_singleton.1 hq; exact Iff.rfl)
    obtain ⟨b1, b2, b3, b4⟩ := copyN_ok (p := p) (i := S.sets.length) (j := S1.sets.length) hlt o2 ((copiesI lo hi).toNat - 1) S1 [p] o1 (Nat.le_refl _) (fun r hr => o1.2 r (List.mem_of_mem_drop (List.mem_of_mem_take hr))) (fun q hq => by obtain rfl := List.mem_singleton.1 hq; exact o2)
    generalize copyN p S.sets.length S1.sets.length ((copiesI lo hi).toNat - 1) S1 [p] = c at *
    dsimp only at e
    have hcl : c.2.length = (copiesI lo hi).toNat := by rw [b3]; simp; omega
    obtain ⟨init, z, hiz⟩ : ∃ init z, c.2 = init ++ [z] := by
      have : c.2 ≠ [] := fun h => by rw [h] at hcl; simp at hcl; omega
      exact ⟨c.2.dropLast, c.2.getLast this, (List.dropLast_concat_getLast this).symm⟩
    have hzl : c.2.getLastD ⟨[], [], true⟩ = z := by rw [hiz]; simp
    rw [hzl] at e
    obtain ⟨k1, k2, _⟩ := key []
    have k3 := fun s => (key s).2.2
    have hSc : S1.sets.length ≤ c.1.sets.length := by rw [b2]; omega
    have hag0 : Ag (grF S.sets S.follow) (grF c.1.sets c.1.follow) 0 S.sets.length := a1.trans (k1.sub (Nat.le_refl _) hlt)
    have hRle : ∀ s j k, PR (grF S1.sets S1.follow) s p j k → j ≤ k ∧ (j < k → k ≤ s.length) := fun s j k h => h.le
    by_cases hh : hi = -1
    · subst hh
      rw [if_pos rfl] at e
      have hl : Lnk (grF c.1.sets c.1.follow) (grF c.1.sets (linkF c.1.follow z.ends z.first)) z.ends z.first := link_lnk fun x hx => by
        have := ok_ends (b4 z (by rw [hiz]; simp)) x hx
        rw [b1.1]; exact this
      rw [hiz] at k2
      obtain ⟨mid, l1, l2, l3, l4⟩ := k2.unsnoc
      have hagm : Ag (grF c.1.sets c.1.follow) (grF c.1.sets (linkF c.1.follow z.ends z.first)) 0 mid := hl.ag fun a _ ha => by
        rw [Bool.eq_false_iff]; intro hh
        have := l3.2 a hh; omega
      have hz4 : Cl (grF c.1.sets (linkF c.1.follow z.ends z.first)) mid c.1.sets.length := fun a b g1 g2 g3 => by
        rw [hl.fo, Bool.or_eq_true, Bool.and_eq_true] at g3
        rcases g3 with g3 | g3
        · exact l4 a b g1 g2 g3
        · exact l3.1 b g3.2
      have hlaid : Laid (grF c.1.sets (linkF c.1.follow z.ends z.first)) S.sets.length c.2 c.1.sets.length := by
        rw [hiz]
        exact (l1.ag (hagm.sub (Nat.zero_le _) (Nat.le_refl _))).snoc l2 l3 hz4
      have row := fun s => inRow_says c.1.sets lo s c.2 0 (linkF c.1.follow z.ends z.first) S.sets.length c.1.sets.length (by rw [linkF_len, b1.1]; exact Nat.le_refl _) (fun q hq => by rw [linkF_len, b1.1]; exact b4 q hq) hlaid
      obtain ⟨r1, r2, r3, _⟩ := row []
      refine ⟨?_, ?_, ?_, ?_⟩ <;> rw [e] <;> dsimp only
      · refine (hag0.trans (hagm.sub (Nat.le_refl _) l1.le)).trans fun a _ ha => ⟨rfl, ?_⟩
        funext q
        show hasI _ q = hasI _ q
        rcases r3 a (.inl ha) with e | e
        · rw [e]
        · exact e q
      · exact r1
      · exact r2
      · intro s f k
        rw [e2, rep_it (a4 s)]
        have hm : mostOf s lo (-1) + 1 = lo.toNat + s.length + 1 + 1 := by unfold mostOf; rw [if_pos (by decide)]
        rw [hm]
        refine exists_congr fun j => and_congr Iff.rfl ?_
        rw [(row s).2.2.2 j k, gkReps (hRle s), hiz]
        have hinit : init.length = max lo.toNat 1 - 1 := by
          rw [hiz] at hcl
          simp only [List.length_append, List.length_cons, List.length_nil] at hcl
          unfold copiesI at hcl
          rw [if_pos rfl] at hcl
          omega
        have hzz : ∀ j k, PR (grF c.1.sets (linkF c.1.follow z.ends z.first)) s z j k ↔ Pls (PR (grF S1.sets S1.follow) s p) j k := fun j k => by
          rw [gkSelf_any hl]
          exact ⟨fun h => h.mono fun j k h => (k3 s z (by rw [hiz]; simp) j k).1 h, fun h => h.mono fun j k h => (k3 s z (by rw [hiz]; simp) j k).2 h⟩
        have hii : ∀ q ∈ init, ∀ j k, PR (grF c.1.sets (linkF c.1.follow z.ends z.first)) s q j k ↔ PR (grF S1.sets S1.follow) s p j k := fun q hq j k => by
          obtain ⟨x, y, z1, z2, z3, z4⟩ := laid_mem l1 hq
          rw [PR.ag z4 (hagm.sub (Nat.zero_le _) z2) z3]
          exact k3 s q (by rw [hiz]; simp [hq]) j k
        by_cases h0 : lo = 0
        · subst h0
          obtain rfl : init = [] := List.eq_nil_of_length_eq_zero (by rw [hinit]; rfl)
          simp only [List.nil_append, RowR]
          constructor
          · rintro (⟨m, g1, g2⟩ | ⟨_, g2⟩)
            · obtain rfl : j = m := g1
              exact .inl ⟨k, (hzz _ _).2 g2, rfl⟩
            · exact .inr ⟨Int.le_refl _, g2⟩
          · rintro (⟨m, g1, rfl⟩ | ⟨_, g2⟩)
            · exact .inl ⟨j, rfl, (hzz _ _).1 g1⟩
            · exact .inr ⟨rfl, g2⟩
        · rw [row_last hzz (by omega) hii, hinit]
          constructor
          · rintro (h | ⟨h, _⟩)
            · exact h
            · omega
          · exact .inl
    · rw [if_neg hh] at e
      have row := fun s => inRow_says c.1.sets lo s c.2 0 c.1.follow S.sets.length c.1.sets.length (by rw [b1.1]; exact Nat.le_refl _) (fun q hq => by rw [b1.1]; exact b4 q hq) k2
      obtain ⟨r1, r2, r3, _⟩ := row []
      refine ⟨?_, ?_, ?_, ?_⟩ <;> rw [e] <;> dsimp only
      · refine hag0.trans fun a _ ha => ⟨rfl, ?_⟩
        funext q
        show hasI _ q = hasI _ q
        rcases r3 a (.inl ha) with e | e
        · rw [e]
        · exact e q
      · exact r1
      · exact r2
      · intro s f k
        rw [e2, rep_it (a4 s)]
        have hm : mostOf s lo hi = hi.toNat := by unfold mostOf; rw [if_neg (by omega)]
        rw [hm]
        refine exists_congr fun j => and_congr Iff.rfl ?_
        rw [(row s).2.2.2 j k, row_same (fun q hq j k => k3 s q hq j k), hcl]
        have hc2 : copiesI lo hi = hi := by unfold copiesI; rw [if_neg hh]
        rw [hc2]
        refine exists_congr fun n => ?_
        constructor
        · rintro ⟨h1, h2, h3⟩; exact ⟨by omega, .inr (by omega), h3⟩
        · rintro ⟨h1, h2, h3⟩; exact ⟨by omega, by omega, h3⟩
theorem part_says (T : Tree) (hok : T.ok = true) : ∀ S : Mk, S.Ok → PartS T S := by
  induction T using Tree.ind with
  | h k m l lo hi ih =>
    intro S hS
    have hop := ok_open hok
    have hps := fun t ht => And.intro (hop.1 t ht) (ih t ht (hop.1 t ht))
    rcases okNode_kind hop.2 with ⟨rfl, hl⟩ | ⟨rfl, hl⟩ | ⟨rfl, hl⟩ | ⟨rfl, hl⟩ | ⟨rfl, hl, hlo, _, hhi⟩
    · refine nothing_says _ S ?_ fun s f k => ?_
      · unfold partP; rw [if_neg (by decide), if_neg (by decide), if_neg (by decide), if_neg (by decide)]
      · have e : (Tree.node 0 m l lo hi).ends s f = f := by unfold Tree.ends; rw [if_pos rfl]
        rw [e]
    · exact place_says m l lo hi S hS
    · exact cat_says m l lo hi S hS hop.1 (parts_says l hps S hS)
    · exact alt_says m l lo hi S (parts_says l hps S hS)
    · obtain ⟨t, rfl⟩ : ∃ t, l = [t] := List.length_eq_one_iff.1 hl
      exact rep_says m t lo hi S hS (hop.1 t (by simp)) hlo (by omega) (ih t (by simp) (hop.1 t (by simp)) S hS)
end Go.Proofs.Ytgbljnnmhmlifaa

namespace Go.Proofs.Ytgbljnnmhmlifaa
open Go.RowKit

def mix (k : Nat) (a x : Nat → Bool) : Nat → Bool := fun p => if p < k then a p || x p else a p
theorem mix_zero (a x : Nat → Bool) : mix 0 a x = a := by funext p; simp [mix]
theorem mix_succ (k : Nat) (a x : Nat → Bool) : updS (mix k a x) k (a k || x k) = mix (k + 1) a x := by
  funext p
  unfold updS mix
  by_cases h : p = k
  · subst h; simp
  · rw [if_neg h]
    by_cases h2 : p < k
    · rw [if_pos h2, if_pos (by omega)]
    · rw [if_neg h2, if_neg (by omega)]
theorem mix_at (k : Nat) (a x : Nat → Bool) : mix k a x k = a k := by simp [mix]
theorem mix_all (n : Nat) (a x : Nat → Bool) : bl n (mix n a x) = bl n (orB a x) := bl_congr fun i hi => by unfold mix orB; rw [if_pos hi]

set_option maxHeartbeats 8000000 in
set_option maxRecDepth 20000 in
theorem ends_k2 (s : ByteArray) (hs30 : s.size ≤ 1073741824) (n : Nat) (hn : n = s.size + 1) (m : Nat → Bool) (l : List Tree) (lo hi : Int) (A : Option Addr) (c : Nat) (hc : l.length ≤ c ∧ c ≤ 9223372036854775807) (w : World) (g0 : Nat) (f : Nat → Bool) (hf0 : BlkIs w g0 4 (bl n f))
    (hs : l ≠ [] → ∃ b o, A = some ⟨b, o, none⟩ ∧ b < w.heap.size ∧ ∀ (i : Nat) (h : i < l.length), ∃ cs : List Value, Tree.At w l[i] (.agg cs.toArray) ∧ cs.length = 8 ∧ w.rangeAt b (o + i * 8) cs)
    (ih : ∀ t ∈ l, ∀ (v : Value) (w : World) (g0 : Nat) (f : Nat → Bool), Tree.At w t v → BlkIs w g0 4 (bl n f) → Calls Try.prog 51 #[v, .string s, .slice (some ⟨g0, 0, none⟩) n n] w (EndsIs n (t.ends s.data.toList f) w)) :
    Calls Try.prog 51 #[reV 2 m A l.length c lo hi, .string s, .slice (some ⟨g0, 0, none⟩) n n] w (EndsIs n (endsCat s.data.toList l f) w) := by
  have hw0 : IntKind.i64.wrap ((s.size : Int) + 1) = ((n : Nat) : Int) := by rw [IntKind.wrap_i64]; omega
  have hmk := fun w => make_bools n (by omega) w
  have hg0 := hf0.lt
  have HB0 := Lib.hid (ends_begin 2 m A l.length c n lo hi w)
  have HF0 := Lib.hid hf0
  have HN := Lib.hid hn
  have HS := Lib.hid hs
  have IH := Lib.hid ih
  clear hs ih
  clear hf0 hn
  unfold EndsIs at *
  unfold reV reL at *
  go_enter Try.func51, Try.ntmps51
  have hcp := copy_bools HB0.out.2.2 ((HF0.out.alloc _).alloc _)
  go_wp2
  clear hcp hmk hw0
  go_loopw [7, 9] (fun x i wr => ∃ (j g : Nat), x = .slice (some ⟨g, 0, none⟩) n n ∧ i = .int .i64 j ∧ j ≤ l.length ∧ Hid (w.heap.size ≤ g ∧ Below w.heap.size w wr ∧ BlkIs wr w.heap.size 39 (reL 2 m A l.length c lo hi).toArray ∧ BlkIs wr g 4 (bl n (endsCat s.data.toList (l.take j) f)))) (fun _ i _ => l.length - (intOf i).toNat)
  case atStart =>
    have hb := HB0.out
    exact ⟨0, w.heap.size + 1, rfl, rfl, Nat.zero_le _, Lib.hid ⟨by omega, below_setRow hb.1 (by omega) _, row_far hb.2.1 (by omega), by rw [List.take_zero]; exact row_set hb.2.2⟩⟩
  case round =>
    obtain ⟨j, g, rfl, rfl, hj, HH⟩ := hrel
    have hbl := HH.out.2.2.1
    unfold reL at hbl
    obtain ⟨_, _, _, _, _, c5, _, _⟩ := hbl.eight
    by_cases hp : j < l.length
    · have hdl : decide ((j : Int) < (l.length : Int)) = true := by simp; omega
      obtain ⟨b, o, rfl, hbw, hg⟩ := HS.out (by intro e; subst e; simp at hp)
      obtain ⟨cs, hcat, hlen, hrow⟩ := hg j hp
      obtain ⟨A', n', c', rfl⟩ := hcat.eight
      obtain ⟨r0, r1, r2, r3, r4, r5, r6, r7⟩ := row_eight hrow HH.out.2.1
      have hcall := IH.out _ (List.getElem_mem hp) _ wr g _ (hcat.step HH.out.2.1) HH.out.2.2.2
      rw [← endsCat_take hp] at hcall
      have hk1 : IntKind.i64.wrap ((j : Int) + 1) = ((j + 1 : Nat) : Int) := by rw [IntKind.wrap_i64]; omega
      have HC := Lib.hid hcall
      clear hrow hcat hcall hg hbl
      go_wp2_with fail
      refine HC.out.mono ?_
      rintro e w1 ⟨g1, rfl, hg1, hbl1, hb1⟩
      have HB1 := Lib.hid (And.intro hg1 (And.intro hbl1 hb1))
      clear hg1 hbl1 hb1
      go_wp2
      have hz := HH.out.2.1.size
      exact ⟨⟨j + 1, g1, rfl, by go_num, hp, Lib.hid ⟨Nat.le_trans hz HB1.out.1, HH.out.2.1.trans (HB1.out.2.2.mono hz), HH.out.2.2.1.step HB1.out.2.2, HB1.out.2.1⟩⟩, by simp [intOf]; omega⟩
    · have hdl : decide ((j : Int) < (l.length : Int)) = false := by simp; omega
      obtain rfl : j = l.length := by omega
      have HH2 := HH
      rw [List.take_length] at HH2
      clear HH hbl
      go_wp2
      go_ret
      exact ⟨g, rfl, HH2.out.1, HH2.out.2.2.2, HH2.out.2.1⟩

set_option maxHeartbeats 8000000 in
set_option maxRecDepth 20000 in
theorem ends_k3 (s : ByteArray) (hs30 : s.size ≤ 1073741824) (n : Nat) (hn : n = s.size + 1) (m : Nat → Bool) (l : List Tree) (lo hi : Int) (A : Option Addr) (c : Nat) (hc : l.length ≤ c ∧ c ≤ 9223372036854775807) (w : World) (g0 : Nat) (f : Nat → Bool) (hf0 : BlkIs w g0 4 (bl n f))
    (hs : l ≠ [] → ∃ b o, A = some ⟨b, o, none⟩ ∧ b < w.heap.size ∧ ∀ (i : Nat) (h : i < l.length), ∃ cs : List Value, Tree.At w l[i] (.agg cs.toArray) ∧ cs.length = 8 ∧ w.rangeAt b (o + i * 8) cs)
    (ih : ∀ t ∈ l, ∀ (v : Value) (w : World) (g0 : Nat) (f : Nat → Bool), Tree.At w t v → BlkIs w g0 4 (bl n f) → Calls Try.prog 51 #[v, .string s, .slice (some ⟨g0, 0, none⟩) n n] w (EndsIs n (t.ends s.data.toList f) w)) :
    Calls Try.prog 51 #[reV 3 m A l.length c lo hi, .string s, .slice (some ⟨g0, 0, none⟩) n n] w (EndsIs n (endsAlt s.data.toList l f) w) := by
  have hw0 : IntKind.i64.wrap ((s.size : Int) + 1) = ((n : Nat) : Int) := by rw [IntKind.wrap_i64]; omega
  have hmk := fun w => make_bools n (by omega) w
  have hg0 := hf0.lt
  have HB0 := Lib.hid (ends_begin 3 m A l.length c n lo hi w)
  have HF0 := Lib.hid hf0
  have HN := Lib.hid hn
  have HS := Lib.hid hs
  have IH := Lib.hid ih
  clear hs ih
  clear hf0 hn
  unfold EndsIs at *
  unfold reV reL at *
  go_enter Try.func51, Try.ntmps51
  go_wp2
  clear hmk hw0
  go_loopw [10] (fun i wr => ∃ (j : Nat), i = .int .i64 j ∧ j ≤ l.length ∧ Hid (Below w.heap.size w wr ∧ BlkIs wr w.heap.size 39 (reL 3 m A l.length c lo hi).toArray ∧ BlkIs wr (w.heap.size + 1) 4 (bl n (endsAlt s.data.toList (l.take j) f)) ∧ BlkIs wr g0 4 (bl n f))) (fun i _ => l.length - (intOf i).toNat)
  case atStart =>
    have hb := HB0.out
    exact ⟨0, rfl, Nat.zero_le _, Lib.hid ⟨hb.1, hb.2.1, by rw [List.take_zero]; exact hb.2.2, (HF0.out.alloc _).alloc _⟩⟩
  case round =>
    obtain ⟨j, rfl, hj, HH⟩ := hrel
    have hbl := HH.out.2.1
    unfold reL at hbl
    obtain ⟨_, _, _, _, _, c5, _, _⟩ := hbl.eight
    by_cases hp : j < l.length
    · have hdl : decide ((j : Int) < (l.length : Int)) = true := by simp; omega
      obtain ⟨b, o, rfl, hbw, hg⟩ := HS.out (by intro e; subst e; simp at hp)
      obtain ⟨cs, hcat, hlen, hrow⟩ := hg j hp
      obtain ⟨A', n', c', rfl⟩ := hcat.eight
      obtain ⟨r0, r1, r2, r3, r4, r5, r6, r7⟩ := row_eight hrow HH.out.1
      have hcall := IH.out _ (List.getElem_mem hp) _ wr g0 _ (hcat.step HH.out.1) HH.out.2.2.2
      have htk := endsAlt_take (s := s.data.toList) (f := f) hp
      have hk1 : IntKind.i64.wrap ((j : Int) + 1) = ((j + 1 : Nat) : Int) := by rw [IntKind.wrap_i64]; omega
      generalize (l[j]).ends s.data.toList f = X at *
      generalize ha : endsAlt s.data.toList (l.take j) f = a at *
      have HC := Lib.hid hcall
      have HTK := Lib.hid htk
      clear hrow hcat hcall hg hbl htk ha
      go_wp2_with fail
      refine HC.out.mono ?_
      rintro e w1 ⟨gx, rfl, hg1, hbl1, hb1⟩
      have hz := HH.out.1.size
      have hlt := HH.out.2.2.1.lt
      have hne : gx ≠ w.heap.size + 1 := by omega
      have HB1 := Lib.hid (And.intro (HH.out.1.trans (hb1.mono hz)) (And.intro (HH.out.2.1.step hb1) (And.intro (HH.out.2.2.1.step hb1) (And.intro (HH.out.2.2.2.step hb1) hbl1))))
      clear hg1 hbl1 hb1 hz hlt
      go_wp2
      go_loopw [12] (fun i wr => ∃ (k : Nat), i = .int .i64 k ∧ k ≤ n ∧ Hid (Below w.heap.size w wr ∧ BlkIs wr w.heap.size 39 (reL 3 m (some ⟨b, o, none⟩) l.length c lo hi).toArray ∧ BlkIs wr (w.heap.size + 1) 4 (bl n (mix k a X)) ∧ BlkIs wr g0 4 (bl n f) ∧ BlkIs wr gx 4 (bl n X))) (fun i _ => n - (intOf i).toNat)
      case atStart =>
        exact ⟨0, rfl, Nat.zero_le _, Lib.hid ⟨HB1.out.1, HB1.out.2.1, by rw [mix_zero]; exact HB1.out.2.2.1, HB1.out.2.2.2.1, HB1.out.2.2.2.2⟩⟩
      case round =>
        obtain ⟨k, rfl, hk, H3⟩ := hrel
        by_cases hkn : k < n
        · have hdk : decide ((k : Int) < (n : Int)) = true := by simp; omega
          have hk2 : IntKind.i64.wrap ((k : Int) + 1) = ((k + 1 : Nat) : Int) := by have := HN.out; rw [IntKind.wrap_i64]; omega
          have x1 := bl_range H3.out.2.2.1 hkn
          rw [mix_at] at x1
          have x2 := bl_range H3.out.2.2.2.2 hkn
          have x3 := H3.out.2.2.1.frozen k
          have hms := mix_succ k a X
          generalize a k = p at *
          generalize X k = q at *
          have HMS := Lib.hid hms
          clear hms
          cases p with
          | true =>
            go_wp2
            refine ⟨⟨k + 1, by go_num, hkn, Lib.hid ⟨H3.out.1.setCell (p := ⟨_, _, none⟩) (by simp) _, H3.out.2.1.far (by simp) _, ?_, H3.out.2.2.2.1.far (by simp; omega) _, H3.out.2.2.2.2.far (by simpa using hne) _⟩⟩, by simp [intOf]; omega⟩
            rw [← HMS.out, ← bl_set]
            exact H3.out.2.2.1.put _ _
          | false =>
            go_wp2
            refine ⟨⟨k + 1, by go_num, hkn, Lib.hid ⟨H3.out.1.setCell (p := ⟨_, _, none⟩) (by simp) _, H3.out.2.1.far (by simp) _, ?_, H3.out.2.2.2.1.far (by simp; omega) _, H3.out.2.2.2.2.far (by simpa using hne) _⟩⟩, by simp [intOf]; omega⟩
            rw [← HMS.out, ← bl_set]
            exact H3.out.2.2.1.put _ _
        · have hdk : decide ((k : Int) < (n : Int)) = false := by simp; omega
          obtain rfl : k = n := by omega
          go_wp2
          refine ⟨⟨j + 1, by go_num, hp, Lib.hid ⟨H3.out.1, H3.out.2.1, ?_, H3.out.2.2.2.1⟩⟩, by simp [intOf]; omega⟩
          have h := H3.out.2.2.1
          rw [mix_all] at h
          rw [bl_congr (g := orB a X) fun i _ => HTK.out i]
          exact h
    · have hdl : decide ((j : Int) < (l.length : Int)) = false := by simp; omega
      obtain rfl : j = l.length := by omega
      have HH2 := HH
      rw [List.take_length] at HH2
      clear HH hbl
      go_wp2
      go_ret
      exact ⟨_, rfl, by omega, HH2.out.2.2.1, HH2.out.1⟩

end Go.Proofs.Ytgbljnnmhmlifaa

