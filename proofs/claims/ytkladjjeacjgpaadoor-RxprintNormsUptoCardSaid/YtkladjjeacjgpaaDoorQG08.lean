/-
  WHAT hackleref04's At, Takes AND Begins ANSWER, at every tree that may be. Condition: each node of the tree may be; the text has at most 2^30 bytes.
-/
import Derived.Deep.RegionHeld
import Derived.Test.YtkladjjeacjgpaaDoorQEnds3
import Derived.Test.YtkladjjeacjgpaaDoorQG06
import Derived.Test.YtkladjjeacjgpaaDoorQG04
import Derived.Test.YtkladjjeacjgpaaDoorQG05
namespace Go.Proofs.YtkladjjeacjgpaaDoor
open Go.RowKit

/-- the one place -/
def atP (p : Nat) : Nat → Bool := updS (fun _ => false) p true

set_option maxHeartbeats 2000000 in
theorem refAt_any (s : ByteArray) (hs30 : s.size ≤ 1073741824) (n : Nat) (hn : n = s.size + 1) (p : Nat) (hp : p < n) (w : World) :
    Calls Tryd.prog 29 #[.string s, .int .i64 p] w (EndsIs n (atP p) w) := by
  have hw0 : IntKind.i64.wrap ((s.size : Int) + 1) = ((n : Nat) : Int) := by rw [IntKind.wrap_i64]; omega
  have hmk := fun w => make_bools n (by omega) w
  have hnew := BlkIs.new w 4 (bl n (fun _ => false))
  have d1 := bl_range hnew hp
  have d2 := hnew.frozen p
  have hpi : (p : Int) < (n : Int) := by omega
  have HNW := Lib.hid hnew
  clear hnew hn
  unfold EndsIs
  go_enter Tryd.func29, Tryd.ntmps29
  go_wp2
  go_ret
  refine ⟨_, rfl, Nat.le_refl _, ?_, (Below.refl _ _).alloc (Nat.le_refl _) _⟩
  rw [bl_set]
  exact BlkIs.new _ _ _

def Tree.takes (s : List UInt8) (T : Tree) : Bool := T.ends s (atP 0) s.length

theorem exec_load4 {P : Program} {o : Oper} {a : Act} {w : World} {v : Value} (t : TypeId) (x : Operand) (p : Value) (ho : o.op = .load t x) (hx : a.eval x = p) (h : (Instr.loadAt t p).run P w = .ok v w) : (execOp a.eval o).run P w = .ok (.value v) w := by
  unfold execOp
  simp only [ho, hx, Sem.run_bind, Sem.run_pure, h, Result.andThen_ok]
theorem loadRe {w : World} {g : Nat} {k : Int} {m : Nat → Bool} {A : Option Addr} {q c : Nat} {lo hi : Int} (h : BlkIs w g 27 (reL k m A q c lo hi).toArray) : (Instr.loadAt 27 (.pointer (some ⟨g, 0, none⟩))).run Tryd.prog w = .ok (reV k m A q c lo hi) w := by
  unfold reL at h
  obtain ⟨c0, c1, c2, c3, c4, c5, c6, c7⟩ := h.eight
  unfold reV reL
  go_simp

set_option maxHeartbeats 4000000 in
theorem refTakes_any (T : Tree) (v : Value) (s : ByteArray) (hs30 : s.size ≤ 1073741824) (w : World) (hok : T.ok = true) (hat : T.At w v) :
    Calls Tryd.prog 14 #[v, .string s] w fun e w' => e = .returned (.bool (T.takes s.data.toList)) ∧ Below w.heap.size w w' := by
  obtain ⟨n, hn⟩ : ∃ n, n = s.size + 1 := ⟨_, rfl⟩
  have HAt := Lib.hid (fun W => refAt_any s hs30 n hn 0 (by omega) W)
  have HEn := Lib.hid (fun W (g0 : Nat) (h : T.At W v) (f : Nat → Bool) (hf : BlkIs W g0 4 (bl n f)) => refEnds_any s hs30 n hn T v W g0 f hok h hf)
  have htk : T.takes s.data.toList = T.ends s.data.toList (atP 0) s.size := rfl
  have hlt : s.size < n := by omega
  have hli : (s.size : Int) < (n : Int) := by omega
  rw [htk]
  cases T with
  | node k m l lo hi =>
  have HAT := Lib.hid hat
  obtain ⟨A, c, rfl, _, _⟩ := hat.open
  have hB0 : Below w.heap.size w (w.alloc (.cells (reL k m A l.length c lo hi).toArray 27)) := (Below.refl _ _).alloc (Nat.le_refl _) _
  have hX0 := BlkIs.new w 27 (reL k m A l.length c lo hi).toArray
  have HN := Lib.hid hn
  clear hat hn htk
  unfold EndsIs reV reL at *
  go_enter Tryd.func14, Tryd.ntmps14
  go_wp2_with fail
  have HB := Lib.hid hB0
  have HX := Lib.hid hX0
  clear hB0 hX0
  generalize w.alloc (.cells #[.int .i64 k, .int .u64 (wd m 0 : Nat), .int .u64 (wd m 1 : Nat), .int .u64 (wd m 2 : Nat), .int .u64 (wd m 3 : Nat), .slice A l.length c, .int .i64 lo, .int .i64 hi] 27) = w2 at *
  refine wp_region_held_drew (S := fun u => Below w.heap.size w u ∧ BlkIs u w.heap.size 27 (reL k m A l.length c lo hi).toArray) (by kernel_rfl) ⟨HB.out.drew, HX.out.drew⟩ ?_
  intro hS0
  refine wpAnyH_take (i := 0) (v := reV k m A l.length c lo hi) rfl (by kernel_rfl) (by kernel_rfl) (by kernel_rfl) (fun _ _ _ h => h) (.inl ⟨rfl, fun u hu => exec_load4 27 (.tmp 2) _ rfl rfl (loadRe hu.2)⟩) hS0 ?_
  refine wpAnyH_take (i := 1) (v := .string s) rfl (by kernel_rfl) (by kernel_rfl) (by kernel_rfl) (fun _ _ _ h => h) (.inl ⟨rfl, fun u hu => by go_simp⟩) hS0 ?_
  refine wpAnyH_take (i := 2) (v := .string s) rfl (by kernel_rfl) (by kernel_rfl) (by kernel_rfl) (fun _ _ _ h => h) (.inl ⟨rfl, fun u hu => by go_simp⟩) hS0 ?_
  refine wpAnyH_take (i := 5) (v := .string s) rfl (by kernel_rfl) (by kernel_rfl) (by kernel_rfl) (fun _ _ _ h => h) (.inl ⟨rfl, fun u hu => by go_simp⟩) hS0 ?_
  refine wpAnyH_take (i := 6) (v := .int .i64 (s.size : Nat)) rfl (by kernel_rfl) (by kernel_rfl) (by kernel_rfl) (fun _ _ _ h => h) (.inl ⟨rfl, fun u hu => by go_simp⟩) hS0 ?_
  refine wpAnyH_ready (rs := [3]) (by kernel_rfl) (by simp) ?_
  refine AllReadyH.cons rfl (fun K hK => ?_) AllReadyH.nil
  go_simp
  go_at_call 29
  refine (HAt.out _).mono ?_
  rintro e w3 ⟨g3, rfl, hg3, hr3, hb3⟩
  refine hK.out _ _ ⟨hS0.1.trans (hb3.mono hS0.1.size), hS0.2.step hb3⟩ (fun hS => ?_)
  clear hK K
  have HR3 := Lib.hid hr3
  have HE := Lib.hid (HEn.out _ g3 (HAT.out.step hS.1) _ hr3)
  clear hS0 hb3 hr3 hg3
  refine wpAnyH_ready (rs := [4]) (by kernel_rfl) (by simp) ?_
  refine AllReadyH.cons rfl (fun K hK => ?_) AllReadyH.nil
  go_simp
  go_at_call 28
  refine HE.out.mono ?_
  rintro e w4 ⟨g4, rfl, hg4, hr4, hb4⟩
  refine hK.out _ _ ⟨hS.1.trans (hb4.mono hS.1.size), hS.2.step hb4⟩ (fun hS2 => ?_)
  clear hK K
  have d4 := bl_range hr4 hlt
  clear hS hb4 hr4 hg4 HE
  refine wpAnyH_ready (rs := [7]) (by kernel_rfl) (by simp) ?_
  refine AllReadyH.cons rfl (fun K hK => ?_) AllReadyH.nil
  go_simp
  refine hK.out _ _ hS2 (fun hS3 => ?_)
  clear hK K
  refine wpAnyH_ready (rs := [8]) (by kernel_rfl) (by simp) ?_
  refine AllReadyH.cons rfl (fun K hK => ?_) AllReadyH.nil
  go_simp
  refine hK.out _ _ hS2 (fun hS4 => ?_)
  clear hK K
  refine wpAnyH_ready (rs := [9]) (by kernel_rfl) (by simp) ?_
  refine AllReadyH.cons rfl (fun K hK => ?_) AllReadyH.nil
  go_simp
  refine hK.out _ _ hS2 (fun hS5 => ?_)
  clear hK K
  refine wpAnyH_done (by kernel_rfl) ?_ _
  go_wp2
  go_ret
  exact ⟨rfl, hS2.1⟩

end Go.Proofs.YtkladjjeacjgpaaDoor

/-
  WITH WHICH BYTES A TREE's TEXTS BEGIN AND END: what is said of no program: the places of Ends against whether a tree has the empty text, no text, and its first and last bytes. Condition: each node of the tree may be.
-/
namespace Go.Proofs.YtkladjjeacjgpaaDoor

mutual
/-- the empty text is one of its -/
def Tree.empty : Tree → Bool
  | .node k _ l lo _ => if k = 0 then true else if k = 1 then false else if k = 2 then allEmpty l else if k = 3 then anyEmpty l else (decide (lo ≤ 0) || headEmpty l)
def allEmpty : List Tree → Bool
  | [] => true
  | t :: r => t.empty && allEmpty r
def anyEmpty : List Tree → Bool
  | [] => false
  | t :: r => t.empty || anyEmpty r
def headEmpty : List Tree → Bool
  | [] => false
  | t :: _ => t.empty
end
mutual
/-- a text of its begins with b -/
def Tree.first (b : Nat) : Tree → Bool
  | .node k m l _ hi => if k = 0 then false else if k = 1 then m b else if k = 2 then (!anyVoid l && firstCat b l) else if k = 3 then firstAlt b l else (decide (hi ≠ 0) && headFirst b l)
def firstCat (b : Nat) : List Tree → Bool
  | [] => false
  | t :: r => t.first b || (t.empty && firstCat b r)
def firstAlt (b : Nat) : List Tree → Bool
  | [] => false
  | t :: r => t.first b || firstAlt b r
def headFirst (b : Nat) : List Tree → Bool
  | [] => false
  | t :: _ => t.first b
end
mutual
/-- a text of its ends with b -/
def Tree.last (b : Nat) : Tree → Bool
  | .node k m l _ hi => if k = 0 then false else if k = 1 then m b else if k = 2 then (!anyVoid l && lastCat b l) else if k = 3 then lastAlt b l else (decide (hi ≠ 0) && headLast b l)
def lastCat (b : Nat) : List Tree → Bool
  | [] => false
  | t :: r => lastCat b r || (allEmpty r && t.last b)
def lastAlt (b : Nat) : List Tree → Bool
  | [] => false
  | t :: r => t.last b || lastAlt b r
def headLast (b : Nat) : List Tree → Bool
  | [] => false
  | t :: _ => t.last b
end

section
variable (b : Nat) (m : Nat → Bool) (l : List Tree) (lo hi : Int)
theorem first_1 : Tree.first b (.node 1 m l lo hi) = m b := by unfold Tree.first; rw [if_neg (by decide), if_pos rfl]
theorem last_1 : Tree.last b (.node 1 m l lo hi) = m b := by unfold Tree.last; rw [if_neg (by decide), if_pos rfl]
theorem first_2 : Tree.first b (.node 2 m l lo hi) = (!anyVoid l && firstCat b l) := by unfold Tree.first; rw [if_neg (by decide), if_neg (by decide), if_pos rfl]
theorem last_2 : Tree.last b (.node 2 m l lo hi) = (!anyVoid l && lastCat b l) := by unfold Tree.last; rw [if_neg (by decide), if_neg (by decide), if_pos rfl]
theorem first_3 : Tree.first b (.node 3 m l lo hi) = firstAlt b l := by unfold Tree.first; rw [if_neg (by decide), if_neg (by decide), if_neg (by decide), if_pos rfl]
theorem last_3 : Tree.last b (.node 3 m l lo hi) = lastAlt b l := by unfold Tree.last; rw [if_neg (by decide), if_neg (by decide), if_neg (by decide), if_pos rfl]
theorem first_4 : Tree.first b (.node 4 m l lo hi) = (decide (hi ≠ 0) && headFirst b l) := by unfold Tree.first; rw [if_neg (by decide), if_neg (by decide), if_neg (by decide), if_neg (by decide)]
theorem last_4 : Tree.last b (.node 4 m l lo hi) = (decide (hi ≠ 0) && headLast b l) := by unfold Tree.last; rw [if_neg (by decide), if_neg (by decide), if_neg (by decide), if_neg (by decide)]
end

/-- the byte at a place -/
def byteAt (s : List UInt8) (i : Nat) : Nat := (s.getD i 0).toNat

/-- what a way from j to k says -/
def Way (s : List UInt8) (e : Bool) (fi la : Nat → Bool) (j k : Nat) : Prop := j ≤ k ∧ (j = k → e = true) ∧ (j < k → k ≤ s.length ∧ fi (byteAt s j) = true ∧ la (byteAt s (k - 1)) = true)

/-- EACH WAY OF A TREE -/
def Ways (s : List UInt8) (T : Tree) : Prop := ∀ (f : Nat → Bool) (k : Nat), T.ends s f k = true → T.void = false ∧ ∃ j, f j = true ∧ Way s T.empty (fun b => T.first b) (fun b => T.last b) j k

theorem ways_cat (s : List UInt8) : ∀ (l : List Tree), (∀ t ∈ l, Ways s t) → ∀ (f : Nat → Bool) (k : Nat), endsCat s l f k = true → anyVoid l = false ∧ ∃ j, f j = true ∧ Way s (allEmpty l) (fun b => firstCat b l) (fun b => lastCat b l) j k
  | [], _, f, k, h => ⟨rfl, k, h, Nat.le_refl _, fun _ => rfl, fun h => absurd h (by omega)⟩
  | t :: r, hw, f, k, h => by
    unfold endsCat at h
    obtain ⟨hv, j', h1, h2, h3, h4⟩ := ways_cat s r (fun t ht => hw t (by simp [ht])) _ k h
    obtain ⟨hv', j, g1, g2, g3, g4⟩ := hw t (by simp) f j' h1
    refine ⟨by unfold anyVoid; rw [hv, hv']; rfl, j, g1, by omega, fun e => ?_, fun e => ?_⟩
    · unfold allEmpty
      rw [g3 (by omega), h3 (by omega)]; rfl
    · unfold firstCat lastCat
      by_cases e1 : j < j'
      · obtain ⟨a1, a2, a3⟩ := g4 e1
        by_cases e2 : j' < k
        · obtain ⟨b1, b2, b3⟩ := h4 e2
          try dsimp only at *
          exact ⟨b1, by rw [a2]; rfl, by rw [b3]; rfl⟩
        · have : j' = k := by omega
          subst this
          try dsimp only at *
          exact ⟨a1, by rw [a2]; rfl, by rw [h3 rfl, a3]; simp⟩
      · have : j = j' := by omega
        subst this
        obtain ⟨b1, b2, b3⟩ := h4 (by omega)
        try dsimp only at *
        exact ⟨b1, by rw [g3 rfl, b2]; simp, by rw [b3]; rfl⟩

theorem ways_alt (s : List UInt8) : ∀ (l : List Tree), (∀ t ∈ l, Ways s t) → ∀ (f : Nat → Bool) (k : Nat), endsAlt s l f k = true → allVoid l = false ∧ ∃ j, f j = true ∧ Way s (anyEmpty l) (fun b => firstAlt b l) (fun b => lastAlt b l) j k
  | [], _, f, k, h => by simp [endsAlt] at h
  | t :: r, hw, f, k, h => by
    unfold endsAlt orB at h
    rw [Bool.or_eq_true] at h
    unfold allVoid anyEmpty
    rcases h with h | h
    · obtain ⟨hv, j, h1, h2, h3, h4⟩ := hw t (by simp) f k h
      refine ⟨by rw [hv]; rfl, j, h1, h2, fun e => by rw [h3 e]; rfl, fun e => ?_⟩
      obtain ⟨a1, a2, a3⟩ := h4 e
      unfold firstAlt lastAlt
      try dsimp only at *
      exact ⟨a1, by rw [a2]; rfl, by rw [a3]; rfl⟩
    · obtain ⟨hv, j, h1, h2, h3, h4⟩ := ways_alt s r (fun t ht => hw t (by simp [ht])) f k h
      refine ⟨by rw [hv]; simp, j, h1, h2, fun e => by rw [h3 e]; simp, fun e => ?_⟩
      obtain ⟨a1, a2, a3⟩ := h4 e
      unfold firstAlt lastAlt
      try dsimp only at *
      exact ⟨a1, by rw [a2]; simp, by rw [a3]; simp⟩

theorem ways_iter (s : List UInt8) (t : Tree) (hw : Ways s t) (f : Nat → Bool) : ∀ (n k : Nat), iterE (t.ends s) n f k = true →
    (0 < n → t.void = false) ∧ ∃ j, f j = true ∧ j ≤ k ∧ (j = k → n = 0 ∨ t.empty = true) ∧ (j < k → 0 < n ∧ k ≤ s.length ∧ t.first (byteAt s j) = true ∧ t.last (byteAt s (k - 1)) = true)
  | 0, k, h => ⟨fun h => absurd h (by omega), k, h, Nat.le_refl _, fun _ => .inl rfl, fun h => absurd h (by omega)⟩
  | n + 1, k, h => by
    obtain ⟨hv, j', g1, g2, g3, g4⟩ := hw _ k h
    obtain ⟨_, j, h1, h2, h3, h4⟩ := ways_iter s t hw f n j' g1
    refine ⟨fun _ => hv, j, h1, by omega, fun e => .inr (g3 (by omega)), fun e => ?_⟩
    refine ⟨by omega, ?_⟩
    by_cases e1 : j' < k
    · obtain ⟨a1, a2, a3⟩ := g4 e1
      by_cases e2 : j < j'
      · obtain ⟨b0, b1, b2, b3⟩ := h4 e2
        try dsimp only at *
        exact ⟨a1, b2, a3⟩
      · have : j = j' := by omega
        subst this
        try dsimp only at *
        exact ⟨a1, a2, a3⟩
    · have : j' = k := by omega
      subst this
      obtain ⟨b0, b1, b2, b3⟩ := h4 (by omega)
      try dsimp only at *
      exact ⟨b1, b2, b3⟩

theorem byteAt_get {s : List UInt8} {i : Nat} {c : UInt8} (h : s[i]? = some c) : byteAt s i = c.toNat := by
  unfold byteAt
  rw [List.getD_eq_getElem?_getD, h]; rfl

theorem ways_any (s : List UInt8) : ∀ T : Tree, T.ok = true → Ways s T := by
  intro T
  induction T using Tree.ind with
  | h k m l lo hi ih =>
    intro hok f p h
    obtain ⟨hoks, hn⟩ := ok_open hok
    have hw := fun t ht => ih t ht (hoks t ht)
    have hkind := okNode_kind hn
    unfold Tree.ends at h
    unfold Tree.void Tree.empty
    rcases hkind with ⟨rfl, hl⟩ | ⟨rfl, hl⟩ | ⟨rfl, hl⟩ | ⟨rfl, hl⟩ | ⟨rfl, hl, hlo⟩
    · rw [if_pos rfl] at h
      exact ⟨by simp, p, h, Nat.le_refl _, fun _ => by simp, fun e => absurd e (by omega)⟩
    · rw [if_neg (by decide), if_pos rfl] at h
      cases p with
      | zero => simp [stepB] at h
      | succ i =>
        unfold stepB at h
        rw [Bool.and_eq_true] at h
        obtain ⟨h1, h2⟩ := h
        cases hs : s[i]? with
        | none => rw [hs] at h2; cases h2
        | some c =>
          rw [hs] at h2
          have h2 : m c.toNat = true := h2
          have hlt : i < s.length := (List.getElem?_eq_some_iff.1 hs).1
          refine ⟨?_, i, h1, by omega, fun e => absurd e (by omega), fun _ => ⟨by omega, ?_, ?_⟩⟩
          · rw [if_neg (by decide), if_pos rfl, Bool.eq_false_iff]
            intro he
            have := setEq_iff.1 he c.toNat (by have := UInt8.toNat_lt c; omega)
            rw [h2] at this; cases this
          · show Tree.first (byteAt s i) _ = true
            rw [first_1, byteAt_get hs]; exact h2
          · show Tree.last (byteAt s (i + 1 - 1)) _ = true
            rw [last_1, Nat.add_sub_cancel, byteAt_get hs]; exact h2
    · rw [if_neg (by decide), if_neg (by decide), if_pos rfl] at h
      obtain ⟨hv, j, h1, h2, h3, h4⟩ := ways_cat s l hw f p h
      rw [if_neg (by decide), if_neg (by decide), if_pos rfl, if_neg (by decide), if_neg (by decide), if_pos rfl]
      refine ⟨hv, j, h1, h2, h3, fun e => ?_⟩
      obtain ⟨a1, a2, a3⟩ := h4 e
      refine ⟨a1, ?_, ?_⟩
      · show Tree.first (byteAt s j) _ = true
        rw [first_2, hv]; exact a2
      · show Tree.last (byteAt s (p - 1)) _ = true
        rw [last_2, hv]; exact a3
    · rw [if_neg (by decide), if_neg (by decide), if_neg (by decide), if_pos rfl] at h
      obtain ⟨hv, j, h1, h2, h3, h4⟩ := ways_alt s l hw f p h
      rw [if_neg (by decide), if_neg (by decide), if_neg (by decide), if_pos rfl, if_neg (by decide), if_neg (by decide), if_neg (by decide), if_pos rfl]
      refine ⟨hv, j, h1, h2, h3, fun e => ?_⟩
      obtain ⟨a1, a2, a3⟩ := h4 e
      refine ⟨a1, ?_, ?_⟩
      · show Tree.first (byteAt s j) _ = true
        rw [first_3]; exact a2
      · show Tree.last (byteAt s (p - 1)) _ = true
        rw [last_3]; exact a3
    · rw [if_neg (by decide), if_neg (by decide), if_neg (by decide), if_neg (by decide)] at h
      obtain ⟨t, rfl⟩ : ∃ t, l = [t] := by
        match l, hl with
        | [t], _ => exact ⟨t, rfl⟩
      have hE : headEnds s [t] = t.ends s := by unfold headEnds; rfl
      rw [hE] at h
      unfold repTo at h
      rw [List.any_eq_true] at h
      obtain ⟨q, hq1, hq2⟩ := h
      rw [List.mem_range] at hq1
      rw [Bool.and_eq_true, decide_eq_true_eq] at hq2
      obtain ⟨hq2, hq3⟩ := hq2
      obtain ⟨hv, j, h1, h2, h3, h4⟩ := ways_iter s t (hw t (by simp)) f q p hq3
      rw [if_neg (by decide), if_neg (by decide), if_neg (by decide), if_neg (by decide), if_neg (by decide), if_neg (by decide), if_neg (by decide), if_neg (by decide)]
      unfold headVoid headEmpty
      refine ⟨?_, j, h1, h2, fun e => ?_, fun e => ?_⟩
      · by_cases hl0 : 0 < lo
        · rw [hv (by omega)]; simp
        · rw [decide_eq_false hl0]; rfl
      · rcases h3 e with h | h
        · rw [decide_eq_true (by omega)]; rfl
        · rw [h]; simp
      · obtain ⟨a0, a1, a2, a3⟩ := h4 e
        have hh0 : hi ≠ 0 := by
          intro e0
          subst e0
          unfold mostOf at hq1
          rw [if_neg (by omega)] at hq1
          simp at hq1; omega
        refine ⟨a1, ?_, ?_⟩
        · show Tree.first (byteAt s j) _ = true
          rw [first_4, decide_eq_true hh0]; unfold headFirst; exact a2
        · show Tree.last (byteAt s (p - 1)) _ = true
          rw [last_4, decide_eq_true hh0]; unfold headLast; exact a3

theorem stays_cat (s : List UInt8) (p : Nat) : ∀ (l : List Tree), (∀ t ∈ l, ∀ f : Nat → Bool, t.empty = true → f p = true → t.ends s f p = true) → ∀ f : Nat → Bool, allEmpty l = true → f p = true → endsCat s l f p = true
  | [], _, f, _, hf => hf
  | t :: r, h, f, he, hf => by
    unfold allEmpty at he
    rw [Bool.and_eq_true] at he
    unfold endsCat
    exact stays_cat s p r (fun t ht => h t (by simp [ht])) _ he.2 (h t (by simp) f he.1 hf)
theorem stays_alt (s : List UInt8) (p : Nat) : ∀ (l : List Tree), (∀ t ∈ l, ∀ f : Nat → Bool, t.empty = true → f p = true → t.ends s f p = true) → ∀ f : Nat → Bool, anyEmpty l = true → f p = true → endsAlt s l f p = true
  | [], _, f, he, hf => by simp [anyEmpty] at he
  | t :: r, h, f, he, hf => by
    unfold anyEmpty at he
    rw [Bool.or_eq_true] at he
    unfold endsAlt orB
    rcases he with he | he
    · rw [h t (by simp) f he hf]; rfl
    · rw [stays_alt s p r (fun t ht => h t (by simp [ht])) f he hf]; simp
/-- THE EMPTY TEXT ENDS WHERE IT BEGINS -/
theorem empty_stays (s : List UInt8) (p : Nat) : ∀ T : Tree, T.ok = true → ∀ f : Nat → Bool, T.empty = true → f p = true → T.ends s f p = true := by
  intro T
  induction T using Tree.ind with
  | h k m l lo hi ih =>
    intro hok f he hf
    obtain ⟨hoks, hn⟩ := ok_open hok
    have hw := fun t ht => ih t ht (hoks t ht)
    have hkind := okNode_kind hn
    unfold Tree.ends
    unfold Tree.empty at he
    rcases hkind with ⟨rfl, hl⟩ | ⟨rfl, hl⟩ | ⟨rfl, hl⟩ | ⟨rfl, hl⟩ | ⟨rfl, hl, hlo⟩
    · rw [if_pos rfl]; exact hf
    · rw [if_neg (by decide), if_pos rfl] at he; cases he
    · rw [if_neg (by decide), if_neg (by decide), if_pos rfl] at he ⊢
      exact stays_cat s p l hw f he hf
    · rw [if_neg (by decide), if_neg (by decide), if_neg (by decide), if_pos rfl] at he ⊢
      exact stays_alt s p l hw f he hf
    · rw [if_neg (by decide), if_neg (by decide), if_neg (by decide), if_neg (by decide)] at he ⊢
      obtain ⟨t, rfl⟩ : ∃ t, l = [t] := by
        match l, hl with
        | [t], _ => exact ⟨t, rfl⟩
      have hE : headEnds s [t] = t.ends s := by unfold headEnds; rfl
      rw [hE]
      unfold headEmpty at he
      rw [Bool.or_eq_true, decide_eq_true_eq] at he
      unfold repTo
      rw [List.any_eq_true]
      rcases he with he | he
      · exact ⟨0, by rw [List.mem_range]; omega, by rw [decide_eq_true (by omega)]; exact hf⟩
      · have hit : ∀ q, iterE (t.ends s) q f p = true := by
          intro q
          induction q with
          | zero => exact hf
          | succ q ihq => exact hw t (by simp) _ he ihq
        refine ⟨lo.toNat, by rw [List.mem_range]; unfold mostOf; split <;> omega, by rw [hit]; simp⟩

/-- at place 0 ends what is empty -/
theorem ends_zero (s : List UInt8) (T : Tree) (hok : T.ok = true) (f : Nat → Bool) : T.ends s f 0 = (f 0 && T.empty) := by
  by_cases h : T.ends s f 0 = true
  · obtain ⟨_, j, h1, h2, h3, _⟩ := ways_any s T hok f 0 h
    obtain rfl : j = 0 := by omega
    rw [h, h1, h3 rfl]; rfl
  · have h2 : T.ends s f 0 = false := by simpa using h
    rw [h2]
    by_cases hf : f 0 = true
    · by_cases he : T.empty = true
      · exact absurd (empty_stays s 0 T hok f he hf) h
      · rw [hf, Bool.true_and]; simpa using Eq.symm (by simpa using he : T.empty = false)
    · have : f 0 = false := by simpa using hf
      rw [this]; rfl
theorem takes_nil (T : Tree) (hok : T.ok = true) : T.takes [] = T.empty := by
  unfold Tree.takes
  rw [List.length_nil, ends_zero _ _ hok]
  rfl
/-- EACH TEXT BEGINS AND ENDS WITH BYTES THAT ARE TOLD -/
theorem takes_some (T : Tree) (hok : T.ok = true) (s : List UInt8) (hs : s ≠ []) (h : T.takes s = true) : T.first (byteAt s 0) = true ∧ T.last (byteAt s (s.length - 1)) = true ∧ T.void = false := by
  unfold Tree.takes at h
  obtain ⟨hv, j, h1, h2, h3, h4⟩ := ways_any s T hok _ _ h
  have hj : j = 0 := by
    unfold atP updS at h1
    by_cases e : j = 0
    · exact e
    · rw [if_neg e] at h1; cases h1
  subst hj
  have hpos : 0 < s.length := List.length_pos_iff.2 hs
  obtain ⟨_, a2, a3⟩ := h4 hpos
  exact ⟨a2, a3, hv⟩

/-! ### what a text begins -/
def beginsRep (B : (Nat → Bool) → Bool) (E : (Nat → Bool) → Nat → Bool) (n : Nat) : Nat → (Nat → Bool) → Bool
  | 0, f => f n
  | q + 1, f => B f || beginsRep B E n q (E f)
mutual
def Tree.begins (s : List UInt8) : Tree → (Nat → Bool) → Bool
  | .node k m l lo hi => fun f => if k = 0 then f s.length else if k = 1 then (if setEq m (fun _ => false) then false else f s.length || (decide (0 < s.length) && (f (s.length - 1) && m (byteAt s (s.length - 1)))))
      else if k = 2 then (if anyVoid l then false else beginsCat s l f) else if k = 3 then beginsAlt s l f
      else (if (decide (0 < lo) && headVoid l) = true then false else if f s.length then true else beginsRep (headBegins s l) (headEnds s l) s.length (mostOf s lo hi) f)
def beginsCat (s : List UInt8) : List Tree → (Nat → Bool) → Bool
  | [] => fun f => f s.length
  | t :: r => fun f => t.begins s f || beginsCat s r (t.ends s f)
def beginsAlt (s : List UInt8) : List Tree → (Nat → Bool) → Bool
  | [] => fun _ => false
  | t :: r => fun f => t.begins s f || beginsAlt s r f
def headBegins (s : List UInt8) : List Tree → (Nat → Bool) → Bool
  | [] => fun _ => false
  | t :: _ => t.begins s
end

/-- of a text of one byte -/
def One (c : UInt8) (T : Tree) : Prop := ∀ f : Nat → Bool, T.begins [c] f = (!T.void && (f 1 || (f 0 && T.first c.toNat)))

theorem ends_one (c : UInt8) (T : Tree) (hok : T.ok = true) (f : Nat → Bool) (h : T.ends [c] f 1 = true) : T.void = false ∧ (f 1 = true ∨ (f 0 = true ∧ T.first c.toNat = true)) := by
  obtain ⟨hv, j, h1, h2, h3, h4⟩ := ways_any [c] T hok f 1 h
  refine ⟨hv, ?_⟩
  by_cases e : j = 1
  · subst e; exact .inl h1
  · obtain rfl : j = 0 := by omega
    obtain ⟨_, a2, _⟩ := h4 (by omega)
    exact .inr ⟨h1, a2⟩

theorem one_cat (c : UInt8) : ∀ (l : List Tree), (∀ t ∈ l, t.ok = true ∧ One c t) → anyVoid l = false → ∀ f : Nat → Bool, beginsCat [c] l f = (f 1 || (f 0 && firstCat c.toNat l))
  | [], _, _, f => by simp [beginsCat, firstCat]
  | t :: r, h, hv, f => by
    unfold anyVoid at hv
    rw [Bool.or_eq_false_iff] at hv
    obtain ⟨hok, h1⟩ := h t (by simp)
    unfold beginsCat firstCat
    rw [h1 f, one_cat c r (fun t ht => h t (by simp [ht])) hv.2, hv.1, ends_zero _ _ hok]
    have he := ends_one c t hok f
    generalize t.ends [c] f 1 = x at *
    cases x
    · generalize f 1 = a; generalize f 0 = b; generalize t.first c.toNat = d; generalize t.empty = e; generalize firstCat c.toNat r = g
      cases a <;> cases b <;> cases d <;> cases e <;> cases g <;> rfl
    · obtain ⟨_, he⟩ := he rfl
      generalize f 1 = a at *; generalize f 0 = b at *; generalize t.first c.toNat = d at *; generalize t.empty = e; generalize firstCat c.toNat r = g
      cases a <;> cases b <;> cases d <;> cases e <;> cases g <;> first | rfl | simp at he

theorem void_first (b : Nat) : ∀ T : Tree, T.ok = true → b < 256 → T.void = true → T.first b = false := by
  intro T
  induction T using Tree.ind with
  | h k m l lo hi ih =>
    intro hok hb hv
    obtain ⟨hoks, hn⟩ := ok_open hok
    have hkind := okNode_kind hn
    unfold Tree.void at hv
    rcases hkind with ⟨rfl, hl⟩ | ⟨rfl, hl⟩ | ⟨rfl, hl⟩ | ⟨rfl, hl⟩ | ⟨rfl, hl, hlo⟩
    · rw [if_pos rfl] at hv; cases hv
    · rw [if_neg (by decide), if_pos rfl] at hv
      rw [first_1]
      exact setEq_iff.1 hv b hb
    · rw [if_neg (by decide), if_neg (by decide), if_pos rfl] at hv
      rw [first_2, hv]; rfl
    · rw [if_neg (by decide), if_neg (by decide), if_neg (by decide), if_pos rfl] at hv
      rw [first_3]
      have hall : ∀ t ∈ l, t.first b = false := fun t ht => ih t ht (hoks t ht) hb (allVoid_iff.1 hv t ht)
      clear ih hoks hn hok hl hv
      induction l with
      | nil => rfl
      | cons t r ihr => unfold firstAlt; rw [hall t (by simp), ihr (fun t ht => hall t (by simp [ht]))]; rfl
    · rw [if_neg (by decide), if_neg (by decide), if_neg (by decide), if_neg (by decide)] at hv
      obtain ⟨t, rfl⟩ : ∃ t, l = [t] := by
        match l, hl with
        | [t], _ => exact ⟨t, rfl⟩
      unfold headVoid at hv
      rw [Bool.and_eq_true] at hv
      rw [first_4]
      unfold headFirst
      rw [ih t (by simp) (hoks t (by simp)) hb hv.2]; simp

theorem one_alt (c : UInt8) : ∀ (l : List Tree), (∀ t ∈ l, t.ok = true ∧ One c t) → ∀ f : Nat → Bool, beginsAlt [c] l f = (!allVoid l && (f 1 || (f 0 && firstAlt c.toNat l)))
  | [], _, f => by simp [beginsAlt, allVoid]
  | t :: r, h, f => by
    obtain ⟨hok, h1⟩ := h t (by simp)
    unfold beginsAlt allVoid firstAlt
    rw [h1 f, one_alt c r (fun t ht => h t (by simp [ht]))]
    have hv := void_first c.toNat t hok (by have := UInt8.toNat_lt c; omega)
    have hr : allVoid r = true → firstAlt c.toNat r = false := by
      intro hr
      have hall : ∀ t ∈ r, t.first c.toNat = false := fun t ht => void_first c.toNat t (h t (by simp [ht])).1 (by have := UInt8.toNat_lt c; omega) (allVoid_iff.1 hr t ht)
      clear h hr hv h1 hok
      induction r with
      | nil => rfl
      | cons t r ihr => unfold firstAlt; rw [hall t (by simp), ihr (fun t ht => hall t (by simp [ht]))]; rfl
    generalize f 1 = a; generalize f 0 = b; generalize t.first c.toNat = d at *; generalize t.void = e at *; generalize firstAlt c.toNat r = g at *; generalize allVoid r = q at *
    cases a <;> cases b <;> cases d <;> cases e <;> cases g <;> cases q <;> first | rfl | exact absurd (hv rfl) (by simp) | exact absurd (hr rfl) (by simp)

theorem one_rep_void (c : UInt8) (t : Tree) (hok : t.ok = true) (h1 : One c t) (hv : t.void = true) : ∀ (q : Nat) (f : Nat → Bool), f 1 = false → beginsRep (t.begins [c]) (t.ends [c]) 1 q f = false
  | 0, f, hf => hf
  | q + 1, f, hf => by
    unfold beginsRep
    rw [h1 f, hv]
    have he : t.ends [c] f 1 = false := by
      rw [Bool.eq_false_iff]; intro h
      rw [(ends_one c t hok f h).1] at hv; cases hv
    rw [one_rep_void c t hok h1 hv q _ he]; rfl
theorem one_rep_none (c : UInt8) (t : Tree) (hok : t.ok = true) (h1 : One c t) : ∀ (q : Nat) (f : Nat → Bool), f 1 = false → (f 0 && t.first c.toNat) = false → beginsRep (t.begins [c]) (t.ends [c]) 1 q f = false
  | 0, f, hf, _ => hf
  | q + 1, f, hf, hg => by
    unfold beginsRep
    have he : t.ends [c] f 1 = false := by
      rw [Bool.eq_false_iff]; intro h
      rcases (ends_one c t hok f h).2 with h2 | ⟨h2, h3⟩
      · rw [hf] at h2; cases h2
      · rw [h2, h3] at hg; cases hg
    have he0 : (t.ends [c] f 0 && t.first c.toNat) = false := by
      rw [ends_zero _ _ hok]
      generalize f 0 = b at *; generalize t.first c.toNat = d at *; generalize t.empty = e
      cases b <;> cases d <;> cases e <;> first | rfl | cases hg
    rw [h1 f, one_rep_none c t hok h1 q _ he he0, hf, hg]; simp

section
variable (m : Nat → Bool) (l : List Tree) (lo hi : Int)
theorem void_0 : Tree.void (.node 0 m l lo hi) = false := by unfold Tree.void; rw [if_pos rfl]
theorem void_1 : Tree.void (.node 1 m l lo hi) = setEq m (fun _ => false) := by unfold Tree.void; rw [if_neg (by decide), if_pos rfl]
theorem void_2 : Tree.void (.node 2 m l lo hi) = anyVoid l := by unfold Tree.void; rw [if_neg (by decide), if_neg (by decide), if_pos rfl]
theorem void_3 : Tree.void (.node 3 m l lo hi) = allVoid l := by unfold Tree.void; rw [if_neg (by decide), if_neg (by decide), if_neg (by decide), if_pos rfl]
theorem void_4 : Tree.void (.node 4 m l lo hi) = (decide (0 < lo) && headVoid l) := by unfold Tree.void; rw [if_neg (by decide), if_neg (by decide), if_neg (by decide), if_neg (by decide)]
end

/-- WITH WHICH BYTES TEXTS BEGIN: just those that begin one -/
theorem one_any (c : UInt8) : ∀ T : Tree, T.ok = true → One c T := by
  intro T
  induction T using Tree.ind with
  | h k m l lo hi ih =>
    intro hok f
    obtain ⟨hoks, hn⟩ := ok_open hok
    have hw : ∀ t ∈ l, t.ok = true ∧ One c t := fun t ht => ⟨hoks t ht, ih t ht (hoks t ht)⟩
    have hkind := okNode_kind hn
    have hc : c.toNat < 256 := by have := UInt8.toNat_lt c; omega
    unfold Tree.begins
    rcases hkind with ⟨rfl, hl⟩ | ⟨rfl, hl⟩ | ⟨rfl, hl⟩ | ⟨rfl, hl⟩ | ⟨rfl, hl, hlo⟩
    · have : Tree.first c.toNat (.node 0 m l lo hi) = false := by unfold Tree.first; rw [if_pos rfl]
      rw [if_pos rfl, void_0, this]
      show f 1 = _
      simp
    · rw [if_neg (by decide), if_pos rfl, void_1, first_1]
      by_cases he : setEq m (fun _ => false) = true
      · rw [if_pos he, he]; rfl
      · rw [if_neg he]
        have : setEq m (fun _ => false) = false := by simpa using he
        rw [this]
        show (f 1 || (decide (0 < 1) && (f 0 && m (byteAt [c] 0)))) = _
        have hb : byteAt [c] 0 = c.toNat := rfl
        rw [hb]; simp
    · rw [if_neg (by decide), if_neg (by decide), if_pos rfl, void_2, first_2]
      cases hv : anyVoid l
      · rw [if_neg (by simp), one_cat c l hw hv f]; simp
      · rw [if_pos rfl]; rfl
    · rw [if_neg (by decide), if_neg (by decide), if_neg (by decide), if_pos rfl, void_3, first_3]
      exact one_alt c l hw f
    · rw [if_neg (by decide), if_neg (by decide), if_neg (by decide), if_neg (by decide), void_4, first_4]
      obtain ⟨t, rfl⟩ : ∃ t, l = [t] := by
        match l, hl with
        | [t], _ => exact ⟨t, rfl⟩
      obtain ⟨hokt, h1⟩ := hw t (by simp)
      have hE : headEnds [c] [t] = t.ends [c] := by unfold headEnds; rfl
      have hB : headBegins [c] [t] = t.begins [c] := by unfold headBegins; rfl
      have hV : headVoid [t] = t.void := by unfold headVoid; rfl
      have hF : headFirst c.toNat [t] = t.first c.toNat := by unfold headFirst; rfl
      rw [hE, hB, hV, hF]
      have hlen : [c].length = 1 := rfl
      rw [hlen]
      by_cases hvo : (decide (0 < lo) && t.void) = true
      · rw [if_pos hvo, hvo]; rfl
      · rw [if_neg hvo]
        have hvo2 : (decide (0 < lo) && t.void) = false := by simpa using hvo
        rw [hvo2]
        by_cases hf1 : f 1 = true
        · rw [if_pos hf1, hf1]; rfl
        · rw [if_neg hf1]
          have hf2 : f 1 = false := by simpa using hf1
          rw [hf2]
          by_cases hh0 : hi = 0
          · subst hh0
            have hM : mostOf [c] lo 0 = 0 := by unfold mostOf; rw [if_neg (by omega)]; rfl
            rw [hM]
            show f 1 = _
            rw [hf2]; simp
          · obtain ⟨q, hq⟩ : ∃ q, mostOf [c] lo hi = q + 1 := by
              refine ⟨mostOf [c] lo hi - 1, ?_⟩
              have : 0 < mostOf [c] lo hi := by unfold mostOf; split <;> omega
              omega
            rw [hq, decide_eq_true hh0]
            cases hv : t.void
            · by_cases hg : (f 0 && t.first c.toNat) = true
              · unfold beginsRep
                rw [h1 f, hv, hf2, hg]; simp [hg]
              · have hg2 : (f 0 && t.first c.toNat) = false := by simpa using hg
                rw [one_rep_none c t hokt h1 _ f hf2 hg2]; simp [hg2]
            · rw [one_rep_void c t hokt h1 hv _ f hf2, void_first c.toNat t hokt hc hv]; simp

end Go.Proofs.YtkladjjeacjgpaaDoor

/-
  WHAT hackleref04's Begins ANSWERS at a ReEmpty, a ReCat, a ReAlt and a ReRep, where it answers rightly at their Subs. Condition: the text has at most 2^30 bytes.
-/
namespace Go.Proofs.YtkladjjeacjgpaaDoor
open Go.RowKit

def BoolIs (b : Bool) (w : World) : Ending → World → Prop := fun e w' => e = .returned (.bool b) ∧ Below w.heap.size w w'
theorem beginsAlt_iff (s : List UInt8) (f : Nat → Bool) : ∀ {l : List Tree}, beginsAlt s l f = true ↔ ∃ t ∈ l, t.begins s f = true
  | [] => by simp [beginsAlt]
  | a :: l => by simp only [beginsAlt, Bool.or_eq_true, List.mem_cons, exists_eq_or_imp, beginsAlt_iff s f (l := l)]

end Go.Proofs.YtkladjjeacjgpaaDoor

/-
  WHAT A TEXT AND AN ALTERNATIVE TAKE, and that a tree is alike itself: what is said of no program. No condition.
-/
namespace Go.Proofs.YtkladjjeacjgpaaDoor

mutual
theorem same_refl : ∀ T : Tree, T.same T = true
  | .node k m l lo hi => by
    unfold Tree.same
    simp [setEq_refl, sameL_refl l]
theorem sameL_refl : ∀ l : List Tree, sameL l l = true
  | [] => by unfold sameL; rfl
  | t :: r => by unfold sameL; rw [same_refl t, sameL_refl r]; rfl
end

/-! ### one of several -/
theorem endsAlt_any (s : List UInt8) (f : Nat → Bool) (k : Nat) : ∀ l : List Tree, endsAlt s l f k = l.any fun t => t.ends s f k
  | [] => by unfold endsAlt; rfl
  | t :: r => by
    unfold endsAlt
    rw [List.any_cons, ← endsAlt_any s f k r]
    rfl
theorem alt_takes (s : List UInt8) (l : List Tree) : (rowT 3 (.node 1 (fun _ => false) [] 0 0) l).takes s = l.any fun t => t.takes s := by
  match l with
  | [] =>
    show Tree.ends s (.node 1 (fun _ => false) [] 0 0) (atP 0) s.length = false
    unfold Tree.ends
    rw [if_neg (by decide), if_pos rfl]
    cases s.length with
    | zero => rfl
    | succ i =>
      show (atP 0 i && (match s[i]? with | some c => false | none => false)) = false
      cases s[i]? <;> simp
  | [t] => simp [rowT]
  | t :: t2 :: r =>
    rw [rowT_many 3 _ (by simp)]
    show Tree.ends s (.node 3 (fun _ => false) (t :: t2 :: r) 0 0) (atP 0) s.length = _
    unfold Tree.ends
    rw [if_neg (by decide), if_neg (by decide), if_neg (by decide), if_pos rfl, endsAlt_any]
    rfl

/-! ### a text -/
theorem byte_ends (s : List UInt8) (c : UInt8) (f : Nat → Bool) : (byteT c).ends s f = stepB (sOf [c.toNat]) s f := by
  unfold byteT Tree.ends
  rw [if_neg (by decide), if_pos rfl]
theorem cat_cons (s : List UInt8) (t : Tree) (r : List Tree) (f : Nat → Bool) : endsCat s (t :: r) f = endsCat s r (t.ends s f) := by
  show (fun f => endsCat s r (t.ends s f)) f = _
  rfl
theorem cat_nil (s : List UInt8) (f : Nat → Bool) : endsCat s [] f = f := by
  show (fun f => f) f = f
  rfl
theorem text_far (s : List UInt8) : ∀ (l : List UInt8) (f : Nat → Bool) (k : Nat), endsCat s (l.map byteT) f k = true → ∃ j, f j = true ∧ k = j + l.length
  | [], f, k => fun h => ⟨k, by rw [List.map_nil, cat_nil] at h; exact h, rfl⟩
  | c :: l, f, k => fun h => by
    rw [List.map_cons, cat_cons, byte_ends] at h
    obtain ⟨j, h1, h2⟩ := text_far s l _ k h
    match j, h1, h2 with
    | i + 1, h1, h2 =>
      have h3 : (f i && (match s[i]? with | some x => sOf [c.toNat] x.toNat | none => false)) = true := h1
      rw [Bool.and_eq_true] at h3
      exact ⟨i, h3.1, by rw [List.length_cons]; omega⟩
theorem text_near (s : List UInt8) : ∀ (l : List UInt8) (f : Nat → Bool) (p : Nat), f p = true → (∀ (i : Nat) (h : i < l.length), s[p + i]? = some l[i]) → endsCat s (l.map byteT) f (p + l.length) = true
  | [], f, p => fun h _ => by rw [List.map_nil, cat_nil]; simpa using h
  | c :: l, f, p => fun h hp => by
    rw [List.map_cons, cat_cons, byte_ends]
    have h0 : s[p]? = some c := hp 0 (by simp)
    have h1 : stepB (sOf [c.toNat]) s f (p + 1) = true := by
      show (f p && (match s[p]? with | some x => sOf [c.toNat] x.toNat | none => false)) = true
      rw [h, h0]
      simp [sOf]
    have := text_near s l (stepB (sOf [c.toNat]) s f) (p + 1) h1 (fun i hi => by
      have := hp (i + 1) (by simpa using hi)
      rw [show p + 1 + i = p + (i + 1) by omega, this]
      simp)
    rw [List.length_cons, show p + (l.length + 1) = p + 1 + l.length by omega]
    exact this
theorem text_ends (s s' : List UInt8) : (textT s).takes s' = endsCat s' (s.map byteT) (atP 0) s'.length := by
  unfold Tree.takes textT
  match s with
  | [] =>
    show Tree.ends s' (.node 0 (fun _ => false) [] 0 0) (atP 0) s'.length = _
    unfold Tree.ends
    rw [if_pos rfl, List.map_nil, cat_nil]
  | [c] =>
    show Tree.ends s' (byteT c) (atP 0) s'.length = _
    rw [List.map_cons, List.map_nil, cat_cons, cat_nil]
  | c :: d :: r =>
    rw [rowT_many 2 _ (by simp)]
    unfold Tree.ends
    rw [if_neg (by decide), if_neg (by decide), if_pos rfl]
theorem at_zero {j : Nat} (h : atP 0 j = true) : j = 0 := by
  unfold atP updS at h
  by_cases hj : j = 0
  · exact hj
  · simp [hj] at h
/-- a text takes itself, and nothing of another length -/
theorem text_self (s : List UInt8) : (textT s).takes s = true := by
  rw [text_ends]
  have := text_near s s (atP 0) 0 rfl (fun i hi => by rw [Nat.zero_add]; exact List.getElem?_eq_getElem hi)
  rwa [Nat.zero_add] at this
theorem text_other (s s' : List UInt8) (h : s'.length ≠ s.length) : (textT s).takes s' = false := by
  rw [text_ends]
  cases hc : endsCat s' (s.map byteT) (atP 0) s'.length
  · rfl
  · obtain ⟨j, h1, h2⟩ := text_far s' s _ _ hc
    have := at_zero h1
    omega

/-! ### a text's nodes -/
theorem text_row_nodes : ∀ l : List UInt8, nodesL (l.map byteT) = l.length
  | [] => rfl
  | c :: l => by
    rw [List.map_cons, List.length_cons, nodesL, text_row_nodes l]
    have : (byteT c).nodes = 1 := by unfold byteT Tree.nodes nodesL; rfl
    omega
theorem text_nodes (s : List UInt8) : (textT s).nodes ≤ s.length + 1 := by
  unfold textT
  match s with
  | [] => show Tree.nodes (.node 0 (fun _ => false) [] 0 0) ≤ _; unfold Tree.nodes nodesL; simp
  | [c] => show (byteT c).nodes ≤ _; unfold byteT Tree.nodes nodesL; simp
  | c :: d :: r =>
    rw [rowT_many 2 _ (by simp)]
    have := text_row_nodes (c :: d :: r)
    simp only [Tree.nodes]
    omega

theorem byte_ok (c : UInt8) : (byteT c).ok = true := by
  unfold byteT Tree.ok allOk okNode
  simp
theorem byte_row_ok : ∀ l : List UInt8, allOk (l.map byteT) = true
  | [] => rfl
  | c :: l => by rw [List.map_cons, allOk, byte_ok, byte_row_ok l]; rfl
theorem byte_row_deep : ∀ l : List UInt8, deepL (l.map byteT) ≤ 1
  | [] => by rw [List.map_nil, deepL]; omega
  | c :: l => by
    rw [List.map_cons, deepL]
    have h1 := byte_row_deep l
    have h2 : (byteT c).deepN = 1 := by unfold byteT Tree.deepN deepL; rfl
    omega
theorem text_ok (s : List UInt8) : (textT s).ok = true := by
  unfold textT
  match s with
  | [] => show Tree.ok (.node 0 (fun _ => false) [] 0 0) = true; unfold Tree.ok allOk okNode; simp [setEq_refl]
  | [c] => exact byte_ok c
  | c :: d :: r =>
    rw [rowT_many 2 _ (by simp)]
    unfold Tree.ok
    rw [byte_row_ok, Bool.true_and]
    unfold okNode
    simp [setEq_refl]
/-- a text of at most 299 bytes may be -/
theorem text_may (s : List UInt8) (h : s.length ≤ 299) : (textT s).mayN = true := by
  unfold Tree.mayN
  have h1 := text_nodes s
  have h2 : (textT s).deepN ≤ 2 := by
    unfold textT
    match s with
    | [] => show Tree.deepN (.node 0 (fun _ => false) [] 0 0) ≤ 2; unfold Tree.deepN deepL; omega
    | [c] => show (byteT c).deepN ≤ 2; unfold byteT Tree.deepN deepL; omega
    | c :: d :: r =>
      rw [rowT_many 2 _ (by simp)]
      have := byte_row_deep (c :: d :: r)
      simp only [Tree.deepN]
      omega
  rw [text_ok, decide_eq_true (show (textT s).nodes ≤ 300 by omega), decide_eq_true (show (textT s).deepN ≤ 30 by omega)]
  rfl

end Go.Proofs.YtkladjjeacjgpaaDoor

