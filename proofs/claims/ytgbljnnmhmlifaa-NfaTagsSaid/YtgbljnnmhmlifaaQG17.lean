/-
  WHAT nfa's behind, shifted ANSWER: contracts. No condition but that the rows lie there.
-/
import Derived.Laws.IdiomCopy
import Derived.Test.YtgbljnnmhmlifaaQG16
namespace Go.Proofs.Ytgbljnnmhmlifaa
open Go.RowKit

attribute [local irreducible] FreeW

def behindL (p : Int) : List Int → List Int
  | [] => []
  | x :: r => if x = p then r else x :: r
def RunAt (W : World) (l : List Int) (b o c : Nat) : Prop := (l.length ≤ c ∧ c ≤ 9223372036854775807) ∧ ∀ (i : Nat) (h : i < l.length), W.cell? ⟨b, o + i, none⟩ = some (.int .i64 l[i])
theorem RunAt.ints {W : World} {l : List Int} {b o c : Nat} (h : RunAt W l b o c) : IntsV W l (.slice (some ⟨b, o, none⟩) l.length c) :=
  ⟨_, _, rfl, h.1, fun hne => ⟨b, o, rfl, World.block_lt_of_cell? W ⟨b, o + 0, none⟩ (h.2 0 (List.length_pos_iff.2 hne)), h.2⟩⟩
theorem RunAt.sub {V W : World} {l : List Int} {b o c : Nat} (h : RunAt V l b o c) (hs : Sub V W) : RunAt W l b o c := ⟨h.1, fun i hi => hs _ _ (h.2 i hi)⟩
theorem RunAt.tail {W : World} {x : Int} {r : List Int} {b o c : Nat} (h : RunAt W (x :: r) b o c) : RunAt W r b (o + 1) (c - 1) := by
  obtain ⟨hc, hg⟩ := h
  simp only [List.length_cons] at hc
  refine ⟨by omega, fun i hi => ?_⟩
  have := hg (i + 1) (by simp; omega)
  rw [show o + (i + 1) = o + 1 + i by omega] at this
  simpa using this
theorem RunAt.nil {W : World} {b o c : Nat} (h : c ≤ 9223372036854775807) : RunAt W [] b o c := ⟨⟨by simp, h⟩, fun i hi => by simp at hi⟩
theorem IntsV.run {W : World} {l : List Int} {v : Value} (h : IntsV W l v) (hne : l ≠ []) : ∃ b o c, v = .slice (some ⟨b, o, none⟩) l.length c ∧ RunAt W l b o c := by
  obtain ⟨A, c', e, hc, hx⟩ := h
  obtain ⟨b', o', e4, hlt, hg⟩ := hx hne
  subst e4
  exact ⟨b', o', c', e, hc, hg⟩
def lenV : Value → Nat | .slice _ n _ => n | _ => 0

set_option maxHeartbeats 2000000 in
theorem behind_any (x : Int) (r : List Int) (b o c : Nat) (p : Int) (w V : World) (hv : RunAt V (x :: r) b o c) (hs : Sub V w) :
    Calls Try.prog 71 #[.slice (some ⟨b, o, none⟩) (r.length + 1) c, .int .i64 p] w fun e w' => ∃ b' o' c', e = .returned (.slice (some ⟨b', o', none⟩) (behindL p (x :: r)).length c') ∧ RunAt V (behindL p (x :: r)) b' o' c' ∧ w' = w := by
  have ht := hv.tail
  have hcell := hs _ _ (hv.2 0 (by simp))
  have HV := Lib.hid (And.intro hv ht)
  have hc := hv.1
  simp only [List.length_cons, Nat.add_zero, List.getElem_cons_zero] at hc hcell
  clear ht hv hs
  by_cases h : x = p
  · have e1 : (x == p) = true := by simp [h]
    have HF := Lib.hid (show behindL p (x :: r) = r by simp [behindL, h])
    clear h
    rw [HF.out]
    by_cases hc1 : c = 1
    · obtain rfl : r = [] := List.eq_nil_of_length_eq_zero (by omega)
      subst hc1
      simp only [List.length_nil] at *
      go_enter Try.func71, Try.ntmps71
      go_wp2
      go_ret
      exact ⟨_, _, _, rfl, RunAt.nil (by decide), rfl⟩
    · go_enter Try.func71, Try.ntmps71
      go_wp2
      go_ret
      exact ⟨_, _, _, rfl, HV.out.2, rfl⟩
  · have e1 : (x == p) = false := by simp [h]
    have HF := Lib.hid (show behindL p (x :: r) = x :: r by simp [behindL, h])
    clear h
    rw [HF.out]
    go_enter Try.func71, Try.ntmps71
    go_wp2
    go_ret
    exact ⟨_, _, _, rfl, HV.out.1, rfl⟩

def il (l : List Int) : Array Value := (l.map (Value.int .i64)).toArray
theorem il_get (l : List Int) (i : Nat) (h : i < l.length) : (il l)[i]? = some (.int .i64 l[i]) := by simp [il, h]
theorem madeInts_size (n : Nat) : (madeCells #[Value.int .i64 0] n).size = n := by rw [size_madeCells]
theorem make_ints (n : Nat) (h : n ≤ 1099511627776) (w : World) : (Instr.makeSlice 26 (.int .i64 (n : Nat)) (.int .i64 (n : Nat))).run Try.prog w = .ok (.slice (some ⟨w.heap.size, 0, none⟩) n n) (w.alloc (.cells (madeCells #[.int .i64 0] n) 3)) :=
  run_make_row' (P := Try.prog) 26 3 (.int .i64 0) 8 Try.underlying26 info_int rfl .i64 .i64 n (by omega) (by omega) w
theorem il_one (l : List Int) : ∀ v ∈ l.map (Value.int .i64), v.oneCell' = true := by
  intro v hv
  obtain ⟨i, _, rfl⟩ := List.mem_map.1 hv
  rfl
theorem copy_ints {w : World} {g b o c : Nat} {l : List Int} {cur : Array Value} (hg : BlkIs w g 3 cur) (hs : cur.size = l.length) (h0 : RunAt w l b o c) :
    (Builtin.copy_ #[26, 26] 3 #[.slice (some ⟨g, 0, none⟩) l.length l.length, .slice (some ⟨b, o, none⟩) l.length c]).run Try.prog w = .ok (goInt l.length) (w.setRow g (il l)) := by
  have h := run_copy_row (P := Try.prog) w 26 26 3 3 g 0 l.length l.length ⟨b, o, none⟩ l.length c cur 3 (l.map (Value.int .i64)) Try.underlying26 (by kernel_rfl) hg
    (by simp) (fun j v hv => by
      rw [List.getElem?_map] at hv
      cases e : l[j]? with
      | none => rw [e] at hv; cases hv
      | some x =>
        rw [e] at hv
        obtain ⟨hj, rfl⟩ := List.getElem?_eq_some_iff.1 e
        rw [Addr.add_lit]
        exact (h0.2 j hj).trans hv) (by simp [hs]) (il_one l)
  rw [h]
  have hd : cur.toList.drop l.length = [] := List.drop_of_length_le (by rw [Array.length_toList, hs]; exact Nat.le_refl _)
  simp [il, hd]
theorem copy_zero {w : World} {g c : Nat} {A : Option Addr} : (Builtin.copy_ #[26, 26] 3 #[.slice (some ⟨g, 0, none⟩) 0 0, .slice A 0 c]).run Try.prog w = .ok (goInt 0) w :=
  run_copy_none (P := Try.prog) w 26 26 3 3 (some ⟨g, 0, none⟩) A 0 0 0 c Try.underlying26 (by kernel_rfl) (by simp)
theorem BlkIs.setRow {w : World} {g : Nat} {t : TypeId} {cs new : Array Value} (h : BlkIs w g t cs) : BlkIs (w.setRow g new) g t new := by
  have := setRow_heap w g cs new t (0, 0) h
  exact this
theorem below_setRow {B : Nat} {a w : World} (h : Below B a w) {g : Nat} (hg : B ≤ g) (new : Array Value) : Below B a (w.setRow g new) :=
  h.trans ⟨rfl, rfl, rfl, by simp [World.setRow], fun k hk => setRow_other w g k _ (by omega)⟩
def shiftTo (d : Int) (l : List Int) (j : Nat) : List Int := shiftL d (l.take j) ++ l.drop j
theorem shiftTo_len (d : Int) (l : List Int) (j : Nat) : (shiftTo d l j).length = l.length := by simp [shiftTo, shiftL]; omega
theorem shiftTo_zero (d : Int) (l : List Int) : shiftTo d l 0 = l := by simp [shiftTo, shiftL]
theorem shiftTo_all (d : Int) (l : List Int) : shiftTo d l l.length = shiftL d l := by simp [shiftTo]
theorem shiftTo_at (d : Int) (l : List Int) (j : Nat) (h : j < l.length) : (il (shiftTo d l j))[j]? = some (.int .i64 l[j]) := by
  rw [il_get _ _ (by rw [shiftTo_len]; exact h)]
  have hl : (shiftL d (l.take j)).length = j := by simp [shiftL]; omega
  simp only [shiftTo]
  rw [List.getElem_append_right (by omega)]
  simp [hl]
theorem shiftTo_succ (d : Int) (l : List Int) (j : Nat) (h : j < l.length) : (il (shiftTo d l j)).setIfInBounds j (.int .i64 (l[j] + d)) = il (shiftTo d l (j + 1)) := by
  have hl : (shiftL d (l.take j)).length = j := by simp [shiftL]; omega
  have e1 : shiftTo d l (j + 1) = (shiftTo d l j).set j (l[j] + d) := by
    unfold shiftTo
    rw [List.set_append_right _ _ (by omega), hl, Nat.sub_self, List.drop_eq_getElem_cons h, List.set_cons_zero, List.take_succ_eq_append_getElem h]
    simp only [shiftL, List.map_append, List.map_cons, List.map_nil, List.append_assoc, List.singleton_append]
  rw [e1]
  unfold il
  simp

set_option maxRecDepth 20000 in
set_option maxHeartbeats 4000000 in
theorem shifted_any (l : List Int) (v : Value) (d : Int) (w : World) (K : Nat → Bool) (hK : ∀ k, K k = true → k < w.heap.size) (hv : IntsV (hide w K) l v) (hn : l.length ≤ 1099511627776)
    (hx : ∀ x ∈ l, -1099511627776 ≤ x ∧ x ≤ 1099511627776) (hd : -1099511627776 ≤ d ∧ d ≤ 1099511627776) :
    Calls Try.prog 72 #[v, .int .i64 d] w fun e w' => ∃ v', e = .returned v' ∧ IntsV (hide w' K) (shiftL d l) v' ∧ Below w.heap.size w w' := by
  have hmk := fun u => make_ints l.length hn u
  have hb0 : Below w.heap.size w (w.alloc (.cells (madeCells #[.int .i64 0] l.length) 3)) := (Below.refl _ _).alloc (Nat.le_refl _) _
  have hbx := BlkIs.new w 3 (madeCells #[.int .i64 0] l.length)
  have hfin : ∀ u : World, BlkIs u w.heap.size 3 (il (shiftL d l)) → IntsV (hide u K) (shiftL d l) (.slice (some ⟨w.heap.size, 0, none⟩) l.length l.length) := fun u hu => by
    have e : (shiftL d l).length = l.length := by simp [shiftL]
    have hh := RunAt.ints (W := hide u K) (l := shiftL d l) (b := w.heap.size) (o := 0) (c := l.length) ⟨by omega, fun i hi => hide_show (by
      rw [Bool.eq_false_iff]; intro e; have := hK _ e; exact absurd this (Nat.lt_irrefl _)) (by rw [Nat.zero_add, hu.cell i, il_get _ i hi])⟩
    rwa [e] at hh
  have hloop : ∃ u : World, (∃ A c, v = .slice A l.length c ∧ (Builtin.copy_ #[26, 26] 3 #[.slice (some ⟨w.heap.size, 0, none⟩) l.length l.length, v]).run Try.prog (w.alloc (.cells (madeCells #[.int .i64 0] l.length) 3)) = .ok (goInt l.length) u) ∧ Below w.heap.size w u ∧ BlkIs u w.heap.size 3 (il l) := by
    by_cases hne : l = []
    · subst hne
      obtain ⟨A, c, rfl, _, _⟩ := hv
      refine ⟨_, ⟨A, c, rfl, copy_zero⟩, hb0, ?_⟩
      have e : il [] = madeCells #[Value.int .i64 0] ([] : List Int).length := by simp [il, madeCells]
      rw [e]; exact hbx
    · obtain ⟨b, o, c, rfl, hr⟩ := hv.run hne
      exact ⟨_, ⟨_, c, rfl, copy_ints hbx (madeInts_size _) ((hr.sub hide_less).sub fun p u hu => (hb0.cell (World.block_lt_of_cell? w p hu)).trans hu)⟩, below_setRow hb0 (Nat.le_refl _) _, hbx.setRow⟩
  obtain ⟨u0, ⟨A, c, rfl, hcp⟩, hu1, hu2⟩ := hloop
  have HF := Lib.hid hfin
  have HX := Lib.hid (fun (j : Nat) (h : j < l.length) => And.intro (hx _ (List.getElem_mem h)) (And.intro (shiftTo_at d l j h) (shiftTo_succ d l j h)))
  have H0 := Lib.hid (And.intro hu1 hu2)
  clear hfin hx hb0 hbx hu1 hu2 hv
  go_enter Try.func72, Try.ntmps72
  go_wp2
  go_loopw [15] (fun i wr => ∃ j : Nat, i = .int .i64 j ∧ j ≤ l.length ∧ Hid (Below w.heap.size w wr ∧ BlkIs wr w.heap.size 3 (il (shiftTo d l j)))) (fun i _ => l.length - (intOf i).toNat)
  case atStart => exact ⟨0, rfl, Nat.zero_le _, Lib.hid (by rw [shiftTo_zero]; exact H0.out)⟩
  case round =>
    obtain ⟨j, rfl, hj, HH⟩ := hrel
    clear hcp hmk
    by_cases hp : j < l.length
    · have hk1 : IntKind.i64.wrap ((j : Int) + 1) = ((j + 1 : Nat) : Int) := by rw [IntKind.wrap_i64]; omega
      have hdl : decide ((j : Int) < (l.length : Int)) = true := by simp; omega
      have hxj := HX.out j hp
      have hcell : wr.cell? ⟨w.heap.size, j, none⟩ = some (.int .i64 l[j]) := (HH.out.2.cell j).trans hxj.2.1
      have hfr := HH.out.2.frozen j
      have HS := Lib.hid hxj.2.2
      have hx1 := hxj.1
      clear hxj
      generalize l[j] = x at *
      have hk2 : IntKind.i64.wrap (x + d) = x + d := by rw [IntKind.wrap_i64]; omega
      go_wp2
      exact ⟨⟨j + 1, rfl, hp, Lib.hid ⟨HH.out.1.setCell (p := ⟨_, _, none⟩) (Nat.le_refl _) _, by rw [← HS.out]; exact HH.out.2.put j _⟩⟩, by simp [intOf]; omega⟩
    · have hdl : decide ((j : Int) < (l.length : Int)) = false := by simp; omega
      obtain rfl : j = l.length := by omega
      have hb := HH.out.2
      rw [shiftTo_all] at hb
      have HB := Lib.hid hb
      clear hb
      go_wp2
      go_ret
      exact ⟨_, rfl, HF.out _ HB.out, HH.out.1⟩
end Go.Proofs.Ytgbljnnmhmlifaa

namespace Go.Proofs.Ytgbljnnmhmlifaa
open Go.RowKit

attribute [local irreducible] FreeW

theorem make_room (n : Nat) (h : n ≤ 1099511627776) (w : World) : (Instr.makeSlice 26 (.int .i64 0) (.int .i64 (n : Nat))).run Try.prog w = .ok (.slice (some ⟨w.heap.size, 0, none⟩) 0 n) (w.alloc (.cells (madeCells #[.int .i64 0] n) 3)) := by
  obtain ⟨i0, hi0, hz0, hz1, hz2⟩ := info_parts info_int
  have hr := run_make (P := Try.prog) w 26 3 i0 (.int .i64 0) Try.underlying26 hi0 hz0 .i64 .i64 0 n (by omega) (by omega) (by rw [hz2]; omega) (by omega)
  simp only [hz1, Int.toNat_natCast, Nat.mul_one] at hr
  exact hr
theorem RowI.room (B : Nat) (w : World) (n : Nat) (hB : B ≤ w.heap.size) (hn : n ≤ 1099511627776) : RowI B (w.alloc (.cells (madeCells #[.int .i64 0] n) 3)) (.slice (some ⟨w.heap.size, 0, none⟩) 0 n) [] :=
  World.ownsRow_made w _ n hB (by unfold maxLen; omega) (by rw [madeInts_size]; omega)
theorem RowI.pushes {B : Nat} {W : World} {v : Value} {l : List Int} (h : RowI B W v l) (hB : B ≤ W.heap.size) {b : List Int} {g o c : Nat} (hb : RunAt W b g o c) (hl : l.length + b.length ≤ 1099511627776) :
    ∃ v' W', (Builtin.append_ #[26, 26] 26 #[v, .slice (some ⟨g, o, none⟩) b.length c]).run Try.prog W = .ok v' W' ∧ RowI B W' v' (l ++ b) ∧ W.grownBy W' v.ownBlock := by
  obtain ⟨i0, hi0, hz0, hz1, hz2⟩ := info_parts info_int
  obtain ⟨v', W', hr, hown, hgr, _, _⟩ := run_append_own_at (P := Try.prog) (w := W) B 26 26 3 i0 (.int .i64 0) 1 8 Try.underlying26 hi0 hz0 hz1 hz2 rfl (by decide) v l.length _ h
    ⟨g, o, none⟩ b.length c (b.map (Value.int .i64)) (by simp) (fun j u hu => by
      rw [List.getElem?_map] at hu
      cases e : b[j]? with
      | none => rw [e] at hu; cases hu
      | some x =>
        rw [e] at hu
        obtain ⟨hj, rfl⟩ := List.getElem?_eq_some_iff.1 e
        rw [Addr.add_lit]
        exact (hb.2 j hj).trans hu) (il_one b) (by unfold maxLen; omega) (by omega) hB
  refine ⟨v', W', hr, ?_, hgr⟩
  unfold RowI
  rw [List.map_append, List.length_append]
  exact hown
theorem append_full {W : World} {a b : List Int} {g o g' o' c' : Nat} (ha : RunAt W a g o a.length) (hb : RunAt W b g' o' c') (hne : b ≠ []) (hl : a.length + b.length ≤ 1099511627776) :
    ∃ v' W', (Builtin.append_ #[26, 26] 26 #[.slice (some ⟨g, o, none⟩) a.length a.length, .slice (some ⟨g', o', none⟩) b.length c']).run Try.prog W = .ok v' W' ∧ RowI W.heap.size W' v' (a ++ b) ∧ Below W.heap.size W W' := by
  obtain ⟨i0, hi0, hz0, hz1, hz2⟩ := info_parts info_int
  have hlb := List.length_pos_iff.2 hne
  have hcl : ∀ (l : List Int) (p q c : Nat), RunAt W l p q c → ∀ j u, (l.map (Value.int .i64))[j]? = some u → W.cell? ((⟨p, q, none⟩ : Addr).add j) = some u := fun l p q c h j u hu => by
    rw [List.getElem?_map] at hu
    cases e : l[j]? with
    | none => rw [e] at hu; cases hu
    | some x =>
      rw [e] at hu
      obtain ⟨hj, rfl⟩ := List.getElem?_eq_some_iff.1 e
      rw [Addr.add_lit]
      exact (h.2 j hj).trans hu
  have hr := run_append_grow (P := Try.prog) W 26 26 3 i0 (.int .i64 0) Try.underlying26 hi0 hz0 ⟨g, o, none⟩ a.length a.length (a.map (Value.int .i64)) (by simp [hz1]) (hcl a g o _ ha) ⟨g', o', none⟩ b.length c' (b.map (Value.int .i64)) (by simp [hz1]) (hcl b g' o' _ hb) (by omega) (by omega)
    (growslice_fits (by omega) (by rw [hz2]; omega))
  have hge := grownCap_ge W (a.length + b.length) a.length 3
  have hcm := grownCap_le_maxLen W (a.length + b.length) a.length 3 (by unfold maxLen; omega)
  refine ⟨_, _, hr, ⟨by simp, .inr ⟨W.heap.size, _, _, by rw [List.length_append], Nat.le_refl _, heap_alloc_new W.drew _, ?_, hcm, ?_, ?_⟩⟩, ((Below.refl _ W).drew).alloc (Nat.le_refl _) _⟩
  · rw [List.length_append]; exact hge
  · simp only [Array.size_append, List.size_toArray, List.length_map, size_zeroCells]
    rw [show (Value.int IntKind.i64 0).cells.size = 1 from rfl]
    omega
  · simp only [Array.toList_append, List.append_assoc]
    rw [← List.append_assoc, List.map_append, List.length_append, Nat.mul_one]
    rw [List.take_left' (by simp)]

theorem mergeN_step {n : Nat} {x y : Int} {a b : List Int} (h : (x :: a).length + (y :: b).length ≤ n) : ∃ n', mergeN n (x :: a) (y :: b) = (if y < x then y else x) :: mergeN n' (behindL (if y < x then y else x) (x :: a)) (behindL (if y < x then y else x) (y :: b)) ∧
    (behindL (if y < x then y else x) (x :: a)).length + (behindL (if y < x then y else x) (y :: b)).length ≤ n' ∧ (behindL (if y < x then y else x) (x :: a)).length + (behindL (if y < x then y else x) (y :: b)).length < (x :: a).length + (y :: b).length := by
  obtain ⟨m, rfl⟩ : ∃ m, n = m + 1 := ⟨n - 1, by simp only [List.length_cons] at h; omega⟩
  refine ⟨m, ?_⟩
  simp only [List.length_cons] at h
  rcases Int.lt_trichotomy x y with h1 | h1 | h1
  · have e1 : ¬ y < x := by omega
    have e2 : ¬ y = x := by omega
    simp [mergeN, behindL, h1, e1, e2]; omega
  · subst h1
    simp [mergeN, behindL]; omega
  · have e1 : ¬ x < y := by omega
    have e2 : ¬ x = y := by omega
    simp [mergeN, behindL, h1, e1, e2]; omega
theorem run_low {w W : World} {K : Nat → Bool} {l : List Int} {g o c : Nat} (h : RunAt (hide w K) l g o c) (hb : Below w.heap.size w W) : RunAt W l g o c :=
  (h.sub hide_less).sub fun p _ hu => (hb.cell (World.block_lt_of_cell? w p hu)).trans hu
theorem below_drewN {B : Nat} {a w : World} (h : Below B a w) (m : Nat) : Below B a (w.drewN m) := ⟨h.os, h.tape, h.output, h.size, h.block⟩
theorem last_get {a : List Int} (_ : a ≠ []) : ∀ (hh : a.length - 1 < a.length), a[a.length - 1] = a.getLastD 0 := by
  intro hh
  rw [List.getLastD_eq_getLast?, List.getLast?_eq_getElem?]
  simp [hh]

set_option maxRecDepth 20000 in
set_option maxHeartbeats 8000000 in
theorem merged_any (a b : List Int) (va vb : Value) (w : World) (K : Nat → Bool) (hK : ∀ k, K k = true → k < w.heap.size) (ha : IntsV (hide w K) a va) (hb : IntsV (hide w K) b vb) (hn : a.length + b.length ≤ 1073741824) :
    Calls Try.prog 64 #[va, vb] w fun e w' => ∃ v', e = .returned v' ∧ IntsV (hide w' K) (mergedL a b) v' ∧ Below w.heap.size w w' := by
  by_cases hae : a = []
  · subst hae
    obtain ⟨A, c, rfl, _, _⟩ := ha
    have HF := Lib.hid (show IntsV (hide w K) (mergedL [] b) vb by simp only [mergedL, if_pos]; exact hb)
    clear hb
    go_enter Try.func64, Try.ntmps64
    go_wp2
    go_ret
    exact ⟨_, rfl, HF.out, Below.refl _ _⟩
  · have hla := List.length_pos_iff.2 hae
    obtain ⟨g1, o1, c1, rfl, hra⟩ := ha.run hae
    have za : ((a.length : Int) == 0) = false := by simp; omega
    by_cases hbe : b = []
    · subst hbe
      obtain ⟨A, c, rfl, _, _⟩ := hb
      have HF := Lib.hid (show IntsV (hide w K) (mergedL a []) (.slice (some ⟨g1, o1, none⟩) a.length c1) by unfold mergedL; rw [if_neg hae, if_pos rfl]; exact ha)
      clear ha hra
      go_enter Try.func64, Try.ntmps64
      go_wp2
      go_ret
      exact ⟨_, rfl, HF.out, Below.refl _ _⟩
    · have hlb := List.length_pos_iff.2 hbe
      obtain ⟨g2, o2, c2, rfl, hrb⟩ := hb.run hbe
      have zb : ((b.length : Int) == 0) = false := by simp; omega
      have hk1 : IntKind.i64.wrap ((a.length : Int) - 1) = ((a.length - 1 : Nat) : Int) := by rw [IntKind.wrap_i64]; omega
      have hi1 : ((a.length - 1 : Nat) : Int) < (a.length : Int) := by omega
      have hi2 : (0 : Int) < (b.length : Int) := by omega
      have hca := hide_less _ _ (hra.2 (a.length - 1) (by omega))
      rw [last_get hae] at hca
      have hcb := hide_less _ _ (hrb.2 0 hlb)
      have hbh : b[0] = b.headD 0 := by cases b with | nil => exact absurd rfl hbe | cons y b => rfl
      rw [hbh, Nat.add_zero] at hcb
      have hcap := hra.1
      by_cases hlt : a.getLastD 0 < b.headD 0
      · have HF := Lib.hid (show mergedL a b = a ++ b by unfold mergedL; rw [if_neg hae, if_neg hbe, if_pos hlt])
        have hd1 : decide (a.getLastD 0 < b.headD 0) = true := by simpa using hlt
        have HRA := Lib.hid hra
        have HRB := Lib.hid hrb
        have HBE := Lib.hid hbe
        have HK := Lib.hid hK
        clear ha hb hra hrb hbh hlt hae hbe hK
        generalize a.getLastD 0 = x at *
        generalize b.headD 0 = y at *
        go_enter Try.func64, Try.ntmps64
        go_wp2
        go_quiet (fail)
        have hbd : Below w.heap.size w (w.drewN nq) := below_drewN (Below.refl _ _) nq
        obtain ⟨v', W', hrun, hri, hbw⟩ := append_full (W := w.drewN nq) (run_low ⟨⟨Nat.le_refl _, by omega⟩, HRA.out.2⟩ hbd) (run_low HRB.out hbd) HBE.out (by omega)
        have HU := Lib.hid (And.intro hri hbw)
        clear hri hbw
        go_wp2_with (refine wpList_app8 rfl _ _ 26 26 rfl rfl rfl hrun ?_)
        go_ret
        exact ⟨_, rfl, by rw [HF.out]; exact HU.out.1.show (fun k hk => by
          rw [Bool.eq_false_iff]; intro e; have := HK.out k e; have : w.heap.size ≤ k := hk; omega), hbd.trans HU.out.2⟩
      · have hd1 : decide (a.getLastD 0 < b.headD 0) = false := by simpa using hlt
        have HF := Lib.hid (show mergedL a b = mergeN (a.length + b.length) a b by unfold mergedL; rw [if_neg hae, if_neg hbe, if_neg hlt])
        rw [HF.out]
        obtain ⟨R, hR⟩ : ∃ R, R = mergeN (a.length + b.length) a b := ⟨_, rfl⟩
        rw [← hR]
        have hk0 : IntKind.i64.wrap ((a.length : Int) + (b.length : Int)) = ((a.length + b.length : Nat) : Int) := by rw [IntKind.wrap_i64]; omega
        have hmk := fun u => make_room (a.length + b.length) (by omega) u
        simp only [Int.natCast_add] at hmk
        have H0 := Lib.hid (show (RunAt (hide w K) a g1 o1 c1 ∧ RunAt (hide w K) b g2 o2 c2) ∧ (∃ n, a.length + b.length ≤ n ∧ R = [] ++ mergeN n a b) from ⟨⟨hra, hrb⟩, _, Nat.le_refl _, by simpa using hR⟩)
        have HK := Lib.hid hK
        have HRO := Lib.hid (fun u (h : w.heap.size ≤ u.heap.size) => RowI.room w.heap.size u (a.length + b.length) h (by omega))
        clear ha hb hra hrb hbh hlt hae hbe hK hR HF
        generalize a.getLastD 0 = x at *
        generalize b.headD 0 = y at *
        go_enter Try.func64, Try.ntmps64
        go_wp2
        go_quiet (fail)
        go_wp2
        have HW := Lib.hid (And.intro (HRO.out (w.drewN nq) (Nat.le_refl _)) ((below_drewN (Below.refl w.heap.size w) nq).alloc (Nat.le_refl _) (.cells (madeCells #[Value.int .i64 0] (a.length + b.length)) 3)))
        clear hca hcb HRO hmk
        go_loopw [0, 1, 5] (fun s0 s1 s5 wr => ∃ (a' b' l : List Int) (p1 q1 d1 p2 q2 d2 : Nat), s0 = .slice (some ⟨p1, q1, none⟩) a'.length d1 ∧ s1 = .slice (some ⟨p2, q2, none⟩) b'.length d2 ∧ l.length + (a'.length + b'.length) ≤ a.length + b.length ∧
          Hid ((RowI w.heap.size wr s5 l ∧ Below w.heap.size w wr) ∧ (RunAt (hide w K) a' p1 q1 d1 ∧ RunAt (hide w K) b' p2 q2 d2) ∧ ∃ n, a'.length + b'.length ≤ n ∧ R = l ++ mergeN n a' b')) (fun s0 s1 _ _ => lenV s0 + lenV s1)
        case atStart => exact ⟨a, b, [], g1, o1, c1, g2, o2, c2, rfl, rfl, by simp, Lib.hid ⟨HW.out, H0.out⟩⟩
        case round =>
          obtain ⟨a', b', l, p1, q1, d1, p2, q2, d2, rfl, rfl, hlen, HH⟩ := hrel
          clear hcap hi1 hi2 hk1 hk0 za zb hd1 hla hlb HW H0
          cases a' with
          | nil =>
            have HR := Lib.hid (show R = l ++ [] ++ b' by
              obtain ⟨n, hn', hR⟩ := HH.out.2.2
              rw [hR, mergeN_nil]; simp)
            obtain ⟨v1, W1, hrun1, hri1, hgr1⟩ := HH.out.1.1.pushes HH.out.1.2.size (run_low HH.out.2.1.1 HH.out.1.2) (by simp only [List.length_nil] at hlen ⊢; omega)
            have hb1 : Below w.heap.size w W1 := HH.out.1.2.grown hgr1 HH.out.1.2.size fun k hk => (World.ownsRow.lt HH.out.1.1 k hk).1
            obtain ⟨v2, W2, hrun2, hri2, hgr2⟩ := hri1.pushes hb1.size (run_low HH.out.2.1.2 hb1) (by simp only [List.length_nil, List.length_append] at hlen ⊢; omega)
            have hb2 : Below w.heap.size w W2 := hb1.grown hgr2 hb1.size fun k hk => (World.ownsRow.lt hri1 k hk).1
            have HV := Lib.hid (And.intro hri2 hb2)
            clear hri1 hgr1 hri2 hgr2 hb1 hb2
            simp only [List.length_nil] at hrun1 hrun2 hlen ⊢
            go_wp2_with (first | (refine wpList_app8 rfl _ _ 26 26 rfl rfl rfl hrun1 ?_) | (refine wpList_app8 rfl _ _ 26 26 rfl rfl rfl hrun2 ?_))
            go_ret
            exact ⟨_, rfl, by rw [HR.out]; exact HV.out.1.show (fun k hk => by
              rw [Bool.eq_false_iff]; intro e; have := HK.out k e; omega), HV.out.2⟩
          | cons x a' =>
            cases b' with
            | nil =>
              have HR := Lib.hid (show R = l ++ (x :: a') ++ [] by
                obtain ⟨n, hn', hR⟩ := HH.out.2.2
                rw [hR, mergeN_nil2]; simp)
              obtain ⟨v1, W1, hrun1, hri1, hgr1⟩ := HH.out.1.1.pushes HH.out.1.2.size (run_low HH.out.2.1.1 HH.out.1.2) (by simp only [List.length_cons, List.length_nil] at hlen ⊢; omega)
              have hb1 : Below w.heap.size w W1 := HH.out.1.2.grown hgr1 HH.out.1.2.size fun k hk => (World.ownsRow.lt HH.out.1.1 k hk).1
              obtain ⟨v2, W2, hrun2, hri2, hgr2⟩ := hri1.pushes hb1.size (run_low HH.out.2.1.2 hb1) (by simp only [List.length_cons, List.length_nil, List.length_append] at hlen ⊢; omega)
              have hb2 : Below w.heap.size w W2 := hb1.grown hgr2 hb1.size fun k hk => (World.ownsRow.lt hri1 k hk).1
              have HV := Lib.hid (And.intro hri2 hb2)
              clear hri1 hgr1 hri2 hgr2 hb1 hb2
              simp only [List.length_cons, List.length_nil] at hrun1 hrun2 hlen ⊢
              have g1 : decide (((a'.length + 1 : Nat) : Int) > 0) = true := by simp
              go_wp2_with (first | (refine wpList_app8 rfl _ _ 26 26 rfl rfl rfl hrun1 ?_) | (refine wpList_app8 rfl _ _ 26 26 rfl rfl rfl hrun2 ?_))
              go_ret
              exact ⟨_, rfl, by rw [HR.out]; exact HV.out.1.show (fun k hk => by
                rw [Bool.eq_false_iff]; intro e; have := HK.out k e; omega), HV.out.2⟩
            | cons y b' =>
              have HCELL := Lib.hid (fun u (hu : Below wr.heap.size wr u) => And.intro (((HH.out.1.2.trans (hu.mono HH.out.1.2.size)).cell (World.block_lt_of_cell? w _ (hide_less _ _ (HH.out.2.1.1.2 0 (by simp))))).trans (hide_less _ _ (HH.out.2.1.1.2 0 (by simp))))
                (((HH.out.1.2.trans (hu.mono HH.out.1.2.size)).cell (World.block_lt_of_cell? w _ (hide_less _ _ (HH.out.2.1.2.2 0 (by simp))))).trans (hide_less _ _ (HH.out.2.1.2.2 0 (by simp)))))
              obtain ⟨n, hn', hR⟩ := HH.out.2.2
              obtain ⟨n2, hm1, hm2, hm3⟩ := mergeN_step hn'
              rw [hm1] at hR
              have hca := HH.out.2.1.1.1
              have hcb := HH.out.2.1.2.1
              have HB1 := Lib.hid (fun u => behind_any x a' p1 q1 d1 (if y < x then y else x) u (hide w K) HH.out.2.1.1)
              have HB2 := Lib.hid (fun u => behind_any y b' p2 q2 d2 (if y < x then y else x) u (hide w K) HH.out.2.1.2)
              have HS := Lib.hid (And.intro (And.intro HH.out.2.1.1 HH.out.2.1.2) hR)
              simp only [List.length_cons, List.getElem_cons_zero, Nat.add_zero] at HCELL hca hcb hm3 hlen
              simp only [List.length_cons]
              clear hn' hR hm1
              have g1 : decide (((a'.length + 1 : Nat) : Int) > 0) = true := by simp
              have g2 : decide (((b'.length + 1 : Nat) : Int) > 0) = true := by simp
              obtain ⟨p, hp⟩ : ∃ p, p = (if y < x then y else x) := ⟨_, rfl⟩
              rw [← hp] at HB1 HB2 HS hm2 hm3
              have hp2 := hp.symm
              clear hp
              go_wp2_with fail
              refine wp_region_reads 72 (fun u => Hid (Below wr.heap.size wr u)) (by kernel_rfl) (by kernel_rfl) rfl (Lib.hid (Below.refl _ _).drew) (fun u u' h hb => Lib.hid (h.out.trans (hb.mono h.out.size))) ?_
              repeat
                refine freeW_step fun K hK => ?_
                (first
                  | skip)
                go_simp
                apply Exists.intro
                refine ⟨fun u h1 => ?_, hK _ ?_⟩
                · obtain ⟨y0, y1⟩ := HCELL.out u h1.out
                  unfold freeAt
                  go_simp
                  first
                    | exact free_val
                    | (apply free_call
                       first
                         | fail
                       )
                clear hK K
              refine freeW_nil ?_
              intro u hC hb2
              have hwu := hC.out
              have HB0 := Lib.hid (HH.out.1.2.trans (hwu.mono HH.out.1.2.size))
              have HL := Lib.hid (HH.out.1.1.step hwu)
              obtain ⟨v', W', hrun, hri, hgr⟩ := HL.out.push HB0.out.size p (by omega)
              have HV := Lib.hid (And.intro hri (HB0.out.trans hgr))
              clear hC hb2 hri hgr hwu
              go_wp2_with (refine wpList_app8 rfl _ _ 26 26 rfl rfl rfl hrun ?_)
              have hsb : Sub (hide w K) W' := fun p _ hu => (HV.out.2.cell (World.block_lt_of_cell? w p (hide_less _ _ hu))).trans (hide_less _ _ hu)
              refine (HB1.out W' hsb).mono ?_
              rintro e u1 ⟨pa, qa, da, rfl, hra, rfl⟩
              have HRA := Lib.hid hra
              clear hra
              go_wp2_with fail
              go_at_call 71
              refine (HB2.out _ hsb).mono ?_
              rintro e u1 ⟨pb, qb, db, rfl, hrb, rfl⟩
              have HRB := Lib.hid hrb
              have HSB := Lib.hid hm2
              clear hrb hm2
              generalize behindL p (x :: a') = aa at *
              generalize behindL p (y :: b') = bb at *
              go_wp2
              refine ⟨⟨aa, bb, l ++ [p], pa, qa, da, pb, qb, db, rfl, rfl, ?_, Lib.hid ⟨HV.out, ⟨HRA.out, HRB.out⟩, n2, HSB.out, by rw [HS.out.2]; simp⟩⟩, ?_⟩
              · rw [List.length_append, List.length_singleton]; omega
              · simp only [lenV]; omega
end Go.Proofs.Ytgbljnnmhmlifaa

