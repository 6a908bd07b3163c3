/-
  WHAT hackleref08's Ints AND List ANSWER: contracts. No condition but that the rows lie there.
-/
import Derived.Laws.CopyOwn
import Derived.Deep.OwnRows
import Derived.Lib.ItoaWalk
import Derived.Lib.Strings
import Derived.Test.YtgngaaemkmdfaaaDoorQG08
import Derived.Test.YtgngaaemkmdfaaaDoorQG05
namespace Go.Proofs.YtgngaaemkmdfaaaDoor
section
open Go.RowKit

attribute [local irreducible] FreeW

set_option maxRecDepth 20000 in
set_option maxHeartbeats 2000000 in
theorem ints_any (l r : List Int) (v v' : Value) (w : World) (hl : IntsV w l v) (hr : IntsV w r v') : Calls Tryd.prog 17 #[v, v'] w fun e w' => e = .returned (.bool (decide (l = r))) ∧ Below w.heap.size w w' := by
  obtain ⟨A, c, rfl, hc, hs⟩ := hl
  obtain ⟨A', c', rfl, hc', hs'⟩ := hr
  have HS := Lib.hid hs
  have HS' := Lib.hid hs'
  clear hs hs'
  by_cases hlen : l.length = r.length
  case neg =>
    have e0 : ((l.length : Int) != (r.length : Int)) = true := by simp; omega
    have HF := Lib.hid (show decide (l = r) = false by simp; intro e; exact hlen (by rw [e]))
    clear hlen
    go_enter Tryd.func17, Tryd.ntmps17
    go_wp2
    go_ret
    exact ⟨by rw [HF.out]; rfl, Below.refl _ _⟩
  have e0 : ((l.length : Int) != (r.length : Int)) = false := by simp; omega
  have HL := Lib.hid hlen
  obtain ⟨R, hR⟩ : ∃ R, R = decide (l = r) := ⟨_, rfl⟩
  rw [← hR]
  have HR := Lib.hid hR
  clear hlen hR
  go_enter Tryd.func17, Tryd.ntmps17
  go_wp2
  go_loopw [5] (fun i wr => ∃ j : Nat, i = .int .i64 j ∧ j ≤ l.length ∧ Hid (Below w.heap.size w wr ∧ l.take j = r.take j)) (fun i _ => l.length - (intOf i).toNat)
  case atStart => exact ⟨0, rfl, Nat.zero_le _, Lib.hid ⟨Below.refl _ _, rfl⟩⟩
  case round =>
    obtain ⟨j, rfl, hj, HH⟩ := hrel
    by_cases hp : j < l.length
    · have hk1 : IntKind.i64.wrap ((j : Int) + 1) = ((j + 1 : Nat) : Int) := by rw [IntKind.wrap_i64]; omega
      have hdl : decide ((j : Int) < (l.length : Int)) = true := by simp; omega
      have hp' : j < r.length := by rw [← HL.out]; exact hp
      have hi1 : (j : Int) < (l.length : Int) := by omega
      have hi2 : (j : Int) < (r.length : Int) := by omega
      obtain ⟨b, o, rfl, hlt, hg⟩ := HS.out (by intro e; rw [e] at hp; simp at hp)
      obtain ⟨b', o', rfl, hlt', hg'⟩ := HS'.out (by intro e; rw [e] at hp'; simp at hp')
      have HX := Lib.hid (fun (u : World) (hu : Below w.heap.size w u) => (hu.cell (p := ⟨b, o + j, none⟩) hlt).trans (hg j hp))
      have HY := Lib.hid (fun (u : World) (hu : Below w.heap.size w u) => (hu.cell (p := ⟨b', o' + j, none⟩) hlt').trans (hg' j hp'))
      have ht1 := List.take_succ_eq_append_getElem hp
      have ht2 := List.take_succ_eq_append_getElem hp'
      have hne : l[j] ≠ r[j] → l ≠ r := fun h e => h (by subst e; rfl)
      clear hg hg'
      generalize l[j] = x at *
      generalize r[j] = y at *
      have HT := Lib.hid (And.intro ht1 (And.intro ht2 hne))
      clear ht1 ht2 hne hp'
      by_cases hxy : x = y
      · have e1 : (x != y) = false := by simp [hxy]
        have HN := Lib.hid (show l.take (j + 1) = r.take (j + 1) by rw [HT.out.1, HT.out.2.1, HH.out.2, hxy])
        clear hxy
        go_wp2_with fail
        refine wp_region_reads 26 (fun u => Hid (Below w.heap.size w u)) (by kernel_rfl) (by kernel_rfl) rfl (Lib.hid HH.out.1.drew) (fun u u' h hb => Lib.hid (h.out.trans (hb.mono h.out.size))) ?_
        repeat
          refine freeW_step fun K hK => ?_
          (first
            | skip)
          go_simp
          apply Exists.intro
          refine ⟨fun u h1 => ?_, hK _ ?_⟩
          · have y0 := HX.out u h1.out
            have y1 := HY.out u h1.out
            unfold freeAt
            go_simp
            first
              | exact free_val
              | (apply free_call
                 first
                   | fail
                 )
          clear hK K
        refine freeW_nil ?_
        intro u hC hb2
        have HC := Lib.hid hC.out
        clear hC hb2
        go_wp2
        exact ⟨⟨j + 1, rfl, hp, Lib.hid ⟨HC.out, HN.out⟩⟩, by simp [intOf]; omega⟩
      · have e1 : (x != y) = true := by simp [hxy]
        have HN := Lib.hid (show R = false by rw [HR.out]; simp; exact HT.out.2.2 hxy)
        clear hxy
        go_wp2_with fail
        refine wp_region_reads 26 (fun u => Hid (Below w.heap.size w u)) (by kernel_rfl) (by kernel_rfl) rfl (Lib.hid HH.out.1.drew) (fun u u' h hb => Lib.hid (h.out.trans (hb.mono h.out.size))) ?_
        repeat
          refine freeW_step fun K hK => ?_
          (first
            | skip)
          go_simp
          apply Exists.intro
          refine ⟨fun u h1 => ?_, hK _ ?_⟩
          · have y0 := HX.out u h1.out
            have y1 := HY.out u h1.out
            unfold freeAt
            go_simp
            first
              | exact free_val
              | (apply free_call
                 first
                   | fail
                 )
          clear hK K
        refine freeW_nil ?_
        intro u hC hb2
        have HC := Lib.hid hC.out
        clear hC hb2
        go_wp2
        go_ret
        exact ⟨by rw [HN.out]; rfl, HC.out⟩
    · have hdl : decide ((j : Int) < (l.length : Int)) = false := by simp; omega
      have HN := Lib.hid (show R = true by
        have := HH.out.2
        rw [List.take_of_length_le (by omega), List.take_of_length_le (by rw [← HL.out]; omega)] at this
        rw [HR.out, this]; simp)
      go_wp2
      go_ret
      exact ⟨by rw [HN.out]; rfl, HH.out.1⟩

end

section
open Go.RowKit

theorem okNode_kind {k : Int} {m : Nat → Bool} {n : Nat} {lo hi : Int} (h : okNode k m n lo hi = true) :
    (k = 0 ∧ n = 0) ∨ (k = 1 ∧ n = 0) ∨ (k = 2 ∧ 2 ≤ n) ∨ (k = 3 ∧ 2 ≤ n) ∨ (k = 4 ∧ n = 1 ∧ 0 ≤ lo ∧ lo ≤ 64 ∧ (hi = -1 ∨ lo ≤ hi ∧ hi ≤ 64)) := by
  unfold okNode at h
  split at h
  · cases h
  · split at h
    · rename_i h2; have := of_decide_eq_true h; omega
    · split at h
      · rename_i h2; have := of_decide_eq_true h; omega
      · split at h
        · have := of_decide_eq_true h; omega
        · cases h
theorem ok_open {k : Int} {m : Nat → Bool} {l : List Tree} {lo hi : Int} (h : Tree.ok (.node k m l lo hi) = true) : (∀ t ∈ l, t.ok = true) ∧ okNode k m l.length lo hi = true := by
  unfold Tree.ok at h
  rw [Bool.and_eq_true, allOk_iff] at h
  exact h

mutual
def Tree.void : Tree → Bool
  | .node k m l lo _ => if k = 0 then false else if k = 1 then setEq m (fun _ => false) else if k = 2 then anyVoid l else if k = 3 then allVoid l else (decide (0 < lo) && headVoid l)
def anyVoid : List Tree → Bool
  | [] => false
  | t :: r => t.void || anyVoid r
def allVoid : List Tree → Bool
  | [] => true
  | t :: r => t.void && allVoid r
def headVoid : List Tree → Bool
  | [] => false
  | t :: _ => t.void
end
end

section
open Go.RowKit

theorem info_bool : (Tryd.prog.info? 4).map (fun i => (i.zero, i.size, i.bytes)) = some (some (.bool false), 1, 1) := by kernel_rfl
theorem idx_byte {P : Program} (t : TypeId) (ht : P.underlying t = some .string) (s : ByteArray) (i : Nat) (hi : i < s.size) (w : World) :
    (Instr.index t (.string s) (.int .i64 (i : Nat))).run P w = .ok (.int .u8 ((s[i]'hi).toNat : Nat)) w := by
  rw [run_index_string w t s .i64 _ ht, dif_pos ⟨by omega, by omega⟩]
  have e : ((i : Int)).toNat = i := by omega
  simp only [e]

def upTo (j : Nat) (f : Nat → Bool) : Nat → Bool := fun i => decide (i ≤ j) && f i
def stepB (m : Nat → Bool) (s : List UInt8) (f : Nat → Bool) : Nat → Bool
  | 0 => false
  | i + 1 => f i && (match s[i]? with | some c => m c.toNat | none => false)
def orB (f g : Nat → Bool) : Nat → Bool := fun i => f i || g i
def mostOf (s : List UInt8) (lo hi : Int) : Nat := if hi < 0 then lo.toNat + s.length + 1 else hi.toNat
def iterE (E : (Nat → Bool) → Nat → Bool) : Nat → (Nat → Bool) → Nat → Bool
  | 0, f => f
  | n + 1, f => E (iterE E n f)
def repTo (E : (Nat → Bool) → Nat → Bool) (lo most : Nat) (f : Nat → Bool) : Nat → Bool := fun i => (List.range most).any fun n => decide (lo ≤ n) && iterE E n f i

mutual
def Tree.ends (s : List UInt8) : Tree → (Nat → Bool) → Nat → Bool
  | .node k m l lo hi => fun f => if k = 0 then f else if k = 1 then stepB m s f else if k = 2 then endsCat s l f else if k = 3 then endsAlt s l f else repTo (headEnds s l) lo.toNat (mostOf s lo hi + 1) f
def endsCat (s : List UInt8) : List Tree → (Nat → Bool) → Nat → Bool
  | [] => fun f => f
  | t :: r => fun f => endsCat s r (t.ends s f)
def endsAlt (s : List UInt8) : List Tree → (Nat → Bool) → Nat → Bool
  | [] => fun _ _ => false
  | t :: r => fun f => orB (t.ends s f) (endsAlt s r f)
def headEnds (s : List UInt8) : List Tree → (Nat → Bool) → Nat → Bool
  | [] => fun f => f
  | t :: _ => t.ends s
end

end

section
open Go.RowKit

def Nf.followAt (N : Nf) (p : Int) : List Int := N.follow.getD p.toNat []
def hasI (l : List Int) (q : Nat) : Bool := l.any fun x => x == (q : Int)
def markF (N : Nf) (at' : List Int) (q : Nat) : Bool := at'.any fun p => hasI (N.followAt p) q
def keepTo (k : Nat) (f : Nat → Bool) (N : Nf) (c : Nat) : List Int := ((List.range k).filter fun q => f q && N.setAt q c).map fun (i : Nat) => (i : Int)
theorem hasI_succ (l : List Int) (j : Nat) (h : j < l.length) (q : Nat) : hasI (l.take (j + 1)) q = (hasI (l.take j) q || (l[j] == (q : Int))) := by
  unfold hasI
  rw [List.take_succ_eq_append_getElem h, List.any_append]; simp
end

section
open Go.RowKit

theorem zeroRw (w : World) : (zeroValue 76).run Tryd.prog w = .ok (.agg (rowA fun _ => false)) w :=
  (zero_of_info (P := Tryd.prog) (t := 76) (v := .agg (rowA fun _ => false)) (n := 32) (by kernel_rfl)).1 w
theorem newF (w : World) (t : TypeId) (f : Nat → Bool) : BlkF (w.alloc (.cells (rowA f) t)) w.heap.size t 32 (rowP f) := BlkIs.new w t _
theorem rowF_has (f : Nat → Bool) : HasRow 32 (rowP f) 0 f := ⟨by decide, fun k _ => by rw [Nat.zero_add]⟩
theorem RowAt.alloc {W : World} {g o : Nat} {f : Nat → Bool} (h : RowAt W g o f) (ob : Obj) : RowAt (W.alloc ob) g o f := h.step ((Below.refl _ _).alloc (Nat.le_refl _) _)
def bothF (f : Nat → Bool) (k : Nat) : Nat → Value := fun i => if i < k then rowP f i else .int .u64 0
theorem bothF_put (f : Nat → Bool) (k : Nat) : putV (bothF f k) k (rowP f k) = bothF f (k + 1) := by
  funext i; unfold putV bothF
  by_cases h : i = k
  · subst h; rw [if_pos rfl, if_pos (by omega)]
  · rw [if_neg h]
    by_cases h2 : i < k
    · rw [if_pos h2, if_pos (by omega)]
    · rw [if_neg h2, if_neg (by omega)]
theorem wd_noP (k : Nat) : wd (fun _ => false) k = 0 := by
  apply Nat.eq_of_testBit_eq
  intro j
  rw [wd_testBit]; simp
theorem bothF_none (f : Nat → Bool) : rowP (fun _ => false) = bothF f 0 := by
  funext i; unfold bothF rowP; rw [if_neg (by omega), wd_noP]; rfl
set_option maxRecDepth 20000 in
set_option maxHeartbeats 4000000 in
theorem rowBoth_any (g o : Nat) (f f2 : Nat → Bool) (g2 o2 : Nat) (w : World) (h1 : RowAt w g o f) (h2 : RowAt w g2 o2 f2) :
    Calls Tryd.prog 52 #[.pointer (some ⟨g, o, none⟩), .pointer (some ⟨g2, o2, none⟩)] w fun e w' => e = .returned (.agg (rowA (sAnd f f2))) ∧ Below w.heap.size w w' := by
  have z := zeroRw
  obtain ⟨Wa, hWa⟩ : ∃ Wa, (w.alloc (.cells (rowA fun _ => false) 76)) = Wa := ⟨_, rfl⟩
  obtain ⟨Wb, hWb⟩ : ∃ Wb, (Wa.alloc (.cells (rowA fun _ => false) 76)) = Wb := ⟨_, rfl⟩
  have hsz : Wa.heap.size = w.heap.size + 1 := by rw [← hWa]; simp
  have ha1 : RowAt Wb g o f := by rw [← hWb, ← hWa]; exact (h1.alloc _).alloc _
  have ha2 : RowAt Wb g2 o2 f2 := by rw [← hWb, ← hWa]; exact (h2.alloc _).alloc _
  have hr : BlkF Wb w.heap.size 76 32 (rowP fun _ => false) := by rw [← hWb, ← hWa]; exact BlkIs.alloc (newF w _ _) _
  have hl : BlkF Wb (w.heap.size + 1) 76 32 (bothF (sAnd f f2) 0) := by rw [← hWb, ← bothF_none, ← hsz]; exact newF Wa _ _
  have hbb : Below w.heap.size w Wb := by rw [← hWb, ← hWa]; exact ((Below.refl _ _).alloc (Nat.le_refl _) _).alloc (by simp) _
  have hg1 : g < w.heap.size := World.block_lt_of_cell? w ⟨g, o + 0, none⟩ (h1 0 (by decide))
  have HB := Lib.hid (And.intro ha1 (And.intro ha2 (And.intro hr (And.intro hl hbb))))
  clear h1 h2 ha1 ha2 hr hl hbb
  go_enter Tryd.func52, Tryd.ntmps52
  go_wp2_with (refine wpList_loadWs rfl _ rfl rfl HB.out.2.1 ?_)
  go_loopw [6, 7, 12] (fun _ _ i wr => ∃ k : Nat, i = .int .i64 k ∧ k ≤ 32 ∧ Hid (RowAt wr g o f ∧ BlkF wr w.heap.size 76 32 (rowP fun _ => false) ∧ BlkF wr (w.heap.size + 1) 76 32 (bothF (sAnd f f2) k) ∧ Below w.heap.size w wr)) (fun _ _ i _ => 32 - (intOf i).toNat)
  case atStart => exact ⟨0, rfl, by decide, Lib.hid ⟨HB.out.1, HB.out.2.2⟩⟩
  case round =>
    obtain ⟨k, rfl, hk, HH⟩ := hrel
    by_cases hp : k < 32
    · have hk1 : IntKind.i64.wrap ((k : Int) + 1) = ((k + 1 : Nat) : Int) := by rw [IntKind.wrap_i64]; omega
      have hdl : decide ((k : Int) < 32) = true := by simp; omega
      have hix := fun u => idxRw f2 hp u
      have hc := HH.out.1 k hp
      have hc2 := BlkF.cell HH.out.2.2.1 hp
      have hfz := BlkIs.frozen HH.out.2.2.1 k
      unfold rowP at hc hix
      have hor := bits_and_wd f f2 k
      have HN := Lib.hid (show RowAt (wr.setCell ⟨w.heap.size + 1, k, none⟩ (.int .u64 (wd (sAnd f f2) k : Nat))) g o f ∧ BlkF (wr.setCell ⟨w.heap.size + 1, k, none⟩ (.int .u64 (wd (sAnd f f2) k : Nat))) w.heap.size 76 32 (rowP fun _ => false) ∧ BlkF (wr.setCell ⟨w.heap.size + 1, k, none⟩ (.int .u64 (wd (sAnd f f2) k : Nat))) (w.heap.size + 1) 76 32 (bothF (sAnd f f2) (k + 1)) ∧ Below w.heap.size w (wr.setCell ⟨w.heap.size + 1, k, none⟩ (.int .u64 (wd (sAnd f f2) k : Nat))) from
        ⟨HH.out.1.heap (Below.heap_setCell _ _ _ _ (by show g ≠ w.heap.size + 1; omega)), BlkIs.far HH.out.2.1 (by show w.heap.size ≠ w.heap.size + 1; omega) _, by rw [← bothF_put]; exact HH.out.2.2.1.put _ _, HH.out.2.2.2.setCell (p := ⟨w.heap.size + 1, k, none⟩) (by show w.heap.size ≤ w.heap.size + 1; omega) _⟩)
      go_wp2
      exact ⟨⟨k + 1, rfl, by omega, HN⟩, by simp [intOf]; omega⟩
    · have hdl : decide ((k : Int) < 32) = false := by simp; omega
      obtain rfl : k = 32 := by omega
      have hro : RowAt wr (w.heap.size + 1) 0 (sAnd f f2) := fun i hi => by
        rw [Nat.zero_add, BlkF.cell HH.out.2.2.1 hi]; unfold bothF; rw [if_pos hi]
      have HRO := Lib.hid hro
      clear hro
      go_wp2_with (first
        | (refine wpList_loadRw rfl _ rfl rfl HRO.out ?_)
        | (refine wpList_store_all rfl 76 _ _ rfl rfl rfl HH.out.2.1 (by rw [rowA_size, cellsN_size]) (by rw [rowA_size]; exact infoRw) (rowA_one _) ?_; intro w9 hb9 hw9))
      have hl9 : (loadVar 76 ⟨w.heap.size, 0, none⟩).run Tryd.prog w9 = .ok (.agg (rowA (sAnd f f2))) w9 := loadVarRw (BlkF.row (t := 76) (N := 32) (F := rowP (sAnd f f2)) hb9 (rowF_has _))
      exact ⟨rfl, _, results_cell1 rfl rfl hl9, ⟨rfl, hw9.2.1 _ _ (Nat.le_refl _) HH.out.2.2.2⟩⟩
end

section
open Go.RowKit

attribute [local irreducible] FreeW

def marks0 (N : Nf) (b : Bool) (q : Nat) : Bool := b && hasI N.first q
def marksS (N : Nf) (b : Bool) (at' : List Int) (q : Nat) : Bool := marks0 N b q || markF N at' q
theorem RowI.low {B B' : Nat} {W : World} {v : Value} {l : List Int} (h : RowI B W v l) (hb : B' ≤ B) : RowI B' W v l :=
  ⟨h.1, h.2.imp id fun ⟨g, cap, cur, e, h1, r⟩ => ⟨g, cap, cur, e, Nat.le_trans hb h1, r⟩⟩
end

section
open Go.RowKit

theorem NfaAt.form {W : World} {N : Nf} {v : Value} (h : NfaAt W N v) : ∃ A0 A1 A2 A3 A4 c0 c1 c2 c3 c4, v = .agg #[.slice A0 N.sets.length c0, .slice A1 N.rules.length c1, .slice A2 N.first.length c2, .slice A3 N.follow.length c3, .slice A4 N.ends.length c4, .int .i64 N.empty] := by
  obtain ⟨v0, v1, v2, v3, v4, rfl, ⟨A0, c0, rfl, _, _⟩, ⟨A1, c1, rfl, _, _⟩, ⟨A2, c2, rfl, _, _⟩, ⟨A3, c3, rfl, _, _⟩, ⟨A4, c4, rfl, _, _⟩⟩ := h
  exact ⟨A0, A1, A2, A3, A4, c0, c1, c2, c3, c4, rfl⟩
theorem rises_in {all : Int} : ∀ (l : List Int) (a : Int), risesB all a l = true → ∀ p ∈ l, a < p ∧ p < all
  | [], _, _, p, hp => by cases hp
  | x :: r, a, h, p, hp => by
    unfold risesB at h
    simp only [Bool.and_eq_true, decide_eq_true_eq] at h
    rcases List.mem_cons.1 hp with rfl | hp
    · exact h.1
    · have := rises_in r x h.2 p hp
      omega
theorem rises_len {all : Int} : ∀ (l : List Int) (a : Int), risesB all a l = true → l = [] ∨ (l.length : Int) + a < all
  | [], _, _ => .inl rfl
  | x :: r, a, h => by
    unfold risesB at h
    simp only [Bool.and_eq_true, decide_eq_true_eq] at h
    refine .inr ?_
    rcases rises_len r x h.2 with rfl | h2
    · simp; omega
    · simp only [List.length_cons]; omega
structure MayIs (N : Nf) : Prop where
  small : N.sets.length ≤ 2000
  rules : N.rules.length = N.sets.length
  follow : N.follow.length = N.sets.length
  ends : N.ends.length = N.sets.length
  rule : ∀ r ∈ N.rules, 0 ≤ r ∧ r < 40
  row : ∀ r ∈ N.follow, risesB N.sets.length (-1) r = true
  first : risesB N.sets.length (-1) N.first = true
  empty : -1 ≤ N.empty ∧ N.empty < 40
theorem may_is {N : Nf} (h : N.may = true) : MayIs N := by
  unfold Nf.may Nf.sized Nf.rest okR at h
  simp only [Bool.and_eq_true, decide_eq_true_eq, beq_iff_eq, List.all_eq_true] at h
  obtain ⟨⟨⟨h1, h2⟩, h3, h4⟩, h5, h6, h7, h8, h9⟩ := h
  exact ⟨h1, h2, h3, h4, h5, h6, h7, h8, h9⟩
theorem MayIs.firsts {N : Nf} (h : MayIs N) : (∀ p ∈ N.first, 0 ≤ p ∧ p < (N.sets.length : Int)) ∧ N.first.length ≤ 2000 := by
  refine ⟨fun p hp => by have := rises_in _ _ h.first p hp; omega, ?_⟩
  have hs := h.small
  rcases rises_len _ _ h.first with e | e
  · rw [e]; simp
  · omega
theorem MayIs.rows {N : Nf} (h : MayIs N) : ∀ r ∈ N.follow, ∀ x ∈ r, 0 ≤ x ∧ x < (N.sets.length : Int) := fun r hr x hx => by
  have := rises_in _ _ (h.row r hr) x hx; omega
theorem MayIs.ruleAt {N : Nf} (h : MayIs N) (p : Int) : 0 ≤ N.ruleAt p ∧ N.ruleAt p < 40 := by
  unfold Nf.ruleAt
  rw [List.getD_eq_getElem?_getD]
  by_cases e : p.toNat < N.rules.length
  · rw [List.getElem?_eq_getElem e]; exact h.rule _ (List.getElem_mem e)
  · rw [List.getElem?_eq_none (by omega)]; simp

end

section
open Go.RowKit

def b8 (s : ByteArray) (i : Nat) : Nat := if h : i < s.size then (s[i]'h).toNat else 0
theorem b8_lt (s : ByteArray) (i : Nat) : b8 s i < 256 := by
  unfold b8; split
  · exact UInt8.toNat_lt _
  · decide
theorem keep_in {k : Nat} {f : Nat → Bool} {N : Nf} {c : Nat} : ∀ p ∈ keepTo k f N c, 0 ≤ p ∧ p < (k : Int) := fun p hp => by
  unfold keepTo at hp
  obtain ⟨i, hi, rfl⟩ := List.mem_map.1 hp
  have := List.mem_range.1 (List.mem_filter.1 hi).1
  omega
end

section
open Go.RowKit

theorem hasI_mem {l : List Int} {q : Nat} : hasI l q = true ↔ (q : Int) ∈ l := by
  unfold hasI
  rw [List.any_eq_true]
  constructor
  · rintro ⟨x, hx, e⟩
    have : x = (q : Int) := by simpa using e
    rw [← this]; exact hx
  · intro h
    exact ⟨_, h, by simp⟩
end

section
open Go.RowKit

end
end Go.Proofs.YtgngaaemkmdfaaaDoor
