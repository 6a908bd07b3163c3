/-
 WHAT hackleref04's Void AND Sets ANSWER, at every tree that may be: contracts. Condition: each node of the tree may be.
-/
import Derived.Laws.CopyOwn
import Derived.Deep.OwnRows
import Derived.Lib.ItoaWalk
import Derived.Lib.Strings
import Derived.Test.YtgngaaemkmdfaaaGreatDoorQG04
import Derived.Test.YtgngaaemkmdfaaaGreatDoorQG07
namespace Go.Proofs.YtgngaaemkmdfaaaGreatDoor
section
open Go.RowKit

theorem xzdr {k : Int} {m : Nat → Bool} {n : Nat} {lo hi : Int} (h : okNode k m n lo hi = true) :
   (k = 0 ∧ n = 0) ∨ (k = 1 ∧ n = 0) ∨ (k = 2 ∧ 2 ≤ n) ∨ (k = 3 ∧ 2 ≤ n) ∨ (k = 4 ∧ n = 1 ∧ 0 ≤ lo ∧ lo ≤ 64 ∧ (hi = -1 ∨ lo ≤ hi ∧ hi ≤ 64)) := by
 unfold okNode at h
 split at h
 · cases h
 · split at h
   · rename_i h2; have := of_decide_eq_true h; omega
   · split at h
     · rename_i h2; have := of_decide_eq_true h; omega
     · split at h
       · have := of_decide_eq_true h; omega
       · cases h
theorem xznp {k : Int} {m : Nat → Bool} {l : List Tree} {lo hi : Int} (h : Tree.ok (.node k m l lo hi) = true) : (∀ t ∈ l, t.ok = true) ∧ okNode k m l.length lo hi = true := by
 unfold Tree.ok at h; rw [Bool.and_eq_true, xznf] at h; exact h

mutual
def Tree.void : Tree → Bool
 | .node k m l lo _ => if k = 0 then false else if k = 1 then setEq m (fun _ => false) else if k = 2 then anyVoid l else if k = 3 then allVoid l else (decide (0 < lo) && headVoid l)
def anyVoid : List Tree → Bool
 | [] => false
 | t :: r => t.void || anyVoid r
def allVoid : List Tree → Bool
 | [] => true
 | t :: r => t.void && allVoid r
def headVoid : List Tree → Bool
 | [] => false
 | t :: _ => t.void
end
end

section
open Go.RowKit

def bl (n : Nat) (f : Nat → Bool) : Array Value := ((List.range n).map fun i => Value.bool (f i)).toArray
theorem xznq : (Tryz.prog.info? 4).map (fun i => (i.zero, i.size, i.bytes)) = some (some (.bool false), 1, 1) := by kernel_rfl
theorem xzit {P : Program} (t : TypeId) (ht : P.underlying t = some .string) (s : ByteArray) (i : Nat) (hi : i < s.size) (w : World) :
   (Instr.index t (.string s) (.int .i64 (i : Nat))).run P w = .ok (.int .u8 ((s[i]'hi).toNat : Nat)) w := by
 rw [run_index_string w t s .i64 _ ht, dif_pos ⟨by omega, by omega⟩]
 have e : ((i : Int)).toNat = i := by omega
 simp only [e]

def upTo (j : Nat) (f : Nat → Bool) : Nat → Bool := fun i => decide (i ≤ j) && f i
def stepB (m : Nat → Bool) (s : List UInt8) (f : Nat → Bool) : Nat → Bool
 | 0 => false
 | i + 1 => f i && (match s[i]? with | some c => m c.toNat | none => false)
def orB (f g : Nat → Bool) : Nat → Bool := fun i => f i || g i
def mostOf (s : List UInt8) (lo hi : Int) : Nat := if hi < 0 then lo.toNat + s.length + 1 else hi.toNat
def iterE (E : (Nat → Bool) → Nat → Bool) : Nat → (Nat → Bool) → Nat → Bool
 | 0, f => f
 | n + 1, f => E (iterE E n f)
def repTo (E : (Nat → Bool) → Nat → Bool) (lo most : Nat) (f : Nat → Bool) : Nat → Bool := fun i => (List.range most).any fun n => decide (lo ≤ n) && iterE E n f i

mutual
def Tree.ends (s : List UInt8) : Tree → (Nat → Bool) → Nat → Bool
 | .node k m l lo hi => fun f => if k = 0 then f else if k = 1 then stepB m s f else if k = 2 then endsCat s l f else if k = 3 then endsAlt s l f else repTo (headEnds s l) lo.toNat (mostOf s lo hi + 1) f
def endsCat (s : List UInt8) : List Tree → (Nat → Bool) → Nat → Bool
 | [] => fun f => f
 | t :: r => fun f => endsCat s r (t.ends s f)
def endsAlt (s : List UInt8) : List Tree → (Nat → Bool) → Nat → Bool
 | [] => fun _ _ => false
 | t :: r => fun f => orB (t.ends s f) (endsAlt s r f)
def headEnds (s : List UInt8) : List Tree → (Nat → Bool) → Nat → Bool
 | [] => fun f => f
 | t :: _ => t.ends s
end

end

section
open Go.RowKit

def Nf.followAt (N : Nf) (p : Int) : List Int := N.follow.getD p.toNat []
def hasI (l : List Int) (q : Nat) : Bool := l.any fun x => x == (q : Int)
def markF (N : Nf) (at' : List Int) (q : Nat) : Bool := at'.any fun p => hasI (N.followAt p) q
def keepTo (k : Nat) (f : Nat → Bool) (N : Nf) (c : Nat) : List Int := ((List.range k).filter fun q => f q && N.setAt q c).map fun (i : Nat) => (i : Int)
theorem xznr (l : List Int) (j : Nat) (h : j < l.length) (q : Nat) : hasI (l.take (j + 1)) q = (hasI (l.take j) q || (l[j] == (q : Int))) := by
 unfold hasI; rw [List.take_succ_eq_append_getElem h, List.any_append]; simp
end

section
open Go.RowKit

theorem zeroRw (w : World) : (zeroValue 83).run Tryz.prog w = .ok (.agg (rowA fun _ => false)) w :=
 (zero_of_info (P := Tryz.prog) (t := 83) (v := .agg (rowA fun _ => false)) (n := 32) (by kernel_rfl)).1 w
theorem newF (w : World) (t : TypeId) (f : Nat → Bool) : BlkF (w.alloc (.cells (rowA f) t)) w.heap.size t 32 (rowP f) := BlkIs.new w t _
theorem xzbk (f : Nat → Bool) : HasRow 32 (rowP f) 0 f := ⟨by decide, fun k _ => by rw [Nat.zero_add]⟩
theorem RowAt.alloc {W : World} {g o : Nat} {f : Nat → Bool} (h : RowAt W g o f) (ob : Obj) : RowAt (W.alloc ob) g o f := h.step ((Below.refl _ _).alloc (Nat.le_refl _) _)
def bothF (f : Nat → Bool) (k : Nat) : Nat → Value := fun i => if i < k then rowP f i else .int .u64 0
theorem xzuy (f : Nat → Bool) (k : Nat) : putV (bothF f k) k (rowP f k) = bothF f (k + 1) := by
 funext i; unfold putV bothF
 by_cases h : i = k
 · subst h; rw [if_pos rfl, if_pos (by omega)]
 · rw [if_neg h]
   by_cases h2 : i < k
   · rw [if_pos h2, if_pos (by omega)]
   · rw [if_neg h2, if_neg (by omega)]
theorem wd_noP (k : Nat) : wd (fun _ => false) k = 0 := by
 apply Nat.eq_of_testBit_eq
 intro j; rw [xzaw]; simp
theorem xzrf (f : Nat → Bool) : rowP (fun _ => false) = bothF f 0 := by
 funext i; unfold bothF rowP; rw [if_neg (by omega), wd_noP]; rfl
set_option maxRecDepth 20000 in
set_option maxHeartbeats 4000000 in
theorem xzpd (g o : Nat) (f f2 : Nat → Bool) (g2 o2 : Nat) (w : World) (h1 : RowAt w g o f) (h2 : RowAt w g2 o2 f2) :
   Calls Tryz.prog 55 #[.pointer (some ⟨g, o, none⟩), .pointer (some ⟨g2, o2, none⟩)] w fun e w' => e = .returned (.agg (rowA (sAnd f f2))) ∧ Below w.heap.size w w' := by
 have z := zeroRw; obtain ⟨Wa, hWa⟩ : ∃ Wa, (w.alloc (.cells (rowA fun _ => false) 83)) = Wa := ⟨_, rfl⟩; obtain ⟨Wb, hWb⟩ : ∃ Wb, (Wa.alloc (.cells (rowA fun _ => false) 83)) = Wb := ⟨_, rfl⟩
 have hsz : Wa.heap.size = w.heap.size + 1 := by rw [← hWa]; simp
 have ha1 : RowAt Wb g o f := by rw [← hWb, ← hWa]; exact (h1.alloc _).alloc _
 have ha2 : RowAt Wb g2 o2 f2 := by rw [← hWb, ← hWa]; exact (h2.alloc _).alloc _
 have hr : BlkF Wb w.heap.size 83 32 (rowP fun _ => false) := by rw [← hWb, ← hWa]; exact BlkIs.alloc (newF w _ _) _
 have hl : BlkF Wb (w.heap.size + 1) 83 32 (bothF (sAnd f f2) 0) := by rw [← hWb, ← xzrf, ← hsz]; exact newF Wa _ _
 have hbb : Below w.heap.size w Wb := by rw [← hWb, ← hWa]; exact ((Below.refl _ _).alloc (Nat.le_refl _) _).alloc (by simp) _
 have hg1 : g < w.heap.size := World.block_lt_of_cell? w ⟨g, o + 0, none⟩ (h1 0 (by decide)); have HB := Lib.hid (And.intro ha1 (And.intro ha2 (And.intro hr (And.intro hl hbb)))); clear h1 h2 ha1 ha2 hr hl hbb
 go_enter Tryz.func55, Tryz.ntmps55
 go_wp2_with (refine xzdo rfl _ rfl rfl HB.out.2.1 ?_)
 go_loopw [6, 7, 12] (fun _ _ i wr => ∃ k : Nat, i = .int .i64 k ∧ k ≤ 32 ∧ Hid (RowAt wr g o f ∧ BlkF wr w.heap.size 83 32 (rowP fun _ => false) ∧ BlkF wr (w.heap.size + 1) 83 32 (bothF (sAnd f f2) k) ∧ Below w.heap.size w wr)) (fun _ _ i _ => 32 - (intOf i).toNat)
 case atStart => exact ⟨0, rfl, by decide, Lib.hid ⟨HB.out.1, HB.out.2.2⟩⟩
 case round =>
   obtain ⟨k, rfl, hk, HH⟩ := hrel
   by_cases hp : k < 32
   · have hk1 : IntKind.i64.wrap ((k : Int) + 1) = ((k + 1 : Nat) : Int) := by rw [IntKind.wrap_i64]; omega
     have hdl : decide ((k : Int) < 32) = true := by simp; omega
     have hix := fun u => idxRw f2 hp u
     have hc := HH.out.1 k hp; have hc2 := BlkF.cell HH.out.2.2.1 hp; have hfz := BlkIs.frozen HH.out.2.2.1 k; unfold rowP at hc hix; have hor := xzpa f f2 k
     have HN := Lib.hid (show RowAt (wr.setCell ⟨w.heap.size + 1, k, none⟩ (.int .u64 (wd (sAnd f f2) k : Nat))) g o f ∧ BlkF (wr.setCell ⟨w.heap.size + 1, k, none⟩ (.int .u64 (wd (sAnd f f2) k : Nat))) w.heap.size 83 32 (rowP fun _ => false) ∧ BlkF (wr.setCell ⟨w.heap.size + 1, k, none⟩ (.int .u64 (wd (sAnd f f2) k : Nat))) (w.heap.size + 1) 83 32 (bothF (sAnd f f2) (k + 1)) ∧ Below w.heap.size w (wr.setCell ⟨w.heap.size + 1, k, none⟩ (.int .u64 (wd (sAnd f f2) k : Nat))) from
       ⟨HH.out.1.heap (Below.heap_setCell _ _ _ _ (by show g ≠ w.heap.size + 1; omega)), BlkIs.far HH.out.2.1 (by show w.heap.size ≠ w.heap.size + 1; omega) _, by rw [← xzuy]; exact HH.out.2.2.1.put _ _, HH.out.2.2.2.setCell (p := ⟨w.heap.size + 1, k, none⟩) (by show w.heap.size ≤ w.heap.size + 1; omega) _⟩)
     go_wp2; exact ⟨⟨k + 1, rfl, by omega, HN⟩, by simp [intOf]; omega⟩
   · have hdl : decide ((k : Int) < 32) = false := by simp; omega
     obtain rfl : k = 32 := by omega
     have hro : RowAt wr (w.heap.size + 1) 0 (sAnd f f2) := fun i hi => by
       rw [Nat.zero_add, BlkF.cell HH.out.2.2.1 hi]; unfold bothF; rw [if_pos hi]
     have HRO := Lib.hid hro; clear hro
     go_wp2_with (first
       | (refine xzbu rfl _ rfl rfl HRO.out ?_)
       | (refine xzal rfl 83 _ _ rfl rfl rfl HH.out.2.1 (by rw [xzau, xzax]) (by rw [xzau]; exact infoRw) (xzer _) ?_; intro w9 hb9 hw9))
     have hl9 : (loadVar 83 ⟨w.heap.size, 0, none⟩).run Tryz.prog w9 = .ok (.agg (rowA (sAnd f f2))) w9 := loadVarRw (BlkF.row (t := 83) (N := 32) (F := rowP (sAnd f f2)) hb9 (xzbk _)); exact ⟨rfl, _, xzab rfl rfl hl9, ⟨rfl, hw9.2.1 _ _ (Nat.le_refl _) HH.out.2.2.2⟩⟩
end

section
open Go.RowKit

attribute [local irreducible] FreeW

def marks0 (N : Nf) (b : Bool) (q : Nat) : Bool := b && hasI N.first q
def marksS (N : Nf) (b : Bool) (at' : List Int) (q : Nat) : Bool := marks0 N b q || markF N at' q
theorem RowI.low {B B' : Nat} {W : World} {v : Value} {l : List Int} (h : RowI B W v l) (hb : B' ≤ B) : RowI B' W v l :=
 ⟨h.1, h.2.imp id fun ⟨g, cap, cur, e, h1, r⟩ => ⟨g, cap, cur, e, Nat.le_trans hb h1, r⟩⟩
end

section
open Go.RowKit

theorem NfaAt.form {W : World} {N : Nf} {v : Value} (h : NfaAt W N v) : ∃ A0 A1 A2 A3 A4 c0 c1 c2 c3 c4, v = .agg #[.slice A0 N.sets.length c0, .slice A1 N.rules.length c1, .slice A2 N.first.length c2, .slice A3 N.follow.length c3, .slice A4 N.ends.length c4, .int .i64 N.empty] := by
 obtain ⟨v0, v1, v2, v3, v4, rfl, ⟨A0, c0, rfl, _, _⟩, ⟨A1, c1, rfl, _, _⟩, ⟨A2, c2, rfl, _, _⟩, ⟨A3, c3, rfl, _, _⟩, ⟨A4, c4, rfl, _, _⟩⟩ := h; exact ⟨A0, A1, A2, A3, A4, c0, c1, c2, c3, c4, rfl⟩
theorem xzlo {all : Int} : ∀ (l : List Int) (a : Int), risesB all a l = true → ∀ p ∈ l, a < p ∧ p < all
 | [], _, _, p, hp => by cases hp
 | x :: r, a, h, p, hp => by
   unfold risesB at h; simp only [Bool.and_eq_true, decide_eq_true_eq] at h
   rcases List.mem_cons.1 hp with rfl | hp
   · exact h.1
   · have := xzlo r x h.2 p hp
     omega
theorem xzns {all : Int} : ∀ (l : List Int) (a : Int), risesB all a l = true → l = [] ∨ (l.length : Int) + a < all
 | [], _, _ => .inl rfl
 | x :: r, a, h => by
   unfold risesB at h; simp only [Bool.and_eq_true, decide_eq_true_eq] at h; refine .inr ?_
   rcases xzns r x h.2 with rfl | h2
   · simp; omega
   · simp only [List.length_cons]; omega
structure MayIs (N : Nf) : Prop where
 small : N.sets.length ≤ 2000
 rules : N.rules.length = N.sets.length
 follow : N.follow.length = N.sets.length
 ends : N.ends.length = N.sets.length
 rule : ∀ r ∈ N.rules, 0 ≤ r ∧ r < 40
 row : ∀ r ∈ N.follow, risesB N.sets.length (-1) r = true
 first : risesB N.sets.length (-1) N.first = true
 empty : -1 ≤ N.empty ∧ N.empty < 40
theorem may_is {N : Nf} (h : N.may = true) : MayIs N := by
 unfold Nf.may Nf.sized Nf.rest okR at h; simp only [Bool.and_eq_true, decide_eq_true_eq, beq_iff_eq, List.all_eq_true] at h; obtain ⟨⟨⟨h1, h2⟩, h3, h4⟩, h5, h6, h7, h8, h9⟩ := h; exact ⟨h1, h2, h3, h4, h5, h6, h7, h8, h9⟩
theorem MayIs.firsts {N : Nf} (h : MayIs N) : (∀ p ∈ N.first, 0 ≤ p ∧ p < (N.sets.length : Int)) ∧ N.first.length ≤ 2000 := by
 refine ⟨fun p hp => by have := xzlo _ _ h.first p hp; omega, ?_⟩; have hs := h.small
 rcases xzns _ _ h.first with e | e
 · rw [e]; simp
 · omega
theorem MayIs.rows {N : Nf} (h : MayIs N) : ∀ r ∈ N.follow, ∀ x ∈ r, 0 ≤ x ∧ x < (N.sets.length : Int) := fun r hr x hx => by
 have := xzlo _ _ (h.row r hr) x hx; omega
theorem MayIs.ruleAt {N : Nf} (h : MayIs N) (p : Int) : 0 ≤ N.ruleAt p ∧ N.ruleAt p < 40 := by
 unfold Nf.ruleAt; rw [List.getD_eq_getElem?_getD]
 by_cases e : p.toNat < N.rules.length
 · rw [List.getElem?_eq_getElem e]; exact h.rule _ (List.getElem_mem e)
 · rw [List.getElem?_eq_none (by omega)]; simp

end

section
open Go.RowKit

def b8 (s : ByteArray) (i : Nat) : Nat := if h : i < s.size then (s[i]'h).toNat else 0
theorem xzzg (s : ByteArray) (i : Nat) : b8 s i < 256 := by
 unfold b8; split
 · exact UInt8.toNat_lt _
 · decide
theorem xzxz {k : Nat} {f : Nat → Bool} {N : Nf} {c : Nat} : ∀ p ∈ keepTo k f N c, 0 ≤ p ∧ p < (k : Int) := fun p hp => by
 unfold keepTo at hp; obtain ⟨i, hi, rfl⟩ := List.mem_map.1 hp; have := List.mem_range.1 (List.mem_filter.1 hi).1; omega
end

section
open Go.RowKit

theorem hasI_mem {l : List Int} {q : Nat} : hasI l q = true ↔ (q : Int) ∈ l := by
 unfold hasI; rw [List.any_eq_true]
 constructor
 · rintro ⟨x, hx, e⟩
   have : x = (q : Int) := by simpa using e
   rw [← this]; exact hx
 · intro h
   exact ⟨_, h, by simp⟩
end

section
open Go.RowKit

end

section
open Go.RowKit

def findL (L : List (List Int)) (x : List Int) : Option Nat := (List.range L.length).find? fun i => decide (1 ≤ i) && decide (L.getD i [] = x)
def stepX (N : Nf) (L : List (List Int)) (at' b : Nat) : List Int := keepTo N.sets.length (marksS N (decide (at' = 0)) (L.getD at' [])) N b
def oneX (L : List (List Int)) (x : List Int) : Int × List (List Int) := if x = [] then (-1, L) else match findL L x with
 | some i => ((i : Int), L)
 | none => ((L.length : Int), L ++ [x])
def rowTo (N : Nf) (lb : Nat → Nat) (at' : Nat) (L : List (List Int)) : Nat → List Int × List (List Int)
 | 0 => ([], L)
 | k + 1 => let r := rowTo N lb at' L k; let s := oneX r.2 (stepX N r.2 at' (lb k)); (r.1 ++ [s.1], s.2)
def subTo (N : Nf) (lb : Nat → Nat) (C : Nat) : Nat → Option (List (List Int) × List (List Int))
 | 0 => some ([[]], [])
 | n + 1 => match subTo N lb C n with
   | none => none
   | some (L, R) => if n < L.length then (let r := rowTo N lb n L C; if 600 < r.2.length then none else some (r.2, R ++ [r.1])) else some (L, R)
def subZ (N : Nf) (lb : Nat → Nat) (C : Nat) : Option (List (List Int) × List (List Int)) := subTo N lb C 601

theorem xzrg (L : List (List Int)) (x : List Int) : ∃ l, (oneX L x).2 = L ++ l := by
 unfold oneX
 split
 · exact ⟨[], by simp⟩
 · split
   · exact ⟨[], by simp⟩
   · exact ⟨_, rfl⟩
theorem xziu (N : Nf) (lb : Nat → Nat) (a : Nat) (L : List (List Int)) : ∀ k, (rowTo N lb a L k).1.length = k
 | 0 => rfl
 | k + 1 => by simp only [rowTo, List.length_append, xziu N lb a L k]; rfl
theorem xzei (N : Nf) (lb : Nat → Nat) (a : Nat) (L : List (List Int)) : ∀ k, ∃ l, (rowTo N lb a L k).2 = L ++ l
 | 0 => ⟨[], by simp [rowTo]⟩
 | k + 1 => by
   obtain ⟨l, h⟩ := xzei N lb a L k; obtain ⟨l', h'⟩ := xzrg (rowTo N lb a L k).2 (stepX N (rowTo N lb a L k).2 a (lb k)); exact ⟨l ++ l', by simp only [rowTo]; rw [h', h, List.append_assoc]⟩
theorem xzgf (N : Nf) (lb : Nat → Nat) (a : Nat) (L : List (List Int)) (k : Nat) : ∀ n, (rowTo N lb a L k).2.length ≤ (rowTo N lb a L (k + n)).2.length
 | 0 => Nat.le_refl _
 | n + 1 => by
   refine Nat.le_trans (xzgf N lb a L k n) ?_; obtain ⟨l, h⟩ := xzrg (rowTo N lb a L (k + n)).2 (stepX N (rowTo N lb a L (k + n)).2 a (lb (k + n)))
   show (rowTo N lb a L (k + n)).2.length ≤ (oneX (rowTo N lb a L (k + n)).2 (stepX N (rowTo N lb a L (k + n)).2 a (lb (k + n)))).2.length
   rw [h]; simp
theorem xzrh (N : Nf) (lb : Nat → Nat) (a : Nat) (L : List (List Int)) (k : Nat) (i : Nat) (h : i < L.length) : (rowTo N lb a L k).2.getD i [] = L.getD i [] := by
 obtain ⟨l, e⟩ := xzei N lb a L k; rw [e, List.getD_eq_getElem?_getD, List.getD_eq_getElem?_getD, List.getElem?_append_left h]
theorem xzri (N : Nf) (lb : Nat → Nat) (a : Nat) (L : List (List Int)) (k b : Nat) (h : a < L.length) : stepX N (rowTo N lb a L k).2 a b = stepX N L a b := by
 unfold stepX; rw [xzrh N lb a L k a h]
theorem xzds (N : Nf) (lb : Nat → Nat) (C : Nat) : ∀ n L R, subTo N lb C n = some (L, R) → 1 ≤ L.length ∧ L.length ≤ 600 ∧ (R.length = min n L.length)
 | 0, L, R, h => by
   simp only [subTo, Option.some.injEq, Prod.mk.injEq] at h; obtain ⟨rfl, rfl⟩ := h
   simp
 | n + 1, L, R, h => by
   simp only [subTo] at h
   cases hs : subTo N lb C n with
   | none => rw [hs] at h; cases h
   | some p =>
     obtain ⟨L0, R0⟩ := p; rw [hs] at h; obtain ⟨h1, h2, h3⟩ := xzds N lb C n L0 R0 hs; obtain ⟨l, e⟩ := xzei N lb n L0 C; simp only at h
     split at h
     · split at h
       · cases h
       · simp only [Option.some.injEq, Prod.mk.injEq] at h
         obtain ⟨rfl, rfl⟩ := h
         have : (rowTo N lb n L0 C).2.length = L0.length + l.length := by rw [e]; simp
         refine ⟨by omega, by omega, ?_⟩; simp only [List.length_append, List.length_cons, List.length_nil]; omega
     · simp only [Option.some.injEq, Prod.mk.injEq] at h
       obtain ⟨rfl, rfl⟩ := h; refine ⟨h1, h2, ?_⟩; omega
theorem xzfm (N : Nf) (lb : Nat → Nat) (C n : Nat) {L R : List (List Int)} (h : subTo N lb C n = some (L, R)) (hn : L.length ≤ n) : ∀ d, subTo N lb C (n + d) = some (L, R)
 | 0 => h
 | d + 1 => by
   show (match subTo N lb C (n + d) with
     | none => none
     | some (L, R) => if n + d < L.length then (let r := rowTo N lb (n + d) L C; if 600 < r.2.length then none else some (r.2, R ++ [r.1])) else some (L, R)) = _
   rw [xzfm N lb C n h hn d]; simp only; rw [if_neg (by omega)]
theorem xzgg (N : Nf) (lb : Nat → Nat) (C n : Nat) (h : subTo N lb C n = none) : ∀ d, subTo N lb C (n + d) = none
 | 0 => h
 | d + 1 => by
   show (match subTo N lb C (n + d) with
     | none => none
     | some (L, R) => if n + d < L.length then (let r := rowTo N lb (n + d) L C; if 600 < r.2.length then none else some (r.2, R ++ [r.1])) else some (L, R)) = _
   rw [xzgg N lb C n h d]
theorem xznt (N : Nf) (lb : Nat → Nat) (C n : Nat) {L R : List (List Int)} (h : subTo N lb C n = some (L, R)) (hn : L.length ≤ n) : subZ N lb C = some (L, R) := by
 unfold subZ
 rcases Nat.le_total n 601 with hle | hle
 · have := xzfm N lb C n h hn (601 - n)
   rwa [show n + (601 - n) = 601 by omega] at this
 · cases h6 : subTo N lb C 601 with
   | none =>
     have := xzgg N lb C 601 h6 (n - 601); rw [show 601 + (n - 601) = n by omega, h] at this
     cases this
   | some p =>
     obtain ⟨L0, R0⟩ := p; have hs := xzds N lb C 601 L0 R0 h6; have := xzfm N lb C 601 h6 (by omega) (n - 601); rw [show 601 + (n - 601) = n by omega, h] at this; exact this.symm
theorem xzuz (N : Nf) (lb : Nat → Nat) (C n : Nat) (h : subTo N lb C n = none) : subZ N lb C = none := by
 unfold subZ
 rcases Nat.le_total n 601 with hle | hle
 · have := xzgg N lb C n h (601 - n)
   rwa [show n + (601 - n) = 601 by omega] at this
 · cases h6 : subTo N lb C 601 with
   | none => rfl
   | some p =>
     obtain ⟨L0, R0⟩ := p; have hs := xzds N lb C 601 L0 R0 h6; have := xzfm N lb C 601 h6 (by omega) (n - 601); rw [show 601 + (n - 601) = n by omega, h] at this
     cases this
def Kept (N : Nf) (x : List Int) : Prop := x = [] ∨ ∃ f b, x = keepTo N.sets.length f N b
theorem xzgh (N : Nf) (lb : Nat → Nat) (a : Nat) (L : List (List Int)) (hL : ∀ x ∈ L, Kept N x) : ∀ k, ∀ x ∈ (rowTo N lb a L k).2, Kept N x
 | 0 => hL
 | k + 1 => by
   have ih := xzgh N lb a L hL k; intro x hx; simp only [rowTo, oneX] at hx
   split at hx
   · exact ih x hx
   · split at hx
     · exact ih x hx
     · rcases List.mem_append.1 hx with h | h
       · exact ih x h
       · rw [List.mem_singleton] at h
         exact .inr ⟨_, _, h⟩
theorem xzgi (N : Nf) (lb : Nat → Nat) (C : Nat) : ∀ n L R, subTo N lb C n = some (L, R) → ∀ x ∈ L, Kept N x
 | 0, L, R, h => by
   simp only [subTo, Option.some.injEq, Prod.mk.injEq] at h; obtain ⟨rfl, rfl⟩ := h; intro x hx; rw [List.mem_singleton] at hx; exact .inl hx
 | n + 1, L, R, h => by
   simp only [subTo] at h
   cases hs : subTo N lb C n with
   | none => rw [hs] at h; cases h
   | some p =>
     obtain ⟨L0, R0⟩ := p; rw [hs] at h; have ih := xzgi N lb C n L0 R0 hs; simp only at h
     split at h
     · split at h
       · cases h
       · simp only [Option.some.injEq, Prod.mk.injEq] at h
         obtain ⟨rfl, rfl⟩ := h; exact xzgh N lb n L0 ih C
     · simp only [Option.some.injEq, Prod.mk.injEq] at h
       obtain ⟨rfl, rfl⟩ := h; exact ih
end
end Go.Proofs.YtgngaaemkmdfaaaGreatDoor
