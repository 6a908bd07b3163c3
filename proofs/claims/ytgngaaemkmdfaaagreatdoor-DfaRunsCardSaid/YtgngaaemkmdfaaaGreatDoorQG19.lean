/-
 THE SUBSETS AS AN AUTOMATON: rows of what the maker holds; what dfa.Subset answers, by plain functions. No condition but those of each theorem.
-/
import Derived.Test.YtgngaaemkmdfaaaGreatDoorQG16
import Derived.Test.YtgngaaemkmdfaaaGreatDoorQG18
import Derived.Test.YtgngaaemkmdfaaaGreatDoorQG15
namespace Go.Proofs.YtgngaaemkmdfaaaGreatDoor
section
open Go.RowKit

theorem rowsD {W : World} {B C : Nat} {v : Value} {L : List (List Int)} {bs : Nat → Nat} (h : W.ownsRow B 26 1 v L.length (hdrs bs C L.length)) (hr : ∀ (i : Nat) (h : i < L.length), BlkF W (bs i) 3 C (intF L[i])) (hl : ∀ r ∈ L, r.length = C) (hC : C ≤ 9223372036854775807) : RowsI W L v := by
 rcases h.2 with ⟨rfl, h0⟩ | ⟨g, cap, cur, rfl, h1, h2, h3, h4, _⟩
 · obtain rfl := List.eq_nil_of_length_eq_zero h0
   exact ⟨none, 0, rfl, ⟨by simp, by simp⟩, fun hne => absurd rfl hne⟩
 · refine ⟨_, cap, rfl, ⟨h3, by unfold maxLen at h4; omega⟩, fun _ => ⟨g, 0, rfl, (Array.getElem?_eq_some_iff.1 h2).1, fun i hi => ⟨.slice (some ⟨bs i, 0, none⟩) C C, ?_, ?_⟩⟩⟩
   · have := World.ownsRow.cells (g := g) h rfl i (.slice (some ⟨bs i, 0, none⟩) C C) (by unfold hdrs; rw [List.getElem?_map, List.getElem?_range hi]; rfl)
     rw [Addr.add_lit] at this; exact this
   · have hli : L[i].length = C := hl _ (List.getElem_mem hi)
     refine ⟨some ⟨bs i, 0, none⟩, C, by rw [hli], ⟨by omega, hC⟩, fun _ => ⟨bs i, 0, rfl, BlkIs.lt (hr i hi), fun j hj => ?_⟩⟩; rw [Nat.zero_add, (hr i hi).cell (by omega)]; unfold intF; rw [List.getD_eq_getElem?_getD, List.getElem?_eq_getElem hj]; rfl
theorem xzki (N : Nf) (lb : Nat → Nat) (C : Nat) : ∀ n L R, subTo N lb C n = some (L, R) → ∀ r ∈ R, r.length = C
 | 0, L, R, h => by
   simp only [subTo, Option.some.injEq, Prod.mk.injEq] at h; obtain ⟨rfl, rfl⟩ := h; intro r hr; cases hr
 | n + 1, L, R, h => by
   simp only [subTo] at h
   cases hs : subTo N lb C n with
   | none => rw [hs] at h; cases h
   | some p =>
     obtain ⟨L0, R0⟩ := p; rw [hs] at h; have ih := xzki N lb C n L0 R0 hs; simp only at h
     split at h
     · split at h
       · cases h
       · simp only [Option.some.injEq, Prod.mk.injEq] at h
         obtain ⟨rfl, rfl⟩ := h; intro r hr
         rcases List.mem_append.1 hr with h1 | h1
         · exact ih r h1
         · rw [List.mem_singleton] at h1; subst h1; exact xziu _ _ _ _ _
     · simp only [Option.some.injEq, Prod.mk.injEq] at h
       obtain ⟨rfl, rfl⟩ := h; exact ih
def dfNone : Df := ⟨fun _ => 0, 0, [], []⟩
def subAns (N : Nf) : Df × Int := if N.may then (match subZ N (lbN N) (clN N) with | none => (dfNone, 4) | some (L, R) => (⟨ofN N, (clN N : Nat), R, tagsL N L⟩, 0)) else (dfNone, 1)
theorem xzfn (W : World) : DfAt W dfNone (.agg df0) := ⟨.slice none 0 0, .slice none 0 0, rfl, ⟨none, 0, rfl, ⟨Nat.le_refl _, by decide⟩, fun h => absurd rfl h⟩, IntsV.nil W⟩
theorem sm_df {N : Nf} {w W : World} {ρ : Nat → Nat} {L R : List (List Int)} {fol tak : List (Nat → Bool)} {V : MkV} {bs : Nat → Nat} (h : SM (spN N w) ρ ⟨L, L, R, tagsL N L, fol, tak⟩ V bs W) (hz : subZ N (lbN N) (clN N) = some (L, R)) :
   DfB W (w.heap.size + 2) (ofN N) (clN N : Nat) V.next V.tag ∧ (∃ A c, V.next = .slice A R.length c) ∧ (∃ A c, V.tag = .slice A (tagsL N L).length c) ∧ ∀ W' : World, (∀ k, w.heap.size ≤ k → W'.heap[k]? = W.heap[k]?) → RowsI W' R V.next ∧ IntsV W' (tagsL N L) V.tag := by
 have F : ¬ False := fun h => h
 have h1 := DfB.ofMk (h.blk F)
 have key : ∀ W' : World, (∀ k, w.heap.size ≤ k → W'.heap[k]? = W.heap[k]?) → RowsI W' R V.next ∧ IntsV W' (tagsL N L) V.tag := fun W' hk =>
   ⟨rowsD (xzav (h.nx F) fun k hk' => hk k (World.ownsRow.lt (h.nx F) k hk').1) (fun i hi => (hk _ (h.rlow i hi)).trans (h.rw i hi F)) (xzki _ _ _ _ _ _ hz) (show clN N ≤ _ by have := yzad N; omega),
     RowI.ints (xzat (h.tg F) fun k hk' => hk k (World.ownsRow.lt (h.tg F) k hk').1)⟩
 obtain ⟨h2, h3⟩ := key W fun _ _ => rfl
 obtain ⟨hv1, hv2, _⟩ := h.vals; rw [show V.of = ofN N from hv1, show V.n = clN N from hv2] at h1; exact ⟨h1, (by obtain ⟨A, c, e, _⟩ := h2; exact ⟨A, c, e⟩), (by obtain ⟨A, c, e, _⟩ := h3; exact ⟨A, c, e⟩), key⟩
end

section
open Go.RowKit

attribute [local irreducible] FreeW textFrame

theorem xzbw {fn : Func} {p q : Tmp} {ty : TypeId} {tmps : Array Value} {P : Program} {w w' : World} {a : Addr} {v : Value} (h : fn.results = #[.cell p ty, .tmp q]) (hp : tmps.getD p undef = .pointer (some a)) (hl : (loadVar ty a).run P w = .ok v w') :
   (results fn tmps).run P w = .ok (.tuple #[v, tmps.getD q undef]) w' := by
 rw [results_cell_tmp h, hp]
 simp [asAddr, hl, Result.andThen]
set_option maxRecDepth 20000 in
set_option maxHeartbeats 16000000 in
theorem xzse (N : Nf) (v : Value) (w : World) (h : NfaAt w N v) (hms : N.sets.length ≤ 64) (hT : Tab w) :
   Calls Tryz.prog 22 #[v] w fun e w' => ∃ vd, e = .returned (.tuple #[vd, .int .i64 (subAns N).2]) ∧ DfAt w' (subAns N).1 vd ∧ Below w.heap.size w w' := by
 obtain ⟨A0, A1, A2, A3, A4, c0, c1, c2, c3, c4, rfl⟩ := h.form; obtain ⟨W1, hW1⟩ : ∃ W1, w.alloc (.cells #[.slice A0 N.sets.length c0, .slice A1 N.rules.length c1, .slice A2 N.first.length c2, .slice A3 N.follow.length c3, .slice A4 N.ends.length c4, .int .i64 N.empty] 49) = W1 := ⟨_, rfl⟩; obtain ⟨W2, hW2⟩ : ∃ W2, W1.alloc (.cells df0 33) = W2 := ⟨_, rfl⟩
 have hs1 : W1.heap.size = w.heap.size + 1 := by rw [← hW1]; simp
 have hs2 : W2.heap.size = w.heap.size + 2 := by rw [← hW2]; simp [hs1]
 have hb1 : Below w.heap.size w W1 := by rw [← hW1]; exact (Below.refl _ _).alloc (Nat.le_refl _) _
 have hb2 : Below w.heap.size w W2 := by rw [← hW2]; exact hb1.alloc (by omega) _
 have hx1 : BlkIs W1 w.heap.size 49 #[.slice A0 N.sets.length c0, .slice A1 N.rules.length c1, .slice A2 N.first.length c2, .slice A3 N.follow.length c3, .slice A4 N.ends.length c4, .int .i64 N.empty] := by rw [← hW1]; exact BlkIs.new _ _ _
 have hx2 : BlkIs W2 w.heap.size 49 #[.slice A0 N.sets.length c0, .slice A1 N.rules.length c1, .slice A2 N.first.length c2, .slice A3 N.follow.length c3, .slice A4 N.ends.length c4, .int .i64 N.empty] := by rw [← hW2]; exact hx1.alloc _
 have hd2 : BlkIs W2 (w.heap.size + 1) 33 df0 := by rw [← hW2, ← hs1]; exact BlkIs.new _ _ _
 have z := zeroDf; have HMA := Lib.hid (fun (u : World) (hu : Below w.heap.size w u) => xzyw N _ u (h.step hu)); obtain ⟨c0', c1', c2', c3', c4', c5'⟩ := six hx2; have HX := Lib.hid (And.intro hx2 (And.intro hd2 hb2)); have HNF := Lib.hid h; have HTT := Lib.hid hT; have HMS := Lib.hid hms; clear h hT hb1 hb2 hx1 hx2 hd2 hms; obtain ⟨d0, hd0⟩ : ∃ d0, df0 = d0 := ⟨_, rfl⟩; rw [hd0] at hW2 z; have hd00 := xzad (fun _ => 0) 0 (.slice none 0 0) (.slice none 0 0)
 go_enter Tryz.func22, Tryz.ntmps22
 go_wp2_with fail
 go_at_call 36
 refine (HMA.out _ HX.out.2.2).mono ?_; rintro e u1 ⟨rfl, hbu⟩; have hb1 := HX.out.2.2.trans (hbu.mono HX.out.2.2.size); have hd1 := BlkIs.step HX.out.2.1 hbu; have hx1 := BlkIs.step HX.out.1 hbu
 cases hmay : N.may with
 | false =>
   have HA := Lib.hid (show subAns N = (dfNone, 1) by unfold subAns; rw [hmay]; rfl); obtain ⟨W9, hsc, hb9, hw9⟩ := xzbb (P := Tryz.prog) hd1 (new := df0) rfl (xzcd _ _ _ _ rfl rfl); have hl9 := loadVarDf (DfB.of hb9); have HB9 := Lib.hid (hw9.2.1 _ _ (by omega) hb1); have hs9 : df0.size = 259 := xzad _ _ _ _; rw [hd0] at hsc hs9; rw [show dfC (fun _ => 0) 0 (.slice none 0 0) (.slice none 0 0) = d0 from hd0] at hl9; clear hb1 hx1 hd1 hb9 hw9 HMA HX c0' c1' c2' c3' c4' c5' hbu; go_wp2; refine ⟨rfl, _, xzbw rfl rfl hl9, _, by rw [HA.out]; rfl, ?_, HB9.out⟩; rw [HA.out, ← hd0]; exact xzfn W9
 | true =>
   have HMI := Lib.hid (may_is hmay); have HNM := Lib.hid (xzlx N _ u1 (HNF.out.step hb1) HMS.out (HTT.out.step hb1) (by have := HMI.out.small; have := HMI.out.follow; omega) (fun l hl p hp => by have := HMI.out.rows l hl p hp; have := HMI.out.small; omega)); have hx1' := six hx1; obtain ⟨e0, e1, e2, e3, e4, e5⟩ := hx1'; clear HMA HX c0' c1' c2' c3' c4' c5'
   go_wp2_with fail
   go_at_call 37
   refine HNM.out.mono ?_; rintro e u2 ⟨rfl, ρ, V, bs, hsm⟩; have HFA := Lib.hid (xzsd (spN N u1) ρ _ V bs u2 hsm HMI.out (lbN N) (yzad N) ⟨rfl, rfl, rfl, rfl⟩ rfl rfl); have HD1 := Lib.hid (And.intro hd1 hb1); clear hsm HNM hd1 hb1 hx1 e0 e1 e2 e3 e4 e5 hbu
   go_wp2_with fail
   go_at_call 38
   refine HFA.out.mono ?_; rintro e u3 ⟨hf1, hf2⟩
   cases hz : subZ N (lbN N) (clN N) with
   | none =>
     obtain ⟨rfl, hbu⟩ := hf2 hz; have HA := Lib.hid (show subAns N = (dfNone, 4) by unfold subAns; rw [hmay, hz]; rfl); have hbu : Below u1.heap.size u1 u3 := hbu; have hd1 := BlkIs.step HD1.out.1 hbu; obtain ⟨W9, hsc, hb9, hw9⟩ := xzbb (P := Tryz.prog) hd1 (new := df0) rfl (xzcd _ _ _ _ rfl rfl); have hl9 := loadVarDf (DfB.of hb9); have HB9 := Lib.hid (hw9.2.1 _ _ (by omega) (HD1.out.2.trans (hbu.mono HD1.out.2.size))); have hs9 : df0.size = 259 := xzad _ _ _ _; rw [hd0] at hsc hs9; rw [show dfC (fun _ => 0) 0 (.slice none 0 0) (.slice none 0 0) = d0 from hd0] at hl9; clear hf1 hf2 hd1 hb9 hw9 HFA hbu; go_wp2; refine ⟨rfl, _, xzbw rfl rfl hl9, _, by rw [HA.out]; rfl, ?_, HB9.out⟩; rw [HA.out, ← hd0]; exact xzfn W9
   | some LR =>
     obtain ⟨L, R⟩ := LR; obtain ⟨rfl, ρ', V', bs', hsm⟩ := hf1 L R hz; have HA := Lib.hid (show subAns N = (⟨ofN N, (clN N : Nat), R, tagsL N L⟩, 0) by unfold subAns; rw [hmay, hz]; rfl); have hbu : Below u1.heap.size u1 u3 := hsm.below; have hd1 := BlkIs.step HD1.out.1 hbu; obtain ⟨hdf, ⟨An, cn, en⟩, ⟨At, ct, et⟩, hkey⟩ := sm_df hsm hz
     have hn1 : V'.next.oneCell' = true := by rw [en]; rfl
     have ht1 : V'.tag.oneCell' = true := by rw [et]; rfl
     obtain ⟨W9, hsc, hb9, hw9⟩ := xzbb (P := Tryz.prog) hd1 (new := dfC (ofN N) (clN N : Nat) V'.next V'.tag) (by rw [xzad]; exact (xzad _ _ _ _).symm) (xzcd _ _ _ _ hn1 ht1); have hl9 := loadVarDf (DfB.of hb9); have HB9 := Lib.hid (hw9.2.1 _ _ (by omega) (HD1.out.2.trans (hbu.mono HD1.out.2.size))); have hs9 : (dfC (ofN N) (clN N : Nat) V'.next V'.tag).size = 259 := xzad _ _ _ _; have HR := Lib.hid (hkey W9 fun k hk => hw9.1 k (by have := BlkIs.lt HD1.out.1; omega)); have hlow : w.heap.size + 1 < u1.heap.size := BlkIs.lt HD1.out.1; generalize hvn : V'.next = vn at *; generalize hvt : V'.tag = vt at *; obtain ⟨d9, hd9⟩ : ∃ d9, dfC (ofN N) (clN N : Nat) vn vt = d9 := ⟨_, rfl⟩; have hl3 := loadDf hdf; rw [hd9] at hsc hs9 hl9 hl3
     have hld : ∀ {ops : Array Oper} {rest : List Oper} {op : Oper} {a : Act} {Q : Exit → Act → World → Prop} (_ : op.guard = none) (x : Operand) (_ : op.op = .load 33 x) (_ : a.eval x = .pointer (some ⟨u1.heap.size + 2, 0, none⟩)) (_ : wpList Tryz.prog ops Q rest (a.put op.dst (.agg d9)) u3), wpList Tryz.prog ops Q (op :: rest) a u3 := fun hg x ho hx hK => xzke hg x ho hx hdf (by rw [hd9]; exact hK)
     clear hf1 hf2 hd1 hb9 hw9 HFA hbu hkey hdf hsm hl3 hn1 ht1
     go_wp2_with (refine hld rfl _ rfl rfl ?_)
     refine ⟨rfl, _, xzbw rfl rfl hl9, _, by rw [HA.out]; rfl, ?_, HB9.out⟩; rw [HA.out]; exact ⟨vn, vt, congrArg Value.agg hd9.symm, HR.out⟩
end

section
open Go.RowKit

attribute [local irreducible] FreeW

def inB (many : Int) (l : List Int) : Bool := l.all fun n => decide (-1 ≤ n) && decide (n < many)
set_option maxHeartbeats 2000000 in
theorem xzkj (l : List Int) (v : Value) (all : Int) (w : World) (hv : IntsV w l v) : Calls Tryz.prog 25 #[v, .int .i64 all] w fun e w' => e = .returned (.bool (inB all l)) ∧ w' = w := by
 obtain ⟨A, c, rfl, hc, hs⟩ := hv; have HS := Lib.hid hs; obtain ⟨R, hR⟩ : ∃ R, R = inB all l := ⟨_, rfl⟩; rw [← hR]; have HR := Lib.hid hR; clear hs hR
 go_enter Tryz.func25, Tryz.ntmps25
 go_wp2
 go_loopw [6, 9] (fun _ i wr => ∃ (j : Nat), i = .int .i64 j ∧ j ≤ l.length ∧ Hid (wr = w ∧ R = inB all (l.drop j))) (fun _ i _ => l.length - (intOf i).toNat)
 case atStart => exact ⟨0, rfl, Nat.zero_le _, Lib.hid ⟨rfl, HR.out⟩⟩
 case round =>
   obtain ⟨j, rfl, hj, HH⟩ := hrel; obtain ⟨rfl, hRR⟩ := HH.out; have HH := Lib.hid hRR; clear hRR
   by_cases hp : j < l.length
   · have hk1 : IntKind.i64.wrap ((j : Int) + 1) = ((j + 1 : Nat) : Int) := by rw [IntKind.wrap_i64]; omega
     have hdl : decide ((j : Int) < (l.length : Int)) = true := by simp; omega
     obtain ⟨b, o, rfl, hlt, hg⟩ := HS.out (by intro e; subst e; simp at hp); have hcell := hg j hp; have hd := HH.out; rw [List.drop_eq_getElem_cons hp] at hd; unfold inB at hd; rw [List.all_cons] at hd; clear hg; generalize l[j] = p at *; have HD := Lib.hid hd; clear hd
     by_cases h1 : p < -1
     · have e1 : decide (p < -1) = true := by simp; omega
       have HN := Lib.hid (show R = false by rw [HD.out]; simp; omega); clear h1; go_wp2; go_ret; exact ⟨by rw [HN.out]; rfl, rfl⟩
     · have e1 : decide (p < -1) = false := by simp; omega
       by_cases h2 : p < all
       · have e2 : decide (p ≥ all) = false := by simp; omega
         have e2b : decide (all ≤ p) = false := by simp; omega
         have HN := Lib.hid (show R = inB all (l.drop (j + 1)) by rw [HD.out]; unfold inB; simp [h2]; omega); clear h1 h2; go_wp2; exact ⟨⟨j + 1, rfl, hp, Lib.hid ⟨by trivial, HN.out⟩⟩, by simp [intOf]; omega⟩
       · have e2 : decide (p ≥ all) = true := by simp; omega
         have e2b : decide (all ≤ p) = true := by simp; omega
         have HN := Lib.hid (show R = false by rw [HD.out]; simp [h2]); clear h1 h2; go_wp2; go_ret; exact ⟨by rw [HN.out]; rfl, rfl⟩
   · have hdl : decide ((j : Int) < (l.length : Int)) = false := by simp; omega
     obtain rfl : j = l.length := by omega
     have HN := Lib.hid (show R = true by rw [HH.out]; unfold inB; simp); go_wp2; go_ret; exact ⟨by rw [HN.out]; rfl, rfl⟩
def Df.sized (D : Df) : Bool := decide (D.next.length ≤ 600) && (D.tag.length == D.next.length)
def rowOk (n : Int) (all : Int) (r : List Int) : Bool := ((r.length : Int) == n) && inB all r
def Df.may (D : Df) : Bool := D.sized && (mayB D.of D.n && (D.next.all (rowOk D.n D.next.length) && inB 40 D.tag))
section
variable {op : Oper} {a : Act} {w : World} {K : Act → World → Prop} {Q : Exit → Act → World → Prop} {g : Nat} {f : Nat → Nat} {n : Int} {vn vt : Value}
theorem xzwd (x : Operand) (ho : op.op = .load 31 x) (hx : a.eval x = .pointer (some ⟨g, 0, none⟩)) (h : DfB w g f n vn vt)
   (hK : K (a.put op.dst (.agg (clsC f n))) w) : op.wp Tryz.prog a w K Q :=
 wp_load_mid 31 x ho g 0 hx (clsC f n).toList _ h.rangeC Tryz.underlying31 rfl (by rw [infoC, Array.length_toList, xzag]) (by rw [Array.toArray_toList]; exact hK)
theorem xzwe (x : Operand) (ho : op.op = .load 33 x) (hx : a.eval x = .pointer (some ⟨g, 0, none⟩)) (h : DfB w g f n vn vt)
   (hK : K (a.put op.dst (.agg (dfC f n vn vt))) w) : op.wp Tryz.prog a w K Q :=
 wp_load_mid 33 x ho g 0 hx (dfC f n vn vt).toList _ h.range Tryz.underlying33 rfl (by rw [infoD, Array.length_toList, xzad]) (by rw [Array.toArray_toList]; exact hK)
theorem xzwf (x : Operand) (ho : op.op = .load 28 x) (hx : a.eval x = .pointer (some ⟨g, 0, none⟩)) (h : DfB w g f n vn vt)
   (hK : K (a.put op.dst (.agg (dfC f n vn vt))) w) : op.wp Tryz.prog a w K Q :=
 wp_load_mid 28 x ho g 0 hx (dfC f n vn vt).toList _ h.range Tryz.underlying28 rfl (by rw [infoDr, Array.length_toList, xzad]) (by rw [Array.toArray_toList]; exact hK)
end
section
variable {ops : Array Oper} {rest : List Oper} {op : Oper} {a : Act} {w : World} {Q : Exit → Act → World → Prop} {g : Nat} {f : Nat → Nat} {n : Int} {vn vt : Value}
theorem xzdb {P : Program} (hw : Region.wanted op (yielded ops a.tmps) = true)
   (h : ∀ K : Act → World → Prop, (∀ a w, wpList P ops Q rest a w → K a w) → op.wp P a w K Q) : wpList P ops Q (op :: rest) a w :=
 wpList_step fun K hK => by simp only [hw, if_true]; exact h K hK
theorem xzgp (x : Operand) (ho : op.op = .load 31 x) (hx : a.eval x = .pointer (some ⟨g, 0, none⟩)) (h : DfB w g f n vn vt) (hw : Region.wanted op (yielded ops a.tmps) = true)
   (hK : wpList Tryz.prog ops Q rest (a.put op.dst (.agg (clsC f n))) w) : wpList Tryz.prog ops Q (op :: rest) a w :=
 xzdb hw fun _ hk => xzwd x ho hx h (hk _ _ hK)
theorem xzan (x : Operand) (ho : op.op = .load 33 x) (hx : a.eval x = .pointer (some ⟨g, 0, none⟩)) (h : DfB w g f n vn vt) (hw : Region.wanted op (yielded ops a.tmps) = true)
   (hK : wpList Tryz.prog ops Q rest (a.put op.dst (.agg (dfC f n vn vt))) w) : wpList Tryz.prog ops Q (op :: rest) a w :=
 xzdb hw fun _ hk => xzwe x ho hx h (hk _ _ hK)
theorem xzbl (x : Operand) (ho : op.op = .load 28 x) (hx : a.eval x = .pointer (some ⟨g, 0, none⟩)) (h : DfB w g f n vn vt) (hw : Region.wanted op (yielded ops a.tmps) = true)
   (hK : wpList Tryz.prog ops Q rest (a.put op.dst (.agg (dfC f n vn vt))) w) : wpList Tryz.prog ops Q (op :: rest) a w :=
 xzdb hw fun _ hk => xzwf x ho hx h (hk _ _ hK)
end
theorem xzbs (f : Nat → Nat) (n : Int) (vn vt : Value) (w : World) : ∃ W1, w.alloc (.cells (dfC f n vn vt) 33) = W1 ∧ W1.heap.size = w.heap.size + 1 ∧ Below w.heap.size w W1 ∧ BlkIs W1 w.heap.size 33 (dfC f n vn vt) :=
 ⟨_, rfl, by simp, (Below.refl _ _).alloc (Nat.le_refl _) _, BlkIs.new _ _ _⟩
theorem xzce (f : Nat → Nat) (n : Int) (vn vt : Value) (w : World) : ∃ W1, w.alloc (.cells (dfC f n vn vt) 28) = W1 ∧ W1.heap.size = w.heap.size + 1 ∧ Below w.heap.size w W1 ∧ BlkIs W1 w.heap.size 28 (dfC f n vn vt) :=
 ⟨_, rfl, by simp, (Below.refl _ _).alloc (Nat.le_refl _) _, BlkIs.new _ _ _⟩
end

section
open Go.RowKit

attribute [local irreducible] FreeW

set_option maxRecDepth 20000 in
set_option maxHeartbeats 8000000 in
theorem xziv (D : Df) (v : Value) (w : World) (h : DfAt w D v) (hf : ∀ b, b < 256 → D.of b < 256) : Calls Tryz.prog 7 #[v] w fun e w' => e = .returned (.bool D.may) ∧ Below w.heap.size w w' := by
 obtain ⟨vn, vt, rfl, hrn, hrt⟩ := h; obtain ⟨W1, hbx, hsz, hb1, hx1⟩ := xzbs D.of D.n vn vt w; have hd1 := DfB.of hx1; obtain ⟨c256, c257, c258⟩ := hd1.cells; have hrn1 := hrn.step hb1; have hrt1 := hrt.step hb1; have hrt1' := hrt1; have HM := Lib.hid (xzjv D.of D.n hf W1); obtain ⟨An, cn, rfl, hcn, hgn⟩ := hrn1; obtain ⟨At, ct, rfl, hct, hgt⟩ := hrt1; have HGN := Lib.hid hgn; have HB := Lib.hid hb1; have hrt1' := Lib.hid hrt1'; obtain ⟨R, hR⟩ : ∃ R, R = D.may := ⟨_, rfl⟩; rw [← hR]; unfold Df.may Df.sized at hR; have HDF := Lib.hid hd1; obtain ⟨dc, hdc⟩ : ∃ dc, dfC D.of D.n (.slice An D.next.length cn) (.slice At D.tag.length ct) = dc := ⟨_, rfl⟩; rw [hdc] at hbx
 have hds : dc.size = 259 := by rw [← hdc]; exact xzad _ _ _ _
 rw [hdc]; clear hrn hrt hb1 hx1 hd1 hgn hgt hdc; generalize hmb : mayB D.of D.n = mb at *; have HM := Lib.hid (show Calls Tryz.prog 24 #[.agg (clsC D.of D.n)] W1 (fun e w' => e = .returned (.bool mb) ∧ Below W1.heap.size W1 w') from HM.out); generalize D.of = f at *; generalize D.n = n at *; generalize D.next = nx at *; generalize D.tag = tg at *; obtain ⟨cl, hcl⟩ : ∃ cl, clsC f n = cl := ⟨_, rfl⟩
 by_cases hk : nx.length ≤ 600
 case neg =>
   have e0 : decide ((nx.length : Int) > 600) = true := by simp; omega
   have e0b : decide ((600 : Int) < (nx.length : Int)) = true := by simp; omega
   have HN := Lib.hid (show R = false by rw [hR]; simp [hk]); clear hR hk
   go_enter Tryz.func7, Tryz.ntmps7
   go_wp2; go_ret; exact ⟨by rw [HN.out]; rfl, HB.out⟩
 have e0 : decide ((nx.length : Int) > 600) = false := by simp; omega
 have e0b : decide ((600 : Int) < (nx.length : Int)) = false := by simp; omega
 by_cases h1 : tg.length = nx.length
 case neg =>
   have e1 : ((tg.length : Int) != (nx.length : Int)) = true := by simp; omega
   have HN := Lib.hid (show R = false by rw [hR]; simp [h1]); clear hR hk h1
   go_enter Tryz.func7, Tryz.ntmps7
   go_wp2; go_ret; exact ⟨by rw [HN.out]; rfl, HB.out⟩
 have e1 : ((tg.length : Int) != (nx.length : Int)) = false := by simp; omega
 have HN := Lib.hid (show R = (mb && (nx.all (rowOk n nx.length) && inB 40 tg)) by rw [hR]; simp [h1, hk]); clear hR hk h1; have HCC := Lib.hid (And.intro c256 (And.intro c257 c258))
 cases mb with
 | false =>
   go_enter Tryz.func7, Tryz.ntmps7
   go_wp2_with (first
     | ((with_reducible refine xzgp (.tmp 19) ?_ ?_ HDF.out ?_ ?_); exact rfl; exact rfl; kernel_rfl; rw [hcl])
     | (go_at_call 24; rw [← hcl]; refine HM.out.mono ?_; rintro e u1 ⟨rfl, hbu⟩; have HB2 := Lib.hid (HB.out.trans (hbu.mono HB.out.size)); clear hbu))
   go_ret; exact ⟨by rw [HN.out]; rfl, HB2.out⟩
 | true =>
   rw [Bool.true_and] at HN
   go_enter Tryz.func7, Tryz.ntmps7
   go_wp2_with (first
     | ((with_reducible refine xzgp (.tmp 19) ?_ ?_ HDF.out ?_ ?_); exact rfl; exact rfl; kernel_rfl; rw [hcl])
     | (go_at_call 24; rw [← hcl]; refine HM.out.mono ?_; rintro e u1 ⟨rfl, hbu⟩; have HB2 := Lib.hid hbu; have c256' := (hbu.cell (p := ⟨w.heap.size, 256, none⟩) (by show w.heap.size < _; omega)).trans HCC.out.1; have c257' := (hbu.cell (p := ⟨w.heap.size, 257, none⟩) (by show w.heap.size < _; omega)).trans HCC.out.2.1; have c258' := (hbu.cell (p := ⟨w.heap.size, 258, none⟩) (by show w.heap.size < _; omega)).trans HCC.out.2.2; clear hbu))
   clear hbx HDF HCC HM c256 c257 c258 hcl hds
   go_loopw [5, 27] (fun _ i wr => ∃ j : Nat, i = .int .i64 j ∧ j ≤ nx.length ∧ Hid (wr = u1 ∧ R = ((nx.drop j).all (rowOk n nx.length) && inB 40 tg))) (fun _ i _ => nx.length - (intOf i).toNat)
   case atStart => exact ⟨0, rfl, Nat.zero_le _, Lib.hid ⟨rfl, HN.out⟩⟩
   case round =>
     obtain ⟨j, rfl, hj, HH⟩ := hrel; obtain ⟨rfl, hRR⟩ := HH.out; have HH := Lib.hid hRR; clear hRR
     by_cases hp : j < nx.length
     · have hk1 : IntKind.i64.wrap ((j : Int) + 1) = ((j + 1 : Nat) : Int) := by rw [IntKind.wrap_i64]; omega
       have hdl : decide ((j : Int) < (nx.length : Int)) = true := by simp; omega
       obtain ⟨b, o, rfl, hlt, hg⟩ := HGN.out (by intro e; subst e; simp at hp); obtain ⟨vr, hcell, hvr⟩ := hg j hp; have hcell' := (HB2.out.cell (p := ⟨b, o + j, none⟩) hlt).trans hcell; have hvr' := hvr.step HB2.out; have hd := HH.out; rw [List.drop_eq_getElem_cons hp, List.all_cons] at hd; clear hg hcell hvr; generalize nx[j] = r at *; have HWI := Lib.hid (xzkj r vr nx.length wr hvr'); obtain ⟨Ar, cr, rfl, hcr, _⟩ := hvr'; unfold rowOk at hd
       by_cases h1 : (r.length : Int) = n
       · have e3 : ((r.length : Int) != n) = false := by simp [h1]
         cases h2 : inB nx.length r with
         | true =>
           rw [h2] at HWI; have HN2 := Lib.hid (show R = ((nx.drop (j + 1)).all (rowOk n nx.length) && inB 40 tg) by rw [hd, h2]; simp [h1]; rfl); clear h1 h2 hd
           go_wp2_with (go_at_call 25; refine HWI.out.mono ?_; rintro e u2 ⟨rfl, rfl⟩)
           exact ⟨⟨j + 1, rfl, hp, Lib.hid ⟨by trivial, HN2.out⟩⟩, by simp [intOf]; omega⟩
         | false =>
           rw [h2] at HWI; have HN2 := Lib.hid (show R = false by rw [hd, h2]; simp); clear h1 h2 hd
           go_wp2_with (go_at_call 25; refine HWI.out.mono ?_; rintro e u2 ⟨rfl, rfl⟩)
           go_ret; exact ⟨by rw [HN2.out]; rfl, HB.out.trans (HB2.out.mono HB.out.size)⟩
       · have e3 : ((r.length : Int) != n) = true := by simp [h1]
         have HN2 := Lib.hid (show R = false by rw [hd]; simp [h1]); clear h1 hd; go_wp2; go_ret; exact ⟨by rw [HN2.out]; rfl, HB.out.trans (HB2.out.mono HB.out.size)⟩
     · have hdl : decide ((j : Int) < (nx.length : Int)) = false := by simp; omega
       obtain rfl : j = nx.length := by omega
       have HN2 := Lib.hid (show R = inB 40 tg by rw [HH.out]; simp); have HW2 := Lib.hid (xzkj tg _ 40 wr (hrt1'.out.step HB2.out))
       go_wp2_with (go_at_call 25; refine HW2.out.mono ?_; rintro e u2 ⟨rfl, rfl⟩)
       go_ret; exact ⟨by rw [HN2.out]; rfl, HB.out.trans (HB2.out.mono HB.out.size)⟩
end
end Go.Proofs.YtgngaaemkmdfaaaGreatDoor
