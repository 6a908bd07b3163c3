/-
 WHAT IS SAID OF NO PROGRAM: a region that draws its order, whose operations make memory, some of them behind a guard that holds: one walk in the order of the text serves every order. No condition but those of the theorem.
-/
import Derived.Test.YtgngaaemkmdfaaaGreatDoorQG10
import Derived.Test.YtgngaaemkmdfaaaGreatDoorQG04
import Derived.Test.YtgngaaemkmdfaaaGreatDoorQG20
import Derived.Test.YtgngaaemkmdfaaaGreatDoorQG43
import Derived.Test.YtgngaaemkmdfaaaGreatDoorQG07
namespace Go.Proofs.YtgngaaemkmdfaaaGreatDoor
section
open Go.RowKit

section actsG
variable {P : Program} {ops : Array Oper} {C : World → Prop}

def StepW (P : Program) (ops : Array Oper) (C : World → Prop) (R : Nat → World → World → Prop) (V : Nat → Value → World → Prop) (a0 : Act) (i : Nat) : Prop :=
 ∀ (vs : Nat → Value) (u : World), C u → (∀ j, j < i → Region.waitsFor .any ops i j = true → V j (vs j) u) → ∀ o, ops[i]? = some o → Region.wanted o (yielded ops (textFrame ops vs a0 i).tmps) = true ∧ actUpon P u (R i) (V i) ((execOp (textFrame ops vs a0 i).eval o).run P u)

variable {h N : Nat} {R : Nat → World → World → Prop} {V : Nat → Value → World → Prop} {a0 : Act}
theorem xzqe (hsel : Region.noSelect ops = true) (hh : h ≤ ops.size) (hD : distinctB ops h N = true) (hK : looksB ops h h = true) (hN : a0.tmps.size = N)
   (hCs : ∀ i u u', i < h → C u → R i u u' → C u') (hVs : ∀ i j v u u', i < h → j < h → i ≠ j → V i v u → R j u u' → V i v u') {Q : Exit → Act → World → Prop} {listed : Array Bool} {a : Act} {u : World} (hst : StandsA ops C h V a0 listed a u)
   {i : Nat} (hi : i < h) (hr : i ∈ Region.ready .any ops listed) (hv : StepW P ops C R V a0 i) :
   wpOp P ops Q i (fun a' u' => StandsA ops C h V a0 (listed.setIfInBounds i true) a' u') a u := by
 obtain ⟨inv, vs, hc, hC, hV⟩ := hst; have hcc := xzbx hD hN hh vs i (by omega); obtain ⟨hun, o', ho', hall⟩ := mem_ready.1 hr; have hunf := getD_both hun
 have hlt := fun j hj => xzdk inv j hj
 have hsz : a.tmps.size = (textFrame ops vs a0 i).tmps.size := hc.2.1.trans hcc.2.1.symm
 have hwait : ∀ j, j < i → Region.waitsFor .any ops i j = true → listed.getD j false = true := fun j _ h3 => by
   obtain ⟨oi, hoi, e, he, hbd, hon⟩ := Region.waitsFor_spec h3; obtain rfl : oi = o' := Option.some.inj (hoi.symm.trans ho'); have hl := hall e he hbd; rw [hon] at hl; exact hl
 have hlook : ∀ t ∈ o'.looksAt ops, a.tmps.getD t undef = (textFrame ops vs a0 i).tmps.getD t undef := fun t ht => by
   by_cases hwr : ∃ j oj, j < h ∧ ops[j]? = some oj ∧ oj.dst = some t ∧ j ≠ i
   · obtain ⟨j, oj, hj, hoj, hd, hne⟩ := hwr
     obtain ⟨h1, h2, h3⟩ := xzcm hK hi ho' ht hj hoj hd hne; have hl := hwait j h1 h3; rw [hc.2.2.1 j oj t hoj hl hd, hcc.2.2.1 j oj t hoj (by simpa using h1) hd]
   · have hn1 : ∀ j oj, ops[j]? = some oj → listed.getD j false = true → oj.dst ≠ some t := fun j oj hoj hl hd => by
       by_cases e : j = i
       · subst e; rw [hunf] at hl; cases hl
       · exact hwr ⟨j, oj, hlt j hl, hoj, hd, e⟩
     have hn2 : ∀ j oj, ops[j]? = some oj → decide (j < i) = true → oj.dst ≠ some t := fun j oj hoj hl hd =>
       hwr ⟨j, oj, by have := of_decide_eq_true hl; omega, hoj, hd, by have := of_decide_eq_true hl; omega⟩
     rw [hc.2.2.2 t hn1, hcc.2.2.2 t hn2]
 obtain ⟨hex, hwa⟩ := xzef (ops := ops) (Region.noSelect_spec hsel i o' · · ho') hsz hlook
 have hset : ∀ (x : Value) (u' : World), R i u u' → V i x u' → StandsA ops C h V a0 (listed.setIfInBounds i true) (a.put o'.dst x) u' := fun x u' hbu hx => by
   refine ⟨inv.set hr (by omega), fun j => if j = i then x else vs j, ?_, hCs _ _ _ hi hC hbu, fun j h1 h3 => ?_⟩
   · refine hc.put hD hN (fun j hj => hlt j hj) hi ho' hunf x (fun j => ?_) (fun j hj => ?_) (by simp)
     · by_cases e : j = i
       · subst e
         have : j < listed.size := by rw [inv.size]; omega
         simp [this]
       · rw [getD_set_ne false (Ne.symm e)]; simp [e]
     · have hne : j ≠ i := fun e => by subst e; rw [hunf] at hj; cases hj
       simp [hne]
   · by_cases e : j = i
     · subst e; simpa using hx
     · rw [getD_set_ne false (Ne.symm e)] at h3
       simp only [if_neg e]; exact hVs j i _ _ _ h1 hi e (hV j h1 h3) hbu
 obtain ⟨hg, hf⟩ := hv vs u hC (fun j hj hw => hV j (by omega) (hwait j hj hw)) o' ho'; unfold wpOp; simp only [ho']; have hw : Region.wanted o' (yielded ops a.tmps) = true := hwa.trans hg; rw [if_pos hw]; refine .inl ?_; rw [← hex] at hf; unfold Oper.wp; generalize (execOp a.eval o').run P u = r at hf
 cases r with
 | ok nx w' =>
   cases nx <;> simp only [actUpon] at hf <;> simp only [Oper.upon]
   case value x => exact hset x w' hf.1 hf.2
   case enter f args =>
     obtain ⟨rfl, hcall⟩ := hf
     exact hcall.mono fun e w'' ⟨v, he, hbw, hvw⟩ => by subst he; exact hset v w'' hbw hvw
 | halt x w' => simp only [actUpon] at hf

theorem xzxt {Q : Exit → Act → World → Prop} (hB : freeB ops h h N = true) (hN : a0.tmps.size = N) (hCs : ∀ i u u', i < h → C u → R i u u' → C u') (hVs : ∀ i j v u u', i < h → j < h → i ≠ j → V i v u → R j u u' → V i v u')
   (hS : ∀ i, i < h → StepW P ops C R V a0 i)
   (hend : ∀ a u, StandsA ops C h V a0 (headArr ops.size h) a u → wpList P ops Q (ops.toList.drop h) a u) :
   ∀ (d : Nat) (listed : Array Bool) (a : Act) (u : World), toCome listed h = d → StandsA ops C h V a0 listed a u → wpAny P .any ops Q (d + (ops.size - h)) listed a u := by
 simp only [freeB, Bool.and_eq_true, Bool.or_eq_true, decide_eq_true_eq] at hB; obtain ⟨⟨⟨⟨⟨⟨⟨hsel, hnh⟩, hh⟩, hD⟩, hK⟩, hA⟩, hT⟩, hSq⟩ := hB; intro d
 induction d with
 | zero =>
   intro listed a u hd hst; have hl := xzcp hst.1 (xzcn hd); subst hl; have := wpAny_of_seq (md := .any) (Q' := Q) (ops.toList.drop h) h (headArr ops.size h) a u (fun j => by simp) (by simpa using hSq) (hend a u hst)
   simpa using this
 | succ d ih =>
   intro listed a u hd hst
   have hex : ∃ i, i < h ∧ listed.getD i false = false := by
     have hpos : 0 < ((List.range h).filter fun i => !listed.getD i false).length := by unfold toCome at hd; omega
     obtain ⟨i, hi⟩ := List.exists_mem_of_length_pos hpos; rw [List.mem_filter] at hi; exact ⟨i, List.mem_range.1 hi.1, by simpa using hi.2⟩
   obtain ⟨i0, hi0, hu0⟩ := hex; have hs := hst.1.size; obtain ⟨j0, hj0⟩ := xzco hh hA hs i0 i0 (Nat.le_refl _) hi0 hu0; rw [show d + 1 + (ops.size - h) = (d + (ops.size - h)) + 1 by omega]; refine ⟨fun he => (by rw [he] at hj0; cases hj0), fun i hi => ?_⟩
   have hil : i < ops.size := by
     obtain ⟨_, o, ho, _⟩ := mem_ready.1 hi; exact (Array.getElem?_eq_some_iff.1 ho).1
   have hih : i < h := by
     rcases Nat.lt_or_ge i h with hlt | hge
     · exact hlt
     · rcases hT with hT | hT
       · omega
       · exact absurd hi (tail_waits hT.1 hT.2 (by omega) hst.1 (h - i0) i0 rfl hi0 (getD_in (by omega) hu0) i hge)
   have hun := getD_both (mem_ready.1 hi).1; have hset := xzdj hih (by omega) hun; exact wpOp_mono (fun a' u' hst' => ih _ a' u' (by omega) hst') (xzqe hsel hh hD hK hN hCs hVs hst hih hi (hS i hih))

theorem xzdy {id : Nat} {l : List Oper} {Q : Exit → Act → World → Prop} {a : Act} {w : World} (h N : Nat) (C : World → Prop) (R : Nat → World → World → Prop) (V : Nat → Value → World → Prop)
   (hm : P.follows .mixedOrders = true) (hB : freeB l.toArray h h N = true) (hN : a.tmps.size = N) (hC0 : C w.drew) (hCs : ∀ i u u', i < h → C u → R i u u' → C u') (hVs : ∀ i j v u u', i < h → j < h → i ≠ j → V i v u → R j u u' → V i v u')
   (hS : ∀ i, i < h → StepW P l.toArray C R V a i)
   (hE : ∀ (vs : Nat → Value) (u : World), C u → (∀ i, i < h → V i (vs i) u) → wpList P l.toArray Q (l.drop h) (textFrame l.toArray vs a h) u) : (Code.region id l.toArray true).wp P Q a w := by
 have hB' := hB; simp only [freeB, Bool.and_eq_true, Bool.or_eq_true, decide_eq_true_eq] at hB'; obtain ⟨⟨⟨⟨⟨⟨⟨hsel, hnh⟩, hh⟩, hD⟩, hK⟩, hA⟩, hT⟩, hSq⟩ := hB'; refine wp_region_any hm ?_
 have inv0 : HeadInv .any l.toArray h (Array.replicate l.toArray.size false) :=
   ⟨by simp, fun j oj _ hl => (by rw [getD_replicate_false] at hl; cases hl), fun t _ ht => getD_in (by simpa using ht) (getD_replicate_false _ _)⟩
 have hst0 : StandsA l.toArray C h V a (Array.replicate l.toArray.size false) a w.drew := by
   refine ⟨inv0, fun _ => undef, ⟨rfl, rfl, fun i o t _ hi => ?_, fun _ _ => rfl⟩, hC0, fun i _ hl => ?_⟩
   · have hi' : (Array.replicate l.toArray.size false).getD i false = true := hi
     rw [getD_replicate_false] at hi'; cases hi'
   · rw [getD_replicate_false] at hl; cases hl
 have hcome : toCome (Array.replicate l.toArray.size false) h = h := by
   unfold toCome; rw [List.filter_eq_self.2 (fun i _ => by rw [getD_replicate_false]; rfl)]
   simp
 have := xzxt (P := P) (Q := Q) hB hN hCs hVs hS (fun a' u hst => ?_) h _ a w.drew hcome hst0
 · rw [show h + (l.toArray.size - h) = l.toArray.size by omega] at this
   exact this
 · obtain ⟨inv, vs, hc, hC, hV⟩ := hst
   have hg : ∀ i, i < h → (headArr l.toArray.size h).getD i false = true := fun i hi => by rw [xzbo, if_pos (by omega)]; simpa using hi
   have hcall : Came l.toArray (fun j => decide (j < h)) vs a a' := by
     refine ⟨hc.1, hc.2.1, fun i o t ho hi ht => hc.2.2.1 i o t ho (hg i (of_decide_eq_true hi)) ht, fun t ht => hc.2.2.2 t fun i o ho hi => ht i o ho ?_⟩; have := xzdk inv i hi
     simpa using this
   have he := hcall.unique (xzbx hD hN hh vs h (Nat.le_refl _)) (fun _ _ => rfl); subst he
   simpa using hE vs u hC (fun i hi => hV i hi (hg i hi))

end actsG
end

section
open Go.RowKit

attribute [local irreducible] FreeW textFrame

theorem xzde {ops : Array Oper} {rest : List Oper} {op : Oper} {a : Act} {w : World} {Q : Exit → Act → World → Prop} {f : Nat → Nat} {n : Int} (hgd : op.guard = none) (x y : Operand) (ho : op.op = .binOp .neq 24 x y 24) {f' : Nat → Nat} {n' : Int} (hx : a.eval x = .agg (clsC f n)) (hy : a.eval y = .agg (clsC f' n'))
   (hK : wpList Tryz.prog ops Q rest (a.put op.dst (.bool (!sameB f f' n n'))) w) : wpList Tryz.prog ops Q (op :: rest) a w := by
 refine wpList_plain hgd fun K' hK' => ?_
 have hq := run_eqGuard_agg (P := Tryz.prog) w .neq 24 x y (clsC f n) (clsC f' n') (by kernel_rfl); unfold Oper.wp execOp; simp only [ho, hx, hy, Sem.run_bind, Sem.run_pure, hq, neq_ref, Result.andThen_ok]; exact hK' _ _ hK
set_option maxRecDepth 20000 in
set_option maxHeartbeats 8000000 in
theorem xzoy (D E : Df) (v v' : Value) (w : World) (h : DfAt w D v) (h' : DfAt w E v') : Calls Tryz.prog 13 #[v, v'] w fun e w' => e = .returned (.bool (sameD D E)) ∧ Below w.heap.size w w' := by
 obtain ⟨vn, vt, rfl, hrn, hrt⟩ := h; obtain ⟨vn', vt', rfl, hrn', hrt'⟩ := h'; obtain ⟨W1, hW1, hs1, hb1, hx1⟩ := xzce D.of D.n vn vt w; obtain ⟨W2, hW2, hs2, hb2, hx2⟩ := xzce E.of E.n vn' vt' W1; have hbb : Below w.heap.size w W2 := hb1.trans (hb2.mono (by omega)); have hd1 := (DfB.of hx1).step hb2; have hd2 := DfB.of hx2; rw [hs1] at hs2 hd2; obtain ⟨c256, c257, c258⟩ := hd1.cells; obtain ⟨k256, k257, k258⟩ := hd2.cells; have HIT := Lib.hid (xzln D.tag E.tag vt vt' W2 (hrt.step hbb) (hrt'.step hbb)); obtain ⟨An, cn, rfl, hcn, hgn⟩ := hrn.step hbb; obtain ⟨An2, cn2, rfl, hcn2, hgn2⟩ := hrn'.step hbb; obtain ⟨At, ct, rfl, hct, _⟩ := hrt; obtain ⟨At2, ct2, rfl, hct2, _⟩ := hrt'; have HG := Lib.hid (And.intro hgn hgn2); have HD := Lib.hid (And.intro hd1 hd2); have HB := Lib.hid hbb; obtain ⟨R, hR⟩ : ∃ R, R = sameD D E := ⟨_, rfl⟩; rw [← hR]; unfold sameD at hR; obtain ⟨d9, hd9⟩ : ∃ d9, dfC D.of D.n (.slice An D.next.length cn) (.slice At D.tag.length ct) = d9 := ⟨_, rfl⟩; obtain ⟨e9, he9⟩ : ∃ e9, dfC E.of E.n (.slice An2 E.next.length cn2) (.slice At2 E.tag.length ct2) = e9 := ⟨_, rfl⟩
 have hds : d9.size = 259 := by rw [← hd9]; exact xzad _ _ _ _
 have hes : e9.size = 259 := by rw [← he9]; exact xzad _ _ _ _
 rw [hd9] at hW1; rw [he9] at hW2; rw [hd9, he9]; have HK0 := Lib.hid (And.intro c257 k257); have HL2 := Lib.hid (show w.heap.size < W2.heap.size ∧ w.heap.size + 1 < W2.heap.size by omega); clear hrn hrn' hb1 hb2 hbb hx1 hx2 hd1 hd2 hgn hgn2
 cases hsb : sameB D.of E.of D.n E.n with
 | false =>
   have HN := Lib.hid (show R = false by rw [hR, hsb]; rfl); clear hR HIT
   go_enter Tryz.func13, Tryz.ntmps13
   go_wp2_with (first
     | ((with_reducible refine xzam rfl (.tmp 6) ?_ ?_ HD.out.1 ?_); exact rfl; exact rfl)
     | ((with_reducible refine xzam rfl (.tmp 8) ?_ ?_ HD.out.2 ?_); exact rfl; exact rfl)
     | ((with_reducible refine xzde (f := D.of) (n := D.n) (f' := E.of) (n' := E.n) rfl (.tmp 7) (.tmp 9) ?_ ?_ ?_ ?_); exact rfl; exact rfl; exact rfl; rw [hsb]))
   go_ret; exact ⟨by rw [HN.out]; rfl, HB.out⟩
 | true =>
   rw [hsb, Bool.true_and] at hR
   cases htg : decide (D.tag = E.tag) with
   | false =>
     have HN := Lib.hid (show R = false by rw [hR, htg]; rfl); clear hR
     go_enter Tryz.func13, Tryz.ntmps13
     go_wp2_with (first
     | ((with_reducible refine xzam rfl (.tmp 6) ?_ ?_ HD.out.1 ?_); exact rfl; exact rfl)
     | ((with_reducible refine xzam rfl (.tmp 8) ?_ ?_ HD.out.2 ?_); exact rfl; exact rfl)
     | ((with_reducible refine xzde (f := D.of) (n := D.n) (f' := E.of) (n' := E.n) rfl (.tmp 7) (.tmp 9) ?_ ?_ ?_ ?_); exact rfl; exact rfl; exact rfl; rw [hsb])
     | (go_at_call 23; refine HIT.out.mono ?_; rintro e u1 ⟨rfl, hbu⟩; have HU := Lib.hid hbu; have q1 := (hbu.cell (p := ⟨w.heap.size, 257, none⟩) HL2.out.1).trans HK0.out.1; have q2 := (hbu.cell (p := ⟨w.heap.size + 1, 257, none⟩) HL2.out.2).trans HK0.out.2; rw [htg]; clear hbu))
     go_ret; exact ⟨by rw [HN.out]; rfl, HB.out.trans (HU.out.mono HB.out.size)⟩
   | true =>
     rw [htg, Bool.true_and] at hR
     by_cases hl : D.next.length = E.next.length
     · have e1 : ((D.next.length : Int) != (E.next.length : Int)) = false := by simp; omega
       have HN := Lib.hid (show R = decide (D.next.drop 0 = E.next.drop 0) from hR); clear hR
       go_enter Tryz.func13, Tryz.ntmps13
       go_wp2_with (first
     | ((with_reducible refine xzam rfl (.tmp 6) ?_ ?_ HD.out.1 ?_); exact rfl; exact rfl)
     | ((with_reducible refine xzam rfl (.tmp 8) ?_ ?_ HD.out.2 ?_); exact rfl; exact rfl)
     | ((with_reducible refine xzde (f := D.of) (n := D.n) (f' := E.of) (n' := E.n) rfl (.tmp 7) (.tmp 9) ?_ ?_ ?_ ?_); exact rfl; exact rfl; exact rfl; rw [hsb])
     | (go_at_call 23; refine HIT.out.mono ?_; rintro e u1 ⟨rfl, hbu⟩; have HU := Lib.hid hbu; have q1 := (hbu.cell (p := ⟨w.heap.size, 257, none⟩) HL2.out.1).trans HK0.out.1; have q2 := (hbu.cell (p := ⟨w.heap.size + 1, 257, none⟩) HL2.out.2).trans HK0.out.2; rw [htg]; clear hbu))
       have HHS := Lib.hid (show Below W2.heap.size W2 u1 from HU.out); clear hW1 hW2 hds hes HIT HD c256 k256 c257 k257 c258 k258 q1 q2
       go_loopw [5] (fun i wr => ∃ j : Nat, i = .int .i64 j ∧ j ≤ D.next.length ∧ Hid (Below W2.heap.size W2 wr ∧ R = decide (D.next.drop j = E.next.drop j))) (fun i _ => D.next.length - (intOf i).toNat)
       case atStart => exact ⟨0, rfl, Nat.zero_le _, Lib.hid ⟨HHS.out, HN.out⟩⟩
       case round =>
         obtain ⟨j, rfl, hj, HH⟩ := hrel; obtain ⟨wq, rfl⟩ : ∃ wq, wq = wr := ⟨_, rfl⟩; clear HHS HU HN; have q1 := (HH.out.1.cell (p := ⟨w.heap.size, 257, none⟩) HL2.out.1).trans HK0.out.1
         by_cases hp : j < D.next.length
         · have hk1 : IntKind.i64.wrap ((j : Int) + 1) = ((j + 1 : Nat) : Int) := by rw [IntKind.wrap_i64]; omega
           have hdl : decide ((j : Int) < (D.next.length : Int)) = true := by simp; omega
           have hdl2 : decide ((j : Int) < (E.next.length : Int)) = true := by simp; omega
           obtain ⟨b1, o1, rfl, hlt1, hg1⟩ := HG.out.1 (by intro e; rw [e] at hp; simp at hp); obtain ⟨b2, o2, rfl, hlt2, hg2⟩ := HG.out.2 (by intro e; rw [e] at hl; simp at hl; rw [hl] at hp; simp at hp); obtain ⟨v1, hc1, hv1⟩ := hg1 j hp; obtain ⟨v2, hc2, hv2⟩ := hg2 j (by omega); have hd := HH.out.2; rw [xzjk _ _ hl j hp] at hd; generalize D.next[j] = r1 at *; generalize E.next[j] = r2 at *; have HIN := Lib.hid (fun (u : World) (hu : Below W2.heap.size W2 u) => xzln r1 r2 v1 v2 u (hv1.step hu) (hv2.step hu)); have HK := Lib.hid (And.intro HK0.out.1 (And.intro HK0.out.2 (And.intro hc1 hc2))); have HLT := Lib.hid (And.intro hlt1 hlt2); have HDL := Lib.hid hdl; have HDL2 := Lib.hid hdl2; have HP0 := Lib.hid (show (0 : Int) ≤ (j : Int) by omega); have HRD := Lib.hid hd; clear hd hg1 hg2 hc1 hc2 hv1 hv2
           go_wp2_with fail
           refine xzaf 12 47 (fun u => Hid (Below W2.heap.size W2 u)) (fun _ u u' => Below u.heap.size u u')
             (fun i v u => match i with
               | 0 => v = .pointer (some ⟨w.heap.size, 257, none⟩)
               | 1 => v = .slice (some ⟨b1, o1, none⟩) D.next.length cn
               | 2 => v = .int .i64 (j : Nat)
               | 3 => v = .pointer (some ⟨b1, o1 + j, none⟩)
               | 4 => v = v1
               | 5 => v = .pointer (some ⟨w.heap.size + 1, 257, none⟩)
               | 6 => v = .slice (some ⟨b2, o2, none⟩) E.next.length cn2
               | 7 => v = .int .i64 (j : Nat)
               | 8 => v = .pointer (some ⟨b2, o2 + j, none⟩)
               | 9 => v = v2
               | 10 => v = .bool (decide (r1 = r2))
               | 11 => v = .bool (!decide (r1 = r2))
               | _ => True) (by kernel_rfl) (by kernel_rfl) rfl (Lib.hid HH.out.1.drew) ?_ ?_ ?_ ?_
           · intro i u u' hix hC hr
             exact Lib.hid (hC.out.trans (hr.mono hC.out.size))
           · intro i j v u u' hix hj hne hv hr
             match i, hix, hne, hv with
             | 0, _, _, hv => exact hv
             | 1, _, _, hv => exact hv
             | 2, _, _, hv => exact hv
             | 3, _, _, hv => exact hv
             | 4, _, _, hv => exact hv
             | 5, _, _, hv => exact hv
             | 6, _, _, hv => exact hv
             | 7, _, _, hv => exact hv
             | 8, _, _, hv => exact hv
             | 9, _, _, hv => exact hv
             | 10, _, _, hv => exact hv
             | 11, _, _, hv => exact hv
             | i + 12, hix, _, _ => omega
           · intro i hix vs u hC hw oq ho
             match i, hix, hw, ho with
             | 0, _, hw, ho =>
               simp only [zqa, zqb, zqh] at ho; subst ho; refine ⟨rfl, ?_⟩; have q1 := (hC.out.cell (p := ⟨w.heap.size, 257, none⟩) HL2.out.1).trans HK.out.1; have q2 := (hC.out.cell (p := ⟨w.heap.size + 1, 257, none⟩) HL2.out.2).trans HK.out.2.1; have q3 := (hC.out.cell (p := ⟨b1, o1 + j, none⟩) HLT.out.1).trans HK.out.2.2.1; have q4 := (hC.out.cell (p := ⟨b2, o2 + j, none⟩) HLT.out.2).trans HK.out.2.2.2; clear hw; simp only [xzaa, tmpsTo]; go_simp; exact zqi
             | 1, _, hw, ho =>
               have e0 : vs 0 = .pointer (some ⟨w.heap.size, 257, none⟩) := hw 0 (by omega) (by kernel_rfl); simp only [zqa, zqb, zqc, zqh] at ho; subst ho; refine ⟨rfl, ?_⟩; have q1 := (hC.out.cell (p := ⟨w.heap.size, 257, none⟩) HL2.out.1).trans HK.out.1; have q2 := (hC.out.cell (p := ⟨w.heap.size + 1, 257, none⟩) HL2.out.2).trans HK.out.2.1; have q3 := (hC.out.cell (p := ⟨b1, o1 + j, none⟩) HLT.out.1).trans HK.out.2.2.1; have q4 := (hC.out.cell (p := ⟨b2, o2 + j, none⟩) HLT.out.2).trans HK.out.2.2.2; clear hw; simp only [xzaa, tmpsTo, putT, zqa, zqb, zqd, zqe, zqf, zqg]; rw [e0]; clear e0; go_simp; exact zqi
             | 2, _, hw, ho =>
               simp only [zqa, zqb, zqc, zqh] at ho; subst ho; refine ⟨rfl, ?_⟩; have q1 := (hC.out.cell (p := ⟨w.heap.size, 257, none⟩) HL2.out.1).trans HK.out.1; have q2 := (hC.out.cell (p := ⟨w.heap.size + 1, 257, none⟩) HL2.out.2).trans HK.out.2.1; have q3 := (hC.out.cell (p := ⟨b1, o1 + j, none⟩) HLT.out.1).trans HK.out.2.2.1; have q4 := (hC.out.cell (p := ⟨b2, o2 + j, none⟩) HLT.out.2).trans HK.out.2.2.2; clear hw; simp only [xzaa, tmpsTo, putT, zqa, zqb, zqc, zqd, zqe, zqf, zqg]; go_simp; exact zqi
             | 3, _, hw, ho =>
               have e1 : vs 1 = .slice (some ⟨b1, o1, none⟩) D.next.length cn := hw 1 (by omega) (by kernel_rfl); have e2 : vs 2 = .int .i64 (j : Nat) := hw 2 (by omega) (by kernel_rfl); simp only [zqa, zqb, zqc, zqh] at ho; subst ho; refine ⟨rfl, ?_⟩; have q1 := (hC.out.cell (p := ⟨w.heap.size, 257, none⟩) HL2.out.1).trans HK.out.1; have q2 := (hC.out.cell (p := ⟨w.heap.size + 1, 257, none⟩) HL2.out.2).trans HK.out.2.1; have q3 := (hC.out.cell (p := ⟨b1, o1 + j, none⟩) HLT.out.1).trans HK.out.2.2.1; have q4 := (hC.out.cell (p := ⟨b2, o2 + j, none⟩) HLT.out.2).trans HK.out.2.2.2; clear hw; simp only [xzaa, tmpsTo, putT, zqa, zqb, zqc, zqd, zqe, zqf, zqg]; rw [e1, e2]; clear e1 e2; have hdl := HDL.out; have hp0 := HP0.out; go_simp; exact zqi
             | 4, _, hw, ho =>
               have e3 : vs 3 = .pointer (some ⟨b1, o1 + j, none⟩) := hw 3 (by omega) (by kernel_rfl); simp only [zqa, zqb, zqc, zqh] at ho; subst ho; refine ⟨rfl, ?_⟩; have q1 := (hC.out.cell (p := ⟨w.heap.size, 257, none⟩) HL2.out.1).trans HK.out.1; have q2 := (hC.out.cell (p := ⟨w.heap.size + 1, 257, none⟩) HL2.out.2).trans HK.out.2.1; have q3 := (hC.out.cell (p := ⟨b1, o1 + j, none⟩) HLT.out.1).trans HK.out.2.2.1; have q4 := (hC.out.cell (p := ⟨b2, o2 + j, none⟩) HLT.out.2).trans HK.out.2.2.2; clear hw; simp only [xzaa, tmpsTo, putT, zqa, zqb, zqc, zqd, zqe, zqf, zqg]; rw [e3]; clear e3; go_simp; exact zqi
             | 5, _, hw, ho =>
               simp only [zqa, zqb, zqc, zqh] at ho; subst ho; refine ⟨rfl, ?_⟩; have q1 := (hC.out.cell (p := ⟨w.heap.size, 257, none⟩) HL2.out.1).trans HK.out.1; have q2 := (hC.out.cell (p := ⟨w.heap.size + 1, 257, none⟩) HL2.out.2).trans HK.out.2.1; have q3 := (hC.out.cell (p := ⟨b1, o1 + j, none⟩) HLT.out.1).trans HK.out.2.2.1; have q4 := (hC.out.cell (p := ⟨b2, o2 + j, none⟩) HLT.out.2).trans HK.out.2.2.2; clear hw; simp only [xzaa, tmpsTo, putT, zqa, zqb, zqc, zqd, zqe, zqf, zqg]; go_simp; exact zqi
             | 6, _, hw, ho =>
               have e5 : vs 5 = .pointer (some ⟨w.heap.size + 1, 257, none⟩) := hw 5 (by omega) (by kernel_rfl); simp only [zqa, zqb, zqc, zqh] at ho; subst ho; refine ⟨rfl, ?_⟩; have q1 := (hC.out.cell (p := ⟨w.heap.size, 257, none⟩) HL2.out.1).trans HK.out.1; have q2 := (hC.out.cell (p := ⟨w.heap.size + 1, 257, none⟩) HL2.out.2).trans HK.out.2.1; have q3 := (hC.out.cell (p := ⟨b1, o1 + j, none⟩) HLT.out.1).trans HK.out.2.2.1; have q4 := (hC.out.cell (p := ⟨b2, o2 + j, none⟩) HLT.out.2).trans HK.out.2.2.2; clear hw; simp only [xzaa, tmpsTo, putT, zqa, zqb, zqc, zqd, zqe, zqf, zqg]; rw [e5]; clear e5; go_simp; exact zqi
             | 7, _, hw, ho =>
               simp only [zqa, zqb, zqc, zqh] at ho; subst ho; refine ⟨rfl, ?_⟩; have q1 := (hC.out.cell (p := ⟨w.heap.size, 257, none⟩) HL2.out.1).trans HK.out.1; have q2 := (hC.out.cell (p := ⟨w.heap.size + 1, 257, none⟩) HL2.out.2).trans HK.out.2.1; have q3 := (hC.out.cell (p := ⟨b1, o1 + j, none⟩) HLT.out.1).trans HK.out.2.2.1; have q4 := (hC.out.cell (p := ⟨b2, o2 + j, none⟩) HLT.out.2).trans HK.out.2.2.2; clear hw; simp only [xzaa, tmpsTo, putT, zqa, zqb, zqc, zqd, zqe, zqf, zqg]; go_simp; exact zqi
             | 8, _, hw, ho =>
               have e6 : vs 6 = .slice (some ⟨b2, o2, none⟩) E.next.length cn2 := hw 6 (by omega) (by kernel_rfl); have e7 : vs 7 = .int .i64 (j : Nat) := hw 7 (by omega) (by kernel_rfl); simp only [zqa, zqb, zqc, zqh] at ho; subst ho; refine ⟨rfl, ?_⟩; have q1 := (hC.out.cell (p := ⟨w.heap.size, 257, none⟩) HL2.out.1).trans HK.out.1; have q2 := (hC.out.cell (p := ⟨w.heap.size + 1, 257, none⟩) HL2.out.2).trans HK.out.2.1; have q3 := (hC.out.cell (p := ⟨b1, o1 + j, none⟩) HLT.out.1).trans HK.out.2.2.1; have q4 := (hC.out.cell (p := ⟨b2, o2 + j, none⟩) HLT.out.2).trans HK.out.2.2.2; clear hw; simp only [xzaa, tmpsTo, putT, zqa, zqb, zqc, zqd, zqe, zqf, zqg]; rw [e6, e7]; clear e6 e7; have hdl := HDL2.out; have hp0 := HP0.out; go_simp; exact zqi
             | 9, _, hw, ho =>
               have e8 : vs 8 = .pointer (some ⟨b2, o2 + j, none⟩) := hw 8 (by omega) (by kernel_rfl); simp only [zqa, zqb, zqc, zqh] at ho; subst ho; refine ⟨rfl, ?_⟩; have q1 := (hC.out.cell (p := ⟨w.heap.size, 257, none⟩) HL2.out.1).trans HK.out.1; have q2 := (hC.out.cell (p := ⟨w.heap.size + 1, 257, none⟩) HL2.out.2).trans HK.out.2.1; have q3 := (hC.out.cell (p := ⟨b1, o1 + j, none⟩) HLT.out.1).trans HK.out.2.2.1; have q4 := (hC.out.cell (p := ⟨b2, o2 + j, none⟩) HLT.out.2).trans HK.out.2.2.2; clear hw; simp only [xzaa, tmpsTo, putT, zqa, zqb, zqc, zqd, zqe, zqf, zqg]; rw [e8]; clear e8; go_simp; exact zqi
             | 10, _, hw, ho =>
               have e4 : vs 4 = v1 := hw 4 (by omega) (by kernel_rfl); have e9 : vs 9 = v2 := hw 9 (by omega) (by kernel_rfl); simp only [zqa, zqb, zqc, zqh] at ho; subst ho; refine ⟨rfl, ?_⟩; have q1 := (hC.out.cell (p := ⟨w.heap.size, 257, none⟩) HL2.out.1).trans HK.out.1; have q2 := (hC.out.cell (p := ⟨w.heap.size + 1, 257, none⟩) HL2.out.2).trans HK.out.2.1; have q3 := (hC.out.cell (p := ⟨b1, o1 + j, none⟩) HLT.out.1).trans HK.out.2.2.1; have q4 := (hC.out.cell (p := ⟨b2, o2 + j, none⟩) HLT.out.2).trans HK.out.2.2.2; clear hw; simp only [xzaa, tmpsTo, putT, zqa, zqb, zqc, zqd, zqe, zqf, zqg]; rw [e4, e9]; clear e4 e9; go_simp; refine xzas ((HIN.out u hC.out).mono ?_); rintro e u' ⟨rfl, hbu⟩; exact ⟨_, rfl, hbu, rfl⟩
             | 11, _, hw, ho =>
               have e10 : vs 10 = .bool (decide (r1 = r2)) := hw 10 (by omega) (by kernel_rfl); simp only [zqa, zqb, zqc, zqh] at ho; subst ho; refine ⟨rfl, ?_⟩; have q1 := (hC.out.cell (p := ⟨w.heap.size, 257, none⟩) HL2.out.1).trans HK.out.1; have q2 := (hC.out.cell (p := ⟨w.heap.size + 1, 257, none⟩) HL2.out.2).trans HK.out.2.1; have q3 := (hC.out.cell (p := ⟨b1, o1 + j, none⟩) HLT.out.1).trans HK.out.2.2.1; have q4 := (hC.out.cell (p := ⟨b2, o2 + j, none⟩) HLT.out.2).trans HK.out.2.2.2; clear hw; simp only [xzaa, tmpsTo, putT, zqa, zqb, zqc, zqd, zqe, zqf, zqg]; rw [e10]; clear e10; go_simp; exact zqi
             | i + 12, hix, _, _ => omega
           intro vs1 u hC hV; have h11 : vs1 11 = .bool (!decide (r1 = r2)) := hV 11 (by omega); clear hV; simp only [xzaa, tmpsTo, putT, zqa, zqb, zqc, zqd, zqe, zqf, zqg, List.drop_succ_cons, List.drop_zero]; rw [h11]; clear h11; generalize vs1 0 = q0; generalize vs1 1 = qq1; generalize vs1 2 = q2; generalize vs1 3 = q3; generalize vs1 4 = q4; generalize vs1 5 = q5; generalize vs1 6 = q6; generalize vs1 7 = q7; generalize vs1 8 = q8; generalize vs1 9 = q9; generalize vs1 10 = q10
           cases hrr : decide (r1 = r2) with
           | true =>
             have HRN := Lib.hid (show R = decide (D.next.drop (j + 1) = E.next.drop (j + 1)) by rw [HRD.out, hrr, Bool.true_and]); clear hrr; go_wp2; exact ⟨⟨j + 1, rfl, hp, Lib.hid ⟨hC.out, HRN.out⟩⟩, by simp [intOf]; omega⟩
           | false =>
             have HRN := Lib.hid (show R = false by rw [HRD.out, hrr]; rfl); clear hrr; go_wp2; go_ret; exact ⟨by rw [HRN.out]; rfl, HB.out.trans (hC.out.mono HB.out.size)⟩
         · have hdl : decide ((j : Int) < (D.next.length : Int)) = false := by simp; omega
           obtain rfl : j = D.next.length := by omega
           have HRN := Lib.hid (show R = true by rw [HH.out.2, List.drop_length, hl, List.drop_length]; simp); go_wp2; go_ret; exact ⟨by rw [HRN.out]; rfl, HB.out.trans (HH.out.1.mono HB.out.size)⟩
     · have e1 : ((D.next.length : Int) != (E.next.length : Int)) = true := by simp; omega
       have HN := Lib.hid (show R = false by rw [hR]; simp; intro e; exact hl (by rw [e])); clear hR
       go_enter Tryz.func13, Tryz.ntmps13
       go_wp2_with (first
     | ((with_reducible refine xzam rfl (.tmp 6) ?_ ?_ HD.out.1 ?_); exact rfl; exact rfl)
     | ((with_reducible refine xzam rfl (.tmp 8) ?_ ?_ HD.out.2 ?_); exact rfl; exact rfl)
     | ((with_reducible refine xzde (f := D.of) (n := D.n) (f' := E.of) (n' := E.n) rfl (.tmp 7) (.tmp 9) ?_ ?_ ?_ ?_); exact rfl; exact rfl; exact rfl; rw [hsb])
     | (go_at_call 23; refine HIT.out.mono ?_; rintro e u1 ⟨rfl, hbu⟩; have HU := Lib.hid hbu; have q1 := (hbu.cell (p := ⟨w.heap.size, 257, none⟩) HL2.out.1).trans HK0.out.1; have q2 := (hbu.cell (p := ⟨w.heap.size + 1, 257, none⟩) HL2.out.2).trans HK0.out.2; rw [htg]; clear hbu))
       go_ret; exact ⟨by rw [HN.out]; rfl, HB.out.trans (HU.out.mono HB.out.size)⟩
end
end Go.Proofs.YtgngaaemkmdfaaaGreatDoor
