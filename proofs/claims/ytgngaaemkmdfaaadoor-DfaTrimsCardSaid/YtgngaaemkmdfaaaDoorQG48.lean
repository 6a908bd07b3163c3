/-
  WHAT slices.Equal, slices.EqualFunc (of rows of numbers) AND dfa.Same ANSWER: contracts. No condition but that all lies there.
-/
import Derived.Test.YtgngaaemkmdfaaaDoorQG47
import Derived.Test.YtgngaaemkmdfaaaDoorQG12
import Derived.Test.YtgngaaemkmdfaaaDoorQG05
namespace Go.Proofs.YtgngaaemkmdfaaaDoor
section
open Go.RowKit

attribute [local irreducible] FreeW textFrame

set_option maxRecDepth 20000 in
set_option maxHeartbeats 8000000 in
theorem eqInts_any (a b : List Int) (v v' : Value) (w : World) (h : IntsV w a v) (h' : IntsV w b v') :
    Calls Tryd.prog 24 #[v, v'] w fun e w' => e = .returned (.bool (decide (a = b))) ∧ Below w.heap.size w w' := by
  obtain ⟨A, c, rfl, hc, hs⟩ := h
  obtain ⟨B, c', rfl, hc', hs'⟩ := h'
  have HS := Lib.hid (And.intro hs hs')
  obtain ⟨R, hR⟩ : ∃ R, R = decide (a = b) := ⟨_, rfl⟩
  rw [← hR]
  clear hs hs'
  by_cases hl : a.length = b.length
  case neg =>
    have e1 : ((a.length : Int) != (b.length : Int)) = true := by rw [bne_iff_ne]; omega
    have HN := Lib.hid (show R = false by rw [hR]; exact decide_eq_false fun e => hl (by rw [e]))
    clear hR hl
    go_enter Tryd.func24, Tryd.ntmps24
    go_wp2
    go_ret
    exact ⟨by rw [HN.out]; rfl, Below.refl _ _⟩
  have e1 : ((a.length : Int) != (b.length : Int)) = false := by rw [bne_eq_false_iff_eq]; omega
  have H0 := Lib.hid (show R = decide (a.drop 0 = b.drop 0) from hR)
  have HLF := Lib.hid (show ∀ (j : Nat) (h1 : j < a.length) (h2 : j < b.length), decide (a.drop j = b.drop j) = (decide (a[j] = b[j]) && decide (a.drop (j + 1) = b.drop (j + 1))) from fun j h1 _ => list_from a b hl j h1)
  have HL := Lib.hid hl
  clear hR hl
  go_enter Tryd.func24, Tryd.ntmps24
  go_wp2
  go_loopw [5, 13] (fun _ i wr => ∃ j : Nat, i = .int .i64 j ∧ j ≤ a.length ∧ Hid (Below w.heap.size w wr ∧ R = decide (a.drop j = b.drop j))) (fun _ i _ => a.length - (intOf i).toNat)
  case atStart => exact ⟨0, rfl, Nat.zero_le _, Lib.hid ⟨Below.refl _ _, H0.out⟩⟩
  case round =>
    obtain ⟨j, rfl, hj, HH⟩ := hrel
    obtain ⟨w1, rfl⟩ : ∃ w1, w1 = wr := ⟨_, rfl⟩
    by_cases hp : j < a.length
    · have hk1 : IntKind.i64.wrap ((j : Int) + 1) = ((j + 1 : Nat) : Int) := by rw [IntKind.wrap_i64]; omega
      have hpb : j < b.length := by rw [← HL.out]; exact hp
      have hdl : decide ((j : Int) < (a.length : Int)) = true := by simp; omega
      have hdl2 : decide ((j : Int) < (b.length : Int)) = true := by simp; omega
      obtain ⟨p, o, rfl, hlt, hg⟩ := HS.out.1 (by intro e; rw [e] at hp; simp at hp)
      obtain ⟨p', o', rfl, hlt', hg'⟩ := HS.out.2 (by intro e; rw [e] at hpb; simp at hpb)
      have hcell := (HH.out.1.cell (p := ⟨p, o + j, none⟩) hlt).trans (hg j hp)
      have hcell' := (HH.out.1.cell (p := ⟨p', o' + j, none⟩) hlt').trans (hg' j hpb)
      have HD := Lib.hid (HH.out.2.trans (HLF.out j hp hpb))
      clear hg hg'
      generalize a[j] = x at *
      generalize b[j] = y at *
      by_cases hxy : x = y
      · have q1 : (x != y) = false := by rw [bne_eq_false_iff_eq]; exact hxy
        have HN := Lib.hid (show R = decide (a.drop (j + 1) = b.drop (j + 1)) by rw [HD.out, decide_eq_true hxy, Bool.true_and])
        clear hxy
        go_wp2_with fail
        go_region
        go_wp2
        exact ⟨⟨j + 1, rfl, hp, Lib.hid ⟨HH.out.1.drew, HN.out⟩⟩, by simp [intOf]; omega⟩
      · have q1 : (x != y) = true := by rw [bne_iff_ne]; exact hxy
        have HN := Lib.hid (show R = false by rw [HD.out, decide_eq_false hxy, Bool.false_and])
        clear hxy
        go_wp2_with fail
        go_region
        go_wp2
        go_ret
        exact ⟨by rw [HN.out]; rfl, HH.out.1.drew⟩
    · have hdl : decide ((j : Int) < (a.length : Int)) = false := by simp; omega
      obtain rfl : j = a.length := by omega
      have HN := Lib.hid (show R = true by rw [HH.out.2, List.drop_length, HL.out, List.drop_length]; simp)
      go_wp2
      go_ret
      exact ⟨by rw [HN.out]; rfl, HH.out.1⟩
set_option maxRecDepth 20000 in
set_option maxHeartbeats 8000000 in
theorem eqRows_any (a b : List (List Int)) (v v' : Value) (w : World) (h : RowsI w a v) (h' : RowsI w b v') :
    Calls Tryd.prog 23 #[v, v', .func (.func 24) #[] #[]] w fun e w' => e = .returned (.bool (decide (a = b))) ∧ Below w.heap.size w w' := by
  obtain ⟨A, c, rfl, hc, hs⟩ := h
  obtain ⟨B, c', rfl, hc', hs'⟩ := h'
  have HS := Lib.hid (And.intro hs hs')
  obtain ⟨R, hR⟩ : ∃ R, R = decide (a = b) := ⟨_, rfl⟩
  rw [← hR]
  clear hs hs'
  by_cases hl : a.length = b.length
  case neg =>
    have e1 : ((a.length : Int) != (b.length : Int)) = true := by rw [bne_iff_ne]; omega
    have HN := Lib.hid (show R = false by rw [hR]; exact decide_eq_false fun e => hl (by rw [e]))
    clear hR hl
    go_enter Tryd.func23, Tryd.ntmps23
    go_wp2
    go_ret
    exact ⟨by rw [HN.out]; rfl, Below.refl _ _⟩
  have e1 : ((a.length : Int) != (b.length : Int)) = false := by rw [bne_eq_false_iff_eq]; omega
  have H0 := Lib.hid (show R = decide (a.drop 0 = b.drop 0) from hR)
  have HLF := Lib.hid (show ∀ (j : Nat) (h1 : j < a.length) (h2 : j < b.length), decide (a.drop j = b.drop j) = (decide (a[j] = b[j]) && decide (a.drop (j + 1) = b.drop (j + 1))) from fun j h1 _ => list_from a b hl j h1)
  have HL := Lib.hid hl
  clear hR hl
  go_enter Tryd.func23, Tryd.ntmps23
  go_wp2
  go_loopw [7, 8, 9, 17] (fun _ _ _ i wr => ∃ j : Nat, i = .int .i64 j ∧ j ≤ a.length ∧ Hid (Below w.heap.size w wr ∧ R = decide (a.drop j = b.drop j))) (fun _ _ _ i _ => a.length - (intOf i).toNat)
  case atStart => exact ⟨0, rfl, Nat.zero_le _, Lib.hid ⟨Below.refl _ _, H0.out⟩⟩
  case round =>
    obtain ⟨j, rfl, hj, HH⟩ := hrel
    obtain ⟨w1, rfl⟩ : ∃ w1, w1 = wr := ⟨_, rfl⟩
    by_cases hp : j < a.length
    · have hk1 : IntKind.i64.wrap ((j : Int) + 1) = ((j + 1 : Nat) : Int) := by rw [IntKind.wrap_i64]; omega
      have hpb : j < b.length := by rw [← HL.out]; exact hp
      have hdl : decide ((j : Int) < (a.length : Int)) = true := by simp; omega
      have hdl2 : decide ((j : Int) < (b.length : Int)) = true := by simp; omega
      obtain ⟨p, o, rfl, hlt, hg⟩ := HS.out.1 (by intro e; rw [e] at hp; simp at hp)
      obtain ⟨p', o', rfl, hlt', hg'⟩ := HS.out.2 (by intro e; rw [e] at hpb; simp at hpb)
      obtain ⟨u1, hu1, hx1⟩ := hg j hp
      obtain ⟨u2, hu2, hx2⟩ := hg' j hpb
      have hcell := (HH.out.1.cell (p := ⟨p, o + j, none⟩) hlt).trans hu1
      have hcell' := (HH.out.1.cell (p := ⟨p', o' + j, none⟩) hlt').trans hu2
      have HD := Lib.hid (HH.out.2.trans (HLF.out j hp hpb))
      have HEQ := Lib.hid (eqInts_any a[j] b[j] u1 u2 w1 (hx1.step HH.out.1) (hx2.step HH.out.1))
      clear hg hg' hu1 hu2 hx1 hx2
      cases hxy : decide (a[j] = b[j]) with
      | true =>
        rw [hxy] at HEQ
        have HN := Lib.hid (show R = decide (a.drop (j + 1) = b.drop (j + 1)) by rw [HD.out, hxy, Bool.true_and])
        clear hxy
        go_wp2_with (go_at_call 24; refine HEQ.out.mono ?_; rintro e u ⟨rfl, hbu⟩; have HU := Lib.hid (HH.out.1.trans (hbu.mono HH.out.1.size)); clear hbu)
        exact ⟨⟨j + 1, rfl, hp, Lib.hid ⟨HU.out, HN.out⟩⟩, by simp [intOf]; omega⟩
      | false =>
        rw [hxy] at HEQ
        have HN := Lib.hid (show R = false by rw [HD.out, hxy, Bool.false_and])
        clear hxy
        go_wp2_with (go_at_call 24; refine HEQ.out.mono ?_; rintro e u ⟨rfl, hbu⟩; have HU := Lib.hid (HH.out.1.trans (hbu.mono HH.out.1.size)); clear hbu)
        go_ret
        exact ⟨by rw [HN.out]; rfl, HU.out⟩
    · have hdl : decide ((j : Int) < (a.length : Int)) = false := by simp; omega
      obtain rfl : j = a.length := by omega
      have HN := Lib.hid (show R = true by rw [HH.out.2, List.drop_length, HL.out, List.drop_length]; simp)
      go_wp2
      go_ret
      exact ⟨by rw [HN.out]; rfl, HH.out.1⟩
theorem wpList_eqlC9 {ops : Array Oper} {rest : List Oper} {op : Oper} {a : Act} {w : World} {Q : Exit → Act → World → Prop} {f : Nat → Nat} {n : Int} (hgd : op.guard = none) (x y : Operand) (ho : op.op = .binOp .eql 31 x y 31) {f' : Nat → Nat} {n' : Int} (hx : a.eval x = .agg (clsC f n)) (hy : a.eval y = .agg (clsC f' n'))
    (hK : wpList Tryd.prog ops Q rest (a.put op.dst (.bool (sameB f f' n n'))) w) : wpList Tryd.prog ops Q (op :: rest) a w := by
  refine wpList_plain hgd fun K' hK' => ?_
  have hq := run_eqGuard_agg (P := Tryd.prog) w .eql 31 x y (clsC f n) (clsC f' n') (by kernel_rfl)
  unfold Oper.wp execOp
  simp only [ho, hx, hy, Sem.run_bind, Sem.run_pure, hq, eql_cls, Result.andThen_ok]
  exact hK' _ _ hK
set_option maxRecDepth 20000 in
set_option maxHeartbeats 8000000 in
theorem sameP_any (D E : Df) (v v' : Value) (w : World) (h : DfAt w D v) (h' : DfAt w E v') (hDE : sameD D E = true) :
    Calls Tryd.prog 11 #[v, v'] w fun e w' => e = .returned (.bool true) ∧ Below w.heap.size w w' := by
  unfold sameD at hDE
  simp only [Bool.and_eq_true, decide_eq_true_eq] at hDE
  obtain ⟨hsb, htg, hnx⟩ := hDE
  obtain ⟨vn, vt, rfl, hrn, hrt⟩ := h
  obtain ⟨vn', vt', rfl, hrn', hrt'⟩ := h'
  obtain ⟨W1, hW1, hs1, hb1, hx1⟩ := boxed_df D.of D.n vn vt w
  obtain ⟨W2, hW2, hs2, hb2, hx2⟩ := boxed_df E.of E.n vn' vt' W1
  have hbb : Below w.heap.size w W2 := hb1.trans (hb2.mono (by omega))
  have hd1 := (DfB.of hx1).step hb2
  have hd2 := DfB.of hx2
  rw [hs1] at hs2 hd2
  have HEN := Lib.hid (eqRows_any D.next E.next vn vn' W2 (hrn.step hbb) (hrn'.step hbb))
  have HET := Lib.hid (fun (u : World) (hu : Below W2.heap.size W2 u) => eqInts_any D.tag E.tag vt vt' u ((hrt.step hbb).step hu) ((hrt'.step hbb).step hu))
  rw [decide_eq_true hnx] at HEN
  rw [decide_eq_true htg] at HET
  have HD := Lib.hid (And.intro hd1 hd2)
  have HB := Lib.hid (And.intro hbb (show w.heap.size + 1 < W2.heap.size by omega))
  obtain ⟨k256, k257, k258⟩ := hd1.cells
  obtain ⟨m256, m257, m258⟩ := hd2.cells
  obtain ⟨An, cn, rfl, _⟩ := hrn
  obtain ⟨An2, cn2, rfl, _⟩ := hrn'
  obtain ⟨At, ct, rfl, _⟩ := hrt
  obtain ⟨At2, ct2, rfl, _⟩ := hrt'
  obtain ⟨d9, hd9⟩ : ∃ d9, dfC D.of D.n (.slice An D.next.length cn) (.slice At D.tag.length ct) = d9 := ⟨_, rfl⟩
  obtain ⟨e9, he9⟩ : ∃ e9, dfC E.of E.n (.slice An2 E.next.length cn2) (.slice At2 E.tag.length ct2) = e9 := ⟨_, rfl⟩
  have hds : d9.size = 259 := by rw [← hd9]; exact dfC_size _ _ _ _
  have hes : e9.size = 259 := by rw [← he9]; exact dfC_size _ _ _ _
  rw [hd9] at hW1
  rw [he9] at hW2
  rw [hd9, he9]
  have HSB := Lib.hid hsb
  clear hb1 hb2 hbb hx1 hx2 hd1 hd2 hsb htg hnx hs2 hd9 he9
  go_enter Tryd.func11, Tryd.ntmps11
  go_wp2_with (first
    | ((with_reducible refine wpList_loadDc rfl (.tmp 5) ?_ ?_ HD.out.1 ?_); exact rfl; exact rfl)
    | ((with_reducible refine wpList_loadDc rfl (.tmp 7) ?_ ?_ HD.out.2 ?_); exact rfl; exact rfl)
    | ((with_reducible refine wpList_eqlC9 (f := D.of) (n := D.n) (f' := E.of) (n' := E.n) rfl (.tmp 6) (.tmp 8) ?_ ?_ ?_ ?_); exact rfl; exact rfl; exact rfl; rw [HSB.out])
    | (go_at_call 23; refine HEN.out.mono ?_; rintro e u1 ⟨rfl, hbu⟩; have HU := Lib.hid hbu; have q1 := (hbu.cell (p := ⟨w.heap.size, 258, none⟩) (by have := HB.out.2; show w.heap.size < _; omega)).trans k258; have q2 := (hbu.cell (p := ⟨w.heap.size + 1, 258, none⟩) HB.out.2).trans m258; clear hbu)
    | (go_at_call 24; refine (HET.out u1 HU.out).mono ?_; rintro e u2 ⟨rfl, hbu⟩; have HU2 := Lib.hid (HB.out.1.trans ((HU.out.trans (hbu.mono HU.out.size)).mono HB.out.1.size)); clear hbu))
  go_ret
  exact ⟨rfl, HU2.out⟩
end

section
open Go.RowKit

section actsG
variable {P : Program} {ops : Array Oper} {C : World → Prop}

def StepW (P : Program) (ops : Array Oper) (C : World → Prop) (R : Nat → World → World → Prop) (V : Nat → Value → World → Prop) (a0 : Act) (i : Nat) : Prop :=
  ∀ (vs : Nat → Value) (u : World), C u → (∀ j, j < i → Region.waitsFor .any ops i j = true → V j (vs j) u) → ∀ o, ops[i]? = some o → Region.wanted o (yielded ops (textFrame ops vs a0 i).tmps) = true ∧ actUpon P u (R i) (V i) ((execOp (textFrame ops vs a0 i).eval o).run P u)

variable {h N : Nat} {R : Nat → World → World → Prop} {V : Nat → Value → World → Prop} {a0 : Act}
theorem stands_actG (hsel : Region.noSelect ops = true) (hh : h ≤ ops.size) (hD : distinctB ops h N = true) (hK : looksB ops h h = true) (hN : a0.tmps.size = N)
    (hCs : ∀ i u u', i < h → C u → R i u u' → C u') (hVs : ∀ i j v u u', i < h → j < h → i ≠ j → V i v u → R j u u' → V i v u') {Q : Exit → Act → World → Prop} {listed : Array Bool} {a : Act} {u : World} (hst : StandsA ops C h V a0 listed a u)
    {i : Nat} (hi : i < h) (hr : i ∈ Region.ready .any ops listed) (hv : StepW P ops C R V a0 i) :
    wpOp P ops Q i (fun a' u' => StandsA ops C h V a0 (listed.setIfInBounds i true) a' u') a u := by
  obtain ⟨inv, vs, hc, hC, hV⟩ := hst
  have hcc := came_text hD hN hh vs i (by omega)
  obtain ⟨hun, o', ho', hall⟩ := mem_ready.1 hr
  have hunf := getD_both hun
  have hlt := fun j hj => came_lt inv j hj
  have hsz : a.tmps.size = (textFrame ops vs a0 i).tmps.size := hc.2.1.trans hcc.2.1.symm
  have hwait : ∀ j, j < i → Region.waitsFor .any ops i j = true → listed.getD j false = true := fun j _ h3 => by
    obtain ⟨oi, hoi, e, he, hbd, hon⟩ := Region.waitsFor_spec h3
    obtain rfl : oi = o' := Option.some.inj (hoi.symm.trans ho')
    have hl := hall e he hbd
    rw [hon] at hl
    exact hl
  have hlook : ∀ t ∈ o'.looksAt ops, a.tmps.getD t undef = (textFrame ops vs a0 i).tmps.getD t undef := fun t ht => by
    by_cases hwr : ∃ j oj, j < h ∧ ops[j]? = some oj ∧ oj.dst = some t ∧ j ≠ i
    · obtain ⟨j, oj, hj, hoj, hd, hne⟩ := hwr
      obtain ⟨h1, h2, h3⟩ := looksB_spec hK hi ho' ht hj hoj hd hne
      have hl := hwait j h1 h3
      rw [hc.2.2.1 j oj t hoj hl hd, hcc.2.2.1 j oj t hoj (by simpa using h1) hd]
    · have hn1 : ∀ j oj, ops[j]? = some oj → listed.getD j false = true → oj.dst ≠ some t := fun j oj hoj hl hd => by
        by_cases e : j = i
        · subst e; rw [hunf] at hl; cases hl
        · exact hwr ⟨j, oj, hlt j hl, hoj, hd, e⟩
      have hn2 : ∀ j oj, ops[j]? = some oj → decide (j < i) = true → oj.dst ≠ some t := fun j oj hoj hl hd =>
        hwr ⟨j, oj, by have := of_decide_eq_true hl; omega, hoj, hd, by have := of_decide_eq_true hl; omega⟩
      rw [hc.2.2.2 t hn1, hcc.2.2.2 t hn2]
  obtain ⟨hex, hwa⟩ := same_look (ops := ops) (Region.noSelect_spec hsel i o' · · ho') hsz hlook
  have hset : ∀ (x : Value) (u' : World), R i u u' → V i x u' → StandsA ops C h V a0 (listed.setIfInBounds i true) (a.put o'.dst x) u' := fun x u' hbu hx => by
    refine ⟨inv.set hr (by omega), fun j => if j = i then x else vs j, ?_, hCs _ _ _ hi hC hbu, fun j h1 h3 => ?_⟩
    · refine hc.put hD hN (fun j hj => hlt j hj) hi ho' hunf x (fun j => ?_) (fun j hj => ?_) (by simp)
      · by_cases e : j = i
        · subst e
          have : j < listed.size := by rw [inv.size]; omega
          simp [this]
        · rw [getD_set_ne false (Ne.symm e)]; simp [e]
      · have hne : j ≠ i := fun e => by subst e; rw [hunf] at hj; cases hj
        simp [hne]
    · by_cases e : j = i
      · subst e; simpa using hx
      · rw [getD_set_ne false (Ne.symm e)] at h3
        simp only [if_neg e]
        exact hVs j i _ _ _ h1 hi e (hV j h1 h3) hbu
  obtain ⟨hg, hf⟩ := hv vs u hC (fun j hj hw => hV j (by omega) (hwait j hj hw)) o' ho'
  unfold wpOp
  simp only [ho']
  have hw : Region.wanted o' (yielded ops a.tmps) = true := hwa.trans hg
  rw [if_pos hw]
  refine .inl ?_
  rw [← hex] at hf
  unfold Oper.wp
  generalize (execOp a.eval o').run P u = r at hf
  cases r with
  | ok nx w' =>
    cases nx <;> simp only [actUpon] at hf <;> simp only [Oper.upon]
    case value x => exact hset x w' hf.1 hf.2
    case enter f args =>
      obtain ⟨rfl, hcall⟩ := hf
      exact hcall.mono fun e w'' ⟨v, he, hbw, hvw⟩ => by subst he; exact hset v w'' hbw hvw
  | halt x w' => simp only [actUpon] at hf

theorem act_coreG {Q : Exit → Act → World → Prop} (hB : freeB ops h h N = true) (hN : a0.tmps.size = N) (hCs : ∀ i u u', i < h → C u → R i u u' → C u') (hVs : ∀ i j v u u', i < h → j < h → i ≠ j → V i v u → R j u u' → V i v u')
    (hS : ∀ i, i < h → StepW P ops C R V a0 i)
    (hend : ∀ a u, StandsA ops C h V a0 (headArr ops.size h) a u → wpList P ops Q (ops.toList.drop h) a u) :
    ∀ (d : Nat) (listed : Array Bool) (a : Act) (u : World), toCome listed h = d → StandsA ops C h V a0 listed a u → wpAny P .any ops Q (d + (ops.size - h)) listed a u := by
  simp only [freeB, Bool.and_eq_true, Bool.or_eq_true, decide_eq_true_eq] at hB
  obtain ⟨⟨⟨⟨⟨⟨⟨hsel, hnh⟩, hh⟩, hD⟩, hK⟩, hA⟩, hT⟩, hSq⟩ := hB
  intro d
  induction d with
  | zero =>
    intro listed a u hd hst
    have hl := listed_head hst.1 (toCome_zero hd)
    subst hl
    have := wpAny_of_seq (md := .any) (Q' := Q) (ops.toList.drop h) h (headArr ops.size h) a u (fun j => by simp) (by simpa using hSq) (hend a u hst)
    simpa using this
  | succ d ih =>
    intro listed a u hd hst
    have hex : ∃ i, i < h ∧ listed.getD i false = false := by
      have hpos : 0 < ((List.range h).filter fun i => !listed.getD i false).length := by unfold toCome at hd; omega
      obtain ⟨i, hi⟩ := List.exists_mem_of_length_pos hpos
      rw [List.mem_filter] at hi
      exact ⟨i, List.mem_range.1 hi.1, by simpa using hi.2⟩
    obtain ⟨i0, hi0, hu0⟩ := hex
    have hs := hst.1.size
    obtain ⟨j0, hj0⟩ := ready_least hh hA hs i0 i0 (Nat.le_refl _) hi0 hu0
    rw [show d + 1 + (ops.size - h) = (d + (ops.size - h)) + 1 by omega]
    refine ⟨fun he => (by rw [he] at hj0; cases hj0), fun i hi => ?_⟩
    have hil : i < ops.size := by
      obtain ⟨_, o, ho, _⟩ := mem_ready.1 hi
      exact (Array.getElem?_eq_some_iff.1 ho).1
    have hih : i < h := by
      rcases Nat.lt_or_ge i h with hlt | hge
      · exact hlt
      · rcases hT with hT | hT
        · omega
        · exact absurd hi (tail_waits hT.1 hT.2 (by omega) hst.1 (h - i0) i0 rfl hi0 (getD_in (by omega) hu0) i hge)
    have hun := getD_both (mem_ready.1 hi).1
    have hset := toCome_set hih (by omega) hun
    exact wpOp_mono (fun a' u' hst' => ih _ a' u' (by omega) hst') (stands_actG hsel hh hD hK hN hCs hVs hst hih hi (hS i hih))

theorem wp_region_actsG {id : Nat} {l : List Oper} {Q : Exit → Act → World → Prop} {a : Act} {w : World} (h N : Nat) (C : World → Prop) (R : Nat → World → World → Prop) (V : Nat → Value → World → Prop)
    (hm : P.follows .mixedOrders = true) (hB : freeB l.toArray h h N = true) (hN : a.tmps.size = N) (hC0 : C w.drew) (hCs : ∀ i u u', i < h → C u → R i u u' → C u') (hVs : ∀ i j v u u', i < h → j < h → i ≠ j → V i v u → R j u u' → V i v u')
    (hS : ∀ i, i < h → StepW P l.toArray C R V a i)
    (hE : ∀ (vs : Nat → Value) (u : World), C u → (∀ i, i < h → V i (vs i) u) → wpList P l.toArray Q (l.drop h) (textFrame l.toArray vs a h) u) : (Code.region id l.toArray true).wp P Q a w := by
  have hB' := hB
  simp only [freeB, Bool.and_eq_true, Bool.or_eq_true, decide_eq_true_eq] at hB'
  obtain ⟨⟨⟨⟨⟨⟨⟨hsel, hnh⟩, hh⟩, hD⟩, hK⟩, hA⟩, hT⟩, hSq⟩ := hB'
  refine wp_region_any hm ?_
  have inv0 : HeadInv .any l.toArray h (Array.replicate l.toArray.size false) :=
    ⟨by simp, fun j oj _ hl => (by rw [getD_replicate_false] at hl; cases hl), fun t _ ht => getD_in (by simpa using ht) (getD_replicate_false _ _)⟩
  have hst0 : StandsA l.toArray C h V a (Array.replicate l.toArray.size false) a w.drew := by
    refine ⟨inv0, fun _ => undef, ⟨rfl, rfl, fun i o t _ hi => ?_, fun _ _ => rfl⟩, hC0, fun i _ hl => ?_⟩
    · have hi' : (Array.replicate l.toArray.size false).getD i false = true := hi
      rw [getD_replicate_false] at hi'; cases hi'
    · rw [getD_replicate_false] at hl; cases hl
  have hcome : toCome (Array.replicate l.toArray.size false) h = h := by
    unfold toCome
    rw [List.filter_eq_self.2 (fun i _ => by rw [getD_replicate_false]; rfl)]
    simp
  have := act_coreG (P := P) (Q := Q) hB hN hCs hVs hS (fun a' u hst => ?_) h _ a w.drew hcome hst0
  · rw [show h + (l.toArray.size - h) = l.toArray.size by omega] at this
    exact this
  · obtain ⟨inv, vs, hc, hC, hV⟩ := hst
    have hg : ∀ i, i < h → (headArr l.toArray.size h).getD i false = true := fun i hi => by rw [headArr_get, if_pos (by omega)]; simpa using hi
    have hcall : Came l.toArray (fun j => decide (j < h)) vs a a' := by
      refine ⟨hc.1, hc.2.1, fun i o t ho hi ht => hc.2.2.1 i o t ho (hg i (of_decide_eq_true hi)) ht, fun t ht => hc.2.2.2 t fun i o ho hi => ht i o ho ?_⟩
      have := came_lt inv i hi
      simpa using this
    have he := hcall.unique (came_text hD hN hh vs h (Nat.le_refl _)) (fun _ _ => rfl)
    subst he
    simpa using hE vs u hC (fun i hi => hV i hi (hg i hi))

end actsG
end
end Go.Proofs.YtgngaaemkmdfaaaDoor
