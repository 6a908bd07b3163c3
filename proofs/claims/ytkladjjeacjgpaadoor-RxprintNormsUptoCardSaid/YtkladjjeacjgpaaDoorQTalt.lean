/-
  WHAT ofAlt TELLS: those that have a text, each ReByte with the bytes of all, of alike ones the first. Condition: the trees have at most 2^40 nodes.
-/
import Derived.Test.YtkladjjeacjgpaaDoorQThas
namespace Go.Proofs.YtkladjjeacjgpaaDoor
open Go.RowKit

theorem nodesL_app : ∀ (l r : List Tree), nodesL (l ++ r) = nodesL l + nodesL r
  | [], r => by simp [nodesL]
  | t :: l, r => by
    rw [List.cons_append]
    simp only [nodesL]
    rw [nodesL_app l r]
    omega
def turnT (all : Nat → Bool) (t : Tree) : Tree := if t.kind == 1 then .node 1 all [] 0 0 else t
def altStep (all : Nat → Bool) (told : List Tree) (t : Tree) : List Tree :=
  if t.isV then told else if told.any (fun x => x.same (turnT all t)) then told else told ++ [turnT all t]
def altTold (all : Nat → Bool) (l : List Tree) : List Tree := l.foldl (altStep all) []
def altStay (l : List Tree) : List Tree := altTold (unionT l) l
theorem altTold_step {all : Nat → Bool} {l : List Tree} {i : Nat} (h : i < l.length) : altTold all (l.take (i + 1)) = altStep all (altTold all (l.take i)) l[i] := by
  unfold altTold
  rw [List.take_succ_eq_append_getElem h, List.foldl_append]
  rfl
theorem altFold_more {all : Nat → Bool} : ∀ (l told : List Tree), ∃ r, l.foldl (altStep all) told = told ++ r
  | [], told => ⟨[], by simp⟩
  | t :: l, told => by
    rw [List.foldl_cons]
    obtain ⟨r, hr⟩ := altFold_more l (altStep all told t)
    rw [hr]
    unfold altStep
    split
    · exact ⟨r, rfl⟩
    · split
      · exact ⟨r, rfl⟩
      · exact ⟨turnT all t :: r, by simp⟩
theorem altTold_more {all : Nat → Bool} {l : List Tree} (i : Nat) : ∃ r, altTold all l = altTold all (l.take i) ++ r := by
  have := congrArg (altTold all) (List.take_append_drop i l)
  rw [← this]
  unfold altTold
  rw [List.foldl_append]
  exact altFold_more _ _
theorem altTold_len {all : Nat → Bool} : ∀ (l told : List Tree), (l.foldl (altStep all) told).length ≤ told.length + l.length
  | [], told => by simp
  | t :: l, told => by
    rw [List.foldl_cons]
    have h1 := altTold_len (all := all) l (altStep all told t)
    have h2 : (altStep all told t).length ≤ told.length + 1 := by
      unfold altStep
      split
      · omega
      · split
        · omega
        · simp
    simp only [List.length_cons]
    omega
theorem turn_nodes {all : Nat → Bool} {t : Tree} : (turnT all t).nodes ≤ t.nodes := by
  unfold turnT
  split
  · have := nodes_pos t
    simp only [Tree.nodes, nodesL]; omega
  · exact Nat.le_refl _
theorem altTold_nodes {all : Nat → Bool} : ∀ (l told : List Tree), nodesL (l.foldl (altStep all) told) ≤ nodesL told + nodesL l
  | [], told => by simp [nodesL]
  | t :: l, told => by
    rw [List.foldl_cons]
    have h1 := altTold_nodes (all := all) l (altStep all told t)
    have h2 : nodesL (altStep all told t) ≤ nodesL told + t.nodes := by
      have h3 := turn_nodes (all := all) (t := t)
      unfold altStep
      split
      · omega
      · split
        · omega
        · rw [nodesL_app]; simp only [nodesL]; omega
    simp only [nodesL]
    omega
theorem turn_at {V : World} {all : Nat → Bool} {t : Tree} (h : (t.kind == 1) = true) : (turnT all t).At V (reV 1 all none 0 0 0 0) := by
  unfold turnT
  rw [if_pos h]
  unfold Tree.At
  exact ⟨none, 0, rfl, ⟨Nat.zero_le _, Nat.zero_le _⟩, fun h => absurd rfl h⟩

/-- a way out, with whatever row has been told -/
def AltX (V : World) (X : Held) (b1 b2 b3 : Nat) (o1 o2 : Obj) : Held := fun O W => ∃ l, RowH V (With (With X b1 o1) b2 o2) b3 l O W
theorem AltX.holder {X : Held} (h : Holder X) (V : World) (b1 b2 b3 : Nat) (o1 o2 : Obj) : Holder (AltX V X b1 b2 b3 o1 o2) :=
  ⟨fun O W ⟨l, hl⟩ => (RowH.holder (With.holder (With.holder h _ _) _ _) V b3 l).lt O W hl, fun O W W' ⟨l, hl⟩ hk => ⟨l, (RowH.holder (With.holder (With.holder h _ _) _ _) V b3 l).keep O W W' hl hk⟩⟩

attribute [local go_sem] Oper.semAt_some

set_option maxRecDepth 100000 in
set_option maxHeartbeats 8000000 in
theorem ofAlt_tells (V : World) (b gf : Nat) (lb : Array Value) (eg : ∀ args w, (callFunc gf args).run Tryd.prog w = .ok (.enter gf args) w) (ts : List Tree) (hT : Tells gf lb ts V) (hb : V.cell? ⟨b, 0, none⟩ = some (.func (.func gf) #[] lb)) (hn : nodesL ts ≤ 1099511627776) :
    Tells 57 #[.pointer (some ⟨b, 0, none⟩)] (altStay ts) V := by
  intro lr J X O W hJ hX hs hcl h0 hY
  have c1 := hs _ _ hb
  have hblt : b < W.heap.size := World.block_lt_of_cell? W _ c1
  have hbne : ¬ b = W.heap.size := by omega
  have hOlt := (hJ 0).lt _ _ h0
  have hby := bytesOf_any V gf lb eg ts hT
  obtain ⟨all, hall⟩ : ∃ all, all = unionT ts := ⟨_, rfl⟩
  rw [← hall] at hby
  have HJ := Lib.hid hJ
  have HX := Lib.hid hX
  have HY := Lib.hid hY
  have HS := Lib.hid (And.intro hs hcl)
  have HV := Lib.hid hb
  have H0 := Lib.hid (And.intro h0 hOlt)
  have HT := Lib.hid hT
  have HE := Lib.hid eg
  have HBY := Lib.hid hby
  have HALL := Lib.hid hall
  have HN := Lib.hid hn
  clear hJ hX hY hs hcl hb h0 hT eg hOlt hby hall hn
  obtain ⟨W0, hW0⟩ : ∃ W0, W.alloc (.cells #[.func (.yield lr) #[] #[]] 29) = W0 := ⟨_, rfl⟩
  have hb0 : Below W.heap.size W W0 := by rw [← hW0]; exact (Below.refl _ _).alloc (Nat.le_refl _) _
  have hyb : BlkIs W0 W.heap.size 29 #[.func (.yield lr) #[] #[]] := by rw [← hW0]; exact BlkIs.new W _ _
  have HB0 := Lib.hid (And.intro hb0 hyb)
  have HW0 := Lib.hid hW0
  have hcall := HBY.out W0 (HS.out.1.trans (sub_below hb0))
  have HC := Lib.hid hcall
  have hst : ∀ u, Below W0.heap.size W0 u → u.cell? ⟨b, 0, none⟩ = some (.func (.func gf) #[] lb) ∧ b < u.heap.size := fun u hu => by
    have := (HS.out.1.trans (sub_below (hb0.trans (hu.mono hb0.size)))) _ _ HV.out
    exact ⟨this, World.block_lt_of_cell? u _ this⟩
  have HST := Lib.hid hst
  clear hcall hst hb0 hyb
  obtain ⟨c1', hblt'⟩ := HST.out W0 (Below.refl _ _)
  clear c1 hbne
  refine callsIn_wide.2 ((callsIn_wide (n := 5)).1 ?_)
  refine callsIn_of_wp_marks Tryd.func57 rfl trivial ?_ rfl
  simp only [Tryd.ntmps57, List.size_toArray, List.length_cons, List.length_nil, Nat.reduceAdd, Nat.reduceSub, Array.replicate_succ, Array.replicate_zero, List.push_toArray, List.append_toArray, List.nil_append, List.cons_append]
  unfold setV at HC
  gi_wp2
  refine ⟨trivial, ?_⟩
  gi_at_call 58
  refine (callsIn_wide.2 HC.out).mono ?_
  rintro e w2 ⟨rfl, hb2⟩
  obtain ⟨c2, hblt2⟩ := HST.out w2 hb2
  have hbne2 : ¬ b = w2.heap.size := by omega
  have hbne3 : ¬ b = w2.heap.size + 1 := by omega
  have HB2 := Lib.hid hb2
  clear hb2 c1' HC hW0
  gi_wp2
  obtain ⟨W1, hW1⟩ : ∃ W1, (w2.alloc (.cells (set4 all).toArray 24)).alloc (.cells #[.slice none 0 0] 25) = W1 := ⟨_, rfl⟩
  change Code.wpIn _ _ _ _ _ _ ((w2.alloc (.cells (set4 all).toArray 24)).alloc (.cells #[.slice none 0 0] 25))
  rw [hW1]
  have hbW1 : Below w2.heap.size w2 W1 := by rw [← hW1]; exact ((Below.refl _ _).alloc (Nat.le_refl _) _).alloc (by simp) _
  have hsz1 : W1.heap.size = w2.heap.size + 2 := by rw [← hW1]; simp
  have hba : BlkIs W1 w2.heap.size 24 (set4 all).toArray := by rw [← hW1]; exact (BlkIs.new w2 _ _).alloc _
  have hbt : BlkIs W1 (w2.heap.size + 1) 25 #[.slice none 0 0] := by
    have := BlkIs.new (w2.alloc (.cells (set4 all).toArray 24)) 25 #[.slice none 0 0]
    rw [World.size_alloc] at this
    rw [← hW1]; exact this
  have h02 := HB0.out.1.trans (HB2.out.mono HB0.out.1.size)
  have hb01 := h02.trans (hbW1.mono h02.size)
  have hlt0 : W.heap.size < w2.heap.size := Nat.lt_of_lt_of_le HB0.out.2.lt HB2.out.size
  have hyb : BlkIs W1 W.heap.size 29 #[.func (.yield lr) #[] #[]] := ((HB0.out.2).step HB2.out).step hbW1
  have hno1 : ¬ O W.heap.size := fun h => by have := H0.out.2 _ h; omega
  have hno2 : ¬ (O w2.heap.size ∨ w2.heap.size = W.heap.size) := fun h => h.elim (fun h => by have := H0.out.2 _ h; omega) (by omega)
  have hno3 : ¬ ((O (w2.heap.size + 1) ∨ w2.heap.size + 1 = W.heap.size) ∨ w2.heap.size + 1 = w2.heap.size) := fun h => h.elim (fun h => h.elim (fun h => by have := H0.out.2 _ h; omega) (by omega)) (by omega)
  have ht1 : Trip O W (fun k => ((O k ∨ k = W.heap.size) ∨ k = w2.heap.size) ∨ k = w2.heap.size + 1) W1 := ((((Trip.refl O W).below hb01).add (Nat.le_refl _)).add (by omega)).add (by omega)
  have hc1 : Clear V (fun k => ((O k ∨ k = W.heap.size) ∨ k = w2.heap.size) ∨ k = w2.heap.size + 1) := HS.out.2.next HS.out.1 ht1.inn
  have HT1 := Lib.hid (And.intro ht1 hb01)
  have h0' : RowH V (With (With (J (altTold all (ts.take 0)).length) W.heap.size (.cells #[.func (.yield lr) #[] #[]] 29)) w2.heap.size (.cells (set4 all).toArray 24)) (w2.heap.size + 1) (altTold all (ts.take 0)) (fun k => ((O k ∨ k = W.heap.size) ∨ k = w2.heap.size) ∨ k = w2.heap.size + 1) W1 :=
    RowH.start (With.start (With.start ((HJ.out 0).below H0.out.1 hb01) hno1 hyb) hno2 hba) hno3 hbt
  have HJJ := Lib.hid (fun (k : Nat) (l : List Tree) => RowH.holder (With.holder (With.holder (HJ.out k) W.heap.size (.cells #[.func (.yield lr) #[] #[]] 29)) w2.heap.size (.cells (set4 all).toArray 24)) V (w2.heap.size + 1) l)
  refine range_tells (n := 5) (by omega) (gf := gf) (lb := lb) rfl HE.out ts V HT.out (HS.out.1.trans (sub_below hb01)) (fun k => ((O k ∨ k = W.heap.size) ∨ k = w2.heap.size) ∨ k = w2.heap.size + 1) hc1
    (fun i => RowH V (With (With (J (altTold all (ts.take i)).length) W.heap.size (.cells #[.func (.yield lr) #[] #[]] 29)) w2.heap.size (.cells (set4 all).toArray 24)) (w2.heap.size + 1) (altTold all (ts.take i)))
    (fun c O' Wx => c = .ret ∧ AltX V X W.heap.size w2.heap.size (w2.heap.size + 1) (.cells #[.func (.yield lr) #[] #[]] 29) (.cells (set4 all).toArray 24) O' Wx)
    (fun i => HJJ.out _ _) (fun c => (AltX.holder HX.out V _ _ _ _ _).and _) h0'
    (fun g cs => { tmps := #[.func (.yield lr) #[] #[], .pointer (some ⟨b, 0, none⟩), .pointer (some ⟨W.heap.size, 0, none⟩), .pointer (some ⟨w2.heap.size, 0, none⟩), .pointer (some ⟨w2.heap.size + 1, 0, none⟩), .pointer (some ⟨g, 0, none⟩), .func (.func gf) #[] lb,
      .agg #[.int .u64 (wd all 0 : Nat), .int .u64 (wd all 1 : Nat), .int .u64 (wd all 2 : Nat), .int .u64 (wd all 3 : Nat)], .func (.func gf) #[] lb, .agg cs.toArray, undef, undef, undef, undef, undef, undef, undef, undef, undef, undef, undef, undef, undef, undef, undef, undef, undef, undef, undef, undef], defers := [] })
    ?assign ?body ?done ?stop
  case assign =>
    intro l k m A x c lo hi Wx K hK
    unfold reL at hK
    unfold reV reL
    gi_wp2
    exact hK
  case body =>
    rintro l i hi Ob Wb A2 x2 c2 g hst hsb hcb hat hng hgV hbx
    have HW := Lib.hid hst
    have hlt := (HJJ.out _ _).lt _ _ hst
    have HKEEP := Lib.hid (fun (u : World) (hu : Near Ob Wb u) => (HJJ.out _ _).keep _ _ _ hst hu)
    obtain ⟨Or, v, xs, ⟨Oa, ⟨Oy, hj, hOy, hny, hby⟩, hOa, hna, hba'⟩, hOr, hnr, hvr, hbt', hrow⟩ := hst
    obtain ⟨A3, c3, rfl, hc3, _⟩ := hrow.lies hsb
    have HL := Lib.hid hlt
    have HF := Lib.hid (fun (u : World) (hu : Near Ob Wb u) => (show u.cell? ⟨w2.heap.size + 1, 0, none⟩ = some (.slice A3 (altTold all (ts.take i)).length c3) ∧ BlkIs u w2.heap.size 24 (set4 all).toArray from by
      have h1 : BlkIs u (w2.heap.size + 1) 25 #[.slice A3 (altTold all (ts.take i)).length c3] := (hu.near _ ((hOr _).2 (.inr (.inl rfl)))).trans hbt'
      have h2 : BlkIs u w2.heap.size 24 (set4 all).toArray := (hu.near _ ((hOr _).2 (.inl ((hOa _).2 (.inr rfl))))).trans hba'
      exact ⟨h1.cell 0, h2⟩))
    have HROW := Lib.hid (fun (u : World) (hu : Near Ob Wb u) (hsu : Sub V u) => (show (altTold all (ts.take i) ≠ [] → ∃ b o, A3 = some ⟨b, o, none⟩ ∧ AllAt u (altTold all (ts.take i)) b o) from by
      obtain ⟨A, c, he, _, h2⟩ := (hrow.heap (fun k hk => hu.near k ((hOr k).2 (.inr (.inr hk))))).lies hsu
      injection he with e1 e2 e3
      subst e1
      exact h2))
    have HC := Lib.hid (fun (u : World) (hu : Below Wb.heap.size Wb u) => hbx.step hu)
    have HP := Lib.hid (And.intro hsb (And.intro hcb hat))
    have HCALL := Lib.hid (fun u => isVoid_at ts[i].kind ts[i].set A2 x2 c2 ts[i].lo ts[i].hi u)
    have hst2 := altTold_step (all := all) hi
    have hv' : voidB ts[i].kind ts[i].set = ts[i].isV := rfl
    have hlen : (altTold all (ts.take i)).length + 1 ≤ 1099511627776 ∧ (∀ t ∈ altTold all (ts.take i), t.nodes ≤ 1099511627776) := by
      have h1 := altTold_len (all := all) (ts.take i) []
      have h2 := altTold_nodes (all := all) (ts.take i) []
      have h3 : nodesL (ts.take i) ≤ nodesL ts := by
        have := nodesL_app (ts.take i) (ts.drop i)
        rw [List.take_append_drop] at this
        omega
      have h4 := length_nodes ts
      have h5 := HN.out
      rw [List.length_take] at h1
      simp only [List.length_nil, Nat.zero_add, nodesL] at h1 h2
      unfold altTold
      refine ⟨by omega, fun t ht => Nat.le_trans (mem_nodes ht) (by omega)⟩
    have HLEN := Lib.hid hlen
    obtain ⟨k0, k1, k2, k3, k4, k5, k6, k7⟩ := hbx.eight
    clear hlen hj hOy hny hby hOa hna hba' hOr hnr hvr hbt' hrow hsb hcb hat hbx hlt
    unfold reV reL at HCALL
    unfold reL at HC
    cases hv : ts[i].isV with
    | true =>
      rw [hv] at hv'
      have HVV := Lib.hid hv'
      have HQ : altTold all (ts.take (i + 1)) = altTold all (ts.take i) := by rw [hst2]; unfold altStep; rw [if_pos hv]
      have HQ := Lib.hid HQ
      clear hv hv' hst2
      unfold reL
      gi_wp2
      refine ⟨trivial, ?_⟩
      gi_at_call 55
      refine (CallsIn.inRound _ (callsIn_wide.2 (HCALL.out _))).mono ?_
      rintro e w3 ⟨rfl, hb3⟩
      rw [HVV.out]
      have HB3 := Lib.hid hb3
      clear hb3
      gi_wp2
      change NextIs (fun k => Ob k ∨ k = g) Wb (RowH V (With (With (J (altTold all (ts.take (i + 1))).length) W.heap.size (.cells #[.func (.yield lr) #[] #[]] 29)) w2.heap.size (.cells (set4 all).toArray 24)) (w2.heap.size + 1) (altTold all (ts.take (i + 1)))) w3
      rw [HQ.out]
      refine NextIs.wide (O := Ob) ?_ (fun _ h => .inl h)
      exact NextIs.of ((Trip.refl Ob Wb).below HB3.out) ((HJJ.out _ _).below HW.out HB3.out)
    | false =>
      rw [hv] at hv'
      have HVV := Lib.hid hv'
      have HQ : altTold all (ts.take (i + 1)) = if (altTold all (ts.take i)).any (fun x => x.same (turnT all ts[i])) then altTold all (ts.take i) else altTold all (ts.take i) ++ [turnT all ts[i]] := by rw [hst2]; unfold altStep; rw [if_neg (by rw [hv]; simp)]
      have HQ := Lib.hid HQ
      clear hv hv' hst2
      cases hk : (ts[i].kind == 1) with
      | false =>
        unfold reL
        gi_wp2
        refine ⟨trivial, ?_⟩
        gi_at_call 55
        refine (CallsIn.inRound _ (callsIn_wide.2 (HCALL.out _))).mono ?_
        rintro e w3 ⟨rfl, hb3⟩
        rw [HVV.out]
        have hg3 := HC.out w3 hb3
        obtain ⟨e0, e1, e2, e3, e4, e5, e6, e7⟩ := hg3.eight
        obtain ⟨v0, _⟩ := HF.out w3 (near_below hb3 HL.out)
        have hturn : turnT all ts[i] = ts[i] := by unfold turnT; rw [hk]; rfl
        have hatV : (turnT all ts[i]).At V (reV ts[i].kind ts[i].set A2 x2 c2 ts[i].lo ts[i].hi) := by rw [hturn]; exact HP.out.2.2
        have HAV := Lib.hid hatV
        have HB3 := Lib.hid (And.intro hb3 hg3)
        clear hg3 hb3 k0 k1 k2 k3 k4 k5 k6 k7 hturn hatV
        gi_wp2
        have HHAS := Lib.hid (hasT_any (altTold all (ts.take i)) (turnT all ts[i]) A3 c3 _ w3 hc3 (HROW.out w3 (near_below HB3.out.1 HL.out) (HP.out.1.trans (sub_below HB3.out.1))) (Tree.At.sub (HP.out.1.trans (sub_below HB3.out.1)) _ HAV.out) HLEN.out.2)
        unfold reV reL at HHAS
        refine ⟨trivial, ?_⟩
        gi_at_call 59
        refine (CallsIn.inRound _ (callsIn_wide.2 HHAS.out)).mono ?_
        rintro e w6 ⟨rfl, hb6⟩
        have hf6 : Far (fun k => k = g) Wb w6 := (Far.of_below HB3.out.1).trans (InN.refl _ _) (Far.of_below hb6)
        have hn6 : Near Ob Wb w6 := hf6.near HL.out (fun k hk e => hng (e ▸ hk))
        have hs6 : Sub V w6 := (HP.out.1.trans (sub_below HB3.out.1)).trans (sub_below hb6)
        have hst6 := HKEEP.out w6 hn6
        cases hany : (altTold all (ts.take i)).any (fun x => x.same (turnT all ts[i])) with
        | true =>
          have HQ2 := HQ.out
          rw [if_pos hany] at HQ2
          have HE6 := Lib.hid (show NextIs (fun k => Ob k ∨ k = g) Wb (RowH V (With (With (J (altTold all (ts.take (i + 1))).length) W.heap.size (.cells #[.func (.yield lr) #[] #[]] 29)) w2.heap.size (.cells (set4 all).toArray 24)) (w2.heap.size + 1) (altTold all (ts.take (i + 1)))) w6 from by
            rw [HQ2]
            exact NextIs.of ⟨fun k h => .inl (.inl h), hf6.mono (fun k h => .inr h)⟩ hst6)
          clear HQ2 hst6 hs6 hn6 hf6 hb6 HHAS hk
          gi_wp2
          exact HE6.out
        | false =>
          have HQ2 := HQ.out
          rw [if_neg (by rw [hany]; simp)] at HQ2
          obtain ⟨Or, v, xs, ⟨Oa, ⟨Oy, hj, hOy, hny, hby⟩, hOa, hna, hba'⟩, hOr, hnr, hvr, hbt', hrow⟩ := hst6
          obtain rfl : Value.slice A3 (altTold all (ts.take i)).length c3 = v := by
            have h1 := (HF.out w6 hn6).1
            have h2 : w6.cell? ⟨w2.heap.size + 1, 0, none⟩ = some v := hbt'.cell 0
            rw [h1] at h2
            exact Option.some.inj h2
          obtain ⟨gn, cn, W7, hrun, hcn, hgn, _, hgnlt, ⟨cur, hcur, hcs⟩, hfar, hpush⟩ := row_push hrow HLEN.out.1 (Nat.zero_le _)
          have hg6 : BlkIs w6 g 27 (reL ts[i].kind ts[i].set A2 x2 c2 ts[i].lo ts[i].hi).toArray := HB3.out.2.step hb6
          have hOb : ∀ k, Or k → Ob k := fun k h => (hOr k).2 (.inl h)
          have hOyb : ∀ k, Oy k → Ob k := fun k h => hOb k ((hOa k).2 (.inl ((hOy k).2 (.inl h))))
          have hltb := HL.out
          have hsz6 := hf6.size
          have hbn : ∀ k, Ob k → k ≠ gn → ((∀ q, (Value.slice A3 (altTold all (ts.take i)).length c3).ownBlock = some q → k ≠ q)) → k ≠ w2.heap.size + 1 → ((W7.setCells gn ((altTold all (ts.take i)).length * 8) (reL ts[i].kind ts[i].set A2 x2 c2 ts[i].lo ts[i].hi)).setCell ⟨w2.heap.size + 1, 0, none⟩ (.slice (some ⟨gn, 0, none⟩) ((altTold all (ts.take i)).length + 1) cn)).heap[k]? = w6.heap[k]? := fun k hk h1 h2 h3 => by
            rw [Below.heap_setCell _ _ _ k (by simpa using h3), heap_cells gn k h1]
            exact hfar.far k (by have := hltb k hk; omega) (fun e => h2 k e rfl)
          have hgng : gn ≠ g := fun e => by
            rcases hgn with h | h
            · exact hng (e ▸ (hOr gn).2 (.inr (.inr h)))
            · have := hg6.lt; omega
          have hgnb : gn ≠ w2.heap.size + 1 := fun e => by
            rcases hgn with h | h
            · exact (hvr gn h).2 e
            · have := hbt'.lt; omega
          have hgno : ∀ k, Or k → k ≠ gn := fun k hk e => by
            rcases hgn with h | h
            · exact (hvr gn h).1 (e ▸ hk)
            · have := hltb k (hOb k hk); omega
          have hOrk : ∀ k, Or k → ((W7.setCells gn ((altTold all (ts.take i)).length * 8) (reL ts[i].kind ts[i].set A2 x2 c2 ts[i].lo ts[i].hi)).setCell ⟨w2.heap.size + 1, 0, none⟩ (.slice (some ⟨gn, 0, none⟩) ((altTold all (ts.take i)).length + 1) cn)).heap[k]? = w6.heap[k]? := fun k hk =>
            hbn k (hOb k hk) (hgno k hk) (fun q hq e => (hvr q hq).1 (e ▸ hk)) (fun e => hnr (e ▸ hk))
          have hsz7 := hfar.size
          obtain ⟨W8, hW8⟩ : ∃ W8, (W7.setCells gn ((altTold all (ts.take i)).length * 8) (reL ts[i].kind ts[i].set A2 x2 c2 ts[i].lo ts[i].hi)).setCell ⟨w2.heap.size + 1, 0, none⟩ (.slice (some ⟨gn, 0, none⟩) ((altTold all (ts.take i)).length + 1) cn) = W8 := ⟨_, rfl⟩
          have hW8b : (W7.setCell ⟨w2.heap.size + 1, 0, none⟩ (.slice (some ⟨gn, 0, none⟩) ((altTold all (ts.take i)).length + 1) cn)).setCells gn ((altTold all (ts.take i)).length * 8) (reL ts[i].kind ts[i].set A2 x2 c2 ts[i].lo ts[i].hi) = W8 := (sets_swap (Ne.symm hgnb) 0 _ _ _ _).trans hW8
          have hsz8 : W8.heap.size = W7.heap.size := by rw [← hW8]; simp [World.setCell, size_cells]
          have hby8 : BlkIs W8 W.heap.size 29 #[.func (.yield lr) #[] #[]] := by rw [← hW8]; exact (hOrk _ ((hOa _).2 (.inl ((hOy _).2 (.inr rfl))))).trans hby
          have hba8 : W8.heap[w2.heap.size]? = some (.cells (set4 all).toArray 24) := by rw [← hW8]; exact (hOrk _ ((hOa _).2 (.inr rfl))).trans hba'
          have hj8 : J (altTold all (ts.take i)).length Oy W8 := (HJ.out _).keep _ _ _ hj ⟨by omega, fun k hk => by rw [← hW8]; exact hOrk k ((hOa k).2 (.inl ((hOy k).2 (.inl hk))))⟩
          have hbt7 : BlkIs W7 (w2.heap.size + 1) 25 #[.slice A3 (altTold all (ts.take i)).length c3] := (hfar.far _ hbt'.lt (fun e => (hvr _ e).2 rfl)).trans hbt'
          have hbt7' : BlkIs (W7.setCells gn ((altTold all (ts.take i)).length * 8) (reL ts[i].kind ts[i].set A2 x2 c2 ts[i].lo ts[i].hi)) (w2.heap.size + 1) 25 #[.slice A3 (altTold all (ts.take i)).length c3] := BlkIs.farCells (Ne.symm hgnb) _ _ _ hbt7
          have hbt8 : BlkIs W8 (w2.heap.size + 1) 25 #[.slice (some ⟨gn, 0, none⟩) ((altTold all (ts.take i)).length + 1) cn] := by
            have := hbt7'.put 0 (.slice (some ⟨gn, 0, none⟩) ((altTold all (ts.take i)).length + 1) cn)
            rw [← hW8]; simpa using this
          have hg8 : BlkIs W8 g 27 (reL ts[i].kind ts[i].set A2 x2 c2 ts[i].lo ts[i].hi).toArray := by
            rw [← hW8]
            have h1 : BlkIs W7 g 27 (reL ts[i].kind ts[i].set A2 x2 c2 ts[i].lo ts[i].hi).toArray := (hfar.far _ hg6.lt (fun e => hng ((hOr _).2 (.inr (.inr e))))).trans hg6
            exact (Below.heap_setCell _ _ _ g (fun e => hng ((hOr g).2 (.inr (.inl e))))).trans (BlkIs.farCells (Ne.symm hgng) _ _ _ h1)
          have hrow8 : RowT V W8 0 (.slice (some ⟨gn, 0, none⟩) ((altTold all (ts.take i)).length + 1) cn) (altTold all (ts.take i) ++ [turnT all ts[i]]) (xs ++ (reL ts[i].kind ts[i].set A2 x2 c2 ts[i].lo ts[i].hi)) := by
            rw [← hW8]
            exact (hpush (turnT all ts[i]) (reL ts[i].kind ts[i].set A2 x2 c2 ts[i].lo ts[i].hi) HAV.out rfl).heap (fun k hk => by
              have : gn = k := Option.some.inj hk
              exact Below.heap_setCell _ _ _ k (fun e => hgnb (this.trans e)))
          have ht8 : Trip (fun k => Ob k ∨ k = g) Wb (fun k => Or k ∨ k = w2.heap.size + 1 ∨ (Value.slice (some ⟨gn, 0, none⟩) ((altTold all (ts.take i)).length + 1) cn).ownBlock = some k) W8 := by
            have t6 : Trip (fun k => Ob k ∨ k = g) Wb Ob w6 := ⟨fun k h => .inl (.inl h), hf6.mono (fun k h => .inr h)⟩
            have t7 : Trip Ob w6 (fun k => Ob k ∨ k = gn) W7 := ⟨fun k h => h.elim .inl (fun e => hgn.elim (fun h => .inl (e ▸ (hOr gn).2 (.inr (.inr h)))) (fun h => .inr (e ▸ h))), hfar.mono (fun k h => (hOr k).2 (.inr (.inr h)))⟩
            have t8 : Trip (fun k => Ob k ∨ k = gn) W7 (fun k => Ob k ∨ k = gn) W8 := by
              rw [← hW8]
              exact ⟨InN.refl _ _, (far_cells (O := fun k => Ob k ∨ k = gn) (b := gn) (.inr rfl) _ _ _).trans (InN.refl _ _) (far_set _ (.inl ((hOr _).2 (.inr (.inl rfl)))))⟩
            exact ((t6.trans t7).trans t8).sub (fun k h => h.elim (fun h => .inl (hOb k h)) (fun h => h.elim (fun e => .inl ((hOr k).2 (.inr (.inl e)))) (fun e => .inr (Option.some.inj e).symm)))
          have hs8 : Sub V W8 := by
            have h0 : Clear V (fun k => Ob k ∨ k = g) := fun p v hv h => h.elim (HP.out.2.1 p v hv) (hgV p v hv)
            exact HP.out.1.far h0 ht8.far
          have hnr8 : ¬ Or (w2.heap.size + 1) := hnr
          have hvr8 : ∀ k, (Value.slice (some ⟨gn, 0, none⟩) ((altTold all (ts.take i)).length + 1) cn).ownBlock = some k → ¬ Or k ∧ k ≠ w2.heap.size + 1 := fun k hk => by
            obtain rfl : gn = k := Option.some.inj hk
            exact ⟨fun h => hgno gn h rfl, hgnb⟩
          obtain ⟨r, hr⟩ := altTold_more (all := all) (l := ts) (i + 1)
          rw [HQ2] at hr
          have hlk : (altTold all (ts.take i)).length < (altStay ts).length := by unfold altStay; rw [← HALL.out, hr]; simp
          have hatk : Tree.At V (altStay ts)[(altTold all (ts.take i)).length] (.agg (reL ts[i].kind ts[i].set A2 x2 c2 ts[i].lo ts[i].hi).toArray) := by
            have e : altStay ts = altTold all (ts.take i) ++ ([turnT all ts[i]] ++ r) := by unfold altStay; rw [← HALL.out, hr, List.append_assoc]
            simp only [e]
            rw [List.getElem_append_right (Nat.le_refl _)]
            simp only [Nat.sub_self, List.singleton_append, List.getElem_cons_zero]
            exact HAV.out
          have hy0 := (YieldAt.anyN (m := 2) (HY.out _ hlk Oy W8 (reL ts[i].kind ts[i].set A2 x2 c2 ts[i].lo ts[i].hi) hj8 hs8 (HP.out.2.1.less hOyb) hatk rfl)).mono fun e W3 hh =>
            (show (e = .returned (.bool true) ∧ NextIs (fun k => Ob k ∨ k = g) Wb (RowH V (With (With (J (altTold all (ts.take (i + 1))).length) W.heap.size (.cells #[.func (.yield lr) #[] #[]] 29)) w2.heap.size (.cells (set4 all).toArray 24)) (w2.heap.size + 1) (altTold all (ts.take (i + 1)))) W3) ∨ (e = .returned (.bool false) ∧ NextIs (fun k => Ob k ∨ k = g) Wb (AltX V X W.heap.size w2.heap.size (w2.heap.size + 1) (.cells #[.func (.yield lr) #[] #[]] 29) (.cells (set4 all).toArray 24)) W3) from
              hh.imp (fun hh => ⟨hh.1, by
                  rw [HQ2, List.length_append]
                  exact NextIs.trip ht8 (RowH.next (fun k => Iff.rfl) hnr8 hvr8 hbt8 hrow8 (With.next hOa hna hba8 (With.next hOy hny hby8 hh.2)))⟩)
                (fun hh => ⟨hh.1, (NextIs.trip ht8 (RowH.next (fun k => Iff.rfl) hnr8 hvr8 hbt8 hrow8 (With.next hOa hna hba8 (With.next hOy hny hby8 hh.2)))).mono fun _ h => ⟨_, h⟩⟩))
          obtain ⟨fn, tmps, assign, body, hy, hR⟩ := hy0
          have HR := Lib.hid hR
          have hth : W7.there gn ((altTold all (ts.take i)).length * 8) (reL ts[i].kind ts[i].set A2 x2 c2 ts[i].lo ts[i].hi).length := fun j (hj : j < 8) => by
            have h := BlkIs.there (show BlkIs W7 gn 27 cur from hcur) ((altTold all (ts.take i)).length * 8 + j) (by omega)
            rw [Nat.zero_add] at h
            exact h
          have hth' : (W7.setCell ⟨w2.heap.size + 1, 0, none⟩ (.slice (some ⟨gn, 0, none⟩) ((altTold all (ts.take i)).length + 1) cn)).there gn ((altTold all (ts.take i)).length * 8) (reL ts[i].kind ts[i].set A2 x2 c2 ts[i].lo ts[i].hi).length := fun j (hj : j < 8) => by
            obtain ⟨h1, h2⟩ := hth j hj
            have e : (W7.setCell ⟨w2.heap.size + 1, 0, none⟩ (.slice (some ⟨gn, 0, none⟩) ((altTold all (ts.take i)).length + 1) cn)).heap[gn]? = W7.heap[gn]? := Below.heap_setCell _ _ _ gn (by simpa using hgnb)
            exact ⟨by rw [World.cell?_of_block (w := W7) e]; exact h1, by rw [World.frozen?_of_block (w := W7) e]; exact h2⟩
          have hUB : Below w6.heap.size w6 (w6.alloc (.cells zeroL.toArray 27)) := (Below.refl _ _).alloc (Nat.le_refl _) _
          have m0 := hbt'.cell 0
          have m1 := (hbt'.step hUB).cell 0
          have m2 := hbt7.cell 0
          have m3 := hbt7.frozen 0
          have m4 := hbt7'.cell 0
          have m5 := hbt7'.frozen 0
          have m6 := hby8.cell 0
          obtain ⟨s0, s1, s2, s3, s4, s5, s6, s7⟩ := hg6.eight
          obtain ⟨t0, t1, t2, t3, t4, t5, t6, t7⟩ := (hg6.step hUB).eight
          obtain ⟨z0, z1, z2, z3, z4, z5, z6, z7⟩ := hg8.eight
          simp only [List.getElem?_toArray, List.getElem?_cons_zero] at m0 m1 m2 m4 m6
          have HRUN := Lib.hid hrun
          have HTH := Lib.hid (And.intro hth hth')
          have hlt9 : (altTold all (ts.take i)).length < (altTold all (ts.take i)).length + 1 := Nat.lt_succ_self _
          have hlt9x : ((altTold all (ts.take i)).length : Int) < ((altTold all (ts.take i)).length : Int) + 1 := by omega
          have H8 := Lib.hid (And.intro hW8 hW8b)
          clear hrun hth hth' hUB hR hatk hlk hr hvr8 hnr8 hs8 ht8 hrow8 hg8 hbt8 hbt7' hbt7 hj8 hba8 hby8 hsz8 hW8 hW8b hsz7 hOrk hgno hgnb hgng hbn hsz6 hltb hOyb hOb hg6 hpush hfar hcur hcs hgnlt hgn hcn hrow hbt' hvr hnr hOr hba' hna hOa hby hny hOy hj HQ2 hs6 hn6 hf6 hb6 HHAS hk
          unfold zeroL at *
          have hmix : Tryd.prog.follows .mixedOrders = true := by kernel_rfl
          gi_wp2
          refine wpIn_mono (Q := fun e a' w' => e = .normal ∧ a' = { tmps := #[.func (.yield lr) #[] #[], .pointer (some ⟨b, 0, none⟩), .pointer (some ⟨W.heap.size, 0, none⟩), .pointer (some ⟨w2.heap.size, 0, none⟩), .pointer (some ⟨w2.heap.size + 1, 0, none⟩), .pointer (some ⟨g, 0, none⟩), .func (.func gf) #[] lb, .agg #[.int .u64 (wd all 0 : Nat), .int .u64 (wd all 1 : Nat), .int .u64 (wd all 2 : Nat), .int .u64 (wd all 3 : Nat)], .func (.func gf) #[] lb, .agg #[.int .i64 ts[i].kind, .int .u64 (wd ts[i].set 0 : Nat), .int .u64 (wd ts[i].set 1 : Nat), .int .u64 (wd ts[i].set 2 : Nat), .int .u64 (wd ts[i].set 3 : Nat), .slice A2 x2 c2, .int .i64 ts[i].lo, .int .i64 ts[i].hi], .agg #[.int .i64 ts[i].kind, .int .u64 (wd ts[i].set 0 : Nat), .int .u64 (wd ts[i].set 1 : Nat), .int .u64 (wd ts[i].set 2 : Nat), .int .u64 (wd ts[i].set 3 : Nat), .slice A2 x2 c2, .int .i64 ts[i].lo, .int .i64 ts[i].hi], .bool false, .pointer (some ⟨g, 0, none⟩), .int .i64 ts[i].kind, .bool false, undef, undef,
            .slice A3 (altTold all (ts.take i)).length c3, .agg #[.int .i64 ts[i].kind, .int .u64 (wd ts[i].set 0 : Nat), .int .u64 (wd ts[i].set 1 : Nat), .int .u64 (wd ts[i].set 2 : Nat), .int .u64 (wd ts[i].set 3 : Nat), .slice A2 x2 c2, .int .i64 ts[i].lo, .int .i64 ts[i].hi], .bool false, .slice A3 (altTold all (ts.take i)).length c3, .agg #[.int .i64 ts[i].kind, .int .u64 (wd ts[i].set 0 : Nat), .int .u64 (wd ts[i].set 1 : Nat), .int .u64 (wd ts[i].set 2 : Nat), .int .u64 (wd ts[i].set 3 : Nat), .slice A2 x2 c2, .int .i64 ts[i].lo, .int .i64 ts[i].hi], .int .i64 ((altTold all (ts.take i)).length : Nat), .slice (some ⟨w6.heap.size, 0, none⟩) 1 1, .slice (some ⟨gn, 0, none⟩) ((altTold all (ts.take i)).length + 1) cn, .pointer (some ⟨gn, (altTold all (ts.take i)).length * 8, none⟩), undef, undef, undef, undef], defers := [] } ∧ w' = W8) ?_ ?_
          · refine wpIn_region_any hmix ?_
            change wpAnyIn _ _ _ _ _ _ _ _ _ (World.drew _)
            iterate 8
              all_goals (
                first
                  | (refine wpAnyIn_ready (rs := [0, 1, 2]) (by decide +kernel) (by simp) ?_; refine AllReadyIn.cons rfl (fun K hK => ?_) (AllReadyIn.cons rfl (fun K hK => ?_) (AllReadyIn.cons rfl (fun K hK => ?_) AllReadyIn.nil)))
                  | (refine wpAnyIn_ready (rs := [0, 1, 3]) (by decide +kernel) (by simp) ?_; refine AllReadyIn.cons rfl (fun K hK => ?_) (AllReadyIn.cons rfl (fun K hK => ?_) (AllReadyIn.cons rfl (fun K hK => ?_) AllReadyIn.nil)))
                  | (refine wpAnyIn_ready (rs := [0, 2, 3]) (by decide +kernel) (by simp) ?_; refine AllReadyIn.cons rfl (fun K hK => ?_) (AllReadyIn.cons rfl (fun K hK => ?_) (AllReadyIn.cons rfl (fun K hK => ?_) AllReadyIn.nil)))
                  | (refine wpAnyIn_ready (rs := [1, 2, 3]) (by decide +kernel) (by simp) ?_; refine AllReadyIn.cons rfl (fun K hK => ?_) (AllReadyIn.cons rfl (fun K hK => ?_) (AllReadyIn.cons rfl (fun K hK => ?_) AllReadyIn.nil)))
                  | (refine wpAnyIn_ready (rs := [0, 1]) (by decide +kernel) (by simp) ?_; refine AllReadyIn.cons rfl (fun K hK => ?_) (AllReadyIn.cons rfl (fun K hK => ?_) AllReadyIn.nil))
                  | (refine wpAnyIn_ready (rs := [0, 2]) (by decide +kernel) (by simp) ?_; refine AllReadyIn.cons rfl (fun K hK => ?_) (AllReadyIn.cons rfl (fun K hK => ?_) AllReadyIn.nil))
                  | (refine wpAnyIn_ready (rs := [0, 3]) (by decide +kernel) (by simp) ?_; refine AllReadyIn.cons rfl (fun K hK => ?_) (AllReadyIn.cons rfl (fun K hK => ?_) AllReadyIn.nil))
                  | (refine wpAnyIn_ready (rs := [1, 2]) (by decide +kernel) (by simp) ?_; refine AllReadyIn.cons rfl (fun K hK => ?_) (AllReadyIn.cons rfl (fun K hK => ?_) AllReadyIn.nil))
                  | (refine wpAnyIn_ready (rs := [1, 3]) (by decide +kernel) (by simp) ?_; refine AllReadyIn.cons rfl (fun K hK => ?_) (AllReadyIn.cons rfl (fun K hK => ?_) AllReadyIn.nil))
                  | (refine wpAnyIn_ready (rs := [2, 3]) (by decide +kernel) (by simp) ?_; refine AllReadyIn.cons rfl (fun K hK => ?_) (AllReadyIn.cons rfl (fun K hK => ?_) AllReadyIn.nil))
                  | (refine wpAnyIn_ready (rs := [0]) (by decide +kernel) (by simp) ?_; refine AllReadyIn.cons rfl (fun K hK => ?_) AllReadyIn.nil)
                  | (refine wpAnyIn_ready (rs := [1]) (by decide +kernel) (by simp) ?_; refine AllReadyIn.cons rfl (fun K hK => ?_) AllReadyIn.nil)
                  | (refine wpAnyIn_ready (rs := [2]) (by decide +kernel) (by simp) ?_; refine AllReadyIn.cons rfl (fun K hK => ?_) AllReadyIn.nil)
                  | (refine wpAnyIn_ready (rs := [3]) (by decide +kernel) (by simp) ?_; refine AllReadyIn.cons rfl (fun K hK => ?_) AllReadyIn.nil)
                  | (refine wpAnyIn_ready (rs := [5, 7]) (by decide +kernel) (by simp) ?_; refine AllReadyIn.cons rfl (fun K hK => ?_) (AllReadyIn.cons rfl (fun K hK => ?_) AllReadyIn.nil))
                  | (refine wpAnyIn_ready (rs := [6, 7]) (by decide +kernel) (by simp) ?_; refine AllReadyIn.cons rfl (fun K hK => ?_) (AllReadyIn.cons rfl (fun K hK => ?_) AllReadyIn.nil))
                  | (refine wpAnyIn_ready (rs := [4]) (by decide +kernel) (by simp) ?_; refine AllReadyIn.cons rfl (fun K hK => ?_) AllReadyIn.nil)
                  | (refine wpAnyIn_ready (rs := [5]) (by decide +kernel) (by simp) ?_; refine AllReadyIn.cons rfl (fun K hK => ?_) AllReadyIn.nil)
                  | (refine wpAnyIn_ready (rs := [6]) (by decide +kernel) (by simp) ?_; refine AllReadyIn.cons rfl (fun K hK => ?_) AllReadyIn.nil)
                  | (refine wpAnyIn_ready (rs := [7]) (by decide +kernel) (by simp) ?_; refine AllReadyIn.cons rfl (fun K hK => ?_) AllReadyIn.nil)
                all_goals (
                  first
                    | (rw [if_pos (show Region.wanted _ _ = true from rfl)]; refine operIn_append_at _ _ 25 25 rfl rfl rfl HRUN.out ?_)
                    | (rw [if_pos (show Region.wanted _ _ = true from rfl)]; refine operIn_store_at 27 _ _ rfl gn ((altTold all (ts.take i)).length * 8) (reL ts[i].kind ts[i].set A2 x2 c2 ts[i].lo ts[i].hi) rfl rfl (by first | (with_reducible exact HTH.out.1) | (with_reducible exact HTH.out.2)) info_re8 reL_all ?_)
                    | go_simp
                  refine hK _ _ ?_
                  clear hK K))
            all_goals (refine wpAnyIn_done ?_ ?_ _; decide +kernel)
            all_goals (refine ⟨rfl, rfl, ?_⟩; first | (with_reducible exact H8.out.1) | (with_reducible exact H8.out.2))
          · rintro e a' w' ⟨rfl, rfl, rfl⟩
            unfold reL at hy
            gi_wp2
            refine HR.out.mono ?_
            rintro e W3 (⟨rfl, hn⟩ | ⟨rfl, hn⟩)
            all_goals
              have HN2 := Lib.hid hn
              clear hn hy HR m6 z0 z1 z2 z3 z4 z5 z6 z7
              gi_wp2
            · exact HN2.out
            · change NextIs (fun k => Ob k ∨ k = g) Wb (fun O' Wx => Code.ret = .ret ∧ AltX V X W.heap.size w2.heap.size (w2.heap.size + 1) (.cells #[.func (.yield lr) #[] #[]] 29) (.cells (set4 all).toArray 24) O' Wx) W3
              exact HN2.out.mono fun _ h => ⟨rfl, h⟩
      | true =>
        unfold reL
        gi_wp2
        refine ⟨trivial, ?_⟩
        gi_at_call 55
        refine (CallsIn.inRound _ (callsIn_wide.2 (HCALL.out _))).mono ?_
        rintro e w3 ⟨rfl, hb3⟩
        rw [HVV.out]
        have hg3 := HC.out w3 hb3
        obtain ⟨e0, e1, e2, e3, e4, e5, e6, e7⟩ := hg3.eight
        obtain ⟨z0, z1⟩ := HF.out w3 (near_below hb3 HL.out)
        obtain ⟨y0, y1, y2, y3, x0, x1, x2', x3⟩ := BlkIs.four z1
        have HBY1 := Lib.hid (byte_any all w3)
        have HB3 := Lib.hid (And.intro hb3 hg3)
        clear z1 hg3 hb3 k0 k1 k2 k3 k4 k5 k6 k7
        unfold setV at HBY1
        gi_wp2
        refine ⟨trivial, ?_⟩
        gi_at_call 56
        refine (CallsIn.inRound _ (callsIn_wide.2 HBY1.out)).mono ?_
        rintro e w4 ⟨rfl, hb4⟩
        have hb34 := HB3.out.1.trans (hb4.mono HB3.out.1.size)
        have hg4 := HC.out w4 hb34
        obtain ⟨r0, r1, r2, r3, r4, r5, r6, r7⟩ := hg4.eight
        obtain ⟨q0, q1, q2, q3, q4, q5, q6, q7⟩ := hg4.thaw8
        obtain ⟨W5, hW5⟩ : ∃ W5, w4.setCells g 0 (reL 1 all none 0 0 0 0) = W5 := ⟨_, rfl⟩
        have hg5 : BlkIs W5 g 27 (reL 1 all none 0 0 0 0).toArray := by rw [← hW5]; exact store_re hg4 rfl
        have hf5 : Far (fun k => k = g) Wb W5 := by rw [← hW5]; exact (Far.of_below hb34).trans (InN.refl _ _) (far_cells (O := fun k => k = g) (b := g) rfl _ _ _)
        have hn5 : Near Ob Wb W5 := hf5.near HL.out (fun k hk e => hng (e ▸ hk))
        have hs5 : Sub V W5 := HP.out.1.far (O := fun k => k = g) hgV hf5
        obtain ⟨j0, j1, j2, j3, j4, j5, j6, j7⟩ := hg5.eight
        obtain ⟨v0, _⟩ := HF.out W5 hn5
        have HB5 := Lib.hid (And.intro hg5 (And.intro hf5 (And.intro hn5 hs5)))
        clear hg4 hb4 hb34 hg5 hf5 hn5 hs5 e0 e1 e2 e3 e4 e5 e6 e7 y0 y1 y2 y3 x0 x1 x2' x3 z0
        simp only [reL, World.setCells, Nat.reduceAdd, Nat.zero_add] at hW5
        unfold reV reL
        gi_wp2
        have HHAS := Lib.hid (hasT_any (altTold all (ts.take i)) (turnT all ts[i]) A3 c3 _ W5 hc3 (HROW.out W5 HB5.out.2.2.1 HB5.out.2.2.2) (turn_at (V := W5) hk) HLEN.out.2)
        unfold reV reL at HHAS
        refine ⟨trivial, ?_⟩
        gi_at_call 59
        refine (CallsIn.inRound _ (callsIn_wide.2 HHAS.out)).mono ?_
        rintro e w6 ⟨rfl, hb6⟩
        have hf6 : Far (fun k => k = g) Wb w6 := HB5.out.2.1.trans (InN.refl _ _) (Far.of_below hb6)
        have hn6 : Near Ob Wb w6 := hf6.near HL.out (fun k hk e => hng (e ▸ hk))
        have hs6 : Sub V w6 := HB5.out.2.2.2.trans (sub_below hb6)
        have hst6 := HKEEP.out w6 hn6
        cases hany : (altTold all (ts.take i)).any (fun x => x.same (turnT all ts[i])) with
        | true =>
          have HQ2 := HQ.out
          rw [if_pos hany] at HQ2
          have HE6 := Lib.hid (show NextIs (fun k => Ob k ∨ k = g) Wb (RowH V (With (With (J (altTold all (ts.take (i + 1))).length) W.heap.size (.cells #[.func (.yield lr) #[] #[]] 29)) w2.heap.size (.cells (set4 all).toArray 24)) (w2.heap.size + 1) (altTold all (ts.take (i + 1)))) w6 from by
            rw [HQ2]
            exact NextIs.of ⟨fun k h => .inl (.inl h), hf6.mono (fun k h => .inr h)⟩ hst6)
          clear HQ2 hst6 hs6 hn6 hf6 hb6 HHAS hk
          gi_wp2
          exact HE6.out
        | false =>
          have HQ2 := HQ.out
          rw [if_neg (by rw [hany]; simp)] at HQ2
          obtain ⟨Or, v, xs, ⟨Oa, ⟨Oy, hj, hOy, hny, hby⟩, hOa, hna, hba'⟩, hOr, hnr, hvr, hbt', hrow⟩ := hst6
          obtain rfl : Value.slice A3 (altTold all (ts.take i)).length c3 = v := by
            have h1 := (HF.out w6 hn6).1
            have h2 : w6.cell? ⟨w2.heap.size + 1, 0, none⟩ = some v := hbt'.cell 0
            rw [h1] at h2
            exact Option.some.inj h2
          obtain ⟨gn, cn, W7, hrun, hcn, hgn, _, hgnlt, ⟨cur, hcur, hcs⟩, hfar, hpush⟩ := row_push hrow HLEN.out.1 (Nat.zero_le _)
          have hg6 : BlkIs w6 g 27 (reL 1 all none 0 0 0 0).toArray := HB5.out.1.step hb6
          have hOb : ∀ k, Or k → Ob k := fun k h => (hOr k).2 (.inl h)
          have hOyb : ∀ k, Oy k → Ob k := fun k h => hOb k ((hOa k).2 (.inl ((hOy k).2 (.inl h))))
          have hltb := HL.out
          have hsz6 := hf6.size
          have hbn : ∀ k, Ob k → k ≠ gn → ((∀ q, (Value.slice A3 (altTold all (ts.take i)).length c3).ownBlock = some q → k ≠ q)) → k ≠ w2.heap.size + 1 → ((W7.setCells gn ((altTold all (ts.take i)).length * 8) (reL 1 all none 0 0 0 0)).setCell ⟨w2.heap.size + 1, 0, none⟩ (.slice (some ⟨gn, 0, none⟩) ((altTold all (ts.take i)).length + 1) cn)).heap[k]? = w6.heap[k]? := fun k hk h1 h2 h3 => by
            rw [Below.heap_setCell _ _ _ k (by simpa using h3), heap_cells gn k h1]
            exact hfar.far k (by have := hltb k hk; omega) (fun e => h2 k e rfl)
          have hgng : gn ≠ g := fun e => by
            rcases hgn with h | h
            · exact hng (e ▸ (hOr gn).2 (.inr (.inr h)))
            · have := hg6.lt; omega
          have hgnb : gn ≠ w2.heap.size + 1 := fun e => by
            rcases hgn with h | h
            · exact (hvr gn h).2 e
            · have := hbt'.lt; omega
          have hgno : ∀ k, Or k → k ≠ gn := fun k hk e => by
            rcases hgn with h | h
            · exact (hvr gn h).1 (e ▸ hk)
            · have := hltb k (hOb k hk); omega
          have hOrk : ∀ k, Or k → ((W7.setCells gn ((altTold all (ts.take i)).length * 8) (reL 1 all none 0 0 0 0)).setCell ⟨w2.heap.size + 1, 0, none⟩ (.slice (some ⟨gn, 0, none⟩) ((altTold all (ts.take i)).length + 1) cn)).heap[k]? = w6.heap[k]? := fun k hk =>
            hbn k (hOb k hk) (hgno k hk) (fun q hq e => (hvr q hq).1 (e ▸ hk)) (fun e => hnr (e ▸ hk))
          have hsz7 := hfar.size
          obtain ⟨W8, hW8⟩ : ∃ W8, (W7.setCells gn ((altTold all (ts.take i)).length * 8) (reL 1 all none 0 0 0 0)).setCell ⟨w2.heap.size + 1, 0, none⟩ (.slice (some ⟨gn, 0, none⟩) ((altTold all (ts.take i)).length + 1) cn) = W8 := ⟨_, rfl⟩
          have hW8b : (W7.setCell ⟨w2.heap.size + 1, 0, none⟩ (.slice (some ⟨gn, 0, none⟩) ((altTold all (ts.take i)).length + 1) cn)).setCells gn ((altTold all (ts.take i)).length * 8) (reL 1 all none 0 0 0 0) = W8 := (sets_swap (Ne.symm hgnb) 0 _ _ _ _).trans hW8
          have hsz8 : W8.heap.size = W7.heap.size := by rw [← hW8]; simp [World.setCell, size_cells]
          have hby8 : BlkIs W8 W.heap.size 29 #[.func (.yield lr) #[] #[]] := by rw [← hW8]; exact (hOrk _ ((hOa _).2 (.inl ((hOy _).2 (.inr rfl))))).trans hby
          have hba8 : W8.heap[w2.heap.size]? = some (.cells (set4 all).toArray 24) := by rw [← hW8]; exact (hOrk _ ((hOa _).2 (.inr rfl))).trans hba'
          have hj8 : J (altTold all (ts.take i)).length Oy W8 := (HJ.out _).keep _ _ _ hj ⟨by omega, fun k hk => by rw [← hW8]; exact hOrk k ((hOa k).2 (.inl ((hOy k).2 (.inl hk))))⟩
          have hbt7 : BlkIs W7 (w2.heap.size + 1) 25 #[.slice A3 (altTold all (ts.take i)).length c3] := (hfar.far _ hbt'.lt (fun e => (hvr _ e).2 rfl)).trans hbt'
          have hbt7' : BlkIs (W7.setCells gn ((altTold all (ts.take i)).length * 8) (reL 1 all none 0 0 0 0)) (w2.heap.size + 1) 25 #[.slice A3 (altTold all (ts.take i)).length c3] := BlkIs.farCells (Ne.symm hgnb) _ _ _ hbt7
          have hbt8 : BlkIs W8 (w2.heap.size + 1) 25 #[.slice (some ⟨gn, 0, none⟩) ((altTold all (ts.take i)).length + 1) cn] := by
            have := hbt7'.put 0 (.slice (some ⟨gn, 0, none⟩) ((altTold all (ts.take i)).length + 1) cn)
            rw [← hW8]; simpa using this
          have hg8 : BlkIs W8 g 27 (reL 1 all none 0 0 0 0).toArray := by
            rw [← hW8]
            have h1 : BlkIs W7 g 27 (reL 1 all none 0 0 0 0).toArray := (hfar.far _ hg6.lt (fun e => hng ((hOr _).2 (.inr (.inr e))))).trans hg6
            exact (Below.heap_setCell _ _ _ g (fun e => hng ((hOr g).2 (.inr (.inl e))))).trans (BlkIs.farCells (Ne.symm hgng) _ _ _ h1)
          have hrow8 : RowT V W8 0 (.slice (some ⟨gn, 0, none⟩) ((altTold all (ts.take i)).length + 1) cn) (altTold all (ts.take i) ++ [turnT all ts[i]]) (xs ++ (reL 1 all none 0 0 0 0)) := by
            rw [← hW8]
            exact (hpush (turnT all ts[i]) (reL 1 all none 0 0 0 0) (turn_at (V := V) hk) rfl).heap (fun k hk => by
              have : gn = k := Option.some.inj hk
              exact Below.heap_setCell _ _ _ k (fun e => hgnb (this.trans e)))
          have ht8 : Trip (fun k => Ob k ∨ k = g) Wb (fun k => Or k ∨ k = w2.heap.size + 1 ∨ (Value.slice (some ⟨gn, 0, none⟩) ((altTold all (ts.take i)).length + 1) cn).ownBlock = some k) W8 := by
            have t6 : Trip (fun k => Ob k ∨ k = g) Wb Ob w6 := ⟨fun k h => .inl (.inl h), hf6.mono (fun k h => .inr h)⟩
            have t7 : Trip Ob w6 (fun k => Ob k ∨ k = gn) W7 := ⟨fun k h => h.elim .inl (fun e => hgn.elim (fun h => .inl (e ▸ (hOr gn).2 (.inr (.inr h)))) (fun h => .inr (e ▸ h))), hfar.mono (fun k h => (hOr k).2 (.inr (.inr h)))⟩
            have t8 : Trip (fun k => Ob k ∨ k = gn) W7 (fun k => Ob k ∨ k = gn) W8 := by
              rw [← hW8]
              exact ⟨InN.refl _ _, (far_cells (O := fun k => Ob k ∨ k = gn) (b := gn) (.inr rfl) _ _ _).trans (InN.refl _ _) (far_set _ (.inl ((hOr _).2 (.inr (.inl rfl)))))⟩
            exact ((t6.trans t7).trans t8).sub (fun k h => h.elim (fun h => .inl (hOb k h)) (fun h => h.elim (fun e => .inl ((hOr k).2 (.inr (.inl e)))) (fun e => .inr (Option.some.inj e).symm)))
          have hs8 : Sub V W8 := by
            have h0 : Clear V (fun k => Ob k ∨ k = g) := fun p v hv h => h.elim (HP.out.2.1 p v hv) (hgV p v hv)
            exact HP.out.1.far h0 ht8.far
          have hnr8 : ¬ Or (w2.heap.size + 1) := hnr
          have hvr8 : ∀ k, (Value.slice (some ⟨gn, 0, none⟩) ((altTold all (ts.take i)).length + 1) cn).ownBlock = some k → ¬ Or k ∧ k ≠ w2.heap.size + 1 := fun k hk => by
            obtain rfl : gn = k := Option.some.inj hk
            exact ⟨fun h => hgno gn h rfl, hgnb⟩
          obtain ⟨r, hr⟩ := altTold_more (all := all) (l := ts) (i + 1)
          rw [HQ2] at hr
          have hlk : (altTold all (ts.take i)).length < (altStay ts).length := by unfold altStay; rw [← HALL.out, hr]; simp
          have hatk : Tree.At V (altStay ts)[(altTold all (ts.take i)).length] (.agg (reL 1 all none 0 0 0 0).toArray) := by
            have e : altStay ts = altTold all (ts.take i) ++ ([turnT all ts[i]] ++ r) := by unfold altStay; rw [← HALL.out, hr, List.append_assoc]
            simp only [e]
            rw [List.getElem_append_right (Nat.le_refl _)]
            simp only [Nat.sub_self, List.singleton_append, List.getElem_cons_zero]
            exact (turn_at (V := V) hk)
          have hy0 := (YieldAt.anyN (m := 2) (HY.out _ hlk Oy W8 (reL 1 all none 0 0 0 0) hj8 hs8 (HP.out.2.1.less hOyb) hatk rfl)).mono fun e W3 hh =>
            (show (e = .returned (.bool true) ∧ NextIs (fun k => Ob k ∨ k = g) Wb (RowH V (With (With (J (altTold all (ts.take (i + 1))).length) W.heap.size (.cells #[.func (.yield lr) #[] #[]] 29)) w2.heap.size (.cells (set4 all).toArray 24)) (w2.heap.size + 1) (altTold all (ts.take (i + 1)))) W3) ∨ (e = .returned (.bool false) ∧ NextIs (fun k => Ob k ∨ k = g) Wb (AltX V X W.heap.size w2.heap.size (w2.heap.size + 1) (.cells #[.func (.yield lr) #[] #[]] 29) (.cells (set4 all).toArray 24)) W3) from
              hh.imp (fun hh => ⟨hh.1, by
                  rw [HQ2, List.length_append]
                  exact NextIs.trip ht8 (RowH.next (fun k => Iff.rfl) hnr8 hvr8 hbt8 hrow8 (With.next hOa hna hba8 (With.next hOy hny hby8 hh.2)))⟩)
                (fun hh => ⟨hh.1, (NextIs.trip ht8 (RowH.next (fun k => Iff.rfl) hnr8 hvr8 hbt8 hrow8 (With.next hOa hna hba8 (With.next hOy hny hby8 hh.2)))).mono fun _ h => ⟨_, h⟩⟩))
          obtain ⟨fn, tmps, assign, body, hy, hR⟩ := hy0
          have HR := Lib.hid hR
          have hth : W7.there gn ((altTold all (ts.take i)).length * 8) (reL 1 all none 0 0 0 0).length := fun j (hj : j < 8) => by
            have h := BlkIs.there (show BlkIs W7 gn 27 cur from hcur) ((altTold all (ts.take i)).length * 8 + j) (by omega)
            rw [Nat.zero_add] at h
            exact h
          have hth' : (W7.setCell ⟨w2.heap.size + 1, 0, none⟩ (.slice (some ⟨gn, 0, none⟩) ((altTold all (ts.take i)).length + 1) cn)).there gn ((altTold all (ts.take i)).length * 8) (reL 1 all none 0 0 0 0).length := fun j (hj : j < 8) => by
            obtain ⟨h1, h2⟩ := hth j hj
            have e : (W7.setCell ⟨w2.heap.size + 1, 0, none⟩ (.slice (some ⟨gn, 0, none⟩) ((altTold all (ts.take i)).length + 1) cn)).heap[gn]? = W7.heap[gn]? := Below.heap_setCell _ _ _ gn (by simpa using hgnb)
            exact ⟨by rw [World.cell?_of_block (w := W7) e]; exact h1, by rw [World.frozen?_of_block (w := W7) e]; exact h2⟩
          have hUB : Below w6.heap.size w6 (w6.alloc (.cells zeroL.toArray 27)) := (Below.refl _ _).alloc (Nat.le_refl _) _
          have m0 := hbt'.cell 0
          have m1 := (hbt'.step hUB).cell 0
          have m2 := hbt7.cell 0
          have m3 := hbt7.frozen 0
          have m4 := hbt7'.cell 0
          have m5 := hbt7'.frozen 0
          have m6 := hby8.cell 0
          obtain ⟨s0, s1, s2, s3, s4, s5, s6, s7⟩ := hg6.eight
          obtain ⟨t0, t1, t2, t3, t4, t5, t6, t7⟩ := (hg6.step hUB).eight
          obtain ⟨z0, z1, z2, z3, z4, z5, z6, z7⟩ := hg8.eight
          simp only [List.getElem?_toArray, List.getElem?_cons_zero] at m0 m1 m2 m4 m6
          have HRUN := Lib.hid hrun
          have HTH := Lib.hid (And.intro hth hth')
          have hlt9 : (altTold all (ts.take i)).length < (altTold all (ts.take i)).length + 1 := Nat.lt_succ_self _
          have hlt9x : ((altTold all (ts.take i)).length : Int) < ((altTold all (ts.take i)).length : Int) + 1 := by omega
          have H8 := Lib.hid (And.intro hW8 hW8b)
          clear hrun hth hth' hUB hR hatk hlk hr hvr8 hnr8 hs8 ht8 hrow8 hg8 hbt8 hbt7' hbt7 hj8 hba8 hby8 hsz8 hW8 hW8b hsz7 hOrk hgno hgnb hgng hbn hsz6 hltb hOyb hOb hg6 hpush hfar hcur hcs hgnlt hgn hcn hrow hbt' hvr hnr hOr hba' hna hOa hby hny hOy hj HQ2 hs6 hn6 hf6 hb6 HHAS hk
          unfold zeroL at *
          have hmix : Tryd.prog.follows .mixedOrders = true := by kernel_rfl
          gi_wp2
          refine wpIn_mono (Q := fun e a' w' => e = .normal ∧ a' = { tmps := #[.func (.yield lr) #[] #[], .pointer (some ⟨b, 0, none⟩), .pointer (some ⟨W.heap.size, 0, none⟩), .pointer (some ⟨w2.heap.size, 0, none⟩), .pointer (some ⟨w2.heap.size + 1, 0, none⟩), .pointer (some ⟨g, 0, none⟩), .func (.func gf) #[] lb, .agg #[.int .u64 (wd all 0 : Nat), .int .u64 (wd all 1 : Nat), .int .u64 (wd all 2 : Nat), .int .u64 (wd all 3 : Nat)], .func (.func gf) #[] lb, .agg #[.int .i64 ts[i].kind, .int .u64 (wd ts[i].set 0 : Nat), .int .u64 (wd ts[i].set 1 : Nat), .int .u64 (wd ts[i].set 2 : Nat), .int .u64 (wd ts[i].set 3 : Nat), .slice A2 x2 c2, .int .i64 ts[i].lo, .int .i64 ts[i].hi], .agg #[.int .i64 ts[i].kind, .int .u64 (wd ts[i].set 0 : Nat), .int .u64 (wd ts[i].set 1 : Nat), .int .u64 (wd ts[i].set 2 : Nat), .int .u64 (wd ts[i].set 3 : Nat), .slice A2 x2 c2, .int .i64 ts[i].lo, .int .i64 ts[i].hi], .bool false, .pointer (some ⟨g, 0, none⟩), .int .i64 ts[i].kind, .bool true, .agg #[.int .u64 (wd all 0 : Nat), .int .u64 (wd all 1 : Nat), .int .u64 (wd all 2 : Nat), .int .u64 (wd all 3 : Nat)], .agg #[.int .i64 1, .int .u64 (wd all 0 : Nat), .int .u64 (wd all 1 : Nat), .int .u64 (wd all 2 : Nat), .int .u64 (wd all 3 : Nat), .slice none 0 0, .int .i64 0, .int .i64 0],
            .slice A3 (altTold all (ts.take i)).length c3, .agg #[.int .i64 1, .int .u64 (wd all 0 : Nat), .int .u64 (wd all 1 : Nat), .int .u64 (wd all 2 : Nat), .int .u64 (wd all 3 : Nat), .slice none 0 0, .int .i64 0, .int .i64 0], .bool false, .slice A3 (altTold all (ts.take i)).length c3, .agg #[.int .i64 1, .int .u64 (wd all 0 : Nat), .int .u64 (wd all 1 : Nat), .int .u64 (wd all 2 : Nat), .int .u64 (wd all 3 : Nat), .slice none 0 0, .int .i64 0, .int .i64 0], .int .i64 ((altTold all (ts.take i)).length : Nat), .slice (some ⟨w6.heap.size, 0, none⟩) 1 1, .slice (some ⟨gn, 0, none⟩) ((altTold all (ts.take i)).length + 1) cn, .pointer (some ⟨gn, (altTold all (ts.take i)).length * 8, none⟩), undef, undef, undef, undef], defers := [] } ∧ w' = W8) ?_ ?_
          · refine wpIn_region_any hmix ?_
            change wpAnyIn _ _ _ _ _ _ _ _ _ (World.drew _)
            iterate 8
              all_goals (
                first
                  | (refine wpAnyIn_ready (rs := [0, 1, 2]) (by decide +kernel) (by simp) ?_; refine AllReadyIn.cons rfl (fun K hK => ?_) (AllReadyIn.cons rfl (fun K hK => ?_) (AllReadyIn.cons rfl (fun K hK => ?_) AllReadyIn.nil)))
                  | (refine wpAnyIn_ready (rs := [0, 1, 3]) (by decide +kernel) (by simp) ?_; refine AllReadyIn.cons rfl (fun K hK => ?_) (AllReadyIn.cons rfl (fun K hK => ?_) (AllReadyIn.cons rfl (fun K hK => ?_) AllReadyIn.nil)))
                  | (refine wpAnyIn_ready (rs := [0, 2, 3]) (by decide +kernel) (by simp) ?_; refine AllReadyIn.cons rfl (fun K hK => ?_) (AllReadyIn.cons rfl (fun K hK => ?_) (AllReadyIn.cons rfl (fun K hK => ?_) AllReadyIn.nil)))
                  | (refine wpAnyIn_ready (rs := [1, 2, 3]) (by decide +kernel) (by simp) ?_; refine AllReadyIn.cons rfl (fun K hK => ?_) (AllReadyIn.cons rfl (fun K hK => ?_) (AllReadyIn.cons rfl (fun K hK => ?_) AllReadyIn.nil)))
                  | (refine wpAnyIn_ready (rs := [0, 1]) (by decide +kernel) (by simp) ?_; refine AllReadyIn.cons rfl (fun K hK => ?_) (AllReadyIn.cons rfl (fun K hK => ?_) AllReadyIn.nil))
                  | (refine wpAnyIn_ready (rs := [0, 2]) (by decide +kernel) (by simp) ?_; refine AllReadyIn.cons rfl (fun K hK => ?_) (AllReadyIn.cons rfl (fun K hK => ?_) AllReadyIn.nil))
                  | (refine wpAnyIn_ready (rs := [0, 3]) (by decide +kernel) (by simp) ?_; refine AllReadyIn.cons rfl (fun K hK => ?_) (AllReadyIn.cons rfl (fun K hK => ?_) AllReadyIn.nil))
                  | (refine wpAnyIn_ready (rs := [1, 2]) (by decide +kernel) (by simp) ?_; refine AllReadyIn.cons rfl (fun K hK => ?_) (AllReadyIn.cons rfl (fun K hK => ?_) AllReadyIn.nil))
                  | (refine wpAnyIn_ready (rs := [1, 3]) (by decide +kernel) (by simp) ?_; refine AllReadyIn.cons rfl (fun K hK => ?_) (AllReadyIn.cons rfl (fun K hK => ?_) AllReadyIn.nil))
                  | (refine wpAnyIn_ready (rs := [2, 3]) (by decide +kernel) (by simp) ?_; refine AllReadyIn.cons rfl (fun K hK => ?_) (AllReadyIn.cons rfl (fun K hK => ?_) AllReadyIn.nil))
                  | (refine wpAnyIn_ready (rs := [0]) (by decide +kernel) (by simp) ?_; refine AllReadyIn.cons rfl (fun K hK => ?_) AllReadyIn.nil)
                  | (refine wpAnyIn_ready (rs := [1]) (by decide +kernel) (by simp) ?_; refine AllReadyIn.cons rfl (fun K hK => ?_) AllReadyIn.nil)
                  | (refine wpAnyIn_ready (rs := [2]) (by decide +kernel) (by simp) ?_; refine AllReadyIn.cons rfl (fun K hK => ?_) AllReadyIn.nil)
                  | (refine wpAnyIn_ready (rs := [3]) (by decide +kernel) (by simp) ?_; refine AllReadyIn.cons rfl (fun K hK => ?_) AllReadyIn.nil)
                  | (refine wpAnyIn_ready (rs := [5, 7]) (by decide +kernel) (by simp) ?_; refine AllReadyIn.cons rfl (fun K hK => ?_) (AllReadyIn.cons rfl (fun K hK => ?_) AllReadyIn.nil))
                  | (refine wpAnyIn_ready (rs := [6, 7]) (by decide +kernel) (by simp) ?_; refine AllReadyIn.cons rfl (fun K hK => ?_) (AllReadyIn.cons rfl (fun K hK => ?_) AllReadyIn.nil))
                  | (refine wpAnyIn_ready (rs := [4]) (by decide +kernel) (by simp) ?_; refine AllReadyIn.cons rfl (fun K hK => ?_) AllReadyIn.nil)
                  | (refine wpAnyIn_ready (rs := [5]) (by decide +kernel) (by simp) ?_; refine AllReadyIn.cons rfl (fun K hK => ?_) AllReadyIn.nil)
                  | (refine wpAnyIn_ready (rs := [6]) (by decide +kernel) (by simp) ?_; refine AllReadyIn.cons rfl (fun K hK => ?_) AllReadyIn.nil)
                  | (refine wpAnyIn_ready (rs := [7]) (by decide +kernel) (by simp) ?_; refine AllReadyIn.cons rfl (fun K hK => ?_) AllReadyIn.nil)
                all_goals (
                  first
                    | (rw [if_pos (show Region.wanted _ _ = true from rfl)]; refine operIn_append_at _ _ 25 25 rfl rfl rfl HRUN.out ?_)
                    | (rw [if_pos (show Region.wanted _ _ = true from rfl)]; refine operIn_store_at 27 _ _ rfl gn ((altTold all (ts.take i)).length * 8) (reL 1 all none 0 0 0 0) rfl rfl (by first | (with_reducible exact HTH.out.1) | (with_reducible exact HTH.out.2)) info_re8 reL_all ?_)
                    | go_simp
                  refine hK _ _ ?_
                  clear hK K))
            all_goals (refine wpAnyIn_done ?_ ?_ _; decide +kernel)
            all_goals (refine ⟨rfl, rfl, ?_⟩; first | (with_reducible exact H8.out.1) | (with_reducible exact H8.out.2))
          · rintro e a' w' ⟨rfl, rfl, rfl⟩
            unfold reL at hy
            gi_wp2
            refine HR.out.mono ?_
            rintro e W3 (⟨rfl, hn⟩ | ⟨rfl, hn⟩)
            all_goals
              have HN2 := Lib.hid hn
              clear hn hy HR m6 z0 z1 z2 z3 z4 z5 z6 z7
              gi_wp2
            · exact HN2.out
            · change NextIs (fun k => Ob k ∨ k = g) Wb (fun O' Wx => Code.ret = .ret ∧ AltX V X W.heap.size w2.heap.size (w2.heap.size + 1) (.cells #[.func (.yield lr) #[] #[]] 29) (.cells (set4 all).toArray 24) O' Wx) W3
              exact HN2.out.mono fun _ h => ⟨rfl, h⟩
  case done =>
    rintro D O' Wz hst hi hf _ _ hD hnD hdD
    have ht := HT1.out.1.trans ⟨hi, hf⟩
    rw [List.take_length] at hst
    have HF := Lib.hid (And.intro hst ht)
    clear hst ht hi hf
    gi_wp2
    obtain ⟨⟨Or, v, xs, ⟨Oa, ⟨Oy, hj, hOy, hny, hby⟩, hOa, hna, hba'⟩, hOr, hnr, hvr, hbt', hrow⟩, ht⟩ := HF.out
    have e : (altTold all ts).length = (altStay ts).length := by unfold altStay; rw [← HALL.out]
    rw [e] at hj
    have hOO : ∀ k, Oy k → O' k := fun k h => (hOr k).2 (.inl ((hOa k).2 (.inl ((hOy k).2 (.inl h)))))
    refine ⟨by simp, .inl ⟨_, _, rfl, run_takeDeferred hdD, ?_⟩⟩
    exact ⟨_, results_none rfl _ _ _, ⟨_, rfl⟩, .inl (NextIs.of ((ht.sub hOO).put (Nat.le_trans HT1.out.2.size hD) _) ((HJ.out _).put hj (fun h => hnD (hOO _ h)) _))⟩
  case stop =>
    rintro D c O' Wz ⟨rfl, hst⟩ hi hf _ _ hD hnD hdD
    have ht := HT1.out.1.trans ⟨hi, hf⟩
    have HF := Lib.hid (And.intro hst ht)
    clear hst ht hi hf
    gi_wp2
    obtain ⟨⟨l, Or, v, xs, ⟨Oa, ⟨Oy, hj, hOy, hny, hby⟩, hOa, hna, hba'⟩, hOr, hnr, hvr, hbt', hrow⟩, ht⟩ := HF.out
    have hOO : ∀ k, Oy k → O' k := fun k h => (hOr k).2 (.inl ((hOa k).2 (.inl ((hOy k).2 (.inl h)))))
    refine ⟨by simp, .inl ⟨_, _, rfl, run_takeDeferred hdD, ?_⟩⟩
    exact ⟨_, results_none rfl _ _ _, ⟨_, rfl⟩, .inr (NextIs.of ((ht.sub hOO).put (Nat.le_trans HT1.out.2.size hD) _) (HX.out.put hj (fun h => hnD (hOO _ h)) _))⟩

end Go.Proofs.YtkladjjeacjgpaaDoor

