/-
  WHAT ofCat TELLS: those that aren't ReEmpty, or, if one has no text, that alone. No condition.
-/
import Derived.Test.YtkladjjeacjgpaaDoorQTflat
import Derived.Test.YtkladjjeacjgpaaDoorQG06
namespace Go.Proofs.YtkladjjeacjgpaaDoor
open Go.RowKit

def catKeep (l : List Tree) : List Tree := l.filter (fun t => t.kind != 0)
def catStay (l : List Tree) : List Tree := match l.find? Tree.isV with
  | some t => [t]
  | none => catKeep l

theorem catStay_some {l : List Tree} {i : Nat} (h : i < l.length) (hv : l[i].isV = true) (hp : ∀ x ∈ l.take i, x.isV = false) : catStay l = [l[i]] := by
  have e : l.find? Tree.isV = some l[i] := by
    have : l = l.take i ++ (l[i] :: l.drop (i + 1)) := by rw [List.getElem_cons_drop, List.take_append_drop]
    have := congrArg (List.find? Tree.isV) this
    rw [List.find?_append, List.find?_cons_of_pos hv] at this
    rw [this, List.find?_eq_none.2 (fun x hx => by rw [hp x hx]; simp)]
    rfl
  unfold catStay
  rw [e]
theorem catStay_none {l : List Tree} (hp : ∀ x ∈ l, x.isV = false) : catStay l = catKeep l := by
  unfold catStay
  rw [List.find?_eq_none.2 (fun x hx => by rw [hp x hx]; simp)]
theorem take_next {l : List Tree} {i : Nat} (h : i < l.length) (p : Tree → Prop) (hp : ∀ x ∈ l.take i, p x) (hi : p l[i]) : ∀ x ∈ l.take (i + 1), p x := fun x hx => by
  rw [List.take_succ_eq_append_getElem h] at hx
  rcases List.mem_append.1 hx with g | g
  · exact hp x g
  · simp at g; subst g; exact hi

attribute [local go_sem] Oper.semAt_some

set_option maxRecDepth 100000 in
set_option maxHeartbeats 4000000 in
theorem ofCat_tells (V : World) (b gf : Nat) (lb : Array Value) (eg : ∀ args w, (callFunc gf args).run Tryd.prog w = .ok (.enter gf args) w) (ts : List Tree) (hT : Tells gf lb ts V) (hb : V.cell? ⟨b, 0, none⟩ = some (.func (.func gf) #[] lb)) :
    Tells 54 #[.pointer (some ⟨b, 0, none⟩)] (catStay ts) V := by
  intro lr J X O W hJ hX hs hcl h0 hY
  have c1 := hs _ _ hb
  have hblt : b < W.heap.size := World.block_lt_of_cell? W _ c1
  have hbne : ¬ b = W.heap.size := by omega
  have hOlt := (hJ 0).lt _ _ h0
  have HJ := Lib.hid hJ
  have HX := Lib.hid hX
  have HY := Lib.hid hY
  have HS := Lib.hid (And.intro hs hcl)
  have HV := Lib.hid hb
  have H0 := Lib.hid (And.intro h0 hOlt)
  have HT := Lib.hid hT
  have HE := Lib.hid eg
  clear hJ hX hY hs hcl hb h0 hT eg hOlt
  refine callsIn_wide.2 ((callsIn_wide (n := 5)).1 ?_)
  refine callsIn_of_wp_marks Tryd.func54 rfl trivial ?_ rfl
  simp only [Tryd.ntmps54, List.size_toArray, List.length_cons, List.length_nil, Nat.reduceAdd, Nat.reduceSub, Array.replicate_succ, Array.replicate_zero, List.push_toArray, List.append_toArray, List.nil_append, List.cons_append]
  gi_wp2
  obtain ⟨W1, hW1⟩ : ∃ W1, W.alloc (.cells #[.func (.yield lr) #[] #[]] 29) = W1 := ⟨_, rfl⟩
  have hb1 : Below W.heap.size W W1 := by rw [← hW1]; exact (Below.refl _ _).alloc (Nat.le_refl _) _
  have hbk : BlkIs W1 W.heap.size 29 #[.func (.yield lr) #[] #[]] := by rw [← hW1]; exact BlkIs.new W _ _
  rw [hW1]
  clear hW1
  have hs1 : Sub V W1 := HS.out.1.trans (sub_below hb1)
  have hc1 : Clear V (fun k => O k ∨ k = W.heap.size) := HS.out.2.next HS.out.1 fun k hk => hk.imp id (by omega)
  have hno : ¬ O W.heap.size := fun h => by have := H0.out.2 _ h; omega
  refine range_tells (n := 5) (by omega) (gf := gf) (lb := lb) rfl HE.out ts V HT.out hs1 (fun k => O k ∨ k = W.heap.size) hc1
    (fun i O' Wx => (∀ x ∈ ts.take i, x.isV = false) ∧ With (J 0) W.heap.size (.cells #[.func (.yield lr) #[] #[]] 29) O' Wx)
    (fun c O' Wx => c = .ret ∧ (With (J (catStay ts).length) W.heap.size (.cells #[.func (.yield lr) #[] #[]] 29) O' Wx ∨ With X W.heap.size (.cells #[.func (.yield lr) #[] #[]] 29) O' Wx))
    (fun i => (With.holder (HJ.out 0) _ _).and _) (fun c => ((With.holder (HJ.out _) _ _).or (With.holder HX.out _ _)).and _)
    ⟨by simp, With.start ((HJ.out 0).below H0.out.1 hb1) hno hbk⟩
    (fun g cs => { tmps := #[.func (.yield lr) #[] #[], .pointer (some ⟨b, 0, none⟩), .pointer (some ⟨W.heap.size, 0, none⟩), .pointer (some ⟨g, 0, none⟩), undef, .func (.func gf) #[] lb, .agg cs.toArray, undef, undef, undef, undef, undef, undef, undef, undef, undef, undef, undef, undef, undef, undef, undef, undef], defers := [] })
    ?assign ?body ?done ?stop
  case assign =>
    intro l k m A x c lo hi Wx K hK
    unfold reL at hK
    unfold reV reL
    gi_wp2
    exact hK
  case body =>
    rintro l i hi Ob Wb A2 x2 c2 g ⟨hp, Oo, hj, hO, hn, hbb⟩ hsb hcb hat hng _ hbx
    have hbb' : BlkIs Wb W.heap.size 29 #[.func (.yield lr) #[] #[]] := hbb
    have hw := hbb'.cell 0
    obtain ⟨k0, k1, k2, k3, k4, k5, k6, k7⟩ := hbx.eight
    have HW : Hid (With (J 0) W.heap.size (.cells #[.func (.yield lr) #[] #[]] 29) Ob Wb) := ⟨Oo, hj, hO, hn, hbb⟩
    have hcall := fun u => isVoid_at ts[i].kind ts[i].set A2 x2 c2 ts[i].lo ts[i].hi u
    simp only [List.getElem?_toArray, List.getElem?_cons_zero] at hw
    obtain ⟨fY⟩ : Nonempty (∀ u, Below Wb.heap.size Wb u → ∀ h : 0 < (catStay ts).length, Tree.At V (catStay ts)[0] (reV ts[i].kind ts[i].set A2 x2 c2 ts[i].lo ts[i].hi) → YieldAt Fence.wide 2 Tryd.prog lr #[reV ts[i].kind ts[i].set A2 x2 c2 ts[i].lo ts[i].hi] u fun e W3 =>
        (e = .returned (.bool true) ∧ NextIs Ob Wb (With (J 1) W.heap.size (.cells #[.func (.yield lr) #[] #[]] 29)) W3) ∨ (e = .returned (.bool false) ∧ NextIs Ob Wb (With X W.heap.size (.cells #[.func (.yield lr) #[] #[]] 29)) W3)) := ⟨fun u hu h hat0 => by
      have hlt := (HJ.out 0).lt _ _ hj
      have hOo : ∀ k, Oo k → Ob k := fun k hk => (hO k).2 (.inl hk)
      have := HY.out 0 h Oo u (reL ts[i].kind ts[i].set A2 x2 c2 ts[i].lo ts[i].hi) ((HJ.out 0).below hj hu) (hsb.trans (sub_below hu)) (hcb.less hOo) hat0 rfl
      refine (YieldAt.anyN this).mono fun e W3 hh => ?_
      have hbu : u.heap[W.heap.size]? = some (.cells #[.func (.yield lr) #[] #[]] 29) := (hu.block _ (Array.getElem?_eq_some_iff.1 hbb).1).trans hbb
      exact hh.imp (fun hh => ⟨hh.1, NextIs.trip ((Trip.refl Ob Wb).below hu) (With.next hO hn hbu hh.2)⟩) (fun hh => ⟨hh.1, NextIs.trip ((Trip.refl Ob Wb).below hu) (With.next hO hn hbu hh.2)⟩)⟩
    have HFY := Lib.hid fY
    have HC := Lib.hid (fun (u : World) (hu : Below Wb.heap.size Wb u) => And.intro (hbb'.step hu) (hbx.step hu))
    have HP := Lib.hid (And.intro hp (And.intro hsb (And.intro hcb hat)))
    have HCALL := Lib.hid hcall
    have hv' : voidB ts[i].kind ts[i].set = ts[i].isV := rfl
    cases hv : ts[i].isV with
    | false =>
      rw [hv] at hv'
      have HVV := Lib.hid hv'
      have HV0 := Lib.hid hv
      clear fY hcall hp hsb hcb hat hbb hbb' hbx hj hO hn hv hv'
      unfold reV reL at HCALL
      unfold reL
      gi_wp2_with (first | (refine ⟨trivial, ?_⟩; gi_at_call 55; refine (CallsIn.inRound _ (callsIn_wide.2 (HCALL.out _))).mono ?_; rintro e w2 ⟨rfl, hb2⟩; rw [HVV.out]; have HB2 := Lib.hid hb2; clear hb2))
      change NextIs (fun k => Ob k ∨ k = g) Wb (fun O' Wx => (∀ x ∈ ts.take (i + 1), x.isV = false) ∧ With (J 0) W.heap.size (.cells #[.func (.yield lr) #[] #[]] 29) O' Wx) w2
      refine NextIs.wide (O := Ob) ?_ (fun _ h => .inl h)
      exact NextIs.of ((Trip.refl Ob Wb).below HB2.out) ⟨take_next hi _ HP.out.1 HV0.out, (With.holder (HJ.out 0) _ _).below HW HB2.out⟩
    | true =>
      rw [hv] at hv'
      have HVV := Lib.hid hv'
      have hcs := catStay_some hi hv hp
      have hlt0 : 0 < (catStay ts).length := by rw [hcs]; simp
      have hat0 : Tree.At V (catStay ts)[0] (reV ts[i].kind ts[i].set A2 x2 c2 ts[i].lo ts[i].hi) := by simp only [hcs]; exact hat
      have hone : (catStay ts).length = 1 := by rw [hcs]; rfl
      have HG := Lib.hid (fun u hu => HFY.out u hu hlt0 hat0)
      have HONE := Lib.hid hone
      clear fY hcall hp hsb hcb hat hbb hbb' hbx hj hO hn hv hv' hcs hat0 hlt0 hone HFY
      unfold reV reL at HCALL
      unfold reV reL at HG
      unfold reL at HC
      unfold reL
      gi_wp2_with (first | (refine ⟨trivial, ?_⟩; gi_at_call 55; refine (CallsIn.inRound _ (callsIn_wide.2 (HCALL.out _))).mono ?_; rintro e w2 ⟨rfl, hb2⟩; rw [HVV.out]; obtain ⟨m1, m2⟩ := HC.out w2 hb2; obtain ⟨fn, tmps, assign, body, hy, hR⟩ := HG.out w2 hb2; have hw2 := m1.cell 0; obtain ⟨q0, q1, q2, q3, q4, q5, q6, q7⟩ := m2.eight; simp only [List.getElem?_toArray, List.getElem?_cons_zero] at hw2; have HR := Lib.hid hR; clear m1 m2 hb2 hR))
      refine HR.out.mono ?_
      rintro e W3 (⟨rfl, hn⟩ | ⟨rfl, hn⟩)
      all_goals
        have HN := Lib.hid hn
        clear hn hy HR hw2
        gi_wp2
      · change NextIs (fun k => Ob k ∨ k = g) Wb (fun O' Wx => Code.ret = .ret ∧ (With (J (catStay ts).length) W.heap.size (.cells #[.func (.yield lr) #[] #[]] 29) O' Wx ∨ With X W.heap.size (.cells #[.func (.yield lr) #[] #[]] 29) O' Wx)) W3
        refine NextIs.wide (O := Ob) ?_ (fun _ h => .inl h)
        rw [HONE.out]
        exact HN.out.mono fun _ h => ⟨rfl, .inl h⟩
      · change NextIs (fun k => Ob k ∨ k = g) Wb (fun O' Wx => Code.ret = .ret ∧ (With (J (catStay ts).length) W.heap.size (.cells #[.func (.yield lr) #[] #[]] 29) O' Wx ∨ With X W.heap.size (.cells #[.func (.yield lr) #[] #[]] 29) O' Wx)) W3
        refine NextIs.wide (O := Ob) ?_ (fun _ h => .inl h)
        exact HN.out.mono fun _ h => ⟨rfl, .inr h⟩
  case stop =>
    rintro D c O' W2 ⟨rfl, hj⟩ hi hf hsW hcW hD hnD hdD
    have ht : Trip O W O' W2 := (((Trip.refl O W).below hb1).add (Nat.le_refl _)).trans ⟨hi, hf⟩
    have HF := Lib.hid (And.intro hj ht)
    clear hj ht hi hf hsW hcW
    gi_wp2
    refine ⟨by simp, .inl ⟨_, _, rfl, run_takeDeferred hdD, ?_⟩⟩
    obtain ⟨hj, ht⟩ := HF.out
    have hDW : W.heap.size ≤ D := Nat.le_trans hb1.size hD
    refine ⟨_, results_none rfl _ _ _, ⟨_, rfl⟩, ?_⟩
    refine hj.imp (fun hj => ?_) (fun hj => ?_)
    · obtain ⟨Oo, hj, hO, hn, _⟩ := hj
      exact NextIs.of ((ht.sub fun k hk => (hO k).2 (.inl hk)).put hDW _) ((HJ.out _).put hj (fun h => hnD ((hO D).2 (.inl h))) _)
    · obtain ⟨Oo, hj, hO, hn, _⟩ := hj
      exact NextIs.of ((ht.sub fun k hk => (hO k).2 (.inl hk)).put hDW _) (HX.out.put hj (fun h => hnD ((hO D).2 (.inl h))) _)
  case done =>
    rintro D O' W2 ⟨hp, hj⟩ hi hf hsW hcW hD hnD hdD
    have ht : Trip O W O' W2 := (((Trip.refl O W).below hb1).add (Nat.le_refl _)).trans ⟨hi, hf⟩
    rw [List.take_length] at hp
    have hDW : W.heap.size ≤ D := Nat.le_trans hb1.size hD
    have hcs := catStay_none hp
    have ht2 := ht.add hDW
    have hc2 : Clear V (fun k => O' k ∨ k = D) := HS.out.2.next HS.out.1 ht2.inn
    have c2 := hsW _ _ HV.out
    have HF := Lib.hid (And.intro hj (And.intro hnD hdD))
    have HF2 := Lib.hid (And.intro hsW (And.intro hc2 (And.intro ht2 hcs)))
    clear hj hnD hdD hsW hc2 ht ht2 hi hf hp hcs hcW
    gi_wp2
    refine range_tells (n := 5) (by omega) (gf := gf) (lb := lb) rfl HE.out ts V HT.out HF2.out.1 (fun k => O' k ∨ k = D) HF2.out.2.1
      (fun i => With (With (J (catKeep (ts.take i)).length) W.heap.size (.cells #[.func (.yield lr) #[] #[]] 29)) D (.deferred (some [])))
      (fun c O' Wx => c = .ret ∧ With (With X W.heap.size (.cells #[.func (.yield lr) #[] #[]] 29)) D (.deferred (some [])) O' Wx)
      (fun i => With.holder (With.holder (HJ.out _) _ _) _ _) (fun c => (With.holder (With.holder HX.out _ _) _ _).and _)
      (With.start HF.out.1 HF.out.2.1 HF.out.2.2)
      (fun g cs => { tmps := #[.func (.yield lr) #[] #[], .pointer (some ⟨b, 0, none⟩), .pointer (some ⟨W.heap.size, 0, none⟩), undef, .pointer (some ⟨g, 0, none⟩), .func (.func gf) #[] lb, undef, undef, undef, undef, undef, undef, .func (.func gf) #[] lb, .agg cs.toArray, undef, undef, undef, undef, undef, undef, undef, undef, undef], defers := [] })
      ?assign2 ?body2 ?done2 ?stop2
    case assign2 =>
      intro l k m A x c lo hi Wx K hK
      unfold reL at hK
      unfold reV reL
      gi_wp2
      exact hK
    case body2 =>
      rintro l i hi Ob Wb A2 x2 c2 g ⟨Od, ⟨Oo, hj, hO, hn, hbb⟩, hOd, hnd, hbd⟩ hsb hcb hat hng _ hbx
      have hbb' : BlkIs Wb W.heap.size 29 #[.func (.yield lr) #[] #[]] := hbb
      have hw := hbb'.cell 0
      obtain ⟨k0, k1, k2, k3, k4, k5, k6, k7⟩ := hbx.eight
      simp only [List.getElem?_toArray, List.getElem?_cons_zero] at hw
      have hkp : catKeep (ts.take (i + 1)) = catKeep (ts.take i) ++ catKeep [ts[i]] := by
        unfold catKeep
        rw [List.take_succ_eq_append_getElem hi, List.filter_append]
      have hfull : ∃ r, catKeep ts = catKeep (ts.take i) ++ (catKeep [ts[i]] ++ r) := by
        have e : ts = ts.take i ++ ([ts[i]] ++ ts.drop (i + 1)) := by rw [List.singleton_append, List.getElem_cons_drop, List.take_append_drop]
        have := congrArg catKeep e
        unfold catKeep at this ⊢
        rw [List.filter_append, List.filter_append] at this
        exact ⟨_, this⟩
      have HW : Hid (With (With (J (catKeep (ts.take i)).length) W.heap.size (.cells #[.func (.yield lr) #[] #[]] 29)) D (.deferred (some [])) Ob Wb) := ⟨Od, ⟨Oo, hj, hO, hn, hbb⟩, hOd, hnd, hbd⟩
      cases hv : (ts[i].kind != 0) with
      | false =>
        have e1 : catKeep [ts[i]] = [] := by unfold catKeep; rw [List.filter_cons_of_neg (by rw [hv]; simp)]; rfl
        rw [e1, List.append_nil] at hkp
        have HK := Lib.hid hkp
        clear hkp hfull hsb hcb hat hbb hbb' hbx hj hO hn hOd hnd hbd e1
        unfold reL
        gi_wp2
        refine ⟨(fun _ h => by cases h), ?_⟩
        gi_wp2
        change NextIs (fun k => Ob k ∨ k = g) Wb (With (With (J (catKeep (ts.take (i + 1))).length) W.heap.size (.cells #[.func (.yield lr) #[] #[]] 29)) D (.deferred (some []))) Wb
        refine NextIs.wide (O := Ob) ?_ (fun _ h => .inl h)
        rw [HK.out]
        exact NextIs.refl HW
      | true =>
        have e1 : catKeep [ts[i]] = [ts[i]] := by unfold catKeep; rw [List.filter_cons_of_pos (by rw [hv])]; rfl
        rw [e1] at hkp hfull
        obtain ⟨r, hr⟩ := hfull
        have hr2 := HF2.out.2.2.2.trans hr
        have hltk : (catKeep (ts.take i)).length < (catStay ts).length := by rw [hr2]; simp
        have hatk : Tree.At V (catStay ts)[(catKeep (ts.take i)).length] (reV ts[i].kind ts[i].set A2 x2 c2 ts[i].lo ts[i].hi) := by
          simp only [hr2]
          rw [List.getElem_append_right (Nat.le_refl _)]
          simpa using hat
        have hy0 := (YieldAt.anyN (m := 2) (HY.out _ hltk Oo Wb (reL ts[i].kind ts[i].set A2 x2 c2 ts[i].lo ts[i].hi) hj hsb (hcb.less fun k hk => (hOd k).2 (.inl ((hO k).2 (.inl hk)))) hatk rfl)).mono fun e W3 hh =>
          (show (e = .returned (.bool true) ∧ NextIs Ob Wb (With (With (J (catKeep (ts.take (i + 1))).length) W.heap.size (.cells #[.func (.yield lr) #[] #[]] 29)) D (.deferred (some []))) W3) ∨ (e = .returned (.bool false) ∧ NextIs Ob Wb (With (With X W.heap.size (.cells #[.func (.yield lr) #[] #[]] 29)) D (.deferred (some []))) W3) from
            hh.imp (fun hh => ⟨hh.1, by rw [hkp, List.length_append]; exact With.next hOd hnd hbd (With.next hO hn hbb hh.2)⟩) (fun hh => ⟨hh.1, With.next hOd hnd hbd (With.next hO hn hbb hh.2)⟩))
        obtain ⟨fn, tmps, assign, body, hy, hR⟩ := hy0
        have HR := Lib.hid hR
        clear hR hatk hltk hr2 hr e1 hkp hsb hcb hat hbb hbb' hbx hj hO hn hOd hnd hbd
        unfold reL at hy
        unfold reL
        gi_wp2
        refine HR.out.mono ?_
        rintro e W3 (⟨rfl, hn⟩ | ⟨rfl, hn⟩)
        all_goals
          have HN := Lib.hid hn
          clear hn hy HR hw
          gi_wp2
        · exact NextIs.wide HN.out (fun _ h => .inl h)
        · change NextIs (fun k => Ob k ∨ k = g) Wb (fun O' Wx => Code.ret = .ret ∧ With (With X W.heap.size (.cells #[.func (.yield lr) #[] #[]] 29)) D (.deferred (some [])) O' Wx) W3
          refine NextIs.wide (O := Ob) ?_ (fun _ h => .inl h)
          exact HN.out.mono fun _ h => ⟨rfl, h⟩
    case stop2 =>
      rintro D2 c O3 W3 ⟨rfl, hj⟩ hi hf _ _ hD2 hnD2 hdD2
      have ht := HF2.out.2.2.1.trans ⟨hi, hf⟩
      have HF3 := Lib.hid (And.intro hj ht)
      clear hj ht hi hf
      gi_wp2
      obtain ⟨⟨Od, ⟨Oo, hj, hO, hn, _⟩, hOd, hnd, hbd⟩, ht⟩ := HF3.out
      have hne : D ≠ D2 := fun e => hnD2 ((hOd _).2 (.inr e.symm))
      refine ⟨by simp, .inl ⟨_, _, rfl, run_takeDeferred hdD2, by simp, .inl ⟨_, _, rfl, run_takeDeferred ((World.putObj_heap_other hne).trans hbd), ?_⟩⟩⟩
      have hOO : ∀ k, Oo k → O3 k := fun k hk => (hOd k).2 (.inl ((hO k).2 (.inl hk)))
      exact ⟨_, results_none rfl _ _ _, ⟨_, rfl⟩, .inr (NextIs.of (((ht.sub hOO).put (Nat.le_trans HF2.out.2.2.1.far.size hD2) _).put hDW _) (HX.out.put (HX.out.put hj (fun h => hnD2 (hOO _ h)) _) (fun h => hnd ((hO _).2 (.inl h))) _))⟩
    case done2 =>
      rintro D2 O3 W3 hj hi hf _ _ hD2 hnD2 hdD2
      have ht := HF2.out.2.2.1.trans ⟨hi, hf⟩
      have HF3 := Lib.hid (And.intro hj ht)
      clear hj ht hi hf
      gi_wp2
      obtain ⟨⟨Od, ⟨Oo, hj, hO, hn, _⟩, hOd, hnd, hbd⟩, ht⟩ := HF3.out
      rw [List.take_length, ← HF2.out.2.2.2] at hj
      have hne : D ≠ D2 := fun e => hnD2 ((hOd _).2 (.inr e.symm))
      refine ⟨by simp, .inl ⟨_, _, rfl, run_takeDeferred hdD2, by simp, .inl ⟨_, _, rfl, run_takeDeferred ((World.putObj_heap_other hne).trans hbd), ?_⟩⟩⟩
      have hOO : ∀ k, Oo k → O3 k := fun k hk => (hOd k).2 (.inl ((hO k).2 (.inl hk)))
      exact ⟨_, results_none rfl _ _ _, ⟨_, rfl⟩, .inl (NextIs.of (((ht.sub hOO).put (Nat.le_trans HF2.out.2.2.1.far.size hD2) _).put hDW _) ((HJ.out _).put ((HJ.out _).put hj (fun h => hnD2 (hOO _ h)) _) (fun h => hnd ((hO _).2 (.inl h))) _))⟩

end Go.Proofs.YtkladjjeacjgpaaDoor

