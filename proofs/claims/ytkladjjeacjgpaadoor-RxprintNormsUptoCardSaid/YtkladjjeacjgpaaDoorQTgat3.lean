/-
  WHAT gathered GIVES, for a ReAlt: a contract. Condition: the Subs' plain trees have at most 2^40 nodes.
-/
import Derived.Test.YtkladjjeacjgpaaDoorQTgat
namespace Go.Proofs.YtkladjjeacjgpaaDoor
open Go.RowKit
attribute [local go_sem] Oper.semAt_some

set_option maxRecDepth 100000 in
set_option maxHeartbeats 16000000 in
theorem gathered_alt (m : Nat → Bool) (l : List Tree) (lo hi : Int) (v : Value) (w : World) (hat : Tree.At w (.node 3 m l lo hi) v) (ps : List Tree) (hps : ps.length = l.length) (hn : nodesL ps ≤ 1099511627776)
    (HPL : ∀ (i : Nat) (h : i < l.length) (h' : i < ps.length) (v : Value) (u : World), (l[i]).At u v → Calls Tryd.prog 21 #[v] u fun e u' => ∃ v', e = .returned v' ∧ (ps[i]).At (hide u' (low u.heap.size)) v' ∧ Below u.heap.size u u') :
    Calls Tryd.prog 37 #[v, .func (.func 40) #[] #[]] w fun e w' => ∃ A c, e = .returned (.slice A (altStay (flatT 3 ps)).length c) ∧ ((altStay (flatT 3 ps)).length ≤ c ∧ c ≤ 9223372036854775807) ∧
      (altStay (flatT 3 ps) ≠ [] → ∃ b o, A = some ⟨b, o, none⟩ ∧ AllAt w' (altStay (flatT 3 ps)) b o) ∧ Below w.heap.size w w' := by
  obtain ⟨A, c, rfl, hc, hsub⟩ := hat.open
  have HSUB := Lib.hid hsub
  have HPLN := Lib.hid HPL
  have HN := Lib.hid hn
  have hpl : ps.length ≤ 1099511627776 := Nat.le_trans (length_nodes ps) hn
  have HPS := Lib.hid (And.intro hps hpl)
  have hbox := BlkIs.new w 27 (reL 3 m A l.length c lo hi).toArray
  have HBOX := Lib.hid hbox
  clear hat hsub HPL hn hps hpl hbox
  unfold reV reL at *
  refine (callsIn_wide (n := 5)).1 ?_
  refine callsIn_of_wp_marks Tryd.func37 rfl trivial ?_ rfl
  simp only [Tryd.ntmps37, List.size_toArray, List.length_cons, List.length_nil, Nat.reduceAdd, Nat.reduceSub, Array.replicate_succ, Array.replicate_zero, List.push_toArray, List.append_toArray, List.nil_append, List.cons_append]
  refine wpIn_wide.2 ?_
  go_wp2
  go_loopw [5, 13] (fun x s wr => ∃ (i : Nat) (xs : List Value), s = .int .i64 i ∧ i ≤ l.length ∧ Hid (Below w.heap.size w wr ∧ BlkIs wr w.heap.size 27 #[.int .i64 3, .int .u64 (wd m 0 : Nat), .int .u64 (wd m 1 : Nat), .int .u64 (wd m 2 : Nat), .int .u64 (wd m 3 : Nat), .slice A l.length c, .int .i64 lo, .int .i64 hi] ∧
      BlkIs wr (w.heap.size + 1) 25 #[.slice none 0 0] ∧ RowP (w.heap.size + 2) wr x (ps.take i) xs)) (fun _ s _ => l.length - (intOf s).toNat)
  case atStart =>
    refine ⟨0, [], rfl, Nat.zero_le _, Lib.hid ⟨((Below.refl _ _).alloc (Nat.le_refl _) _).alloc (by simp) _, HBOX.out.alloc _, ?_, RowP.nil _ _⟩⟩
    have := BlkIs.new (w.alloc (.cells #[.int .i64 3, .int .u64 (wd m 0 : Nat), .int .u64 (wd m 1 : Nat), .int .u64 (wd m 2 : Nat), .int .u64 (wd m 3 : Nat), .slice A l.length c, .int .i64 lo, .int .i64 hi] 27)) 25 #[.slice none 0 0]
    rw [World.size_alloc] at this
    exact this
  case round =>
    obtain ⟨i, xs, rfl, hile, HH⟩ := hrel
    by_cases hlt : i < l.length
    · have hdi : decide ((i : Int) < (l.length : Int)) = true := by simp; omega
      obtain ⟨b, o, rfl, hall⟩ := HSUB.out (by intro e; subst e; simp at hlt)
      obtain ⟨cs, hat2, hcs, hrow⟩ := hall.2 i hlt
      obtain ⟨A2, c2, rfl, hc2, _⟩ := at_sub hat2
      obtain ⟨k0, k1, k2, k3, k4, k5, k6, k7⟩ := row_eight hrow HH.out.1
      have hip : i < ps.length := by rw [HPS.out.1]; exact hlt
      have hw2 : w.heap.size + 2 ≤ wr.heap.size := by have := HH.out.2.2.1.lt; omega
      have hUB : Below wr.heap.size wr (wr.alloc (.cells (reL l[i].kind l[i].set A2 l[i].sub.length c2 l[i].lo l[i].hi).toArray 27)) := (Below.refl _ _).alloc (Nat.le_refl _) _
      have hcall := HPLN.out i hlt hip _ (wr.alloc (.cells (reL l[i].kind l[i].set A2 l[i].sub.length c2 l[i].lo l[i].hi).toArray 27)) (hat2.step (HH.out.1.trans (hUB.mono HH.out.1.size)))
      have HC := Lib.hid hcall
      have HU := Lib.hid hUB
      have HW2 := Lib.hid hw2
      clear hcall hall hat2 hrow hUB
      unfold reL at HC
      go_wp2_with fail
      go_at_call 21
      refine HC.out.mono ?_
      rintro e w3 ⟨v', rfl, hv', hb3⟩
      obtain ⟨A4, n4, c4, rfl⟩ := hv'.form
      have hb03 := HU.out.trans (hb3.mono HU.out.size)
      have hpush := HH.out.2.2.2.push HW2.out hb03 (hv'.sub (hide_sub fun k h1 _ => ⟨by rw [low_no] at h1 ⊢; rw [World.size_alloc] at h1; omega, rfl⟩)) (by rw [List.length_take]; have := HPS.out.2; omega)
      obtain ⟨v5, W5, hrun, hrow5, hb5⟩ := hpush
      have HRUN := Lib.hid hrun
      have HR5 := Lib.hid (And.intro hrow5 hb5)
      clear hrun hrow5 hb5 hb03 hb3 hv' k0 k1 k2 k3 k4 k5 k6 k7
      unfold reL at HRUN
      unfold reV reL
      go_wp2_with (refine wpList_append_at rfl _ _ 25 25 rfl rfl rfl HRUN.out ?_)
      refine ⟨⟨i + 1, xs ++ reL (ps[i]).kind (ps[i]).set A4 n4 c4 (ps[i]).lo (ps[i]).hi, by go_num, by omega, Lib.hid ⟨HH.out.1.trans (HR5.out.2.mono (by omega)), ?_, ?_, ?_⟩⟩, by simp [intOf]; omega⟩
      · exact (HR5.out.2.block _ (by omega)).trans HH.out.2.1
      · exact (HR5.out.2.block _ (by omega)).trans HH.out.2.2.1
      · have := HR5.out.1
        rw [← List.take_succ_eq_append_getElem (by rw [HPS.out.1]; exact hlt)] at this
        exact this
    · have hdi : decide ((i : Int) < (l.length : Int)) = false := by simp; omega
      obtain rfl : i = l.length := by omega
      obtain ⟨h1, h2, h3, h4⟩ := HH.out
      rw [← HPS.out.1, List.take_length] at h4
      obtain ⟨A3, c3, hx3, hc3, _⟩ := h4.lies (V := wr) (fun _ _ _ => rfl)
      subst hx3
      have HH2 := Lib.hid (And.intro h1 (And.intro h2 (And.intro h3 h4)))
      have kk := h2.cell 0
      clear h1 h2 h3 h4 HH
      go_wp2_with (first
        | (go_at_call 53; go_must (refine (flat_any _ _ _ _ _).mono ?_); rintro e w3 ⟨rfl, rfl⟩)
        | (go_at_call 40; go_must (refine (ofAlt_any _ _ _).mono ?_); rintro e w3 ⟨rfl, rfl⟩))
      obtain ⟨W1, hW1⟩ : ∃ W1, ((wr.alloc (.cells #[.slice A3 ps.length c3] 25)).alloc (.cells #[.int .i64 3] 3)).alloc (.cells #[.func (.func 73) #[] #[.pointer (some ⟨wr.heap.size, 0, none⟩), .pointer (some ⟨wr.heap.size + 1, 0, none⟩)]] 74) = W1 := ⟨_, rfl⟩
      rw [hW1]
      obtain ⟨h1, h2, h3, h4⟩ := HH2.out
      have hbW : Below wr.heap.size wr W1 := by rw [← hW1]; exact (((Below.refl _ _).alloc (Nat.le_refl _) _).alloc (by simp) _).alloc (by simp; omega) _
      have hszW : W1.heap.size = wr.heap.size + 3 := by rw [← hW1]; simp
      have hx1 : BlkIs W1 wr.heap.size 25 #[.slice A3 ps.length c3] := by rw [← hW1]; exact ((BlkIs.new wr _ _).alloc _).alloc _
      have hx2 : BlkIs W1 (wr.heap.size + 1) 3 #[.int .i64 3] := by
        have := (BlkIs.new (wr.alloc (.cells #[.slice A3 ps.length c3] 25)) 3 #[.int .i64 3]).alloc (.cells #[.func (.func 73) #[] #[.pointer (some ⟨wr.heap.size, 0, none⟩), .pointer (some ⟨wr.heap.size + 1, 0, none⟩)]] 74)
        rw [World.size_alloc] at this
        rw [← hW1]; exact this
      have hx3 : BlkIs W1 (wr.heap.size + 1 + 1) 74 #[.func (.func 73) #[] #[.pointer (some ⟨wr.heap.size, 0, none⟩), .pointer (some ⟨wr.heap.size + 1, 0, none⟩)]] := by
        have := BlkIs.new ((wr.alloc (.cells #[.slice A3 ps.length c3] 25)).alloc (.cells #[.int .i64 3] 3)) 74 #[.func (.func 73) #[] #[.pointer (some ⟨wr.heap.size, 0, none⟩), .pointer (some ⟨wr.heap.size + 1, 0, none⟩)]]
        rw [World.size_alloc, World.size_alloc] at this
        rw [← hW1]; exact this
      have hw2 : w.heap.size + 2 ≤ wr.heap.size := by have := h3.lt; omega
      obtain ⟨V, hV⟩ : ∃ V, V = less W1 (w.heap.size + 1) := ⟨_, rfl⟩
      have hVg : ∀ k, k ≠ w.heap.size + 1 → V.heap[k]? = W1.heap[k]? := fun k hk => by rw [hV]; exact World.putObj_heap_other hk
      have hsV : Sub V W1 := by rw [hV]; exact less_sub fun k _ _ => rfl
      have hcV : Clear V (fun k => False ∨ k = w.heap.size + 1) := fun p v hv h => by
        rw [hV] at hv
        exact (less_cell hv).1 (h.elim False.elim id)
      have hVc : ∀ {k : Nat} {u : Value} {t : TypeId}, k ≠ w.heap.size + 1 → BlkIs W1 k t #[u] → V.cell? ⟨k, 0, none⟩ = some u := fun {k u t} hk hb => by
        have hb' : BlkIs V k t #[u] := (hVg k hk).trans hb
        exact hb'.cell 0
      obtain ⟨A5, c5, he5, hc5, hl5⟩ := h4.lies (V := V) (fun k hk1 hk2 => (hVg k (by omega)).trans (hbW.block k hk2))
      injection he5 with e1 e2 e3
      subst e1 e3
      have ht1 := flat_tells V wr.heap.size (wr.heap.size + 1) ps A3 c3 3 (hVc (by omega) hx1) (hVc (by omega) hx2) hc5 hl5
      have hfn : nodesL (flatT 3 ps) ≤ nodesL ps := flatT_nodes ps
      have ht2 := ofAlt_tells V (wr.heap.size + 1 + 1) 73 _ (enters_of Tryd.func73 (by kernel_rfl) rfl) (flatT 3 ps) ht1 (hVc (by omega) hx3) (Nat.le_trans hfn HN.out)
      have hsn : nodesL (altStay (flatT 3 ps)) ≤ nodesL ps := Nat.le_trans (altStay_nodes _) hfn
      have hbl : BlkIs W1 (w.heap.size + 1) 25 #[.slice none 0 0] := h3.step hbW
      have hb01 := h1.trans (hbW.mono h1.size)
      have HF := Lib.hid (And.intro hb01 (And.intro hsn (And.intro hw2 hszW)))
      have H0 := Lib.hid (show RowH V NoJ (w.heap.size + 1) ((altStay (flatT 3 ps)).take 0) (fun k => False ∨ k = w.heap.size + 1) W1 from RowH.start (fun k h => h) (fun h => h) hbl)
      have HT := Lib.hid ht2
      have HS := Lib.hid (And.intro hsV hcV)
      clear h1 h2 h3 h4 hx1 hx2 hx3 hVg hVc hV hl5 ht1 ht2 hfn hsn hbl hb01 hsV hcV hbW HH2 kk hW1
      refine (wpIn_wide (n := 5)).1 ?_
      refine range_tells (n := 5) (by omega) (gf := 57) (lb := #[.pointer (some ⟨wr.heap.size + 1 + 1, 0, none⟩)]) rfl (enters_of Tryd.func57 (by kernel_rfl) rfl) (altStay (flatT 3 ps)) V HT.out HS.out.1 (fun k => False ∨ k = w.heap.size + 1) HS.out.2
        (fun i => RowH V NoJ (w.heap.size + 1) ((altStay (flatT 3 ps)).take i)) (fun _ _ _ => False) (fun i => RowH.holder NoJ.holder _ _ _) (fun _ => holder_no) H0.out
        (fun g cs => { tmps := #[.agg #[.int .i64 3, .int .u64 (wd m 0 : Nat), .int .u64 (wd m 1 : Nat), .int .u64 (wd m 2 : Nat), .int .u64 (wd m 3 : Nat), .slice A l.length c, .int .i64 lo, .int .i64 hi], .func (.func 40) #[] #[], .pointer (some ⟨w.heap.size, 0, none⟩), undef, .slice none 0 0, .slice A3 ps.length c3,
          .pointer (some ⟨w.heap.size + 1, 0, none⟩), undef, u8, .pointer (some ⟨g, 0, none⟩), .pointer (some ⟨w.heap.size, 5, none⟩), .slice A l.length c, .int .i64 (l.length : Nat), .int .i64 (l.length : Nat), .bool false, u15, u16, u17, u18, u19, u20, u21, u22, .func (.func 40) #[] #[], .slice A3 ps.length c3,
          .pointer (some ⟨w.heap.size, 0, none⟩), .int .i64 3, .func (.func 73) #[] #[.pointer (some ⟨wr.heap.size, 0, none⟩), .pointer (some ⟨wr.heap.size + 1, 0, none⟩)], .func (.func 57) #[] #[.pointer (some ⟨wr.heap.size + 1 + 1, 0, none⟩)], .agg cs.toArray, undef, undef, undef, undef, undef, undef, undef], defers := [] })
        ?assign ?body ?done (fun _ _ _ _ h => h.elim)
      case assign =>
        intro l k m A x c lo hi Wx K hK
        unfold reL at hK
        unfold reV reL
        gi_wp2
        exact hK
      case body =>
        obtain ⟨hi0, hhi0⟩ : ∃ x, x = hi := ⟨_, rfl⟩
        rw [← hhi0]
        clear hhi0
        rintro lq i hi Ob Wb A2 x2 c2 g hst hsb hcb hat hng hgV hbx
        have hltb := (RowH.holder NoJ.holder V (w.heap.size + 1) ((altStay (flatT 3 ps)).take i)).lt _ _ hst
        obtain ⟨Oo, v, xs, hj, hO, hn, hv, hbt, hrow⟩ := hst
        obtain ⟨A6, c6, rfl, hc6, _⟩ := hrow.lies hsb
        have hlen : ((altStay (flatT 3 ps)).take i).length + 1 ≤ 1099511627776 := by
          have h1 := length_nodes (altStay (flatT 3 ps))
          have h2 := HF.out.2.1
          have h3 := HN.out
          rw [List.length_take]; omega
        obtain ⟨gn, cn, W7, hrun, hcn, hgn, _, hgnlt, ⟨cur, hcur, hcs⟩, hfar, hpush⟩ := row_push hrow hlen (Nat.zero_le _)
        have hgng : gn ≠ g := fun e => by
          rcases hgn with h | h
          · exact hng (e ▸ (hO gn).2 (.inr (.inr h)))
          · have := hbx.lt; omega
        have hgnb : gn ≠ w.heap.size + 1 := fun e => by
          rcases hgn with h | h
          · exact (hv gn h).2 e
          · have := hbt.lt; omega
        have hsz7 := hfar.size
        have hbt7 : BlkIs W7 (w.heap.size + 1) 25 #[.slice A6 ((altStay (flatT 3 ps)).take i).length c6] := (hfar.far _ hbt.lt (fun e => (hv _ e).2 rfl)).trans hbt
        have hbt7' : BlkIs (W7.setCells gn (((altStay (flatT 3 ps)).take i).length * 8) (reL (altStay (flatT 3 ps))[i].kind (altStay (flatT 3 ps))[i].set A2 x2 c2 (altStay (flatT 3 ps))[i].lo (altStay (flatT 3 ps))[i].hi)) (w.heap.size + 1) 25 #[.slice A6 ((altStay (flatT 3 ps)).take i).length c6] := BlkIs.farCells (Ne.symm hgnb) _ _ _ hbt7
        obtain ⟨W8, hW8⟩ : ∃ W8, (W7.setCells gn (((altStay (flatT 3 ps)).take i).length * 8) (reL (altStay (flatT 3 ps))[i].kind (altStay (flatT 3 ps))[i].set A2 x2 c2 (altStay (flatT 3 ps))[i].lo (altStay (flatT 3 ps))[i].hi)).setCell ⟨w.heap.size + 1, 0, none⟩ (.slice (some ⟨gn, 0, none⟩) (((altStay (flatT 3 ps)).take i).length + 1) cn) = W8 := ⟨_, rfl⟩
        have hW8b : (W7.setCell ⟨w.heap.size + 1, 0, none⟩ (.slice (some ⟨gn, 0, none⟩) (((altStay (flatT 3 ps)).take i).length + 1) cn)).setCells gn (((altStay (flatT 3 ps)).take i).length * 8) (reL (altStay (flatT 3 ps))[i].kind (altStay (flatT 3 ps))[i].set A2 x2 c2 (altStay (flatT 3 ps))[i].lo (altStay (flatT 3 ps))[i].hi) = W8 := (sets_swap (Ne.symm hgnb) 0 _ _ _ _).trans hW8
        have hbt8 : BlkIs W8 (w.heap.size + 1) 25 #[.slice (some ⟨gn, 0, none⟩) (((altStay (flatT 3 ps)).take i).length + 1) cn] := by
          have := hbt7'.put 0 (.slice (some ⟨gn, 0, none⟩) (((altStay (flatT 3 ps)).take i).length + 1) cn)
          rw [← hW8]; simpa using this
        have hrow8 : RowT V W8 0 (.slice (some ⟨gn, 0, none⟩) (((altStay (flatT 3 ps)).take i).length + 1) cn) ((altStay (flatT 3 ps)).take (i + 1)) (xs ++ (reL (altStay (flatT 3 ps))[i].kind (altStay (flatT 3 ps))[i].set A2 x2 c2 (altStay (flatT 3 ps))[i].lo (altStay (flatT 3 ps))[i].hi)) := by
          rw [← hW8, List.take_succ_eq_append_getElem hi]
          exact (hpush ((altStay (flatT 3 ps))[i]) (reL (altStay (flatT 3 ps))[i].kind (altStay (flatT 3 ps))[i].set A2 x2 c2 (altStay (flatT 3 ps))[i].lo (altStay (flatT 3 ps))[i].hi) hat rfl).heap (fun k hk => by
            have : gn = k := Option.some.inj hk
            exact Below.heap_setCell _ _ _ k (fun e => hgnb (this.trans e)))
        have ht8 : Trip (fun k => Ob k ∨ k = g) Wb (fun k => Oo k ∨ k = w.heap.size + 1 ∨ (Value.slice (some ⟨gn, 0, none⟩) (((altStay (flatT 3 ps)).take i).length + 1) cn).ownBlock = some k) W8 := by
          have t6 : Trip (fun k => Ob k ∨ k = g) Wb Ob Wb := ⟨fun k h => .inl (.inl h), Far.refl _ _⟩
          have t7 : Trip Ob Wb (fun k => Ob k ∨ k = gn) W7 := ⟨fun k h => h.elim .inl (fun e => hgn.elim (fun h => .inl (e ▸ (hO gn).2 (.inr (.inr h)))) (fun h => .inr (e ▸ h))), hfar.mono (fun k h => (hO k).2 (.inr (.inr h)))⟩
          have t8 : Trip (fun k => Ob k ∨ k = gn) W7 (fun k => Ob k ∨ k = gn) W8 := by
            rw [← hW8]
            exact ⟨InN.refl _ _, (far_cells (O := fun k => Ob k ∨ k = gn) (b := gn) (.inr rfl) _ _ _).trans (InN.refl _ _) (far_set _ (.inl ((hO _).2 (.inr (.inl rfl)))))⟩
          exact ((t6.trans t7).trans t8).sub (fun k h => h.elim (fun h => (hj k h).elim) (fun h => h.elim (fun e => .inl ((hO k).2 (.inr (.inl e)))) (fun e => .inr (Option.some.inj e).symm)))
        have hend : NextIs (fun k => Ob k ∨ k = g) Wb (RowH V NoJ (w.heap.size + 1) ((altStay (flatT 3 ps)).take (i + 1))) W8 :=
          NextIs.of ht8 ⟨Oo, _, _, hj, fun _ => Iff.rfl, hn, fun k hk => ⟨hj k, by
            obtain rfl : gn = k := Option.some.inj hk
            exact hgnb⟩, hbt8, hrow8⟩
        have hth : W7.there gn (((altStay (flatT 3 ps)).take i).length * 8) (reL (altStay (flatT 3 ps))[i].kind (altStay (flatT 3 ps))[i].set A2 x2 c2 (altStay (flatT 3 ps))[i].lo (altStay (flatT 3 ps))[i].hi).length := fun j (hj : j < 8) => by
          have h := BlkIs.there (show BlkIs W7 gn 27 cur from hcur) (((altStay (flatT 3 ps)).take i).length * 8 + j) (by omega)
          rw [Nat.zero_add] at h
          exact h
        have hth' : (W7.setCell ⟨w.heap.size + 1, 0, none⟩ (.slice (some ⟨gn, 0, none⟩) (((altStay (flatT 3 ps)).take i).length + 1) cn)).there gn (((altStay (flatT 3 ps)).take i).length * 8) (reL (altStay (flatT 3 ps))[i].kind (altStay (flatT 3 ps))[i].set A2 x2 c2 (altStay (flatT 3 ps))[i].lo (altStay (flatT 3 ps))[i].hi).length := fun j (hj : j < 8) => by
          obtain ⟨h1, h2⟩ := hth j hj
          have e : (W7.setCell ⟨w.heap.size + 1, 0, none⟩ (.slice (some ⟨gn, 0, none⟩) (((altStay (flatT 3 ps)).take i).length + 1) cn)).heap[gn]? = W7.heap[gn]? := Below.heap_setCell _ _ _ gn (by simpa using hgnb)
          exact ⟨by rw [World.cell?_of_block (w := W7) e]; exact h1, by rw [World.frozen?_of_block (w := W7) e]; exact h2⟩
        have hUB : Below Wb.heap.size Wb (Wb.alloc (.cells zeroL.toArray 27)) := (Below.refl _ _).alloc (Nat.le_refl _) _
        have m0 := hbt.cell 0
        have m1 := (hbt.step hUB).cell 0
        have m2 := hbt7.cell 0
        have m3 := hbt7.frozen 0
        have m4 := hbt7'.cell 0
        have m5 := hbt7'.frozen 0
        obtain ⟨s0, s1, s2, s3, s4, s5, s6, s7⟩ := hbx.eight
        obtain ⟨t0, t1, t2, t3, t4, t5, t6, t7⟩ := (hbx.step hUB).eight
        simp only [List.getElem?_toArray, List.getElem?_cons_zero] at m0 m1 m2 m4
        have HRUN := Lib.hid hrun
        have HTH := Lib.hid (And.intro hth hth')
        have H8 := Lib.hid (And.intro hW8 hW8b)
        have H9 := Lib.hid (show (∀ a, tellEnds (fun k => Ob k ∨ k = g) Wb (RowH V NoJ (w.heap.size + 1) ((altStay (flatT 3 ps)).take (i + 1))) (fun _ _ _ => False) .normal a W8) from fun _ => hend)
        have hltq : (((altStay (flatT 3 ps)).take i).length : Int) < (((altStay (flatT 3 ps)).take i).length : Int) + 1 := by omega
        clear hrun hth hth' hUB hend ht8 hrow8 hbt8 hW8b hW8 hbt7' hbt7 hsz7 hgnb hgng hpush hfar hcur hcs hgnlt hgn hcn hlen hrow hbt hv hn hO hj hltb hsb hcb hat hng hgV hbx
        generalize hSI : (altStay (flatT 3 ps)).take i = SI at *
        clear hSI
        unfold zeroL at *
        have hmix : Tryd.prog.follows .mixedOrders = true := by kernel_rfl
        unfold reL
        gi_wp2
        · refine wpIn_mono (Q := fun e a' w' => e = .normal ∧ a' = { tmps := #[.agg #[.int .i64 3, .int .u64 (wd m 0 : Nat), .int .u64 (wd m 1 : Nat), .int .u64 (wd m 2 : Nat), .int .u64 (wd m 3 : Nat), .slice A l.length c, .int .i64 lo, .int .i64 hi0], .func (.func 40) #[] #[], .pointer (some ⟨w.heap.size, 0, none⟩), undef, .slice none 0 0, .slice A3 ps.length c3,
            .pointer (some ⟨w.heap.size + 1, 0, none⟩), undef, u8, .pointer (some ⟨g, 0, none⟩), .pointer (some ⟨w.heap.size, 5, none⟩), .slice A l.length c, .int .i64 (l.length : Nat), .int .i64 (l.length : Nat), .bool false, u15, u16, u17, u18, u19, u20, u21, u22, .func (.func 40) #[] #[], .slice A3 ps.length c3,
            .pointer (some ⟨w.heap.size, 0, none⟩), .int .i64 3, .func (.func 73) #[] #[.pointer (some ⟨wr.heap.size, 0, none⟩), .pointer (some ⟨wr.heap.size + 1, 0, none⟩)], .func (.func 57) #[] #[.pointer (some ⟨wr.heap.size + 1 + 1, 0, none⟩)], .agg #[.int .i64 (altStay (flatT 3 ps))[i].kind, .int .u64 (wd (altStay (flatT 3 ps))[i].set 0 : Nat), .int .u64 (wd (altStay (flatT 3 ps))[i].set 1 : Nat), .int .u64 (wd (altStay (flatT 3 ps))[i].set 2 : Nat), .int .u64 (wd (altStay (flatT 3 ps))[i].set 3 : Nat), .slice A2 x2 c2, .int .i64 (altStay (flatT 3 ps))[i].lo, .int .i64 (altStay (flatT 3 ps))[i].hi],
            .slice A6 SI.length c6, .agg #[.int .i64 (altStay (flatT 3 ps))[i].kind, .int .u64 (wd (altStay (flatT 3 ps))[i].set 0 : Nat), .int .u64 (wd (altStay (flatT 3 ps))[i].set 1 : Nat), .int .u64 (wd (altStay (flatT 3 ps))[i].set 2 : Nat), .int .u64 (wd (altStay (flatT 3 ps))[i].set 3 : Nat), .slice A2 x2 c2, .int .i64 (altStay (flatT 3 ps))[i].lo, .int .i64 (altStay (flatT 3 ps))[i].hi], .int .i64 (SI.length : Nat), .slice (some ⟨Wb.heap.size, 0, none⟩) 1 1, .slice (some ⟨gn, 0, none⟩) (SI.length + 1) cn, .pointer (some ⟨gn, SI.length * 8, none⟩), undef], defers := [] } ∧ w' = W8) ?_ ?_
          · refine wpIn_region_any hmix ?_
            change wpAnyIn _ _ _ _ _ _ _ _ _ (World.drew _)
            iterate 8
              all_goals (
                first
                    | (refine wpAnyIn_ready (rs := [0, 1, 2]) (by decide +kernel) (by simp) ?_; refine AllReadyIn.cons rfl (fun K hK => ?_) (AllReadyIn.cons rfl (fun K hK => ?_) (AllReadyIn.cons rfl (fun K hK => ?_) AllReadyIn.nil)))
                    | (refine wpAnyIn_ready (rs := [0, 1, 3]) (by decide +kernel) (by simp) ?_; refine AllReadyIn.cons rfl (fun K hK => ?_) (AllReadyIn.cons rfl (fun K hK => ?_) (AllReadyIn.cons rfl (fun K hK => ?_) AllReadyIn.nil)))
                    | (refine wpAnyIn_ready (rs := [0, 2, 3]) (by decide +kernel) (by simp) ?_; refine AllReadyIn.cons rfl (fun K hK => ?_) (AllReadyIn.cons rfl (fun K hK => ?_) (AllReadyIn.cons rfl (fun K hK => ?_) AllReadyIn.nil)))
                    | (refine wpAnyIn_ready (rs := [1, 2, 3]) (by decide +kernel) (by simp) ?_; refine AllReadyIn.cons rfl (fun K hK => ?_) (AllReadyIn.cons rfl (fun K hK => ?_) (AllReadyIn.cons rfl (fun K hK => ?_) AllReadyIn.nil)))
                    | (refine wpAnyIn_ready (rs := [0, 1]) (by decide +kernel) (by simp) ?_; refine AllReadyIn.cons rfl (fun K hK => ?_) (AllReadyIn.cons rfl (fun K hK => ?_) AllReadyIn.nil))
                    | (refine wpAnyIn_ready (rs := [0, 2]) (by decide +kernel) (by simp) ?_; refine AllReadyIn.cons rfl (fun K hK => ?_) (AllReadyIn.cons rfl (fun K hK => ?_) AllReadyIn.nil))
                    | (refine wpAnyIn_ready (rs := [0, 3]) (by decide +kernel) (by simp) ?_; refine AllReadyIn.cons rfl (fun K hK => ?_) (AllReadyIn.cons rfl (fun K hK => ?_) AllReadyIn.nil))
                    | (refine wpAnyIn_ready (rs := [1, 2]) (by decide +kernel) (by simp) ?_; refine AllReadyIn.cons rfl (fun K hK => ?_) (AllReadyIn.cons rfl (fun K hK => ?_) AllReadyIn.nil))
                    | (refine wpAnyIn_ready (rs := [1, 3]) (by decide +kernel) (by simp) ?_; refine AllReadyIn.cons rfl (fun K hK => ?_) (AllReadyIn.cons rfl (fun K hK => ?_) AllReadyIn.nil))
                    | (refine wpAnyIn_ready (rs := [2, 3]) (by decide +kernel) (by simp) ?_; refine AllReadyIn.cons rfl (fun K hK => ?_) (AllReadyIn.cons rfl (fun K hK => ?_) AllReadyIn.nil))
                    | (refine wpAnyIn_ready (rs := [0]) (by decide +kernel) (by simp) ?_; refine AllReadyIn.cons rfl (fun K hK => ?_) AllReadyIn.nil)
                    | (refine wpAnyIn_ready (rs := [1]) (by decide +kernel) (by simp) ?_; refine AllReadyIn.cons rfl (fun K hK => ?_) AllReadyIn.nil)
                    | (refine wpAnyIn_ready (rs := [2]) (by decide +kernel) (by simp) ?_; refine AllReadyIn.cons rfl (fun K hK => ?_) AllReadyIn.nil)
                    | (refine wpAnyIn_ready (rs := [3]) (by decide +kernel) (by simp) ?_; refine AllReadyIn.cons rfl (fun K hK => ?_) AllReadyIn.nil)
                    | (refine wpAnyIn_ready (rs := [5, 7]) (by decide +kernel) (by simp) ?_; refine AllReadyIn.cons rfl (fun K hK => ?_) (AllReadyIn.cons rfl (fun K hK => ?_) AllReadyIn.nil))
                    | (refine wpAnyIn_ready (rs := [6, 7]) (by decide +kernel) (by simp) ?_; refine AllReadyIn.cons rfl (fun K hK => ?_) (AllReadyIn.cons rfl (fun K hK => ?_) AllReadyIn.nil))
                    | (refine wpAnyIn_ready (rs := [4]) (by decide +kernel) (by simp) ?_; refine AllReadyIn.cons rfl (fun K hK => ?_) AllReadyIn.nil)
                    | (refine wpAnyIn_ready (rs := [5]) (by decide +kernel) (by simp) ?_; refine AllReadyIn.cons rfl (fun K hK => ?_) AllReadyIn.nil)
                    | (refine wpAnyIn_ready (rs := [6]) (by decide +kernel) (by simp) ?_; refine AllReadyIn.cons rfl (fun K hK => ?_) AllReadyIn.nil)
                    | (refine wpAnyIn_ready (rs := [7]) (by decide +kernel) (by simp) ?_; refine AllReadyIn.cons rfl (fun K hK => ?_) AllReadyIn.nil)
                all_goals (
                  first
                    | (rw [if_pos (show Region.wanted _ _ = true from rfl)]; refine operIn_append_at _ _ 25 25 rfl rfl rfl HRUN.out ?_)
                    | (rw [if_pos (show Region.wanted _ _ = true from rfl)]; refine operIn_store_at 27 _ _ rfl gn (SI.length * 8) (reL (altStay (flatT 3 ps))[i].kind (altStay (flatT 3 ps))[i].set A2 x2 c2 (altStay (flatT 3 ps))[i].lo (altStay (flatT 3 ps))[i].hi) rfl rfl (by first | (with_reducible exact HTH.out.1) | (with_reducible exact HTH.out.2)) info_re8 reL_all ?_)
                    | go_simp
                  refine hK _ _ ?_
                  clear hK K))
            all_goals (refine wpAnyIn_done ?_ ?_ _; decide +kernel)
            all_goals (refine ⟨rfl, rfl, ?_⟩; first | (with_reducible exact H8.out.1) | (with_reducible exact H8.out.2))
          · rintro e a' w' ⟨rfl, rfl, rfl⟩
            exact H9.out ⟨#[], []⟩
      case done =>
        rintro D O' W2 ⟨Oo, v, xs, hj, hO, hn, hv, hbt, hrow⟩ hi hf hsW hcW hD hnD hdD
        rw [List.take_length] at hrow
        obtain ⟨A6, c6, rfl, hc6, hl6⟩ := hrow.lies hsW
        have m0 := hbt.cell 0
        simp only [List.getElem?_toArray, List.getElem?_cons_zero] at m0
        have hbe : Below w.heap.size w W2 := HF.out.1.trans (hf.below (by have := HF.out.1.size; omega) (fun k h => h.elim False.elim (fun e => by omega)))
        have hD2 : w.heap.size ≤ D := by have := HF.out.1.size; omega
        have HE := Lib.hid (And.intro hl6 (And.intro hc6 (And.intro hbe hD2)))
        clear hl6 hc6 hbe hD2 hrow hbt hv hn hO hj hi hf hsW hcW hnD
        go_wp2
        refine ⟨by simp, .inl ⟨_, _, rfl, run_takeDeferred hdD, ?_⟩⟩
        refine ⟨_, results_tmp rfl _ _ _, A6, c6, rfl, HE.out.2.1, fun hne => ?_, HE.out.2.2.1.trans (belowK_b (w := w) (Nat.le_refl _) W2 D _ (.deferred none) HE.out.2.2.2 hdD rfl rfl)⟩
        obtain ⟨b, o, h1, h2⟩ := HE.out.1 hne
        exact ⟨b, o, h1, h2.sub (sub_put _ hdD rfl)⟩

end Go.Proofs.YtkladjjeacjgpaaDoor

