/-
  WHAT bytesOf ANSWERS: the bytes of all that are ReByte, of whatever an iterator tells: a contract. No condition.
-/
import Derived.Test.YtkladjjeacjgpaaDoorQTcat
import Derived.Test.YtkladjjeacjgpaaDoorQG09
namespace Go.Proofs.YtkladjjeacjgpaaDoor
open Go.RowKit

def unionT (l : List Tree) : Nat → Bool := l.foldl (fun m t => if t.kind == 1 then sOr m t.set else m) (fun _ => false)
theorem unionT_step {l : List Tree} {i : Nat} (h : i < l.length) : unionT (l.take (i + 1)) = if l[i].kind == 1 then sOr (unionT (l.take i)) l[i].set else unionT (l.take i) := by
  unfold unionT
  rw [List.take_succ_eq_append_getElem h, List.foldl_append]
  rfl

def set4 (m : Nat → Bool) : List Value := [.int .u64 (wd m 0 : Nat), .int .u64 (wd m 1 : Nat), .int .u64 (wd m 2 : Nat), .int .u64 (wd m 3 : Nat)]
theorem set4_none : set4 (fun _ => false) = [.int .u64 0, .int .u64 0, .int .u64 0, .int .u64 0] := by
  unfold set4; rw [wd_zero, wd_zero, wd_zero, wd_zero]; rfl
theorem info_s4 : (Tryd.prog.info? 24).map (·.size) = some 4 := by kernel_rfl
theorem load_s4 {w : World} {g : Nat} {t : TypeId} {m : Nat → Bool} (h : BlkIs w g t (set4 m).toArray) : (loadVar 24 ⟨g, 0, none⟩).run Tryd.prog w = .ok (setV m) w :=
  run_loadVar_mid (P := Tryd.prog) w g 0 24 (set4 m) _ h.range Tryd.underlying24 rfl info_s4
theorem store_s4 {w : World} {g : Nat} {t : TypeId} {m : Nat → Bool} {cs : Array Value} (h : BlkIs w g t cs) (hs : cs.size = 4) : BlkIs (w.setCells g 0 (set4 m)) g t (set4 m).toArray := h.fill (new := (set4 m).toArray) (by rw [hs]; rfl)
/-- two variables of a Set -/
def TwoS (a b : Nat) (m : Nat → Bool) : Held := fun O W => (∀ k, O k ↔ k = a ∨ k = b) ∧ BlkIs W a 24 (set4 (fun _ => false)).toArray ∧ BlkIs W b 24 (set4 m).toArray
theorem TwoS.holder (a b : Nat) (m : Nat → Bool) : Holder (TwoS a b m) :=
  ⟨fun _ _ ⟨hO, h1, h2⟩ k hk => ((hO k).1 hk).elim (fun e => e ▸ h1.lt) (fun e => e ▸ h2.lt),
   fun _ _ _ ⟨hO, h1, h2⟩ hk => ⟨hO, (hk.near a ((hO a).2 (.inl rfl))).trans h1, (hk.near b ((hO b).2 (.inr rfl))).trans h2⟩⟩

attribute [local go_sem] Oper.semAt_some

set_option maxRecDepth 100000 in
set_option maxHeartbeats 4000000 in
theorem bytesOf_any (V : World) (gf : Nat) (lb : Array Value) (eg : ∀ args w, (callFunc gf args).run Tryd.prog w = .ok (.enter gf args) w) (ts : List Tree) (hT : Tells gf lb ts V) (W : World) (hs : Sub V W) :
    Calls Tryd.prog 58 #[.func (.func gf) #[] lb] W fun e W' => e = .returned (setV (unionT ts)) ∧ Below W.heap.size W W' := by
  have HS := Lib.hid hs
  have HT := Lib.hid hT
  have HE := Lib.hid eg
  have HO := Lib.hid (fun u => any_any (unionT ts) (fun _ => false) u)
  clear hs hT eg
  refine (callsIn_wide (n := 5)).1 ?_
  refine callsIn_of_wp_marks Tryd.func58 rfl trivial ?_ rfl
  simp only [Tryd.ntmps58, List.size_toArray, List.length_cons, List.length_nil, Nat.reduceAdd, Nat.reduceSub, Array.replicate_succ, Array.replicate_zero, List.push_toArray, List.append_toArray, List.nil_append, List.cons_append]
  gi_wp2
  obtain ⟨W1, hW1⟩ : ∃ W1, (W.alloc (.cells #[.int .u64 0, .int .u64 0, .int .u64 0, .int .u64 0] 24)).alloc (.cells #[.int .u64 0, .int .u64 0, .int .u64 0, .int .u64 0] 24) = W1 := ⟨_, rfl⟩
  have hb1 : Below W.heap.size W W1 := by rw [← hW1]; exact ((Below.refl _ _).alloc (Nat.le_refl _) _).alloc (by simp) _
  have hk1 : BlkIs W1 W.heap.size 24 (set4 (fun _ => false)).toArray := by rw [← hW1, set4_none]; exact (BlkIs.new W _ _).alloc _
  have hk2 : BlkIs W1 (W.heap.size + 1) 24 (set4 (fun _ => false)).toArray := by
    have := BlkIs.new (W.alloc (.cells #[.int .u64 0, .int .u64 0, .int .u64 0, .int .u64 0] 24)) 24 #[.int .u64 0, .int .u64 0, .int .u64 0, .int .u64 0]
    rw [World.size_alloc] at this
    rw [← hW1, set4_none]; exact this
  rw [hW1]
  clear hW1
  have hc : Clear V (fun k => k = W.heap.size ∨ k = W.heap.size + 1) := fun p v hv h => by
    have := World.block_lt_of_cell? W p (HS.out p v hv)
    omega
  refine range_tells (n := 5) (by omega) (gf := gf) (lb := lb) rfl HE.out ts V HT.out (HS.out.trans (sub_below hb1)) (fun k => k = W.heap.size ∨ k = W.heap.size + 1) hc
    (fun i => TwoS W.heap.size (W.heap.size + 1) (unionT (ts.take i))) (fun _ _ _ => False) (fun i => TwoS.holder _ _ _) (fun _ => holder_no) ⟨fun _ => Iff.rfl, hk1, hk2⟩
    (fun g cs => { tmps := #[.func (.func gf) #[] lb, undef, .pointer (some ⟨W.heap.size, 0, none⟩), .pointer (some ⟨W.heap.size + 1, 0, none⟩), .pointer (some ⟨g, 0, none⟩), .func (.func gf) #[] lb, .agg cs.toArray, undef, undef, undef, undef, undef, undef, undef, undef], defers := [] })
    ?assign ?body ?done (fun _ _ _ _ h => h.elim)
  case assign =>
    intro l k m A x c lo hi Wx K hK
    unfold reL at hK
    unfold reV reL
    gi_wp2
    exact hK
  case body =>
    rintro l i hi Ob Wb A2 x2 c2 g ⟨hO, h1, h2⟩ hsb hcb hat hng _ hbx
    obtain ⟨k0, k1, k2, k3, k4, k5, k6, k7⟩ := hbx.eight
    obtain ⟨r0, r1, r2, r3, q0, q1, q2, q3⟩ := BlkIs.four h2
    have hst := unionT_step hi
    have HT2 := Lib.hid (show TwoS W.heap.size (W.heap.size + 1) (unionT (ts.take i)) Ob Wb from ⟨hO, h1, h2⟩)
    cases hk : (ts[i].kind == 1) with
    | false =>
      rw [hk] at hst
      have HK := Lib.hid hst
      clear hst hO h1 h2 hsb hcb hat hbx
      unfold reL
      gi_wp2
      change NextIs (fun k => Ob k ∨ k = g) Wb (TwoS W.heap.size (W.heap.size + 1) (unionT (ts.take (i + 1)))) Wb
      refine NextIs.wide (O := Ob) ?_ (fun _ h => .inl h)
      rw [HK.out]
      exact NextIs.refl HT2
    | true =>
      rw [hk] at hst
      have HK := Lib.hid hst
      have HC := Lib.hid (fun u => any_any (unionT (ts.take i)) ts[i].set u)
      have HP := Lib.hid (fun u (hu : Below Wb.heap.size Wb u) => And.intro (h1.step hu) (h2.step hu))
      clear hst hO h1 h2 hsb hcb hat hbx
      unfold setV at HC
      unfold set4 at HP
      unfold reL
      gi_wp2_with (first | (refine ⟨trivial, ?_⟩; gi_at_call 74; refine (CallsIn.inRound _ (callsIn_wide.2 (HC.out _))).mono ?_; rintro e w2 ⟨rfl, hb2⟩; obtain ⟨m1, m2⟩ := HP.out w2 hb2; have HB2 := Lib.hid (And.intro hb2 (And.intro m1 m2)); obtain ⟨z0, z1, z2, z3, y0, y1, y2, y3⟩ := BlkIs.four m2; clear m1 m2 hb2))
      change NextIs (fun k => Ob k ∨ k = g) Wb (TwoS W.heap.size (W.heap.size + 1) (unionT (ts.take (i + 1)))) (w2.setCells (W.heap.size + 1) 0 (set4 (sOr (unionT (ts.take i)) ts[i].set)))
      refine NextIs.wide (O := Ob) ?_ (fun _ h => .inl h)
      rw [HK.out, if_pos trivial]
      obtain ⟨hb2, m1, m2⟩ := HB2.out
      have hO := HT2.out.1
      have ht : Trip Ob Wb Ob (w2.setCells (W.heap.size + 1) 0 (set4 (sOr (unionT (ts.take i)) ts[i].set))) := ((Trip.refl Ob Wb).below hb2).trans ⟨InN.refl _ _, far_cells ((hO _).2 (.inr rfl)) _ _ _⟩
      exact NextIs.of ht ⟨hO, BlkIs.farCells (by omega) _ _ _ m1, store_s4 m2 rfl⟩
  case done =>
    rintro D O' W2 ⟨hO, h1, h2⟩ hi hf hsW hcW hD hnD hdD
    rw [List.take_length] at h2
    obtain ⟨r0, r1, r2, r3, q0, q1, q2, q3⟩ := BlkIs.four h2
    obtain ⟨z0, z1, z2, z3, y0, y1, y2, y3⟩ := BlkIs.four h1
    have HF := Lib.hid (And.intro hO (And.intro h1 (And.intro h2 (And.intro hf hnD))))
    have hdW : D ≠ W.heap.size := fun e => hnD ((hO _).2 (.inl e))
    clear hO h1 h2 hi hf hsW hcW hnD
    unfold set4 at *
    gi_wp2
    obtain ⟨hO, h1, h2, hf, hnD⟩ := HF.out
    change LeavesInM _ _ _ _ _ _ _ _ (W2.setCells W.heap.size 0 (set4 (unionT ts)))
    have hd2 : (W2.setCells W.heap.size 0 (set4 (unionT ts))).heap[D]? = some (.deferred (some [])) := (heap_cells W.heap.size D hdW _ _ _).trans hdD
    refine ⟨by simp, .inl ⟨_, _, rfl, run_takeDeferred hd2, ?_⟩⟩
    have hg : BlkIs (W2.setCells W.heap.size 0 (set4 (unionT ts))) W.heap.size 24 (set4 (unionT ts)).toArray := store_s4 h1 rfl
    have hg2 : BlkIs ((W2.setCells W.heap.size 0 (set4 (unionT ts))).putObj D (.deferred none)) W.heap.size 24 (set4 (unionT ts)).toArray := (World.putObj_heap_other (Ne.symm hdW)).trans hg
    refine ⟨_, results_cell1 rfl rfl (load_s4 hg2), rfl, ?_⟩
    have ht : Trip (fun k => k = W.heap.size ∨ k = W.heap.size + 1) W1 O' W2 := ⟨fun k hk => .inl ((hO k).1 hk), hf⟩
    have ht2 := ((Trip.refl (fun _ => False) W).below hb1).add (b := W.heap.size) (Nat.le_refl _)
    have ht3 : Trip (fun _ => False) W (fun k => k = W.heap.size ∨ k = W.heap.size + 1) W1 := ⟨fun k hk => .inr (by omega), Far.of_below hb1⟩
    have ht4 := (ht3.trans ht).trans (C := W2.setCells W.heap.size 0 (set4 (unionT ts))) ⟨InN.refl O' W2, far_cells ((hO _).2 (.inl rfl)) _ _ _⟩
    exact (ht4.put (l := D) (Nat.le_trans hb1.size hD) _).far.below (Nat.le_refl _) (fun _ h => h.elim)

end Go.Proofs.YtkladjjeacjgpaaDoor

