/-
  WHAT plainRep GIVES: a contract. Condition: the tree has at most 2^40 nodes.
-/
import Derived.Test.YtkladjjeacjgpaaDoorQG06
import Derived.Test.YtkladjjeacjgpaaDoorQG07
namespace Go.Proofs.YtkladjjeacjgpaaDoor
open Go.RowKit

def emptyT : Tree := .node 0 (fun _ => false) [] 0 0
def voidT : Tree := .node 1 (fun _ => false) [] 0 0
def starB (lo hi : Int) : Bool := (lo == 0) && (hi == -1)
def repPlain (t : Tree) (lo hi : Int) : Tree :=
  if (hi == 0) || ((t.kind == 0) || (t.isV && (lo == 0))) then emptyT
  else if t.isV || (((lo == 1) && (hi == 1)) || ((starB lo hi && (t.kind == 4)) && starB t.lo t.hi)) then t
  else .node 4 (fun _ => false) [t] lo hi
theorem at_empty (W : World) : emptyT.At W (.agg #[.int .i64 0, .int .u64 0, .int .u64 0, .int .u64 0, .int .u64 0, .slice none 0 0, .int .i64 0, .int .i64 0]) := by
  have h := at_none 0 W
  unfold reV at h
  rw [← zeroL_is] at h
  exact h

set_option maxRecDepth 20000 in
set_option maxHeartbeats 8000000 in
theorem plainRep_any (t : Tree) (v : Value) (lo hi : Int) (w : World) (B : Nat) (hat : t.At (hide w (low B)) v) (hB : B ≤ w.heap.size) (hn : t.nodes ≤ 1099511627776) :
    Calls Tryd.prog 41 #[v, .int .i64 lo, .int .i64 hi] w fun e w' => ∃ v', e = .returned v' ∧ (repPlain t lo hi).At (hide w' (low B)) v' ∧ Below w.heap.size w w' := by
  obtain ⟨A, n, c, rfl⟩ := hat.form
  have hatw := hat.sub (hide_less (W := w) (H := low B))
  have hbx := BlkIs.new w 27 (reL t.kind t.set A n c t.lo t.hi).toArray
  have hb1 : Below w.heap.size w ((w.alloc (.cells (reL t.kind t.set A n c t.lo t.hi).toArray 27)).alloc (.cells zeroL.toArray 27)) := ((Below.refl _ _).alloc (Nat.le_refl _) _).alloc (by simp) _
  have hbz : BlkIs ((w.alloc (.cells (reL t.kind t.set A n c t.lo t.hi).toArray 27)).alloc (.cells zeroL.toArray 27)) (w.heap.size + 1) 27 zeroL.toArray := by
    have := BlkIs.new (w.alloc (.cells (reL t.kind t.set A n c t.lo t.hi).toArray 27)) 27 zeroL.toArray
    rw [World.size_alloc] at this
    exact this
  have HBX := Lib.hid (hbx.alloc (.cells zeroL.toArray 27))
  have HB1 := Lib.hid hb1
  have HBZ := Lib.hid hbz
  have HAT := Lib.hid (And.intro hat hatw)
  have HV := Lib.hid (fun u => isVoid_at t.kind t.set A n c t.lo t.hi u)
  have HS := Lib.hid (fun (a b : Int) u => isStar_any a b u)
  have HR := Lib.hid (fun (u : World) (hu : Below w.heap.size w u) => rep_own t _ lo hi u (hatw.step hu) hn)
  -- the ends
  have hE : ∀ (u : World), Below w.heap.size w u → BlkIs u (w.heap.size + 1) 27 zeroL.toArray → emptyT.At (hide (u.setCells (w.heap.size + 1) 0 zeroL) (low B)) (.agg zeroL.toArray) ∧ Below w.heap.size w (u.setCells (w.heap.size + 1) 0 zeroL) := fun u hu _ => ⟨at_empty _, below_cells (w.heap.size + 1) zeroL 0 _ (Nat.le_succ _) hu⟩
  have hT : ∀ (u : World), Below w.heap.size w u → t.At (hide (u.setCells (w.heap.size + 1) 0 (reL t.kind t.set A n c t.lo t.hi)) (low B)) (reV t.kind t.set A n c t.lo t.hi) ∧ Below w.heap.size w (u.setCells (w.heap.size + 1) 0 (reL t.kind t.set A n c t.lo t.hi)) := fun u hu => by
    have hb := below_cells (w.heap.size + 1) (reL t.kind t.set A n c t.lo t.hi) 0 _ (Nat.le_succ _) hu
    exact ⟨HAT.out.1.sub (hide_sub fun k h1 h2 => ⟨h1, hb.block k h2⟩), hb⟩
  have HE := Lib.hid hE
  have HTT := Lib.hid hT
  have HZZ := Lib.hid (show BlkIs ((w.alloc (.cells (reL t.kind t.set A n c t.lo t.hi).toArray 27)).alloc (.cells zeroL.toArray 27)) (w.heap.size + 1) 27 (reL 0 (fun _ => false) none 0 0 0 0).toArray from by rw [← zeroL_is]; exact hbz)
  clear hat hatw hbx hb1 hbz hE hT
  have H0 := Lib.hid (Below.refl ((w.alloc (.cells (reL t.kind t.set A n c t.lo t.hi).toArray 27)).alloc (.cells zeroL.toArray 27)).heap.size ((w.alloc (.cells (reL t.kind t.set A n c t.lo t.hi).toArray 27)).alloc (.cells zeroL.toArray 27)))
  unfold repPlain starB Tree.isV
  unfold zeroL at HB1 HBZ HBX H0 HZZ HE
  unfold reV reL at HV HR
  unfold reL at HB1 HBZ HBX H0 HZZ
  unfold reV reL
  cases h1 : (hi == 0) with
  | true =>
    rw [Bool.true_or, if_pos rfl]
    go_enter Tryd.func41, Tryd.ntmps41
    go_wp2
    exact bodyPost_ret (results_cell1 rfl rfl (load_re HZZ.out)) rfl ⟨_, rfl, at_none 0 _, HB1.out⟩
  | false =>
  cases h2 : (t.kind == 0) with
  | true =>
    rw [Bool.true_or, Bool.false_or, if_pos rfl]
    go_enter Tryd.func41, Tryd.ntmps41
    go_wp2
    exact bodyPost_ret (results_cell1 rfl rfl (load_re HZZ.out)) rfl ⟨_, rfl, at_none 0 _, HB1.out⟩
  | false =>
  cases hvv : voidB t.kind t.set with
  | true =>
    cases l0 : (lo == 0) with
    | true =>
      rw [if_pos (by simp)]
      go_enter Tryd.func41, Tryd.ntmps41
      go_wp2_with fail
      go_at_call 55
      refine (HV.out _).mono ?_
      rintro e u1 ⟨rfl, hbx⟩
      have H1 := Lib.hid (H0.out.trans (hbx.mono H0.out.size))
      clear hbx
      obtain ⟨k0, k1, k2, k3, k4, k5, k6, k7⟩ := (HBX.out.step H1.out).eight
      rw [hvv]
      have hB3 := HBZ.out.step H1.out
      go_wp2_with (refine wpList_store_mid rfl 27 (.tmp 6) (.tmp 19) rfl (w.heap.size + 1) 0 zeroL.toArray rfl rfl hB3.there info_re8 (by rw [zeroL_is]; exact reL_all) ?_)
      have hl := load_re (k := 0) (m := fun _ => false) (A := none) (n := 0) (c := 0) (lo := 0) (hi := 0) (store_re hB3 rfl)
      rw [← zeroL_is] at hl
      have hb := below_cells (w.heap.size + 1) zeroL 0 _ (Nat.le_succ _) (HB1.out.trans (H1.out.mono HB1.out.size))
      exact bodyPost_ret (results_cell1 rfl rfl hl) rfl ⟨_, rfl, at_none 0 _, hb⟩
    | false =>
      rw [if_neg (by simp), if_pos (by simp)]
      go_enter Tryd.func41, Tryd.ntmps41
      go_wp2_with fail
      go_at_call 55
      refine (HV.out _).mono ?_
      rintro e u1 ⟨rfl, hbx⟩
      have H1 := Lib.hid (H0.out.trans (hbx.mono H0.out.size))
      clear hbx
      obtain ⟨k0, k1, k2, k3, k4, k5, k6, k7⟩ := (HBX.out.step H1.out).eight
      rw [hvv]
      go_wp2_with fail
      go_at_call 55
      refine (HV.out _).mono ?_
      rintro e u2 ⟨rfl, hbx⟩
      have H2 := Lib.hid (H1.out.trans (hbx.mono H1.out.size))
      clear hbx
      clear k0 k1 k2 k3 k4 k5 k6 k7
      obtain ⟨k0, k1, k2, k3, k4, k5, k6, k7⟩ := (HBX.out.step H2.out).eight
      rw [hvv]
      have hB3 := HBZ.out.step H2.out
      go_wp2_with (refine wpList_store_mid rfl 27 (.tmp 6) (.tmp 44) rfl (w.heap.size + 1) 0 (reL t.kind t.set A n c t.lo t.hi).toArray rfl rfl hB3.there info_re8 reL_all ?_)
      have hl := load_re (k := t.kind) (m := t.set) (A := A) (n := n) (c := c) (lo := t.lo) (hi := t.hi) (store_re hB3 rfl)
      have hT := HTT.out _ (HB1.out.trans (H2.out.mono HB1.out.size))
      exact bodyPost_ret (results_cell1 rfl rfl hl) rfl ⟨_, rfl, hT.1, hT.2⟩
  | false =>
    rw [if_neg (by simp)]
    cases hl1 : (lo == 1) with
    | true =>
      cases hh1 : (hi == 1) with
      | true =>
        rw [if_pos (by simp)]
        go_enter Tryd.func41, Tryd.ntmps41
        go_wp2_with fail
        go_at_call 55
        refine (HV.out _).mono ?_
        rintro e u1 ⟨rfl, hbx⟩
        have H1 := Lib.hid (H0.out.trans (hbx.mono H0.out.size))
        clear hbx
        obtain ⟨k0, k1, k2, k3, k4, k5, k6, k7⟩ := (HBX.out.step H1.out).eight
        rw [hvv]
        go_wp2_with fail
        go_at_call 55
        refine (HV.out _).mono ?_
        rintro e u2 ⟨rfl, hbx⟩
        have H2 := Lib.hid (H1.out.trans (hbx.mono H1.out.size))
        clear hbx
        clear k0 k1 k2 k3 k4 k5 k6 k7
        obtain ⟨k0, k1, k2, k3, k4, k5, k6, k7⟩ := (HBX.out.step H2.out).eight
        rw [hvv]
        have hB3 := HBZ.out.step H2.out
        go_wp2_with (refine wpList_store_mid rfl 27 (.tmp 6) (.tmp 44) rfl (w.heap.size + 1) 0 (reL t.kind t.set A n c t.lo t.hi).toArray rfl rfl hB3.there info_re8 reL_all ?_)
        have hl := load_re (k := t.kind) (m := t.set) (A := A) (n := n) (c := c) (lo := t.lo) (hi := t.hi) (store_re hB3 rfl)
        have hT := HTT.out _ (HB1.out.trans (H2.out.mono HB1.out.size))
        exact bodyPost_ret (results_cell1 rfl rfl hl) rfl ⟨_, rfl, hT.1, hT.2⟩
      | false =>
        cases hs1 : ((lo == 0) && (hi == -1)) with
        | false =>
          rw [if_neg (by simp)]
          go_enter Tryd.func41, Tryd.ntmps41
          go_wp2_with fail
          go_at_call 55
          refine (HV.out _).mono ?_
          rintro e u1 ⟨rfl, hbx⟩
          have H1 := Lib.hid (H0.out.trans (hbx.mono H0.out.size))
          clear hbx
          obtain ⟨k0, k1, k2, k3, k4, k5, k6, k7⟩ := (HBX.out.step H1.out).eight
          rw [hvv]
          go_wp2_with fail
          go_at_call 55
          refine (HV.out _).mono ?_
          rintro e u2 ⟨rfl, hbx⟩
          have H2 := Lib.hid (H1.out.trans (hbx.mono H1.out.size))
          clear hbx
          clear k0 k1 k2 k3 k4 k5 k6 k7
          obtain ⟨k0, k1, k2, k3, k4, k5, k6, k7⟩ := (HBX.out.step H2.out).eight
          rw [hvv]
          go_wp2_with fail
          go_at_call 60
          refine (HS.out _ _ _).mono ?_
          rintro e u ⟨rfl, rfl⟩
          rw [hs1]
          go_wp2_with fail
          go_at_call 61
          have hbw := HB1.out.trans (H2.out.mono HB1.out.size)
          refine (HR.out _ hbw).mono ?_
          rintro e u9 ⟨v', rfl, hv', hbr⟩
          obtain ⟨A9, n9, c9, rfl⟩ := hv'.form
          have hB3 := HBZ.out.step (H2.out.trans (hbr.mono H2.out.size))
          have hbf := hbw.trans (hbr.mono hbw.size)
          have hlt9 := (HBZ.out.step H2.out).lt
          clear k0 k1 k2 k3 k4 k5 k6 k7
          have HH9 := Lib.hid (And.intro hv' (And.intro hbf hbr))
          clear hv' hbf hbr hbw
          unfold reV reL
          go_wp2_with (refine wpList_store_mid rfl 27 (.tmp 6) (.tmp 48) rfl (w.heap.size + 1) 0 (reL (Tree.node 4 (fun _ => false) [t] lo hi).kind (Tree.node 4 (fun _ => false) [t] lo hi).set A9 n9 c9 (Tree.node 4 (fun _ => false) [t] lo hi).lo (Tree.node 4 (fun _ => false) [t] lo hi).hi).toArray rfl rfl hB3.there info_re8 reL_all ?_)
          have hl := load_re (store_re (k := (Tree.node 4 (fun _ => false) [t] lo hi).kind) (m := (Tree.node 4 (fun _ => false) [t] lo hi).set) (A := A9) (n := n9) (c := c9) (lo := (Tree.node 4 (fun _ => false) [t] lo hi).lo) (hi := (Tree.node 4 (fun _ => false) [t] lo hi).hi) hB3 rfl)
          have hb := below_cells (w.heap.size + 1) (reL (Tree.node 4 (fun _ => false) [t] lo hi).kind (Tree.node 4 (fun _ => false) [t] lo hi).set A9 n9 c9 (Tree.node 4 (fun _ => false) [t] lo hi).lo (Tree.node 4 (fun _ => false) [t] lo hi).hi) 0 _ (Nat.le_succ _) HH9.out.2.1
          refine bodyPost_ret (results_cell1 rfl rfl hl) rfl ⟨_, rfl, HH9.out.1.sub (hide_sub fun k h1 h2 => ?_), hb⟩
          rw [low_no] at h1 ⊢
          exact ⟨by omega, heap_cells (w.heap.size + 1) k (by omega) _ 0 _⟩
        | true =>
          cases hk4 : (t.kind == 4) with
          | false =>
            rw [if_neg (by simp)]
            go_enter Tryd.func41, Tryd.ntmps41
            go_wp2_with fail
            go_at_call 55
            refine (HV.out _).mono ?_
            rintro e u1 ⟨rfl, hbx⟩
            have H1 := Lib.hid (H0.out.trans (hbx.mono H0.out.size))
            clear hbx
            obtain ⟨k0, k1, k2, k3, k4, k5, k6, k7⟩ := (HBX.out.step H1.out).eight
            rw [hvv]
            go_wp2_with fail
            go_at_call 55
            refine (HV.out _).mono ?_
            rintro e u2 ⟨rfl, hbx⟩
            have H2 := Lib.hid (H1.out.trans (hbx.mono H1.out.size))
            clear hbx
            clear k0 k1 k2 k3 k4 k5 k6 k7
            obtain ⟨k0, k1, k2, k3, k4, k5, k6, k7⟩ := (HBX.out.step H2.out).eight
            rw [hvv]
            go_wp2_with fail
            go_at_call 60
            refine (HS.out _ _ _).mono ?_
            rintro e u ⟨rfl, rfl⟩
            rw [hs1]
            go_wp2_with fail
            go_at_call 61
            have hbw := HB1.out.trans (H2.out.mono HB1.out.size)
            refine (HR.out _ hbw).mono ?_
            rintro e u9 ⟨v', rfl, hv', hbr⟩
            obtain ⟨A9, n9, c9, rfl⟩ := hv'.form
            have hB3 := HBZ.out.step (H2.out.trans (hbr.mono H2.out.size))
            have hbf := hbw.trans (hbr.mono hbw.size)
            have hlt9 := (HBZ.out.step H2.out).lt
            clear k0 k1 k2 k3 k4 k5 k6 k7
            have HH9 := Lib.hid (And.intro hv' (And.intro hbf hbr))
            clear hv' hbf hbr hbw
            unfold reV reL
            go_wp2_with (refine wpList_store_mid rfl 27 (.tmp 6) (.tmp 48) rfl (w.heap.size + 1) 0 (reL (Tree.node 4 (fun _ => false) [t] lo hi).kind (Tree.node 4 (fun _ => false) [t] lo hi).set A9 n9 c9 (Tree.node 4 (fun _ => false) [t] lo hi).lo (Tree.node 4 (fun _ => false) [t] lo hi).hi).toArray rfl rfl hB3.there info_re8 reL_all ?_)
            have hl := load_re (store_re (k := (Tree.node 4 (fun _ => false) [t] lo hi).kind) (m := (Tree.node 4 (fun _ => false) [t] lo hi).set) (A := A9) (n := n9) (c := c9) (lo := (Tree.node 4 (fun _ => false) [t] lo hi).lo) (hi := (Tree.node 4 (fun _ => false) [t] lo hi).hi) hB3 rfl)
            have hb := below_cells (w.heap.size + 1) (reL (Tree.node 4 (fun _ => false) [t] lo hi).kind (Tree.node 4 (fun _ => false) [t] lo hi).set A9 n9 c9 (Tree.node 4 (fun _ => false) [t] lo hi).lo (Tree.node 4 (fun _ => false) [t] lo hi).hi) 0 _ (Nat.le_succ _) HH9.out.2.1
            refine bodyPost_ret (results_cell1 rfl rfl hl) rfl ⟨_, rfl, HH9.out.1.sub (hide_sub fun k h1 h2 => ?_), hb⟩
            rw [low_no] at h1 ⊢
            exact ⟨by omega, heap_cells (w.heap.size + 1) k (by omega) _ 0 _⟩
          | true =>
            cases hs2 : ((t.lo == 0) && (t.hi == -1)) with
            | false =>
              rw [if_neg (by simp)]
              go_enter Tryd.func41, Tryd.ntmps41
              go_wp2_with fail
              go_at_call 55
              refine (HV.out _).mono ?_
              rintro e u1 ⟨rfl, hbx⟩
              have H1 := Lib.hid (H0.out.trans (hbx.mono H0.out.size))
              clear hbx
              obtain ⟨k0, k1, k2, k3, k4, k5, k6, k7⟩ := (HBX.out.step H1.out).eight
              rw [hvv]
              go_wp2_with fail
              go_at_call 55
              refine (HV.out _).mono ?_
              rintro e u2 ⟨rfl, hbx⟩
              have H2 := Lib.hid (H1.out.trans (hbx.mono H1.out.size))
              clear hbx
              clear k0 k1 k2 k3 k4 k5 k6 k7
              obtain ⟨k0, k1, k2, k3, k4, k5, k6, k7⟩ := (HBX.out.step H2.out).eight
              rw [hvv]
              go_wp2_with fail
              go_at_call 60
              refine (HS.out _ _ _).mono ?_
              rintro e u ⟨rfl, rfl⟩
              rw [hs1]
              go_wp2_with fail
              go_at_call 60
              refine (HS.out _ _ _).mono ?_
              rintro e u ⟨rfl, rfl⟩
              rw [hs2]
              go_wp2_with fail
              go_at_call 61
              have hbw := HB1.out.trans (H2.out.mono HB1.out.size)
              refine (HR.out _ hbw).mono ?_
              rintro e u9 ⟨v', rfl, hv', hbr⟩
              obtain ⟨A9, n9, c9, rfl⟩ := hv'.form
              have hB3 := HBZ.out.step (H2.out.trans (hbr.mono H2.out.size))
              have hbf := hbw.trans (hbr.mono hbw.size)
              have hlt9 := (HBZ.out.step H2.out).lt
              clear k0 k1 k2 k3 k4 k5 k6 k7
              have HH9 := Lib.hid (And.intro hv' (And.intro hbf hbr))
              clear hv' hbf hbr hbw
              unfold reV reL
              go_wp2_with (refine wpList_store_mid rfl 27 (.tmp 6) (.tmp 48) rfl (w.heap.size + 1) 0 (reL (Tree.node 4 (fun _ => false) [t] lo hi).kind (Tree.node 4 (fun _ => false) [t] lo hi).set A9 n9 c9 (Tree.node 4 (fun _ => false) [t] lo hi).lo (Tree.node 4 (fun _ => false) [t] lo hi).hi).toArray rfl rfl hB3.there info_re8 reL_all ?_)
              have hl := load_re (store_re (k := (Tree.node 4 (fun _ => false) [t] lo hi).kind) (m := (Tree.node 4 (fun _ => false) [t] lo hi).set) (A := A9) (n := n9) (c := c9) (lo := (Tree.node 4 (fun _ => false) [t] lo hi).lo) (hi := (Tree.node 4 (fun _ => false) [t] lo hi).hi) hB3 rfl)
              have hb := below_cells (w.heap.size + 1) (reL (Tree.node 4 (fun _ => false) [t] lo hi).kind (Tree.node 4 (fun _ => false) [t] lo hi).set A9 n9 c9 (Tree.node 4 (fun _ => false) [t] lo hi).lo (Tree.node 4 (fun _ => false) [t] lo hi).hi) 0 _ (Nat.le_succ _) HH9.out.2.1
              refine bodyPost_ret (results_cell1 rfl rfl hl) rfl ⟨_, rfl, HH9.out.1.sub (hide_sub fun k h1 h2 => ?_), hb⟩
              rw [low_no] at h1 ⊢
              exact ⟨by omega, heap_cells (w.heap.size + 1) k (by omega) _ 0 _⟩
            | true =>
              rw [if_pos (by simp)]
              go_enter Tryd.func41, Tryd.ntmps41
              go_wp2_with fail
              go_at_call 55
              refine (HV.out _).mono ?_
              rintro e u1 ⟨rfl, hbx⟩
              have H1 := Lib.hid (H0.out.trans (hbx.mono H0.out.size))
              clear hbx
              obtain ⟨k0, k1, k2, k3, k4, k5, k6, k7⟩ := (HBX.out.step H1.out).eight
              rw [hvv]
              go_wp2_with fail
              go_at_call 55
              refine (HV.out _).mono ?_
              rintro e u2 ⟨rfl, hbx⟩
              have H2 := Lib.hid (H1.out.trans (hbx.mono H1.out.size))
              clear hbx
              clear k0 k1 k2 k3 k4 k5 k6 k7
              obtain ⟨k0, k1, k2, k3, k4, k5, k6, k7⟩ := (HBX.out.step H2.out).eight
              rw [hvv]
              go_wp2_with fail
              go_at_call 60
              refine (HS.out _ _ _).mono ?_
              rintro e u ⟨rfl, rfl⟩
              rw [hs1]
              go_wp2_with fail
              go_at_call 60
              refine (HS.out _ _ _).mono ?_
              rintro e u ⟨rfl, rfl⟩
              rw [hs2]
              have hB3 := HBZ.out.step H2.out
              go_wp2_with (refine wpList_store_mid rfl 27 (.tmp 6) (.tmp 44) rfl (w.heap.size + 1) 0 (reL t.kind t.set A n c t.lo t.hi).toArray rfl rfl hB3.there info_re8 reL_all ?_)
              have hl := load_re (k := t.kind) (m := t.set) (A := A) (n := n) (c := c) (lo := t.lo) (hi := t.hi) (store_re hB3 rfl)
              have hT := HTT.out _ (HB1.out.trans (H2.out.mono HB1.out.size))
              exact bodyPost_ret (results_cell1 rfl rfl hl) rfl ⟨_, rfl, hT.1, hT.2⟩
    | false =>
      cases hs1 : ((lo == 0) && (hi == -1)) with
      | false =>
        rw [if_neg (by simp)]
        go_enter Tryd.func41, Tryd.ntmps41
        go_wp2_with fail
        go_at_call 55
        refine (HV.out _).mono ?_
        rintro e u1 ⟨rfl, hbx⟩
        have H1 := Lib.hid (H0.out.trans (hbx.mono H0.out.size))
        clear hbx
        obtain ⟨k0, k1, k2, k3, k4, k5, k6, k7⟩ := (HBX.out.step H1.out).eight
        rw [hvv]
        go_wp2_with fail
        go_at_call 55
        refine (HV.out _).mono ?_
        rintro e u2 ⟨rfl, hbx⟩
        have H2 := Lib.hid (H1.out.trans (hbx.mono H1.out.size))
        clear hbx
        clear k0 k1 k2 k3 k4 k5 k6 k7
        obtain ⟨k0, k1, k2, k3, k4, k5, k6, k7⟩ := (HBX.out.step H2.out).eight
        rw [hvv]
        go_wp2_with fail
        go_at_call 60
        refine (HS.out _ _ _).mono ?_
        rintro e u ⟨rfl, rfl⟩
        rw [hs1]
        go_wp2_with fail
        go_at_call 61
        have hbw := HB1.out.trans (H2.out.mono HB1.out.size)
        refine (HR.out _ hbw).mono ?_
        rintro e u9 ⟨v', rfl, hv', hbr⟩
        obtain ⟨A9, n9, c9, rfl⟩ := hv'.form
        have hB3 := HBZ.out.step (H2.out.trans (hbr.mono H2.out.size))
        have hbf := hbw.trans (hbr.mono hbw.size)
        have hlt9 := (HBZ.out.step H2.out).lt
        clear k0 k1 k2 k3 k4 k5 k6 k7
        have HH9 := Lib.hid (And.intro hv' (And.intro hbf hbr))
        clear hv' hbf hbr hbw
        unfold reV reL
        go_wp2_with (refine wpList_store_mid rfl 27 (.tmp 6) (.tmp 48) rfl (w.heap.size + 1) 0 (reL (Tree.node 4 (fun _ => false) [t] lo hi).kind (Tree.node 4 (fun _ => false) [t] lo hi).set A9 n9 c9 (Tree.node 4 (fun _ => false) [t] lo hi).lo (Tree.node 4 (fun _ => false) [t] lo hi).hi).toArray rfl rfl hB3.there info_re8 reL_all ?_)
        have hl := load_re (store_re (k := (Tree.node 4 (fun _ => false) [t] lo hi).kind) (m := (Tree.node 4 (fun _ => false) [t] lo hi).set) (A := A9) (n := n9) (c := c9) (lo := (Tree.node 4 (fun _ => false) [t] lo hi).lo) (hi := (Tree.node 4 (fun _ => false) [t] lo hi).hi) hB3 rfl)
        have hb := below_cells (w.heap.size + 1) (reL (Tree.node 4 (fun _ => false) [t] lo hi).kind (Tree.node 4 (fun _ => false) [t] lo hi).set A9 n9 c9 (Tree.node 4 (fun _ => false) [t] lo hi).lo (Tree.node 4 (fun _ => false) [t] lo hi).hi) 0 _ (Nat.le_succ _) HH9.out.2.1
        refine bodyPost_ret (results_cell1 rfl rfl hl) rfl ⟨_, rfl, HH9.out.1.sub (hide_sub fun k h1 h2 => ?_), hb⟩
        rw [low_no] at h1 ⊢
        exact ⟨by omega, heap_cells (w.heap.size + 1) k (by omega) _ 0 _⟩
      | true =>
        cases hk4 : (t.kind == 4) with
        | false =>
          rw [if_neg (by simp)]
          go_enter Tryd.func41, Tryd.ntmps41
          go_wp2_with fail
          go_at_call 55
          refine (HV.out _).mono ?_
          rintro e u1 ⟨rfl, hbx⟩
          have H1 := Lib.hid (H0.out.trans (hbx.mono H0.out.size))
          clear hbx
          obtain ⟨k0, k1, k2, k3, k4, k5, k6, k7⟩ := (HBX.out.step H1.out).eight
          rw [hvv]
          go_wp2_with fail
          go_at_call 55
          refine (HV.out _).mono ?_
          rintro e u2 ⟨rfl, hbx⟩
          have H2 := Lib.hid (H1.out.trans (hbx.mono H1.out.size))
          clear hbx
          clear k0 k1 k2 k3 k4 k5 k6 k7
          obtain ⟨k0, k1, k2, k3, k4, k5, k6, k7⟩ := (HBX.out.step H2.out).eight
          rw [hvv]
          go_wp2_with fail
          go_at_call 60
          refine (HS.out _ _ _).mono ?_
          rintro e u ⟨rfl, rfl⟩
          rw [hs1]
          go_wp2_with fail
          go_at_call 61
          have hbw := HB1.out.trans (H2.out.mono HB1.out.size)
          refine (HR.out _ hbw).mono ?_
          rintro e u9 ⟨v', rfl, hv', hbr⟩
          obtain ⟨A9, n9, c9, rfl⟩ := hv'.form
          have hB3 := HBZ.out.step (H2.out.trans (hbr.mono H2.out.size))
          have hbf := hbw.trans (hbr.mono hbw.size)
          have hlt9 := (HBZ.out.step H2.out).lt
          clear k0 k1 k2 k3 k4 k5 k6 k7
          have HH9 := Lib.hid (And.intro hv' (And.intro hbf hbr))
          clear hv' hbf hbr hbw
          unfold reV reL
          go_wp2_with (refine wpList_store_mid rfl 27 (.tmp 6) (.tmp 48) rfl (w.heap.size + 1) 0 (reL (Tree.node 4 (fun _ => false) [t] lo hi).kind (Tree.node 4 (fun _ => false) [t] lo hi).set A9 n9 c9 (Tree.node 4 (fun _ => false) [t] lo hi).lo (Tree.node 4 (fun _ => false) [t] lo hi).hi).toArray rfl rfl hB3.there info_re8 reL_all ?_)
          have hl := load_re (store_re (k := (Tree.node 4 (fun _ => false) [t] lo hi).kind) (m := (Tree.node 4 (fun _ => false) [t] lo hi).set) (A := A9) (n := n9) (c := c9) (lo := (Tree.node 4 (fun _ => false) [t] lo hi).lo) (hi := (Tree.node 4 (fun _ => false) [t] lo hi).hi) hB3 rfl)
          have hb := below_cells (w.heap.size + 1) (reL (Tree.node 4 (fun _ => false) [t] lo hi).kind (Tree.node 4 (fun _ => false) [t] lo hi).set A9 n9 c9 (Tree.node 4 (fun _ => false) [t] lo hi).lo (Tree.node 4 (fun _ => false) [t] lo hi).hi) 0 _ (Nat.le_succ _) HH9.out.2.1
          refine bodyPost_ret (results_cell1 rfl rfl hl) rfl ⟨_, rfl, HH9.out.1.sub (hide_sub fun k h1 h2 => ?_), hb⟩
          rw [low_no] at h1 ⊢
          exact ⟨by omega, heap_cells (w.heap.size + 1) k (by omega) _ 0 _⟩
        | true =>
          cases hs2 : ((t.lo == 0) && (t.hi == -1)) with
          | false =>
            rw [if_neg (by simp)]
            go_enter Tryd.func41, Tryd.ntmps41
            go_wp2_with fail
            go_at_call 55
            refine (HV.out _).mono ?_
            rintro e u1 ⟨rfl, hbx⟩
            have H1 := Lib.hid (H0.out.trans (hbx.mono H0.out.size))
            clear hbx
            obtain ⟨k0, k1, k2, k3, k4, k5, k6, k7⟩ := (HBX.out.step H1.out).eight
            rw [hvv]
            go_wp2_with fail
            go_at_call 55
            refine (HV.out _).mono ?_
            rintro e u2 ⟨rfl, hbx⟩
            have H2 := Lib.hid (H1.out.trans (hbx.mono H1.out.size))
            clear hbx
            clear k0 k1 k2 k3 k4 k5 k6 k7
            obtain ⟨k0, k1, k2, k3, k4, k5, k6, k7⟩ := (HBX.out.step H2.out).eight
            rw [hvv]
            go_wp2_with fail
            go_at_call 60
            refine (HS.out _ _ _).mono ?_
            rintro e u ⟨rfl, rfl⟩
            rw [hs1]
            go_wp2_with fail
            go_at_call 60
            refine (HS.out _ _ _).mono ?_
            rintro e u ⟨rfl, rfl⟩
            rw [hs2]
            go_wp2_with fail
            go_at_call 61
            have hbw := HB1.out.trans (H2.out.mono HB1.out.size)
            refine (HR.out _ hbw).mono ?_
            rintro e u9 ⟨v', rfl, hv', hbr⟩
            obtain ⟨A9, n9, c9, rfl⟩ := hv'.form
            have hB3 := HBZ.out.step (H2.out.trans (hbr.mono H2.out.size))
            have hbf := hbw.trans (hbr.mono hbw.size)
            have hlt9 := (HBZ.out.step H2.out).lt
            clear k0 k1 k2 k3 k4 k5 k6 k7
            have HH9 := Lib.hid (And.intro hv' (And.intro hbf hbr))
            clear hv' hbf hbr hbw
            unfold reV reL
            go_wp2_with (refine wpList_store_mid rfl 27 (.tmp 6) (.tmp 48) rfl (w.heap.size + 1) 0 (reL (Tree.node 4 (fun _ => false) [t] lo hi).kind (Tree.node 4 (fun _ => false) [t] lo hi).set A9 n9 c9 (Tree.node 4 (fun _ => false) [t] lo hi).lo (Tree.node 4 (fun _ => false) [t] lo hi).hi).toArray rfl rfl hB3.there info_re8 reL_all ?_)
            have hl := load_re (store_re (k := (Tree.node 4 (fun _ => false) [t] lo hi).kind) (m := (Tree.node 4 (fun _ => false) [t] lo hi).set) (A := A9) (n := n9) (c := c9) (lo := (Tree.node 4 (fun _ => false) [t] lo hi).lo) (hi := (Tree.node 4 (fun _ => false) [t] lo hi).hi) hB3 rfl)
            have hb := below_cells (w.heap.size + 1) (reL (Tree.node 4 (fun _ => false) [t] lo hi).kind (Tree.node 4 (fun _ => false) [t] lo hi).set A9 n9 c9 (Tree.node 4 (fun _ => false) [t] lo hi).lo (Tree.node 4 (fun _ => false) [t] lo hi).hi) 0 _ (Nat.le_succ _) HH9.out.2.1
            refine bodyPost_ret (results_cell1 rfl rfl hl) rfl ⟨_, rfl, HH9.out.1.sub (hide_sub fun k h1 h2 => ?_), hb⟩
            rw [low_no] at h1 ⊢
            exact ⟨by omega, heap_cells (w.heap.size + 1) k (by omega) _ 0 _⟩
          | true =>
            rw [if_pos (by simp)]
            go_enter Tryd.func41, Tryd.ntmps41
            go_wp2_with fail
            go_at_call 55
            refine (HV.out _).mono ?_
            rintro e u1 ⟨rfl, hbx⟩
            have H1 := Lib.hid (H0.out.trans (hbx.mono H0.out.size))
            clear hbx
            obtain ⟨k0, k1, k2, k3, k4, k5, k6, k7⟩ := (HBX.out.step H1.out).eight
            rw [hvv]
            go_wp2_with fail
            go_at_call 55
            refine (HV.out _).mono ?_
            rintro e u2 ⟨rfl, hbx⟩
            have H2 := Lib.hid (H1.out.trans (hbx.mono H1.out.size))
            clear hbx
            clear k0 k1 k2 k3 k4 k5 k6 k7
            obtain ⟨k0, k1, k2, k3, k4, k5, k6, k7⟩ := (HBX.out.step H2.out).eight
            rw [hvv]
            go_wp2_with fail
            go_at_call 60
            refine (HS.out _ _ _).mono ?_
            rintro e u ⟨rfl, rfl⟩
            rw [hs1]
            go_wp2_with fail
            go_at_call 60
            refine (HS.out _ _ _).mono ?_
            rintro e u ⟨rfl, rfl⟩
            rw [hs2]
            have hB3 := HBZ.out.step H2.out
            go_wp2_with (refine wpList_store_mid rfl 27 (.tmp 6) (.tmp 44) rfl (w.heap.size + 1) 0 (reL t.kind t.set A n c t.lo t.hi).toArray rfl rfl hB3.there info_re8 reL_all ?_)
            have hl := load_re (k := t.kind) (m := t.set) (A := A) (n := n) (c := c) (lo := t.lo) (hi := t.hi) (store_re hB3 rfl)
            have hT := HTT.out _ (HB1.out.trans (H2.out.mono HB1.out.size))
            exact bodyPost_ret (results_cell1 rfl rfl hl) rfl ⟨_, rfl, hT.1, hT.2⟩

end Go.Proofs.YtkladjjeacjgpaaDoor

