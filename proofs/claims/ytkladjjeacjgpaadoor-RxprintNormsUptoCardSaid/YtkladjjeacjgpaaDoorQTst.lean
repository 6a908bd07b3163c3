/-
  WHAT setText ANSWERS: a Set, written: a contract. Condition: math/bits' table lies where it lies.
-/
import Derived.Test.YtkladjjeacjgpaaDoorQTrg
import Derived.Test.YtkladjjeacjgpaaDoorQTbt
import Derived.Test.YtkladjjeacjgpaaDoorQG02
import Derived.Test.YtkladjjeacjgpaaDoorQG05
namespace Go.Proofs.YtkladjjeacjgpaaDoor
open Go.RowKit

def signsB : ByteArray := ⟨#[124, 42, 43, 63, 123, 125, 40, 41, 91, 93, 46, 60, 62, 47, 92]⟩
def classB : ByteArray := ⟨#[91, 93, 47, 92, 94, 45]⟩
def byB (s : ByteArray) (b : Int) : ByteArray := ⟨(oneL s.data.toList b.toNat).toArray⟩
def stepR (acc : ByteArray) (x : Int × Int) : ByteArray := if x.1 < x.2 then (acc ++ byB classB x.1) ++ (⟨#[45]⟩ ++ byB classB x.2) else acc ++ byB classB x.1
def accR (pre : List (Int × Int)) : ByteArray := pre.foldl stepR ⟨#[91]⟩
def setB (m : Nat → Bool) : ByteArray := if cntN m 256 = 1 then byB signsB (IntKind.u8.wrap (nextS m 0)) else if cntN m 256 = 256 then ⟨#[46]⟩ else accR (rangesOf m) ++ ⟨#[93]⟩
theorem one_size (s : List UInt8) (b : Nat) : (oneL s b).length ≤ 4 := by
  unfold oneL
  repeat' split
  all_goals simp
theorem byB_size (s : ByteArray) (b : Int) : (byB s b).size ≤ 4 := by
  have := one_size s.data.toList b.toNat
  unfold byB
  simpa [ByteArray.size] using this
theorem step_size (acc : ByteArray) (x : Int × Int) : (stepR acc x).size ≤ acc.size + 9 := by
  have h1 := byB_size classB x.1
  have h2 := byB_size classB x.2
  have e : (ByteArray.mk #[45]).size = 1 := rfl
  unfold stepR
  split
  · simp only [ByteArray.size_append]; omega
  · simp only [ByteArray.size_append]; omega
theorem acc_size : ∀ (pre : List (Int × Int)) (acc : ByteArray), (pre.foldl stepR acc).size ≤ acc.size + 9 * pre.length
  | [], acc => by simp
  | x :: r, acc => by
    have h1 := acc_size r (stepR acc x)
    have h2 := step_size acc x
    simp only [List.foldl_cons, List.length_cons]
    omega
theorem setB_size (m : Nat → Bool) : (setB m).size ≤ 4000 := by
  have h1 := byB_size signsB (IntKind.u8.wrap (nextS m 0))
  have h2 := acc_size (rangesOf m) ⟨#[91]⟩
  have h3 := from_len m 257 (nextS m 0)
  have e1 : (ByteArray.mk #[46]).size = 1 := rfl
  have e2 : (ByteArray.mk #[93]).size = 1 := rfl
  have e3 : (ByteArray.mk #[91]).size = 1 := rfl
  unfold setB accR
  unfold rangesOf at *
  split
  · omega
  · split
    · omega
    · rw [ByteArray.size_append]; omega
theorem by_any (s : ByteArray) (b : Int) (h0 : 0 ≤ b) (h1 : b ≤ 255) (u : World) : Calls Tryd.prog 63 #[.int .u8 b, .string s] u fun e u' => e = .returned (.string (byB s b)) ∧ Below u.heap.size u u' := by
  obtain ⟨k, rfl⟩ : ∃ k : Nat, b = (k : Int) := ⟨b.toNat, by omega⟩
  exact byteText_any k (by omega) s u

theorem ranges_any (m : Nat → Bool) (u : World) : Calls Tryd.prog 65 #[setV m] u fun e u' => e = .returned (.func (.func 83) #[] #[.pointer (some ⟨u.heap.size, 0, none⟩)]) ∧ u' = u.alloc (.cells (set4 m).toArray 24) := by
  unfold setV set4
  go_enter Tryd.func65, Tryd.ntmps65
  go_wp2
  go_ret
  exact ⟨rfl, rfl⟩

/-- what lies while ranges are told: the set, twice, and the text so far -/
def JJ (w : World) (m : Nat → Bool) (bs bt b2 : Nat) (pre : List (Int × Int)) (W : World) : Prop := Below w.heap.size w W ∧ BlkIs W bs 24 (set4 m).toArray ∧ BlkIs W bt 9 #[.string (accR pre)] ∧ BlkIs W b2 24 (set4 m).toArray
theorem JJ.below {w : World} {m : Nat → Bool} {bs bt b2 : Nat} {pre : List (Int × Int)} {W W' : World} (h : JJ w m bs bt b2 pre W) (hb : Below W.heap.size W W') : JJ w m bs bt b2 pre W' :=
  ⟨h.1.trans (hb.mono h.1.size), h.2.1.step hb, h.2.2.1.step hb, h.2.2.2.step hb⟩
theorem JJ.put {w : World} {m : Nat → Bool} {bs bt b2 : Nat} {pre : List (Int × Int)} {W : World} (h : JJ w m bs bt b2 pre W) {l : Nat} {o : Obj} (o' : Obj) (hw : w.heap.size ≤ l) (hl : W.heap[l]? = some o) (ho : o.isCells = false) : JJ w m bs bt b2 pre (W.putObj l o') :=
  ⟨h.1.trans ((Below.refl _ _).grown (grownBy_putObj' W l o') h.1.size (fun k e => by cases e; omega)), blk_putObj o' h.2.1 hl ho, blk_putObj o' h.2.2.1 hl ho, blk_putObj o' h.2.2.2 hl ho⟩

attribute [local go_sem] Oper.semAt_some

set_option maxRecDepth 100000 in
set_option maxHeartbeats 8000000 in
theorem setText_any (m : Nat → Bool) (w : World) (hT : Tab w) : Calls Tryd.prog 45 #[setV m] w fun e w' => e = .returned (.string (setB m)) ∧ Below w.heap.size w w' := by
  have HC := Lib.hid (fun u => count_any m u)
  have hb1 : Below w.heap.size w (w.alloc (.cells (set4 m).toArray 24)) := (Below.refl _ _).alloc (Nat.le_refl _) _
  have HB1 := Lib.hid (And.intro hb1 (BlkIs.new w 24 (set4 m).toArray))
  have HT := Lib.hid hT
  have HN := Lib.hid (fun (u : World) (h : Tab u) => next_any m 0 (by omega) u h)
  have HBY := Lib.hid (fun (s : ByteArray) (b : Int) (h0 : 0 ≤ b) (h1 : b ≤ 255) (u : World) => by_any s b h0 h1 u)
  have HR := Lib.hid (fun u => ranges_any m u)
  clear hb1 hT
  refine (callsIn_wide (n := 5)).1 ?_
  refine callsIn_of_wp_marks Tryd.func45 rfl trivial ?_ rfl
  unfold setV at *
  unfold set4 at HB1 HR
  simp only [Tryd.ntmps45, List.size_toArray, List.length_cons, List.length_nil, Nat.reduceAdd, Nat.reduceSub, Array.replicate_succ, Array.replicate_zero, List.push_toArray, List.append_toArray, List.nil_append, List.cons_append]
  refine wpIn_wide.2 ?_
  obtain ⟨R, hR⟩ : ∃ R, R = setB m := ⟨_, rfl⟩
  rw [← hR]
  obtain ⟨c, hc⟩ : ∃ c, c = cntN m 256 := ⟨_, rfl⟩
  rw [← hc] at HC
  unfold setB at hR
  rw [← hc] at hR
  have HRR := Lib.hid hR
  clear hR hc
  go_wp2_with fail
  go_at_call 62
  refine (HC.out _).mono ?_
  rintro e u1 ⟨rfl, hb2⟩
  have HB2 := Lib.hid (And.intro (HB1.out.1.trans (hb2.mono HB1.out.1.size)) (HB1.out.2.step hb2))
  obtain ⟨c0, c1, c2, c3, _⟩ := (HB1.out.2.step hb2).four
  have hlt := (HB1.out.2.step hb2).lt
  have hne : ¬ w.heap.size = u1.heap.size := by omega
  clear hb2
  by_cases h1 : c = 1
  · subst h1
    have hr := HRR.out
    rw [if_pos rfl] at hr
    have HRE := Lib.hid hr
    clear hr HRR
    go_wp2_with fail
    go_at_call 64
    refine (HN.out u1 (HT.out.step HB2.out.1)).mono ?_
    rintro e u2 ⟨rfl, hb3⟩
    have HB3 := Lib.hid (HB2.out.1.trans (hb3.mono HB2.out.1.size))
    have hwr : 0 ≤ IntKind.u8.wrap (nextS m 0) ∧ IntKind.u8.wrap (nextS m 0) ≤ 255 := by rw [IntKind.wrap_u8]; omega
    have HWR := Lib.hid hwr
    have HBB := Lib.hid (HBY.out signsB _ hwr.1 hwr.2 u2)
    clear hb3 c0 c1 c2 c3 hwr
    unfold signsB at HBB
    go_wp2_with fail
    go_at_call 63
    refine HBB.out.mono ?_
    rintro e u3 ⟨rfl, hb4⟩
    have HB4 := Lib.hid (HB3.out.trans (hb4.mono HB3.out.size))
    clear hb4
    go_wp2
    refine ⟨_, results_tmp (t := 2) rfl _ _ _, ?_, HB4.out⟩
    exact congrArg (fun x => Ending.returned (.string x)) HRE.out.symm
  have e1 : ((c : Int) == 1) = false := by simp; omega
  by_cases h2 : c = 256
  · subst h2
    have hr := HRR.out
    rw [if_neg (by decide), if_pos rfl] at hr
    have HRE := Lib.hid hr
    clear hr HRR
    go_wp2
    refine ⟨_, results_tmp (t := 2) rfl _ _ _, ?_, HB2.out.1⟩
    exact congrArg (fun x => Ending.returned (.string x)) HRE.out.symm
  have e2 : ((c : Int) == 256) = false := by simp; omega
  have hr := HRR.out
  rw [if_neg h1, if_neg h2] at hr
  have HRE := Lib.hid hr
  clear hr HRR
  go_wp2_with (first | (go_at_call 65; go_must (refine (HR.out _).mono ?_); rintro e u2 ⟨rfl, rfl⟩))
  obtain ⟨W1, hW1⟩ : ∃ W1, (u1.alloc (.cells #[.string ⟨#[91]⟩] 9)).alloc (.cells (set4 m).toArray 24) = W1 := ⟨_, rfl⟩
  change Code.wp _ _ _ _ ((u1.alloc (.cells #[.string ⟨#[91]⟩] 9)).alloc (.cells (set4 m).toArray 24))
  rw [hW1]
  have hbW : Below u1.heap.size u1 W1 := by rw [← hW1]; exact ((Below.refl _ _).alloc (Nat.le_refl _) _).alloc (by simp) _
  have hx1 : BlkIs W1 u1.heap.size 9 #[.string ⟨#[91]⟩] := by rw [← hW1]; exact (BlkIs.new u1 _ _).alloc _
  have hx2 : BlkIs W1 (u1.heap.size + 1) 24 (set4 m).toArray := by
    have := BlkIs.new (u1.alloc (.cells #[.string ⟨#[91]⟩] 9)) 24 (set4 m).toArray
    rw [World.size_alloc] at this
    rw [← hW1]; exact this
  have hsz : W1.heap.size = u1.heap.size + 2 := by rw [← hW1]; simp
  have hj0 : JJ w m w.heap.size u1.heap.size (u1.heap.size + 1) [] W1 := ⟨HB2.out.1.trans (hbW.mono HB2.out.1.size), HB2.out.2.step hbW, hx1, hx2⟩
  have HJ0 := Lib.hid hj0
  clear hj0 hx1 hx2 hbW c0 c1 c2 c3 hW1
  refine (wpIn_wide (n := 5)).1 ?_
  refine range_own (σ := List (Int × Int) × (Int × Int)) rfl (by omega) (gf := 83) (bd := #[]) (lb := #[.pointer (some ⟨u1.heap.size + 1, 0, none⟩)]) rfl trivial (enters_of Tryd.func83 (by kernel_rfl) rfl)
    (fun s => #[.int .u8 s.2.1, .int .u8 s.2.2]) (fun _ => rfl) (fun _ _ => True) (fun _ _ => trivial) (fun _ _ _ _ _ _ _ => trivial)
    (fun s W => JJ w m w.heap.size u1.heap.size (u1.heap.size + 1) s.1 W ∧ s.1.length < 257 ∧ 0 ≤ s.2.1 ∧ s.2.1 ≤ s.2.2 ∧ s.2.2 ≤ 255)
    (fun s W => JJ w m w.heap.size u1.heap.size (u1.heap.size + 1) (s.1 ++ [s.2]) W) (fun _ _ => False) (JJ w m w.heap.size u1.heap.size (u1.heap.size + 1) (rangesOf m))
    ?_ ?_ (fun _ _ _ _ _ h => h.elim) ?_ ?_
    (fun s => { tmps := #[.agg #[.int .u64 (wd m 0 : Nat), .int .u64 (wd m 1 : Nat), .int .u64 (wd m 2 : Nat), .int .u64 (wd m 3 : Nat)], .pointer (some ⟨w.heap.size, 0, none⟩), .string ⟨#[]⟩, .pointer (some ⟨u1.heap.size, 0, none⟩), .int .u8 s.2.1, .int .u8 s.2.2, .agg #[.int .u64 (wd m 0 : Nat), .int .u64 (wd m 1 : Nat), .int .u64 (wd m 2 : Nat), .int .u64 (wd m 3 : Nat)],
      .int .i64 (c : Nat), .bool false, .bool false, undef, undef, undef, undef, .bool false, .bool false, .agg #[.int .u64 (wd m 0 : Nat), .int .u64 (wd m 1 : Nat), .int .u64 (wd m 2 : Nat), .int .u64 (wd m 3 : Nat)], .func (.func 83) #[] #[.pointer (some ⟨u1.heap.size + 1, 0, none⟩)], .int .u8 s.2.1, .int .u8 s.2.2,
      undef, undef, undef, undef, undef, undef, undef, undef, undef, undef, undef, undef, undef, undef], defers := [] })
    ?assign ?body ?done ?stop
  · rintro s W l o o' ⟨h1, h2⟩ hB hl ho
    exact ⟨h1.put o' (by have := HB2.out.1.size; omega) hl ho, h2⟩
  · rintro s W l o o' h1 hB hl ho
    exact h1.put o' (by have := HB2.out.1.size; omega) hl ho
  · rintro W l o o' h1 hB hl ho
    exact h1.put o' (by have := HB2.out.1.size; omega) hl ho
  · intro l G X hG hY W hb hk hg
    refine (callsIn_wide.2 (callsIn_wide.1 (ranges1_in l (u1.heap.size + 1) m (fun pre W => JJ w m w.heap.size u1.heap.size (u1.heap.size + 1) pre W ∧ G W) X (fun pre A B h hb => ⟨h.1.below hb, hG _ _ h.2 (others_below hb)⟩) (fun pre A h => ⟨h.1.2.2.2, HT.out.step h.1.1⟩) (fun pre x A h h1 h2 h3 h4 => ?_) W ⟨HJ0.out.below hb, hg⟩))).mono ?_
    · refine (YieldAt.anyN (hY (pre, x) A ⟨h.1, h1, h2, h3, h4⟩ h.2)).mono fun e B hh => hh.imp (fun hh => ⟨hh.1, hh.2.1, hh.2.2.2⟩) id
    · exact fun e B h => h
  case assign =>
    intro l s W K hK
    gi_wp2
    exact hK
  case done =>
    rintro D W hD hj hdD
    have hcell := hj.2.2.1.cell 0
    simp only [List.getElem?_toArray, List.getElem?_cons_zero] at hcell
    have hsza := acc_size (rangesOf m) ⟨#[91]⟩
    have hrl := from_len m 257 (nextS m 0)
    have hsz2 : (accR (rangesOf m)).size ≤ 4000 := by
      have e3 : (ByteArray.mk #[91]).size = 1 := rfl
      unfold accR; unfold rangesOf at *; omega
    have HJD := Lib.hid hj
    clear hj hsza hrl
    generalize hga : accR (rangesOf m) = ga at *
    go_wp2
    refine ⟨by simp, .inl ⟨_, _, rfl, run_takeDeferred hdD, ?_⟩⟩
    refine ⟨_, results_tmp (t := 2) rfl _ _ _, ?_, HJD.out.1.trans (belowK_b (w := w) (Nat.le_refl _) W D _ (.deferred none) (by have := HB2.out.1.size; omega) hdD rfl rfl)⟩
    exact congrArg (fun x => Ending.returned (.string x)) HRE.out.symm
  case stop => exact fun _ _ _ _ h _ => h.elim
  case body =>
    rintro l ⟨pre, x, y⟩ W hW ⟨hj, hl257, hx0, hxy, hy255⟩
    dsimp only at hj hl257 hx0 hxy hy255
    have hacc : (accR pre).size ≤ 2400 := by
      have h := acc_size pre ⟨#[91]⟩
      have e3 : (ByteArray.mk #[91]).size = 1 := rfl
      unfold accR; omega
    have hbx := byB_size classB x
    have hby := byB_size classB y
    have HJ := Lib.hid hj
    have hcell : ∀ u, Below W.heap.size W u → u.cell? ⟨u1.heap.size, 0, none⟩ = some (.string (accR pre)) ∧ u.frozen? ⟨u1.heap.size, 0, none⟩ = false := fun u hu => ⟨(hj.2.2.1.step hu).cell 0, (hj.2.2.1.step hu).frozen 0⟩
    have HCE := Lib.hid hcell
    have HB1' := Lib.hid (show ∀ u : World, Calls Tryd.prog 63 #[.int .u8 x, .string ⟨#[91, 93, 47, 92, 94, 45]⟩] u fun e u' => e = .returned (.string (byB classB x)) ∧ Below u.heap.size u u' from fun u => HBY.out classB x hx0 (by omega) u)
    have HB2' := Lib.hid (show ∀ u : World, Calls Tryd.prog 63 #[.int .u8 y, .string ⟨#[91, 93, 47, 92, 94, 45]⟩] u fun e u' => e = .returned (.string (byB classB y)) ∧ Below u.heap.size u u' from fun u => HBY.out classB y (by omega) hy255 u)
    have HSTEP : accR (pre ++ [(x, y)]) = if x < y then (accR pre ++ byB classB x) ++ (⟨#[45]⟩ ++ byB classB y) else accR pre ++ byB classB x := by
      unfold accR; rw [List.foldl_append]; rfl
    have HST := Lib.hid HSTEP
    have hmix : Tryd.prog.follows .mixedOrders = true := by kernel_rfl
    clear hj hcell HSTEP
    generalize hga : accR pre = ga at *
    generalize hgx : byB classB x = gx at *
    generalize hgy : byB classB y = gy at *
    have HGX := Lib.hid (And.intro hga (And.intro hgx hgy))
    obtain ⟨m0, m1⟩ := HCE.out W (Below.refl _ _)
    have hs1 : ¬ 9223372036854775807 < ga.size + gx.size := by omega
    gi_wp2
    refine wpIn_mono (Q := fun e a' w' => e = .normal ∧ a' = { tmps := #[.agg #[.int .u64 (wd m 0 : Nat), .int .u64 (wd m 1 : Nat), .int .u64 (wd m 2 : Nat), .int .u64 (wd m 3 : Nat)], .pointer (some ⟨w.heap.size, 0, none⟩), .string ⟨#[]⟩, .pointer (some ⟨u1.heap.size, 0, none⟩), .int .u8 x, .int .u8 y, .agg #[.int .u64 (wd m 0 : Nat), .int .u64 (wd m 1 : Nat), .int .u64 (wd m 2 : Nat), .int .u64 (wd m 3 : Nat)], .int .i64 (c : Nat), .bool false, .bool false, undef, undef, undef, undef, .bool false, .bool false, .agg #[.int .u64 (wd m 0 : Nat), .int .u64 (wd m 1 : Nat), .int .u64 (wd m 2 : Nat), .int .u64 (wd m 3 : Nat)], .func (.func 83) #[] #[.pointer (some ⟨u1.heap.size + 1, 0, none⟩)], .int .u8 x, .int .u8 y, .string ga, .int .u8 x, .string gx, .string (ga ++ gx), undef, undef, undef, undef, undef, undef, undef, undef, undef, undef], defers := [] } ∧ ∃ u, Below W.heap.size W u ∧ w' = u.setCell ⟨u1.heap.size, 0, none⟩ (.string (ga ++ gx))) ?_ ?_
    · refine wpIn_region_any hmix ?_
      change wpAnyIn _ _ _ _ _ _ _ _ _ (World.drew _)
      refine wpAnyIn_ready (rs := [0, 1]) (by decide +kernel) (by simp) ?_
      refine AllReadyIn.cons rfl (fun K hK => ?_) (AllReadyIn.cons rfl (fun K hK => ?_) AllReadyIn.nil)
      · skip
        go_simp
        refine hK _ _ ?_
        clear hK K
        refine wpAnyIn_ready (rs := [1]) (by decide +kernel) (by simp) ?_
        refine AllReadyIn.cons rfl (fun K hK => ?_) AllReadyIn.nil
        go_simp
        refine hK _ _ ?_
        clear hK K
        refine wpAnyIn_ready (rs := [2]) (by decide +kernel) (by simp) ?_
        refine AllReadyIn.cons rfl (fun K hK => ?_) AllReadyIn.nil
        go_simp
        refine ⟨trivial, ?_⟩
        refine (CallsIn.inRound _ (callsIn_wide.2 (HB1'.out _))).mono ?_
        rintro e uc ⟨rfl, hbu⟩
        have huc := ((Below.refl W.heap.size W).drew).trans (hbu.mono (((Below.refl W.heap.size W).drew)).size)
        obtain ⟨n0, n1⟩ := HCE.out uc huc
        refine hK _ _ ?_
        clear hK K
        refine wpAnyIn_ready (rs := [3]) (by decide +kernel) (by simp) ?_
        refine AllReadyIn.cons rfl (fun K hK => ?_) AllReadyIn.nil
        go_simp
        refine hK _ _ ?_
        clear hK K
        refine wpAnyIn_ready (rs := [4]) (by decide +kernel) (by simp) ?_
        refine AllReadyIn.cons rfl (fun K hK => ?_) AllReadyIn.nil
        go_simp
        refine hK _ _ ?_
        clear hK K
        refine wpAnyIn_done ?_ ?_ _
        · decide +kernel
        · exact ⟨rfl, rfl, uc, huc, rfl⟩
      · skip
        go_simp
        refine hK _ _ ?_
        clear hK K
        refine wpAnyIn_ready (rs := [0, 2]) (by decide +kernel) (by simp) ?_
        refine AllReadyIn.cons rfl (fun K hK => ?_) (AllReadyIn.cons rfl (fun K hK => ?_) AllReadyIn.nil)
        · skip
          go_simp
          refine hK _ _ ?_
          clear hK K
          refine wpAnyIn_ready (rs := [2]) (by decide +kernel) (by simp) ?_
          refine AllReadyIn.cons rfl (fun K hK => ?_) AllReadyIn.nil
          go_simp
          refine ⟨trivial, ?_⟩
          refine (CallsIn.inRound _ (callsIn_wide.2 (HB1'.out _))).mono ?_
          rintro e uc ⟨rfl, hbu⟩
          have huc := ((Below.refl W.heap.size W).drew).trans (hbu.mono (((Below.refl W.heap.size W).drew)).size)
          obtain ⟨n0, n1⟩ := HCE.out uc huc
          refine hK _ _ ?_
          clear hK K
          refine wpAnyIn_ready (rs := [3]) (by decide +kernel) (by simp) ?_
          refine AllReadyIn.cons rfl (fun K hK => ?_) AllReadyIn.nil
          go_simp
          refine hK _ _ ?_
          clear hK K
          refine wpAnyIn_ready (rs := [4]) (by decide +kernel) (by simp) ?_
          refine AllReadyIn.cons rfl (fun K hK => ?_) AllReadyIn.nil
          go_simp
          refine hK _ _ ?_
          clear hK K
          refine wpAnyIn_done ?_ ?_ _
          · decide +kernel
          · exact ⟨rfl, rfl, uc, huc, rfl⟩
        · skip
          go_simp
          refine ⟨trivial, ?_⟩
          refine (CallsIn.inRound _ (callsIn_wide.2 (HB1'.out _))).mono ?_
          rintro e uc ⟨rfl, hbu⟩
          have huc := ((Below.refl W.heap.size W).drew).trans (hbu.mono (((Below.refl W.heap.size W).drew)).size)
          obtain ⟨n0, n1⟩ := HCE.out uc huc
          refine hK _ _ ?_
          clear hK K
          refine wpAnyIn_ready (rs := [0]) (by decide +kernel) (by simp) ?_
          refine AllReadyIn.cons rfl (fun K hK => ?_) AllReadyIn.nil
          go_simp
          refine hK _ _ ?_
          clear hK K
          refine wpAnyIn_ready (rs := [3]) (by decide +kernel) (by simp) ?_
          refine AllReadyIn.cons rfl (fun K hK => ?_) AllReadyIn.nil
          go_simp
          refine hK _ _ ?_
          clear hK K
          refine wpAnyIn_ready (rs := [4]) (by decide +kernel) (by simp) ?_
          refine AllReadyIn.cons rfl (fun K hK => ?_) AllReadyIn.nil
          go_simp
          refine hK _ _ ?_
          clear hK K
          refine wpAnyIn_done ?_ ?_ _
          · decide +kernel
          · exact ⟨rfl, rfl, uc, huc, rfl⟩
    · rintro e a' w' ⟨rfl, rfl, u, hu, rfl⟩
      obtain ⟨g2, hg2⟩ : ∃ g2, g2 = ga ++ gx := ⟨_, rfl⟩
      rw [← hg2]
      have hg2s : g2.size ≤ 2410 := by rw [hg2, ByteArray.size_append]; omega
      have hju := HJ.out.below hu
      obtain ⟨W5, hW5⟩ : ∃ W5, u.setCell ⟨u1.heap.size, 0, none⟩ (.string g2) = W5 := ⟨_, rfl⟩
      have hb5 : BlkIs W5 u1.heap.size 9 #[.string g2] := by rw [← hW5]; simpa using hju.2.2.1.put 0 (.string g2)
      have hj5 : Below w.heap.size w W5 ∧ BlkIs W5 w.heap.size 24 (set4 m).toArray ∧ BlkIs W5 (u1.heap.size + 1) 24 (set4 m).toArray := by
        rw [← hW5]
        exact ⟨hju.1.setCell (p := ⟨u1.heap.size, 0, none⟩) (by have := HB2.out.1.size; show w.heap.size ≤ u1.heap.size; exact this) _, hju.2.1.far (by simpa using hne) _, hju.2.2.2.far (by simp) _⟩
      have hk5 : KeepsOthers W W5 := by rw [← hW5]; exact (others_below hu).trans (KeepsOthers.setCell _ _ _)
      rw [hW5]
      have H5 := Lib.hid (And.intro hb5 (And.intro hj5 (And.intro hk5 hg2)))
      have hcell5 : ∀ v, Below W5.heap.size W5 v → v.cell? ⟨u1.heap.size, 0, none⟩ = some (.string g2) ∧ v.frozen? ⟨u1.heap.size, 0, none⟩ = false := fun v hv => ⟨(hb5.step hv).cell 0, (hb5.step hv).frozen 0⟩
      have HC5 := Lib.hid hcell5
      obtain ⟨p0, p1⟩ := hcell5 W5 (Below.refl _ _)
      have hs2 : ¬ 9223372036854775807 < g2.size + (gy.size + 1) := by omega
      have hs5 : ¬ 9223372036854775807 < 1 + gy.size := by omega
      have hs3 : ¬ 9223372036854775807 < g2.size + (1 + gy.size) := by omega
      have hs4 : ¬ 9223372036854775807 < g2.size + (ByteArray.mk #[45] ++ gy).size := by rw [ByteArray.size_append]; have e : (ByteArray.mk #[45]).size = 1 := rfl; omega
      clear hb5 hj5 hk5 hg2 hju hcell5 hW5 m0 m1 hu
      by_cases hlt2 : x < y
      · have e3 : decide (y > x) = true := decide_eq_true (by omega)
        gi_wp2
        refine wpIn_mono (Q := fun e a' w' => e = .normal ∧ ∃ u, Below W5.heap.size W5 u ∧ w' = u.setCell ⟨u1.heap.size, 0, none⟩ (.string (g2 ++ (⟨#[45]⟩ ++ gy)))) ?_ ?_
        · refine wpIn_region_any hmix ?_
          change wpAnyIn _ _ _ _ _ _ _ _ _ (World.drew _)
          refine wpAnyIn_ready (rs := [0, 1]) (by decide +kernel) (by simp) ?_
          refine AllReadyIn.cons rfl (fun K hK => ?_) (AllReadyIn.cons rfl (fun K hK => ?_) AllReadyIn.nil)
          · skip
            go_simp
            refine hK _ _ ?_
            clear hK K
            refine wpAnyIn_ready (rs := [1]) (by decide +kernel) (by simp) ?_
            refine AllReadyIn.cons rfl (fun K hK => ?_) AllReadyIn.nil
            go_simp
            refine hK _ _ ?_
            clear hK K
            refine wpAnyIn_ready (rs := [2]) (by decide +kernel) (by simp) ?_
            refine AllReadyIn.cons rfl (fun K hK => ?_) AllReadyIn.nil
            go_simp
            refine ⟨trivial, ?_⟩
            refine (CallsIn.inRound _ (callsIn_wide.2 (HB2'.out _))).mono ?_
            rintro e uc ⟨rfl, hbu⟩
            have huc := ((Below.refl W5.heap.size W5).drew).trans (hbu.mono (((Below.refl W5.heap.size W5).drew)).size)
            obtain ⟨n0, n1⟩ := HC5.out uc huc
            refine hK _ _ ?_
            clear hK K
            refine wpAnyIn_ready (rs := [3]) (by decide +kernel) (by simp) ?_
            refine AllReadyIn.cons rfl (fun K hK => ?_) AllReadyIn.nil
            go_simp
            refine hK _ _ ?_
            clear hK K
            refine wpAnyIn_ready (rs := [4]) (by decide +kernel) (by simp) ?_
            refine AllReadyIn.cons rfl (fun K hK => ?_) AllReadyIn.nil
            go_simp
            refine hK _ _ ?_
            clear hK K
            refine wpAnyIn_ready (rs := [5]) (by decide +kernel) (by simp) ?_
            refine AllReadyIn.cons rfl (fun K hK => ?_) AllReadyIn.nil
            go_simp
            refine hK _ _ ?_
            clear hK K
            refine wpAnyIn_done ?_ ?_ _
            · decide +kernel
            · exact ⟨rfl, uc, huc, rfl⟩
          · skip
            go_simp
            refine hK _ _ ?_
            clear hK K
            refine wpAnyIn_ready (rs := [0, 2]) (by decide +kernel) (by simp) ?_
            refine AllReadyIn.cons rfl (fun K hK => ?_) (AllReadyIn.cons rfl (fun K hK => ?_) AllReadyIn.nil)
            · skip
              go_simp
              refine hK _ _ ?_
              clear hK K
              refine wpAnyIn_ready (rs := [2]) (by decide +kernel) (by simp) ?_
              refine AllReadyIn.cons rfl (fun K hK => ?_) AllReadyIn.nil
              go_simp
              refine ⟨trivial, ?_⟩
              refine (CallsIn.inRound _ (callsIn_wide.2 (HB2'.out _))).mono ?_
              rintro e uc ⟨rfl, hbu⟩
              have huc := ((Below.refl W5.heap.size W5).drew).trans (hbu.mono (((Below.refl W5.heap.size W5).drew)).size)
              obtain ⟨n0, n1⟩ := HC5.out uc huc
              refine hK _ _ ?_
              clear hK K
              refine wpAnyIn_ready (rs := [3]) (by decide +kernel) (by simp) ?_
              refine AllReadyIn.cons rfl (fun K hK => ?_) AllReadyIn.nil
              go_simp
              refine hK _ _ ?_
              clear hK K
              refine wpAnyIn_ready (rs := [4]) (by decide +kernel) (by simp) ?_
              refine AllReadyIn.cons rfl (fun K hK => ?_) AllReadyIn.nil
              go_simp
              refine hK _ _ ?_
              clear hK K
              refine wpAnyIn_ready (rs := [5]) (by decide +kernel) (by simp) ?_
              refine AllReadyIn.cons rfl (fun K hK => ?_) AllReadyIn.nil
              go_simp
              refine hK _ _ ?_
              clear hK K
              refine wpAnyIn_done ?_ ?_ _
              · decide +kernel
              · exact ⟨rfl, uc, huc, rfl⟩
            · skip
              go_simp
              refine ⟨trivial, ?_⟩
              refine (CallsIn.inRound _ (callsIn_wide.2 (HB2'.out _))).mono ?_
              rintro e uc ⟨rfl, hbu⟩
              have huc := ((Below.refl W5.heap.size W5).drew).trans (hbu.mono (((Below.refl W5.heap.size W5).drew)).size)
              obtain ⟨n0, n1⟩ := HC5.out uc huc
              refine hK _ _ ?_
              clear hK K
              refine wpAnyIn_ready (rs := [0, 3]) (by decide +kernel) (by simp) ?_
              refine AllReadyIn.cons rfl (fun K hK => ?_) (AllReadyIn.cons rfl (fun K hK => ?_) AllReadyIn.nil)
              · skip
                go_simp
                refine hK _ _ ?_
                clear hK K
                refine wpAnyIn_ready (rs := [3]) (by decide +kernel) (by simp) ?_
                refine AllReadyIn.cons rfl (fun K hK => ?_) AllReadyIn.nil
                go_simp
                refine hK _ _ ?_
                clear hK K
                refine wpAnyIn_ready (rs := [4]) (by decide +kernel) (by simp) ?_
                refine AllReadyIn.cons rfl (fun K hK => ?_) AllReadyIn.nil
                go_simp
                refine hK _ _ ?_
                clear hK K
                refine wpAnyIn_ready (rs := [5]) (by decide +kernel) (by simp) ?_
                refine AllReadyIn.cons rfl (fun K hK => ?_) AllReadyIn.nil
                go_simp
                refine hK _ _ ?_
                clear hK K
                refine wpAnyIn_done ?_ ?_ _
                · decide +kernel
                · exact ⟨rfl, uc, huc, rfl⟩
              · skip
                go_simp
                refine hK _ _ ?_
                clear hK K
                refine wpAnyIn_ready (rs := [0]) (by decide +kernel) (by simp) ?_
                refine AllReadyIn.cons rfl (fun K hK => ?_) AllReadyIn.nil
                go_simp
                refine hK _ _ ?_
                clear hK K
                refine wpAnyIn_ready (rs := [4]) (by decide +kernel) (by simp) ?_
                refine AllReadyIn.cons rfl (fun K hK => ?_) AllReadyIn.nil
                go_simp
                refine hK _ _ ?_
                clear hK K
                refine wpAnyIn_ready (rs := [5]) (by decide +kernel) (by simp) ?_
                refine AllReadyIn.cons rfl (fun K hK => ?_) AllReadyIn.nil
                go_simp
                refine hK _ _ ?_
                clear hK K
                refine wpAnyIn_done ?_ ?_ _
                · decide +kernel
                · exact ⟨rfl, uc, huc, rfl⟩
        · rintro e a' w' ⟨rfl, v, hv, rfl⟩
          have hst := HST.out
          rw [if_pos hlt2, ← H5.out.2.2.2] at hst
          have h1 := H5.out.1.step hv
          refine ⟨(H5.out.2.2.1.trans ((others_below hv).trans (KeepsOthers.setCell _ _ _))).from _, trivial, (H5.out.2.1.1.trans (hv.mono H5.out.2.1.1.size)).setCell (p := ⟨u1.heap.size, 0, none⟩) (by have := HB2.out.1.size; show w.heap.size ≤ u1.heap.size; exact this) _, (H5.out.2.1.2.1.step hv).far (by simpa using hne) _, ?_, (H5.out.2.1.2.2.step hv).far (by simp) _⟩
          show BlkIs _ u1.heap.size 9 #[.string (accR (pre ++ [(x, y)]))]
          rw [hst]
          simpa using h1.put 0 (.string (g2 ++ (⟨#[45]⟩ ++ gy)))
      · have e3 : decide (y > x) = false := decide_eq_false (by omega)
        gi_wp2
        have hst := HST.out
        rw [if_neg (by omega), ← H5.out.2.2.2] at hst
        refine ⟨(H5.out.2.2.1).from _, trivial, H5.out.2.1.1, H5.out.2.1.2.1, ?_, H5.out.2.1.2.2⟩
        show BlkIs W5 u1.heap.size 9 #[.string (accR (pre ++ [(x, y)]))]
        rw [hst]
        exact H5.out.1

end Go.Proofs.YtkladjjeacjgpaaDoor

