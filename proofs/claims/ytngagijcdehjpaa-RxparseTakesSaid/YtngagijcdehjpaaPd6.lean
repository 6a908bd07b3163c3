/-
  THE READERS OF ROWS AND ALTERNATIVES of package rxparse: contracts, given one of the reader of groups. Condition: a text has at most 400 bytes.
-/
import Derived.Test.YtngagijcdehjpaaPd5
import Derived.Test.YtngagijcdehjpaaPlace
namespace Go.Proofs.Ytngagijcdehjpaa
open Go.RowKit
section
variable {pb : Nat} {s : ByteArray} {F : Value} {fr : Frs} {W W' : World} {i o j o' : Nat} {grp : Nat → Res Tree}
theorem cell_lit (W : World) (cs : List Value) (t : TypeId) (j : Nat) : (W.alloc (.cells cs.toArray t)).cell? ((⟨W.heap.size, 0, none⟩ : Addr).add j) = cs[j]? := by
  rw [Addr.add_lit, Nat.zero_add]
  have := (BlkIs.new W t cs.toArray).cell j
  rw [this, List.getElem?_toArray]
theorem RowX.form {b : Nat} {v : Value} {l : List Tree} {xs : List Value} (h : RowX pb b W v l xs) : ∃ A c, v = .slice A l.length c := by
  rcases h.1.2 with ⟨h1, h2⟩ | ⟨g, cap, cur, h1, _⟩
  · exact ⟨none, 0, by rw [h1, h2]⟩
  · exact ⟨_, _, h1⟩
theorem RowX.made {b : Nat} {T : Tree} {k lo hi : Int} {m : Nat → Bool} {A : Option Addr} {n c : Nat} (hb : b ≤ W.heap.size) (hT : encTree pb b W T (reV k m A n c lo hi)) :
    RowX pb b (W.alloc (.cells (reL k m A n c lo hi).toArray 31)) (.slice (some ⟨W.heap.size, 0, none⟩) 1 1) [T] (reL k m A n c lo hi) := by
  refine ⟨⟨rfl, .inr ⟨W.heap.size, 1, (reL k m A n c lo hi).toArray, rfl, hb, heap_alloc_new W _, Nat.le_refl _, by unfold maxLen; decide, rfl, rfl⟩⟩, fun i hi => ?_⟩
  obtain rfl : i = 0 := by simpa using hi
  refine hT.sub (hide_sub fun q h1 h2 => ?_)
  rw [Hd_no] at h1 ⊢
  refine ⟨⟨h1.1, ?_⟩, Below.heap_alloc W _ q h2⟩
  intro e; injection e with e; have e' : W.heap.size = q := e; omega
set_option maxHeartbeats 2000000 in
theorem row_reads (hG : GrpC pb s F fr o grp) (hO : GrpOn grp) (h : Sf pb s F fr W i o) : Calls Try.prog 35 #[ptrP pb] W (EndsAs pb s F W (encTree pb W.heap.size) o (rowP grp s fr i)) := by
  have hp := h.lt
  have hpz : W.heap.size ≠ pb := Nat.ne_of_gt hp
  have HA := Lib.hid (h.alloc (.cells zeroL.toArray 31))
  have HSA := Lib.hid (h.st.alloc (.cells zeroL.toArray 31))
  have HZ := Lib.hid (zero_new W)
  have hsz : (W.alloc (.cells zeroL.toArray 31)).heap.size = W.heap.size + 1 := by simp
  have hs4 := h.st.2.2.2
  have his := h.st.2.2.1
  obtain ⟨i0, z0, hi0, hz0, hz1, hz2, hz3⟩ := info_re'
  have HI := Lib.hid (fun W i (h : Sf pb s F fr W i o) => item_any hG h)
  have hse := HSA.out.self
  clear h hG
  unfold rowP
  generalize hR : rowF grp s fr (s.size + 1 - i) [] i = R
  generalize hRR : (R.then fun l j => .ok (rowT 2 emptyT l, j) : Res Tree) = RR
  have HRR := Lib.hid hRR
  have HST := Lib.hid hse
  have HF := Lib.hid hR
  clear hRR hse hR
  unfold zeroL at *
  go_enter Try.func35, Try.ntmps35
  go_wp2
  generalize (W.alloc (.cells #[.int .i64 0, .int .u64 0, .int .u64 0, .int .u64 0, .int .u64 0, .slice none 0 0, .int .i64 0, .int .i64 0] 31)) = Wa at *
  go_loopw [3] (fun v wr => ∃ (l : List Tree) (j k : Nat), Hid (rowF grp s fr k l j = R ∧ s.size < k + j ∧ l.length ≤ j ∧ St pb s F Wa wr j o ∧ RowJ pb (W.heap.size + 1) wr v l)) (fun _ wr => s.size - plc pb wr)
  case atStart => exact ⟨_, _, _, Lib.hid ⟨HF.out, by omega, Nat.zero_le _, HST.out, RowJ.nil _⟩⟩
  case round =>
    obtain ⟨l, j, k, HH⟩ := hrel
    obtain ⟨hF, hk, hlj, hS, xs, hX⟩ := HH.out
    have hjs := hS.2.2.1
    have hin : i < s.size + 1 := by omega
    obtain ⟨k, rfl⟩ : ∃ k', k = k' + 1 := ⟨k - 1, by omega⟩
    rw [rowF] at hF
    have hE := fun W W0 (h : St pb s F W0 W j o) => rowEnds_any h
    have hpb : pb < W.heap.size + 1 := by omega
    have hbw : W.heap.size + 1 ≤ wr.heap.size := by have := hS.kept.1.size; omega
    have HS := Lib.hid hS
    have HX := Lib.hid hX
    clear HH
    cases hend : endsP s j
    · rw [if_neg (by rw [hend]; decide)] at hF
      simp only [hend] at hE
      have hI := HI.out
      rcases hl : itemP grp s fr j with q | ⟨T, j2⟩
      · rw [hl] at hF
        simp only [Res.then] at hF
        replace hI := fun W (h : Sf pb s F fr W j o) => hI W j h
        simp only [hl] at hI
        have fin : ∀ W2, Kept pb Wa W2 → EndsAs pb s F W (encTree pb W.heap.size) o RR (.panicked [{ v := fltV q, recovered := false }]) W2 := fun W2 hk2 => by
          rw [← HRR.out, ← hF]; exact ⟨rfl, HSA.out.kept.trans hk2⟩
        clear hF hX hS
        go_wp2_with (first
          | (go_at_call 39; (with_reducible refine (hE _ _ HS.out.self).mono ?_); rintro e W2 ⟨rfl, g2⟩)
          | (go_at_call 40; (with_reducible refine (hI _ (HA.out.to (HS.out.back g2))).mono ?_); rintro e W3 ⟨rfl, hk3⟩))
        exact ⟨rfl, fin _ (HS.out.kept.trans (g2.kept.trans hk3))⟩
      · rw [hl] at hF
        simp only [Res.then] at hF
        replace hI := fun W (h : Sf pb s F fr W j o) => hI W j h
        simp only [hl] at hI
        have hon := itemP_on hO hl
        have HFF := Lib.hid hF
        clear hF hX hS
        go_wp2_with (first
          | (go_at_call 39; (with_reducible refine (hE _ _ HS.out.self).mono ?_); rintro e W2 ⟨rfl, g2⟩; have hb2 : W.heap.size + 1 ≤ W2.heap.size := Nat.le_trans hbw g2.kept.1.size)
          | (go_at_call 40; (with_reducible refine (hI _ (HA.out.to (HS.out.back g2))).mono ?_); rintro e W3 ⟨⟨u, rfl, henc⟩, g3⟩; obtain ⟨A, n, c, rfl⟩ := henc.at.form; have hb3 : W2.heap.size ≤ W3.heap.size := g3.kept.1.size; have HENC := Lib.hid henc; have HS3 := Lib.hid (HS.out.back (g2.back g3)); have HX3 := Lib.hid (((HX.out.kept (g2.kept.trans g3.kept) hpb).alloc hpb (Nat.le_trans hb2 hb3) (.cells (reL T.kind T.set A n c T.lo T.hi).toArray 31))); have HSZ : Hid (W.heap.size + 1 ≤ (W3.alloc (.cells (reL T.kind T.set A n c T.lo T.hi).toArray 31)).heap.size) := Lib.hid (by simp; omega); have HOW := Lib.hid (fun k (hk : u3.ownBlock = some k) => Nat.lt_of_lt_of_le (HX.out.own hk).2 g2.kept.1.size); unfold reV reL at *; clear henc g2 g3)
          | (at_builtin; refine wpList_append_own_at _ rfl _ _ 29 rfl (W.heap.size + 1) 31 i0 z0 8 80 Try.underlying29 hi0 hz0 hz1 hz2 hz3 (by decide) u3 l.length xs rfl HX3.out.1 ⟨W3.heap.size, 0, none⟩ 1 1 [.int .i64 T.kind, .int .u64 (wd T.set 0 : Nat), .int .u64 (wd T.set 1 : Nat), .int .u64 (wd T.set 2 : Nat), .int .u64 (wd T.set 3 : Nat), .slice A n c, .int .i64 T.lo, .int .i64 T.hi] rfl rfl (fun j u hj => (cell_lit W3 [.int .i64 T.kind, .int .u64 (wd T.set 0 : Nat), .int .u64 (wd T.set 1 : Nat), .int .u64 (wd T.set 2 : Nat), .int .u64 (wd T.set 3 : Nat), .slice A n c, .int .i64 T.lo, .int .i64 T.hi] 31 j).trans hj) (by intro u hu; simp at hu; rcases hu with rfl | rfl | rfl | rfl | rfl | rfl | rfl | rfl <;> rfl) (by unfold maxLen; omega) (by omega) HSZ.out ?_; intro v' w5 hown' hgrow hnil hat'))
        have hx3 := HX3.out
        have hS5 := (HS3.out.alloc _).grown hgrow (fun k hk => by have := (hx3.own hk).1; omega) (by omega)
        have hj2 := hS5.2.2.1
        refine ⟨⟨l ++ [T], j2, k, Lib.hid ⟨HFF.out, by omega, by simp; omega, hS5, _, hx3.snoc (HENC.out.kept (Kept.alloc pb W3 _ (by omega)) (Nat.le_refl _) (by omega)) rfl hb2 HOW.out hpb hown' hgrow hat'⟩⟩, ?_⟩
        have p1 := hS5.plc
        have p2 := HS.out.plc
        rw [p1, p2]
        omega
    · rw [if_pos hend] at hF
      simp only [hend] at hE
      have fin : ∀ T W2 e, EndsAs pb s F W (encTree pb W.heap.size) o (.ok (T, j)) e W2 → rowT 2 emptyT l = T → EndsAs pb s F W (encTree pb W.heap.size) o RR e W2 := fun T W2 e he ht => by
        rw [← HRR.out, ← hF]
        simp only [Res.then, ht]
        exact he
      have FIN := Lib.hid fin
      clear fin hF hX hS
      match l, hlj, HX, FIN with
      | [], _, HX, FIN =>
        have e0 : (((0 : Nat) : Int) == 0) = true := rfl
        obtain ⟨A, c, rfl⟩ := HX.out.form
        simp only [List.length_nil] at *
        clear HX
        go_wp2_with (first
          | (go_at_call 39; (with_reducible refine (hE _ _ HS.out.self).mono ?_); rintro e W2 ⟨rfl, g2⟩; have HZ2 := (HZ.out.kept HS.out.kept hpz).kept g2.kept hpz; have HS2 := Lib.hid (HSA.out.back (HS.out.back g2)))
          | (refine wpList_store_mid rfl 31 (.tmp 2) (.tmp 16) rfl W.heap.size 0 (reL 0 (fun _ => false) none 0 0 0 0).toArray rfl (by simp only [reL, wd_zero]; rfl) (there8 HZ2 rfl) info_re8 reL_all ?_))
        exact bodyPost_ret (results_cell1 rfl rfl (load_re (store_re HZ2 rfl))) rfl (FIN.out _ _ _ (tree_ends hp (Nat.lt_succ_self _) (encTree.byte 0 fun _ => false) HS2.out) rfl)
      | [t], _, HX, FIN =>
        obtain ⟨g, c, A, n, c', rfl, hc1, _, _⟩ := HX.out.one (Nat.le_refl _)
        simp only [List.length_cons, List.length_nil, Nat.zero_add] at *
        go_wp2_with (first
          | (go_at_call 39; (with_reducible refine (hE _ _ HS.out.self).mono ?_); rintro e W2 ⟨rfl, g2⟩; have HZ2 := (HZ.out.kept HS.out.kept hpz).kept g2.kept hpz; have HS2 := Lib.hid (HSA.out.back (HS.out.back g2)); have HX2 := HX.out.kept g2.kept hpb; obtain ⟨g', c2, A, n, c', hv, hc2, hrng, henc⟩ := HX2.one (Nat.le_refl _); injection hv with hv1 hv2 hv3; injection hv1 with hv1; injection hv1 with hv1; subst hv1 hv3; have HENC := Lib.hid henc; have HRNG := Lib.hid hrng; clear HX2 henc hrng)
          | (refine wpList_load_mid rfl 31 (.tmp 20) rfl g 0 rfl (reL t.kind t.set A n c' t.lo t.hi) _ HRNG.out Try.underlying31 rfl info_re8 ?_)
          | (refine wpList_store_mid rfl 31 (.tmp 2) (.tmp 21) rfl W.heap.size 0 (reL t.kind t.set A n c' t.lo t.hi).toArray rfl rfl (there8 HZ2 rfl) info_re8 reL_all ?_))
        exact bodyPost_ret (results_cell1 rfl rfl (load_re (store_re HZ2 rfl))) rfl (FIN.out _ _ _ (tree_ends hp (Nat.lt_succ_self _) HENC.out HS2.out) rfl)
      | t :: t2 :: r, _, HX, FIN =>
        have e0 : (((t :: t2 :: r).length : Int) == 0) = false := by simp; omega
        have e1 : (((t :: t2 :: r).length : Int) == 1) = false := by simp; omega
        obtain ⟨g, c, rfl, _⟩ := HX.out.tree (by simp) 2 (Nat.le_refl _)
        have hrt : rowT 2 emptyT (t :: t2 :: r) = .node 2 (fun _ => false) (t :: t2 :: r) 0 0 := rfl
        generalize hlen : (t :: t2 :: r).length = nn at *
        go_wp2_with (first
          | (go_at_call 39; (with_reducible refine (hE _ _ HS.out.self).mono ?_); rintro e W2 ⟨rfl, g2⟩; have HZ2 := (HZ.out.kept HS.out.kept hpz).kept g2.kept hpz; have HS2 := Lib.hid (HSA.out.back (HS.out.back g2)); have HX2 := Lib.hid (HX.out.kept g2.kept hpb))
          | (refine wpList_store_mid rfl 31 (.tmp 2) (.tmp 23) rfl W.heap.size 0 (reL 2 (fun _ => false) (some ⟨g, 0, none⟩) nn c 0 0).toArray rfl (by simp only [reL, wd_zero]; rfl) (there8 HZ2 rfl) info_re8 reL_all ?_))
        obtain ⟨g', c2, hv, henc⟩ := HX2.out.tree (by simp) 2 (Nat.le_refl _)
        rw [hlen] at hv henc
        injection hv with hv1 hv2 hv3
        injection hv1 with hv1
        injection hv1 with hv1
        subst hv1 hv3
        exact bodyPost_ret (results_cell1 rfl rfl (load_re (store_re HZ2 rfl))) rfl (FIN.out _ _ _ (tree_ends hp (Nat.lt_succ_self _) henc HS2.out) hrt)

def altQ (grp : Nat → Res Tree) (s : ByteArray) (fr : Frs) (t : Tree) (j : Nat) : Res Tree := (altF grp s fr (s.size + 1 - j) [t] j).then fun l k => .ok (rowT 3 emptyT l, k)
set_option maxHeartbeats 2000000 in
theorem alts_reads (hG : GrpC pb s F fr o grp) (hO : GrpOn grp) (h : Sf pb s F fr W i o) : Calls Try.prog 27 #[ptrP pb] W (EndsAs pb s F W (encTree pb W.heap.size) o (altP grp s fr i)) := by
  have hp := h.lt
  have hpz : W.heap.size ≠ pb := Nat.ne_of_gt hp
  have HA := Lib.hid (h.alloc (.cells zeroL.toArray 31))
  have HSA := Lib.hid (h.st.alloc (.cells zeroL.toArray 31))
  have HZ := Lib.hid (zero_new W)
  have hsz : (W.alloc (.cells zeroL.toArray 31)).heap.size = W.heap.size + 1 := by simp
  have hs4 := h.st.2.2.2
  have his := h.st.2.2.1
  obtain ⟨i0, z0, hi0, hz0, hz1, hz2, hz3⟩ := info_re'
  have hI := fun W i (h : Sf pb s F fr W i o) => row_reads hG hO h
  have HI := Lib.hid hI
  have hse := HSA.out.self
  clear h hG
  rw [show altP grp s fr i = (rowP grp s fr i).then (altQ grp s fr) from rfl]
  have hr0 := fun W (h : Sf pb s F fr W i o) => hI W i h
  clear hI
  rcases hl0 : rowP grp s fr i with q | ⟨T0, j0⟩
  · simp only [hl0] at hr0
    simp only [Res.then]
    clear hse
    unfold zeroL at *
    go_enter Try.func27, Try.ntmps27
    go_wp2_with (first
      | (go_at_call 35; (with_reducible refine (hr0 _ HA.out).mono ?_); rintro e W3 ⟨rfl, hk3⟩))
    exact ⟨rfl, rfl, HSA.out.kept.trans hk3⟩
  simp only [hl0] at hr0
  simp only [Res.then]
  have hon0 := rowP_on hO hl0
  unfold altQ
  generalize hR : altF grp s fr (s.size + 1 - j0) [T0] j0 = R
  generalize hRR : (Res.then R fun l k => .ok (rowT 3 emptyT l, k) : Res Tree) = RR
  have HRR := Lib.hid hRR
  have HST := Lib.hid hse
  have HF := Lib.hid hR
  clear hRR hse hR
  unfold zeroL at *
  go_enter Try.func27, Try.ntmps27
  go_wp2_with (first
    | (go_at_call 35; (with_reducible refine (hr0 _ HA.out).mono ?_); rintro e W3 ⟨⟨u, rfl, henc⟩, g3⟩; obtain ⟨A, n, c, rfl⟩ := henc.at.form; have HENC := Lib.hid henc; have hb3 : W.heap.size + 1 ≤ W3.heap.size := Nat.le_trans (Nat.le_of_eq hsz.symm) g3.kept.1.size; have HX0 := Lib.hid (RowX.made (pb := pb) hb3 (henc.kept (Kept.refl pb W3) (Nat.le_of_eq hsz.symm) (by omega))); have HS0 := Lib.hid (g3.alloc (.cells (reL T0.kind T0.set A n c T0.lo T0.hi).toArray 31)); unfold reV reL at *; clear henc g3 hr0))
  have hj0 := HS0.out.2.2.1
  generalize (W.alloc (.cells #[.int .i64 0, .int .u64 0, .int .u64 0, .int .u64 0, .int .u64 0, .slice none 0 0, .int .i64 0, .int .i64 0] 31)) = Wa at *
  revert HX0 HS0
  generalize hW4 : World.alloc W3 _ = W4
  intro HX0 HS0
  clear hW4
  go_loopw [3] (fun v wr => ∃ (l : List Tree) (j k : Nat), Hid (altF grp s fr k l j = R ∧ l ≠ [] ∧ s.size < k + j ∧ l.length ≤ j + 1 ∧ St pb s F Wa wr j o ∧ RowJ pb (W.heap.size + 1) wr v l)) (fun _ wr => s.size - plc pb wr)
  case atStart => exact ⟨_, _, _, Lib.hid ⟨HF.out, by simp, by omega, by simp, HS0.out, _, HX0.out⟩⟩
  case round =>
    obtain ⟨l, j, k, HH⟩ := hrel
    obtain ⟨hF, hne, hk, hlj, hS, xs, hX⟩ := HH.out
    have hjs := hS.2.2.1
    obtain ⟨k, rfl⟩ : ∃ k', k = k' + 1 := ⟨k - 1, by omega⟩
    rw [altF] at hF
    have hpb : pb < W.heap.size + 1 := by omega
    have hbw : W.heap.size + 1 ≤ wr.heap.size := by have := hS.kept.1.size; omega
    have HS := Lib.hid hS
    have HX := Lib.hid hX
    clear HH
    cases hend : isAt s j 124
    case true =>
      rw [if_pos hend] at hF
      have hE : ∀ W W0, St pb s F W0 W j o → Calls Try.prog 36 #[ptrP pb, .int .u8 124] W fun e W' => e = .returned (.bool true) ∧ St pb s F W0 W' (j + 1) o := fun _ _ h => tookY 124 h hend
      have hI := fun W (h : Sf pb s F fr W (j + 1) o) => HI.out W (j + 1) h
      rcases hl : rowP grp s fr (j + 1) with q | ⟨T, j2⟩
      · rw [hl] at hF
        simp only [Res.then] at hF
        simp only [hl] at hI
        have fin : ∀ W2, Kept pb Wa W2 → EndsAs pb s F W (encTree pb W.heap.size) o RR (.panicked [{ v := fltV q, recovered := false }]) W2 := fun W2 hk2 => by
          rw [← HRR.out, ← hF]; exact ⟨rfl, HSA.out.kept.trans hk2⟩
        clear hF hX hS
        go_wp2_with (first
          | (go_at_call 36; (with_reducible refine (hE _ _ HS.out.self).mono ?_); rintro e W2 ⟨rfl, g2⟩)
          | (go_at_call 35; (with_reducible refine (hI _ (HA.out.to (HS.out.back g2))).mono ?_); rintro e W3 ⟨rfl, hk3⟩))
        exact ⟨rfl, fin _ (HS.out.kept.trans (g2.kept.trans hk3))⟩
      · rw [hl] at hF
        simp only [Res.then] at hF
        simp only [hl] at hI
        have hon := rowP_on hO hl
        have HFF := Lib.hid hF
        have hjl := isAt_lt hend
        clear hF hX hS
        go_wp2_with (first
          | (go_at_call 36; (with_reducible refine (hE _ _ HS.out.self).mono ?_); rintro e W2 ⟨rfl, g2⟩; have hb2 : W.heap.size + 1 ≤ W2.heap.size := Nat.le_trans hbw g2.kept.1.size)
          | (go_at_call 35; (with_reducible refine (hI _ (HA.out.to (HS.out.back g2))).mono ?_); rintro e W3 ⟨⟨u, rfl, henc⟩, g3⟩; obtain ⟨A, n, c, rfl⟩ := henc.at.form; have hb3 : W2.heap.size ≤ W3.heap.size := g3.kept.1.size; have HENC := Lib.hid henc; have HS3 := Lib.hid (HS.out.back (g2.back g3)); have HX3 := Lib.hid (((HX.out.kept (g2.kept.trans g3.kept) hpb).alloc hpb (Nat.le_trans hb2 hb3) (.cells (reL T.kind T.set A n c T.lo T.hi).toArray 31))); have HSZ : Hid (W.heap.size + 1 ≤ (W3.alloc (.cells (reL T.kind T.set A n c T.lo T.hi).toArray 31)).heap.size) := Lib.hid (by simp; omega); have HOW := Lib.hid (fun k (hk : u3.ownBlock = some k) => Nat.lt_of_lt_of_le (HX.out.own hk).2 g2.kept.1.size); unfold reV reL at *; clear henc g2 g3)
          | (at_builtin; refine wpList_append_own_at _ rfl _ _ 29 rfl (W.heap.size + 1) 31 i0 z0 8 80 Try.underlying29 hi0 hz0 hz1 hz2 hz3 (by decide) u3 l.length xs rfl HX3.out.1 ⟨W3.heap.size, 0, none⟩ 1 1 [.int .i64 T.kind, .int .u64 (wd T.set 0 : Nat), .int .u64 (wd T.set 1 : Nat), .int .u64 (wd T.set 2 : Nat), .int .u64 (wd T.set 3 : Nat), .slice A n c, .int .i64 T.lo, .int .i64 T.hi] rfl rfl (fun j u hj => (cell_lit W3 [.int .i64 T.kind, .int .u64 (wd T.set 0 : Nat), .int .u64 (wd T.set 1 : Nat), .int .u64 (wd T.set 2 : Nat), .int .u64 (wd T.set 3 : Nat), .slice A n c, .int .i64 T.lo, .int .i64 T.hi] 31 j).trans hj) (by intro u hu; simp at hu; rcases hu with rfl | rfl | rfl | rfl | rfl | rfl | rfl | rfl <;> rfl) (by unfold maxLen; omega) (by omega) HSZ.out ?_; intro v' w5 hown' hgrow hnil hat'))
        have hx3 := HX3.out
        have hS5 := (HS3.out.alloc _).grown hgrow (fun k hk => by have := (hx3.own hk).1; omega) (by omega)
        have hj2 := hS5.2.2.1
        refine ⟨⟨l ++ [T], j2, k, Lib.hid ⟨HFF.out, by simp, by omega, by simp; omega, hS5, _, hx3.snoc (HENC.out.kept (Kept.alloc pb W3 _ (by omega)) (Nat.le_refl _) (by omega)) rfl hb2 HOW.out hpb hown' hgrow hat'⟩⟩, ?_⟩
        have p1 := hS5.plc
        have p2 := HS.out.plc
        rw [p1, p2]
        omega
    have hE : ∀ W W0, St pb s F W0 W j o → Calls Try.prog 36 #[ptrP pb, .int .u8 124] W fun e W' => e = .returned (.bool false) ∧ St pb s F W0 W' j o := fun _ _ h => tookN 124 h hend
    rw [if_neg (by rw [hend]; decide)] at hF
    have fin : ∀ T W2 e, EndsAs pb s F W (encTree pb W.heap.size) o (.ok (T, j)) e W2 → rowT 3 emptyT l = T → EndsAs pb s F W (encTree pb W.heap.size) o RR e W2 := fun T W2 e he ht => by
      rw [← HRR.out, ← hF]
      simp only [Res.then, ht]
      exact he
    have FIN := Lib.hid fin
    clear fin hF hX hS
    match l, hne, hlj, HX, FIN with
    | [], hne, _, _, _ => exact absurd rfl hne
    | [t], _, _, HX, FIN =>
      obtain ⟨g, c, A, n, c', rfl, hc1, _, _⟩ := HX.out.one (Nat.le_refl _)
      simp only [List.length_cons, List.length_nil, Nat.zero_add] at *
      go_wp2_with (first
        | (go_at_call 36; (with_reducible refine (hE _ _ HS.out.self).mono ?_); rintro e W2 ⟨rfl, g2⟩; have HZ2 := (HZ.out.kept HS.out.kept hpz).kept g2.kept hpz; have HS2 := Lib.hid (HSA.out.back (HS.out.back g2)); have HX2 := HX.out.kept g2.kept hpb; obtain ⟨g', c2, A, n, c', hv, hc2, hrng, henc⟩ := HX2.one (Nat.le_refl _); injection hv with hv1 hv2 hv3; injection hv1 with hv1; injection hv1 with hv1; subst hv1 hv3; have HENC := Lib.hid henc; have HRNG := Lib.hid hrng; clear HX2 henc hrng)
        | (refine wpList_load_mid rfl 31 (.tmp 18) rfl g 0 rfl (reL t.kind t.set A n c' t.lo t.hi) _ HRNG.out Try.underlying31 rfl info_re8 ?_)
        | (refine wpList_store_mid rfl 31 (.tmp 2) (.tmp 19) rfl W.heap.size 0 (reL t.kind t.set A n c' t.lo t.hi).toArray rfl rfl (there8 HZ2 rfl) info_re8 reL_all ?_))
      exact bodyPost_ret (results_cell1 rfl rfl (load_re (store_re HZ2 rfl))) rfl (FIN.out _ _ _ (tree_ends hp (Nat.lt_succ_self _) HENC.out HS2.out) rfl)
    | t :: t2 :: r, _, _, HX, FIN =>
      have e0 : (((t :: t2 :: r).length : Int) == 0) = false := by simp; omega
      have e1 : (((t :: t2 :: r).length : Int) == 1) = false := by simp; omega
      obtain ⟨g, c, rfl, _⟩ := HX.out.tree (by simp) 3 (Nat.le_refl _)
      have hrt : rowT 3 emptyT (t :: t2 :: r) = .node 3 (fun _ => false) (t :: t2 :: r) 0 0 := rfl
      generalize hlen : (t :: t2 :: r).length = nn at *
      go_wp2_with (first
        | (go_at_call 36; (with_reducible refine (hE _ _ HS.out.self).mono ?_); rintro e W2 ⟨rfl, g2⟩; have HZ2 := (HZ.out.kept HS.out.kept hpz).kept g2.kept hpz; have HS2 := Lib.hid (HSA.out.back (HS.out.back g2)); have HX2 := Lib.hid (HX.out.kept g2.kept hpb))
        | (refine wpList_store_mid rfl 31 (.tmp 2) (.tmp 21) rfl W.heap.size 0 (reL 3 (fun _ => false) (some ⟨g, 0, none⟩) nn c 0 0).toArray rfl (by simp only [reL, wd_zero]; rfl) (there8 HZ2 rfl) info_re8 reL_all ?_))
      obtain ⟨g', c2, hv, henc⟩ := HX2.out.tree (by simp) 3 (Nat.le_refl _)
      rw [hlen] at hv henc
      injection hv with hv1 hv2 hv3
      injection hv1 with hv1
      injection hv1 with hv1
      subst hv1 hv3
      exact bodyPost_ret (results_cell1 rfl rfl (load_re (store_re HZ2 rfl))) rfl (FIN.out _ _ _ (tree_ends hp (Nat.lt_succ_self _) henc HS2.out) hrt)
end
end Go.Proofs.Ytngagijcdehjpaa

