/-
  THE READER OF THE WHOLE OF A TEXT; HOW MANY NODES ARE LEFT; WHAT A TREE MUST BE: contracts of package rxparse. Condition: a text has at most 400 bytes; left is asked for at most 300 nodes.
-/
import Derived.Test.YtngagijcdehjpaaPd7
namespace Go.Proofs.Ytngagijcdehjpaa
open Go.RowKit
section
variable {pb : Nat} {s : ByteArray} {F : Value} {fr : Frs} {W W' W0 : World} {i o j o' d : Nat}
theorem alts_all : ∀ d, d ≤ 30 → AltC pb s F fr (30 - d) d
  | 0, _ => fun W i h => by rw [altsP_is]; exact alts_reads group_none (grpP_on 0) h
  | d + 1, hd => fun W i h => by
    rw [altsP_is]
    refine alts_reads (group_some ?_ (by omega)) (grpP_on (d + 1)) h
    have hA := @alts_all d (by omega)
    rwa [show 30 - (d + 1) + 1 = 30 - d by omega]
set_option maxHeartbeats 1000000 in
theorem whole_any (h : Sf pb s F fr W 0 0) : Calls Try.prog 20 #[ptrP pb] W (EndsAs pb s F W (encTree pb W.heap.size) 0 (wholeP s fr)) := by
  have hp := h.lt
  have hpz : W.heap.size ≠ pb := Nat.ne_of_gt hp
  have HA := Lib.hid (h.alloc (.cells zeroL.toArray 31))
  have HSA := Lib.hid (h.st.alloc (.cells zeroL.toArray 31))
  have HZ := Lib.hid (zero_new W)
  have hsz : W.heap.size < (W.alloc (.cells zeroL.toArray 31)).heap.size := by simp
  have hA' := fun W (h : Sf pb s F fr W 0 0) => alts_all (pb := pb) (s := s) (F := F) (fr := fr) 30 (Nat.le_refl _) W 0 h
  simp only [Nat.sub_self] at hA'
  clear h
  unfold wholeP
  rcases hl : altsP s fr 30 0 with q | ⟨T, k⟩
  · simp only [hl] at hA'
    simp only [Res.then]
    unfold zeroL at *
    go_enter Try.func20, Try.ntmps20
    go_wp2_with (first
      | (go_at_call 27; (with_reducible refine (hA' _ HA.out).mono ?_); rintro e W2 ⟨rfl, hk⟩))
    exact ⟨rfl, rfl, HSA.out.kept.trans hk⟩
  simp only [hl] at hA'
  simp only [Res.then]
  by_cases hk : k < s.size
  · rw [if_pos hk]
    have e1 : decide ((k : Int) < (s.size : Int)) = true := by simp; omega
    unfold zeroL at *
    go_enter Try.func20, Try.ntmps20
    go_wp2_with (first
      | (go_at_call 27; (with_reducible refine (hA' _ HA.out).mono ?_); rintro e W2 ⟨rfl, hk⟩)
      | (go_at_call 27; (with_reducible refine (hA' _ HA.out).mono ?_); rintro e W2 ⟨⟨v, rfl, henc⟩, g2⟩; obtain ⟨A, n, c, rfl⟩ := henc.at.form; have HL := Lib.hid (laid hp (HZ.out.kept g2.kept hpz) henc (HSA.out.back g2)); have HTH := Lib.hid (BlkIs.new W2 31 zeroL.toArray).there; unfold zeroL at HTH HL; clear henc)
      | (refine wpList_store_mid rfl 31 (.tmp 3) (.tmp 5) rfl W2.heap.size 0 (reL T.kind T.set A n c T.lo T.hi).toArray rfl rfl HTH.out info_re8 reL_all ?_; clear HTH; have hlz := HL.out; clear HL; revert hlz; generalize World.setCells _ _ _ _ = Wb; intro hlz; obtain ⟨b1, b2, b3, b4, b5⟩ := hlz; obtain ⟨c0, c1, c2, c3, f0, f1, f2, f3⟩ := b4.cells; have B1 := Lib.hid b1; have B2 := Lib.hid b2; have B3 := Lib.hid b3; have B4 := Lib.hid b4; clear b1 b2 b3 b4)
      | (go_quiet (fail))
      | (go_at_call 28; refine (wrongS (B4.out.draw _)).mono ?_; rintro e W7 ⟨rfl, hk⟩))
    exact ⟨rfl, rfl, hk⟩
  · rw [if_neg hk]
    have e1 : decide ((k : Int) < (s.size : Int)) = false := by simp; omega
    unfold zeroL at *
    go_enter Try.func20, Try.ntmps20
    go_wp2_with (first
      | (go_at_call 27; (with_reducible refine (hA' _ HA.out).mono ?_); rintro e W2 ⟨⟨v, rfl, henc⟩, g2⟩; obtain ⟨A, n, c, rfl⟩ := henc.at.form; have HL := Lib.hid (laid hp (HZ.out.kept g2.kept hpz) henc (HSA.out.back g2)); have HTH := Lib.hid (BlkIs.new W2 31 zeroL.toArray).there; unfold zeroL at HTH HL; clear henc)
      | (refine wpList_store_mid rfl 31 (.tmp 3) (.tmp 5) rfl W2.heap.size 0 (reL T.kind T.set A n c T.lo T.hi).toArray rfl rfl HTH.out info_re8 reL_all ?_; clear HTH; have hlz := HL.out; clear HL; revert hlz; generalize World.setCells _ _ _ _ = Wb; intro hlz; obtain ⟨b1, b2, b3, b4, b5⟩ := hlz; obtain ⟨c0, c1, c2, c3, f0, f1, f2, f3⟩ := b4.cells; have B1 := Lib.hid b1; have B2 := Lib.hid b2; have B3 := Lib.hid b3; have B4 := Lib.hid b4; clear b1 b2 b3 b4))
    go_quiet (fail)
    have HD1 := Lib.hid (show BlkIs (Wb.drewN nq) W2.heap.size 31 _ from B1.out)
    have HD2 := Lib.hid (show BlkIs (Wb.drewN nq) W.heap.size 31 _ from B2.out)
    go_wp2_with (first
      | (refine wpList_load_mid rfl 31 (.tmp 3) rfl W2.heap.size 0 rfl (reL T.kind T.set A n c T.lo T.hi) _ HD1.out.range Try.underlying31 rfl info_re8 ?_)
      | (refine wpList_store_mid rfl 31 (.tmp 2) (.tmp 19) rfl W.heap.size 0 (reL T.kind T.set A n c T.lo T.hi).toArray rfl rfl (there8 HD2.out rfl) info_re8 reL_all ?_))
    exact bodyPost_ret (results_cell1 rfl rfl (load_re (store_re HD2.out rfl))) rfl (tree_ends hp hsz (B3.out.kept (Kept.drewN pb Wb nq) (Nat.le_refl _) (Nat.lt_trans hp hsz)) (B4.out.draw nq))
end

theorem nodesL_append : ∀ (l r : List Tree), nodesL (l ++ r) = nodesL l + nodesL r
  | [], r => by simp [nodesL]
  | a :: l, r => by simp only [List.cons_append, nodesL, nodesL_append l r]; omega
/-- how many of n nodes are left -/
def leftN (n : Nat) (T : Tree) : Int := if T.nodes ≤ n then (n : Int) - (T.nodes : Int) else -1
def leftL (n : Nat) (l : List Tree) : Int := if nodesL l + 1 ≤ n then (n : Int) - ((nodesL l + 1 : Nat) : Int) else -1
theorem leftL_take {n : Nat} {l : List Tree} {j : Nat} (h : j < l.length) (h0 : 0 ≤ leftL n (l.take j)) : ∃ m : Nat, leftL n (l.take j) = (m : Int) ∧ m ≤ n ∧ leftN m l[j] = leftL n (l.take (j + 1)) := by
  have h1 := nodesL_take h
  unfold leftL leftN at *
  split at h0
  · refine ⟨n - (nodesL (l.take j) + 1), by rw [if_pos (by assumption)]; omega, by omega, ?_⟩
    rw [h1]
    repeat' split
    all_goals omega
  · omega
theorem leftL_stop {n : Nat} {l : List Tree} {j : Nat} (h0 : leftL n (l.take j) < 0) : leftL n (l.take j) = leftL n l := by
  have h2 : nodesL (l.take j) ≤ nodesL l := by
    rw [← List.take_append_drop j l, nodesL_append]
    simp
  unfold leftL at *
  repeat' split
  all_goals first | omega | (exfalso; rename_i h _; simp [h] at h0; omega)
set_option maxHeartbeats 2000000 in
theorem left_any : ∀ (T : Tree) (v : Value) (n : Nat) (w : World), T.At w v → n ≤ 300 → Calls Try.prog 29 #[.int .i64 (n : Nat), v] w fun e w' => e = .returned (.int .i64 (leftN n T)) ∧ Below w.heap.size w w' := by
  intro T
  induction T using Tree.ind with
  | h k m l lo hi ih =>
    intro v n w hat hn
    obtain ⟨A, c, rfl, hc, hs⟩ := hat.open
    have HS := Lib.hid hs
    have IH := Lib.hid ih
    have hT : leftN n (.node k m l lo hi) = leftL n l := rfl
    rw [hT]
    have h0 : leftL n (l.take 0) = (n : Int) - 1 := by
      unfold leftL
      by_cases hz : nodesL (l.take 0) + 1 ≤ n
      · rw [if_pos hz]; simp [nodesL]
      · rw [if_neg hz]; simp [nodesL] at hz; omega
    have ew : wrap64 ((n : Int) - 1) = (n : Int) - 1 := by unfold wrap64; omega
    clear hat hs ih hT
    unfold reV reL
    go_enter Try.func29, Try.ntmps29
    go_wp2
    have hbox := BlkIs.new w 31 (reL k m A l.length c lo hi).toArray
    unfold reL at hbox
    go_loopw [0, 5] (fun x i wr => ∃ j : Nat, x = .int .i64 (leftL n (l.take j)) ∧ i = .int .i64 j ∧ j ≤ l.length ∧ Hid (Below w.heap.size w wr ∧ BlkIs wr w.heap.size 31 (reL k m A l.length c lo hi).toArray)) (fun _ i _ => l.length - (intOf i).toNat)
    case atStart => exact ⟨0, by rw [h0], rfl, Nat.zero_le _, Lib.hid ⟨(Below.refl _ _).alloc (Nat.le_refl _) _, hbox⟩⟩
    case round =>
      obtain ⟨j, rfl, rfl, hj, HH⟩ := hrel
      obtain ⟨hb, hbl⟩ := HH.out
      have HB := Lib.hid HH.out
      clear hbox h0 ew
      unfold reL at hbl
      obtain ⟨_, _, _, _, _, c5, _, _⟩ := hbl.eight
      by_cases hp : j < l.length
      · have hdl : decide ((j : Int) < (l.length : Int)) = true := by simp; omega
        by_cases hx : 0 ≤ leftL n (l.take j)
        · obtain ⟨q, hq, hqn, hnext⟩ := leftL_take hp hx
          rw [hq]
          have hd2 : decide (0 ≤ (q : Int)) = true := by simp
          obtain ⟨b, o, rfl, hbw, hg⟩ := HS.out (by intro e; subst e; simp at hp)
          obtain ⟨cs, hcat, hlen, hrow⟩ := hg j hp
          obtain ⟨A', n', c', rfl⟩ := hcat.eight
          obtain ⟨r0, r1, r2, r3, r4, r5, r6, r7⟩ := row_eight hrow hb
          have hcat2 := hcat.step hb
          have hcall := IH.out _ (List.getElem_mem hp) _ q wr hcat2 (by omega)
          have hk1 : IntKind.i64.wrap ((j : Int) + 1) = ((j + 1 : Nat) : Int) := by rw [IntKind.wrap_i64]; omega
          rw [hnext] at hcall
          have HC := Lib.hid hcall
          clear hrow hcat hcat2 hcall hg hb hbl hx hq hnext
          go_wp2_with fail
          refine HC.out.mono ?_
          rintro e w1 ⟨rfl, hb1⟩
          have HB1 := Lib.hid hb1
          clear hb1
          go_wp2
          exact ⟨⟨j + 1, rfl, by go_num, hp, Lib.hid ⟨HB.out.1.trans (HB1.out.mono HB.out.1.size), HB.out.2.step HB1.out⟩⟩, by simp [intOf]; omega⟩
        · have hst := leftL_stop (n := n) (l := l) (j := j) (by omega)
          rw [hst] at hx ⊢
          generalize hz : leftL n l = z at *
          have HZ := Lib.hid hz
          clear hz
          have hd2 : decide (0 ≤ z) = false := by simpa using hx
          clear hst hx
          go_wp2
          go_ret
          exact ⟨by rw [HZ.out]; rfl, hb⟩
      · have hdl : decide ((j : Int) < (l.length : Int)) = false := by simp; omega
        obtain rfl : j = l.length := by omega
        rw [List.take_length]
        generalize hz : leftL n l = z at *
        have HZ := Lib.hid hz
        clear hz
        go_wp2
        go_ret
        exact ⟨by rw [HZ.out]; rfl, hb⟩
end Go.Proofs.Ytngagijcdehjpaa

