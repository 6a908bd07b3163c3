/-
  WHAT hacklelaw01's OctsParts ANSWERS: true. Condition: the table of math/bits lies as it is laid.
-/
import Derived.Test.YtjhdacckodoohaaDoorLaw1a
namespace Go.Proofs.YtjhdacckodoohaaDoor
open Go.RowKit

theorem cnt_parts (m n : Nat → Bool) : ∀ t, cntN (sLess m n) t + cntN (sLess n m) t + cntN (sAnd m n) t = cntN (sOr m n) t
  | 0 => rfl
  | t + 1 => by
    have ih := cnt_parts m n t
    unfold cntN
    cases hm : m t <;> cases hn : n t <;> simp [sLess, sAnd, sOr, hm, hn] <;> omega

theorem cnt_not (m : Nat → Bool) : ∀ t, cntN m t + cntN (sNot m) t = t
  | 0 => rfl
  | t + 1 => by
    have ih := cnt_not m t
    unfold cntN
    cases hm : m t <;> simp [sNot, hm] <;> omega

def four (f : Nat → Nat) : Array Value := #[.int .u64 (f 0 : Nat), .int .u64 (f 1 : Nat), .int .u64 (f 2 : Nat), .int .u64 (f 3 : Nat)]
theorem four_one (f : Nat → Nat) : (four f).all (·.oneCell') = true := by simp [four, Value.oneCell']
theorem infoSet : (Tryd.prog.info? 27).map (·.size) = some 4 := by kernel_rfl

set_option maxRecDepth 100000 in
set_option maxHeartbeats 1000000 in
theorem octsParts_any (m n : Nat → Bool) (w : World) (hT : Tab w) :
    Calls Tryd.prog 6 #[setV m, setV n] w (TrueIs w) := by
  have q0 := eql_true (m := sOr (sOr (sLess m n) (sLess n m)) (sAnd m n)) (n := sOr m n) (fun b _ => by simp only [sOr, sAnd, sLess]; cases m b <;> cases n b <;> rfl)
  have q1 := eql_true (m := sNot (sNot m)) (n := m) (fun b _ => by simp [sNot])
  have hal := alive_any
  have c1 := count_any (sLess m n)
  have c2 := count_any (sLess n m)
  have c3 := count_any (sAnd m n)
  have c4 := count_any (sOr m n)
  have c5 := count_any m
  have c6 := count_any (sNot m)
  have s1 := cnt_parts m n 256
  have s2 := cnt_not m 256
  have l4 := cntN_le (sOr m n) 256
  generalize cntN (sLess m n) 256 = k1 at *
  generalize cntN (sLess n m) 256 = k2 at *
  generalize cntN (sAnd m n) 256 = k3 at *
  generalize cntN (sOr m n) 256 = k4 at *
  generalize cntN m 256 = k5 at *
  generalize cntN (sNot m) 256 = k6 at *
  obtain ⟨k12, h12⟩ : ∃ x, x = k1 + k2 := ⟨_, rfl⟩
  have e1 : IntKind.i64.wrap ((k1 : Int) + (k2 : Int)) = (k12 : Int) := by rw [IntKind.wrap_i64]; omega
  have e2 : IntKind.i64.wrap ((k12 : Int) + (k3 : Int)) = (k4 : Int) := by rw [IntKind.wrap_i64]; omega
  have e3 : IntKind.i64.wrap ((k5 : Int) + (k6 : Int)) = 256 := by rw [IntKind.wrap_i64]; omega
  clear s1 s2 l4 h12
  have a1 := any_any (sLess m n) (sLess n m)
  have a2 := any_any (sOr (sLess m n) (sLess n m)) (sAnd m n)
  have a3 := any_any m n
  have n1 := not_any m
  have n2 := not_any (sNot m)
  have b1 := less_any m n
  have b2 := less_any n m
  have b3 := both_any m n
  unfold setV at *
  generalize wd (sOr (sOr (sLess m n) (sLess n m)) (sAnd m n)) = f0 at *
  generalize wd (sOr (sLess m n) (sLess n m)) = f1 at *
  generalize wd (sOr m n) = f2 at *
  generalize wd (sLess m n) = fx at *
  generalize wd (sLess n m) = fy at *
  generalize wd (sAnd m n) = fz at *
  generalize wd (sNot (sNot m)) = f3 at *
  generalize wd (sNot m) = f4 at *
  generalize wd m = fm at *
  generalize wd n = fn at *
  have HT := Lib.hid hT
  have HA := Lib.hid hal
  have HC := Lib.hid (And.intro c1 (And.intro c2 (And.intro c3 (And.intro c4 (And.intro c5 c6)))))
  have HD := Lib.hid (And.intro a1 (And.intro a2 (And.intro a3 (And.intro n1 (And.intro n2 (And.intro b1 (And.intro b2 b3)))))))
  clear hT hal c1 c2 c3 c4 c5 c6 a1 a2 a3 n1 n2 b1 b2 b3
  go_enter Tryd.func6, Tryd.ntmps6
  go_wp2_with fail
  have hx0 := (BlkIs.new w 27 #[.int .u64 (fm 0 : Nat), .int .u64 (fm 1 : Nat), .int .u64 (fm 2 : Nat), .int .u64 (fm 3 : Nat)]).alloc (.cells #[.int .u64 (fn 0 : Nat), .int .u64 (fn 1 : Nat), .int .u64 (fn 2 : Nat), .int .u64 (fn 3 : Nat)] 27)
  have hy0 := BlkIs.new (w.alloc (.cells #[.int .u64 (fm 0 : Nat), .int .u64 (fm 1 : Nat), .int .u64 (fm 2 : Nat), .int .u64 (fm 3 : Nat)] 27)) 27 #[.int .u64 (fn 0 : Nat), .int .u64 (fn 1 : Nat), .int .u64 (fn 2 : Nat), .int .u64 (fn 3 : Nat)]
  rw [World.size_alloc] at hy0
  have hB0 : Below w.heap.size w ((w.alloc (.cells #[.int .u64 (fm 0 : Nat), .int .u64 (fm 1 : Nat), .int .u64 (fm 2 : Nat), .int .u64 (fm 3 : Nat)] 27)).alloc (.cells #[.int .u64 (fn 0 : Nat), .int .u64 (fn 1 : Nat), .int .u64 (fn 2 : Nat), .int .u64 (fn 3 : Nat)] 27)) := ((Below.refl _ _).alloc (Nat.le_refl _) _).alloc (by simp) _
  refine (HA.out _ (HT.out.step hB0)).mono ?_
  rintro e w2 ⟨rfl, hb2⟩
  have HB := Lib.hid (hB0.trans (hb2.mono hB0.size))
  have HX := Lib.hid (hx0.step hb2)
  have HY := Lib.hid (hy0.step hb2)
  clear hx0 hy0 hB0 hb2
  go_wp2_with fail
  refine wp_region_free 9 12 59 (fun u => BlkIs u w.heap.size 27 #[.int .u64 (fm 0 : Nat), .int .u64 (fm 1 : Nat), .int .u64 (fm 2 : Nat), .int .u64 (fm 3 : Nat)] ∧ BlkIs u (w.heap.size + 1) 27 #[.int .u64 (fn 0 : Nat), .int .u64 (fn 1 : Nat), .int .u64 (fn 2 : Nat), .int .u64 (fn 3 : Nat)])
    (fun _ => #[.int .u64 0, .int .u64 0, .int .u64 0, .int .u64 0]) (fun _ => 27) (by kernel_rfl) (by kernel_rfl) rfl ⟨HX.out.drew, HY.out.drew⟩ (fun u u' h hb => ⟨h.1.step hb, h.2.step hb⟩) ?_ ?_
  · intro i o h1 h2 ho
    have hi : i = 9 ∨ i = 10 ∨ i = 11 := by omega
    rcases hi with rfl | rfl | rfl <;> (simp at ho; subst ho; refine ⟨rfl, fun a u => ?_⟩; go_simp)
  · simp only [List.take_succ_cons, List.take_zero, List.drop_succ_cons, List.drop_zero]
    repeat
      refine freeW_step fun K hK => ?_
      go_simp
      apply Exists.intro
      refine ⟨fun u h1 h2 => ?_, hK _ ?_⟩
      obtain ⟨c0, c1, c2, c3, _⟩ := h1.four
      obtain ⟨d0, d1, d2, d3, _⟩ := h2.four
      unfold freeAt
      go_simp
      first
        | exact free_val
        | (apply free_call
           first
             | (go_at_call 15; first | with_reducible exact HD.out.2.2.2.2.2.1 _ | with_reducible exact HD.out.2.2.2.2.2.2.1 _)
             | (go_at_call 14; with_reducible exact HD.out.2.2.2.2.2.2.2 _))
      clear hK K
    refine freeW_nil ?_
    intro g u hC hb hn hd
    obtain ⟨hp0, hp1⟩ := hn 9 (by omega) (by omega)
    obtain ⟨hq0, hq1⟩ := hn 10 (by omega) (by omega)
    obtain ⟨hr0, hr1⟩ := hn 11 (by omega) (by omega)
    have hpq := hd 9 10 (by omega) (by omega) (by omega)
    have hpr := hd 9 11 (by omega) (by omega) (by omega)
    have hqr := hd 10 11 (by omega) (by omega) (by omega)
    simp only [putNews, Act.put, List.setIfInBounds_toArray, List.set_cons_zero, List.set_cons_succ]
    generalize g 9 = p at *
    generalize g 10 = q at *
    generalize g 11 = r at *
    obtain ⟨hx, hy⟩ := hC
    have hw2 := HX.out.lt
    have hw3 := HY.out.lt
    have hB := HB.out.trans (hb.mono HB.out.size)
    have hz : w.heap.size ≤ w2.heap.size := HB.out.size
    have px : w.heap.size ≠ p := by omega
    have py : w.heap.size + 1 ≠ p := by omega
    have qx : w.heap.size ≠ q := by omega
    have qy : w.heap.size + 1 ≠ q := by omega
    have rx : w.heap.size ≠ r := by omega
    have ry : w.heap.size + 1 ≠ r := by omega
    have ht1 := hp1.there
    have k1 := hp1.fill (new := four fx) rfl
    have kq := BlkIs.farCells (Ne.symm hpq) (four fx).toList 0 u hq1
    have kr := BlkIs.farCells (Ne.symm hpr) (four fx).toList 0 u hr1
    have kx := BlkIs.farCells px (four fx).toList 0 u hx
    have ky := BlkIs.farCells py (four fx).toList 0 u hy
    have hB1 := below_setCells (B := w.heap.size) p (by omega) (four fx).toList 0 u hB
    have H1 := Lib.hid (And.intro ht1 (And.intro k1 (And.intro kq (And.intro kr (And.intro kx (And.intro ky hB1))))))
    clear ht1 k1 kq kr kx ky hB1 hb hn hd hx hy hp1 hq1 hr1 hB
    refine wpList_store_mid rfl 27 (.tmp 5) (.tmp 12) rfl p 0 (four fx) rfl rfl H1.out.1 infoSet (four_one _) ?_
    simp only [Act.put]
    generalize u.setCells p 0 (four fx).toList = u1 at *
    have ht2 := H1.out.2.2.1.there
    have k2 := H1.out.2.2.1.fill (new := four fy) rfl
    have kp := BlkIs.farCells hpq (four fy).toList 0 _ H1.out.2.1
    have kr := BlkIs.farCells (Ne.symm hqr) (four fy).toList 0 _ H1.out.2.2.2.1
    have kx := BlkIs.farCells qx (four fy).toList 0 _ H1.out.2.2.2.2.1
    have ky := BlkIs.farCells qy (four fy).toList 0 _ H1.out.2.2.2.2.2.1
    have hB2 := below_setCells (B := w.heap.size) q (by omega) (four fy).toList 0 _ H1.out.2.2.2.2.2.2
    have H2 := Lib.hid (And.intro ht2 (And.intro kp (And.intro k2 (And.intro kr (And.intro kx (And.intro ky hB2))))))
    clear ht2 k2 kp kr kx ky hB2 H1
    refine wpList_store_mid rfl 27 (.tmp 6) (.tmp 15) rfl q 0 (four fy) rfl rfl H2.out.1 infoSet (four_one _) ?_
    simp only [Act.put]
    generalize u1.setCells q 0 (four fy).toList = u2 at *
    have ht3 := H2.out.2.2.2.1.there
    have k3 := H2.out.2.2.2.1.fill (new := four fz) rfl
    have kp := BlkIs.farCells hpr (four fz).toList 0 _ H2.out.2.1
    have kq := BlkIs.farCells hqr (four fz).toList 0 _ H2.out.2.2.1
    have kx := BlkIs.farCells rx (four fz).toList 0 _ H2.out.2.2.2.2.1
    have ky := BlkIs.farCells ry (four fz).toList 0 _ H2.out.2.2.2.2.2.1
    have hB3 := below_setCells (B := w.heap.size) r (by omega) (four fz).toList 0 _ H2.out.2.2.2.2.2.2
    have H3 := Lib.hid (And.intro ht3 (And.intro kp (And.intro kq (And.intro k3 (And.intro kx (And.intro ky hB3))))))
    clear ht3 k3 kp kq kx ky hB3 H2
    refine wpList_store_mid rfl 27 (.tmp 7) (.tmp 18) rfl r 0 (four fz) rfl rfl H3.out.1 infoSet (four_one _) ?_
    simp only [Act.put]
    generalize u2.setCells r 0 (four fz).toList = u3 at *
    have HB3 := Lib.hid H3.out.2.2.2.2.2.2
    have HP := Lib.hid (And.intro H3.out.2.1 (And.intro H3.out.2.2.1 (And.intro H3.out.2.2.2.1 (And.intro H3.out.2.2.2.2.1 H3.out.2.2.2.2.2.1))))
    clear H3 HX HY HB HT HA
    go_wp2_with fail
    refine wp_region_reads 59 (fun v => BlkIs v p 27 (four fx) ∧ BlkIs v q 27 (four fy) ∧ BlkIs v r 27 (four fz) ∧ BlkIs v w.heap.size 27 (four fm) ∧ BlkIs v (w.heap.size + 1) 27 (four fn))
      (by kernel_rfl) (by kernel_rfl) rfl ⟨HP.out.1.drew, HP.out.2.1.drew, HP.out.2.2.1.drew, HP.out.2.2.2.1.drew, HP.out.2.2.2.2.drew⟩ (fun v v' h hb => ⟨h.1.step hb, h.2.1.step hb, h.2.2.1.step hb, h.2.2.2.1.step hb, h.2.2.2.2.step hb⟩) ?_
    repeat
      refine freeW_step fun K hK => ?_
      go_simp
      first
        | (refine hK _ ?_; clear hK K)
        | (apply Exists.intro
           refine ⟨fun v g1 g2 g3 g4 g5 => ?_, hK _ ?_⟩
           obtain ⟨a0, a1, a2, a3, _⟩ := BlkIs.four g1
           obtain ⟨b0, b1, b2, b3, _⟩ := BlkIs.four g2
           obtain ⟨z0, z1, z2, z3, _⟩ := BlkIs.four g3
           obtain ⟨c0, c1, c2, c3, _⟩ := BlkIs.four g4
           obtain ⟨d0, d1, d2, d3, _⟩ := BlkIs.four g5
           unfold freeAt
           go_simp
           first
             | exact free_val
             | (apply free_call
                first
                  | (go_at_call 12; first | with_reducible exact HD.out.1 _ | with_reducible exact HD.out.2.1 _ | with_reducible exact HD.out.2.2.1 _)
                  | (go_at_call 16; first | with_reducible exact HD.out.2.2.2.1 _ | with_reducible exact HD.out.2.2.2.2.1 _)
                  | (go_at_call 21; first | with_reducible exact HC.out.1 _ | with_reducible exact HC.out.2.1 _ | with_reducible exact HC.out.2.2.1 _ | with_reducible exact HC.out.2.2.2.1 _ | with_reducible exact HC.out.2.2.2.2.1 _ | with_reducible exact HC.out.2.2.2.2.2 _))
           clear hK K)
    refine freeW_nil ?_
    intro v _ hb
    have hE := Lib.hid (HB3.out.trans (hb.mono HB3.out.size))
    clear hb
    go_wp2
    go_ret
    exact ⟨rfl, hE.out⟩
end Go.Proofs.YtjhdacckodoohaaDoor
