/-
  WHAT nfa's then ANSWERS: a contract. Condition: the parts' rows rise, below 2^20.
-/
import Derived.Test.YtgbljnnmhmlifaaQG19
namespace Go.Proofs.Ytgbljnnmhmlifaa
open Go.RowKit

attribute [local irreducible] FreeW textFrame

def Kor (K : Nat → Bool) (b k : Nat) : Bool := K k || decide (k = b)
theorem Kor_no {K : Nat → Bool} {b k : Nat} : Kor K b k = false ↔ K k = false ∧ k ≠ b := by unfold Kor; simp
theorem Kor_me (K : Nat → Bool) (b : Nat) : Kor K b b = true := by unfold Kor; simp
theorem Kor_or {K : Nat → Bool} {b k : Nat} (h : K k = true) : Kor K b k = true := by unfold Kor; simp [h]
theorem Kor_lt {K : Nat → Bool} {b s : Nat} (hK : ∀ k, K k = true → k < s) (hb : b < s) : ∀ k, Kor K b k = true → k < s := fun k h => by
  unfold Kor at h
  simp only [Bool.or_eq_true, decide_eq_true_eq] at h
  rcases h with h | rfl
  · exact hK k h
  · exact hb
theorem Kor_sub {M K : Nat → Bool} {W : World} {b : Nat} : Sub (hide W (MK M (Kor K b))) (hide W (MK M K)) := hide_sub fun _ h1 _ => by
  rw [MK_no, Kor_no] at h1
  exact ⟨MK_no.2 ⟨h1.1, h1.2.1⟩, rfl⟩
theorem Kor_up {M M' K : Nat → Bool} {W W' : World} {b : Nat} (h : Nx M M' W W') (hb : W.heap.size ≤ b) : Sub (hide W (MK M K)) (hide W' (MK M' (Kor K b))) := hide_sub fun k h1 h2 => by
  rw [MK_no] at h1
  exact ⟨MK_no.2 ⟨(h.mine k h2).trans h1.1, Kor_no.2 ⟨h1.2, by omega⟩⟩, h.block k h2 h1.1⟩
theorem MkAt.sub {M K K' : Nat → Bool} {W W' : World} {pb : Nat} {S : Mk} {r f e m : Value} (h : MkAt M K W pb S r f e m) (hk : ∀ k, k < W.heap.size → M k = true → W'.heap[k]? = W.heap[k]?) (hs : Sub (hide W (MK M K)) (hide W' (MK M K'))) : MkAt M K' W' pb S r f e m := by
  obtain ⟨vs, vf, xs, h⟩ := h
  exact ⟨vs, vf, xs, (hk pb h.blk.lt h.mine).trans h.blk, h.mine, ownsRow_heap h.own0 fun k hk' => hk k (World.ownsRow.lt h.own0 k hk').2 (h.far0 k hk').1, ownsRow_heap h.own3 fun k hk' => hk k (World.ownsRow.lt h.own3 k hk').2 (h.far3 k hk').1, h.far0, h.far3,
    fun i hi => by obtain ⟨x, h1, h2⟩ := h.rows i hi; exact ⟨x, h1, h2.sub hs⟩⟩
theorem MkAt.new {M K : Nat → Bool} {W W' : World} {pb b : Nat} {S : Mk} {r f e m : Value} (h : MkAt M K W pb S r f e m) (hb : Below W.heap.size W W') (hb2 : W.heap.size ≤ b) : MkAt M (Kor K b) W' pb S r f e m :=
  h.sub (fun k hk _ => hb.block k hk) (Kor_up (Nx.below hb) hb2)
theorem MkAt.less {M K : Nat → Bool} {W : World} {pb b : Nat} {S : Mk} {r f e m : Value} (h : MkAt M (Kor K b) W pb S r f e m) : MkAt M K W pb S r f e m := h.sub (fun _ _ _ => rfl) Kor_sub
theorem MkAt.far {M K : Nat → Bool} {W : World} {pb b i : Nat} {S : Mk} {r f e m u : Value} (h : MkAt M K W pb S r f e m) (h1 : K b = true) (h2 : M b = false) : MkAt M K (W.setCell ⟨b, i, none⟩ u) pb S r f e m :=
  h.sub (fun k _ hm => Below.heap_setCell _ _ _ _ (by intro e; rw [e, h2] at hm; cases hm)) (put_sub (by unfold MK; simp [h1]) u)
theorem Nx.far {M M' : Nat → Bool} {W W' : World} {b i : Nat} {u : Value} (h : Nx M M' W W') (hb : W.heap.size ≤ b) : Nx M M' W (W'.setCell ⟨b, i, none⟩ u) :=
  ⟨h.os, h.tape, h.output, by rw [show (W'.setCell ⟨b, i, none⟩ u).heap.size = W'.heap.size by simp [World.setCell]]; exact h.size, fun k hk hm => (Below.heap_setCell _ _ _ _ (by show k ≠ b; omega)).trans (h.block k hk hm), h.mine⟩
theorem put_subM {M K : Nat → Bool} {W : World} {b i : Nat} (h : K b = true) (u : Value) : Sub (hide W (MK M K)) (hide (W.setCell ⟨b, i, none⟩ u) (MK M K)) := put_sub (by unfold MK; simp [h]) u

structure ThenI (M K : Nat → Bool) (w W : World) (pb : Nat) (S : Mk) (r f e m : Value) (b b' : Nat) (p q : Prt) (p1 p2 q1 q2 : Value) (A1 A2 : List Int) (a1 a2 a3 : Value) : Prop where
  at0 : BlkIs W b 78 #[p1, p2, .bool p.empty]
  at1 : BlkIs W (b + 1) 78 #[q1, q2, .bool q.empty]
  at2 : BlkIs W (b + 2) 78 #[.slice none 0 0, .slice none 0 0, .bool false]
  at3 : BlkIs W b' 78 #[a1, a2, a3]
  mkr : MkAt M (Kor (Kor K (b + 2)) b') W pb S r f e m
  nx : Nx M M w W
  r0 : IntsV (hide W (MK M (Kor (Kor K (b + 2)) b'))) p.first p1
  r1 : IntsV (hide W (MK M (Kor (Kor K (b + 2)) b'))) p.ends p2
  r2 : IntsV (hide W (MK M (Kor (Kor K (b + 2)) b'))) q.first q1
  r3 : IntsV (hide W (MK M (Kor (Kor K (b + 2)) b'))) q.ends q2
  r4 : IntsV (hide W (MK M (Kor (Kor K (b + 2)) b'))) A1 a1
  r5 : IntsV (hide W (MK M (Kor (Kor K (b + 2)) b'))) A2 a2
theorem ThenI.step {M K : Nat → Bool} {w W W' : World} {pb : Nat} {S : Mk} {r f e m : Value} {b b' : Nat} {p q : Prt} {p1 p2 q1 q2 : Value} {A1 A2 : List Int} {a1 a2 a3 : Value} (h : ThenI M K w W pb S r f e m b b' p q p1 p2 q1 q2 A1 A2 a1 a2 a3)
    (hb : Below W.heap.size W W') : ThenI M K w W' pb S r f e m b b' p q p1 p2 q1 q2 A1 A2 a1 a2 a3 :=
  ⟨h.at0.step hb, h.at1.step hb, h.at2.step hb, h.at3.step hb, h.mkr.step hb, h.nx.trans (Nx.below hb), h.r0.sub (below_sub _ hb), h.r1.sub (below_sub _ hb), h.r2.sub (below_sub _ hb), h.r3.sub (below_sub _ hb), h.r4.sub (below_sub _ hb), h.r5.sub (below_sub _ hb)⟩
theorem ThenI.put {M K : Nat → Bool} {w W : World} {pb : Nat} {S : Mk} {r f e m : Value} {b b' : Nat} {p q : Prt} {p1 p2 q1 q2 : Value} {A1 A2 X : List Int} {a1 a2 a3 x : Value} (h : ThenI M K w W pb S r f e m b b' p q p1 p2 q1 q2 A1 A2 a1 a2 a3)
    (hw : w.heap.size ≤ b) (hb : b + 2 < b') (hM : M b' = false) (hx : IntsV (hide W (MK M (Kor (Kor K (b + 2)) b'))) X x) :
    ThenI M K w (W.setCell ⟨b', 0, none⟩ x) pb S r f e m b b' p q p1 p2 q1 q2 X A2 x a2 a3 ∧ ThenI M K w (W.setCell ⟨b', 1, none⟩ x) pb S r f e m b b' p q p1 p2 q1 q2 A1 X a1 x a3 := by
  have hk := Kor_me (Kor K (b + 2)) b'
  have hs := fun i => put_subM (M := M) (W := W) (i := i) hk x
  exact ⟨⟨h.at0.far (by show b ≠ b'; omega) _, h.at1.far (by show b + 1 ≠ b'; omega) _, h.at2.far (by show b + 2 ≠ b'; omega) _, h.at3.put 0 x, h.mkr.far hk hM, h.nx.far (by omega), h.r0.sub (hs 0), h.r1.sub (hs 0), h.r2.sub (hs 0), h.r3.sub (hs 0), hx.sub (hs 0), h.r5.sub (hs 0)⟩,
    ⟨h.at0.far (by show b ≠ b'; omega) _, h.at1.far (by show b + 1 ≠ b'; omega) _, h.at2.far (by show b + 2 ≠ b'; omega) _, h.at3.put 1 x, h.mkr.far hk hM, h.nx.far (by omega), h.r0.sub (hs 1), h.r1.sub (hs 1), h.r2.sub (hs 1), h.r3.sub (hs 1), h.r4.sub (hs 1), hx.sub (hs 1)⟩⟩
theorem ThenI.put2 {M K : Nat → Bool} {w W : World} {pb : Nat} {S : Mk} {r f e m : Value} {b b' : Nat} {p q : Prt} {p1 p2 q1 q2 : Value} {A1 A2 : List Int} {a1 a2 a3 : Value} (h : ThenI M K w W pb S r f e m b b' p q p1 p2 q1 q2 A1 A2 a1 a2 a3)
    (hw : w.heap.size ≤ b) (hb : b + 2 < b') (hM : M b' = false) (x : Value) : ThenI M K w (W.setCell ⟨b', 2, none⟩ x) pb S r f e m b b' p q p1 p2 q1 q2 A1 A2 a1 a2 x := by
  have hk := Kor_me (Kor K (b + 2)) b'
  have hs := put_subM (M := M) (W := W) (i := 2) hk x
  exact ⟨h.at0.far (by show b ≠ b'; omega) _, h.at1.far (by show b + 1 ≠ b'; omega) _, h.at2.far (by show b + 2 ≠ b'; omega) _, h.at3.put 2 x, h.mkr.far hk hM, h.nx.far (by omega), h.r0.sub hs, h.r1.sub hs, h.r2.sub hs, h.r3.sub hs, h.r4.sub hs, h.r5.sub hs⟩
theorem ThenI.fin {M K : Nat → Bool} {w W : World} {pb : Nat} {S : Mk} {r f e m : Value} {b b' : Nat} {p q : Prt} {p1 p2 q1 q2 : Value} {A1 A2 : List Int} {a1 a2 : Value} {z : Bool} (h : ThenI M K w W pb S r f e m b b' p q p1 p2 q1 q2 A1 A2 a1 a2 (.bool z))
    (hw : w.heap.size ≤ b) (hM : M (b + 2) = false) :
    (loadVar 78 ⟨b + 2, 0, none⟩).run Try.prog (((W.setCell ⟨b + 2, 0, none⟩ a1).setCell ⟨b + 2, 1, none⟩ a2).setCell ⟨b + 2, 2, none⟩ (.bool z)) = .ok (.agg #[a1, a2, .bool z]) (((W.setCell ⟨b + 2, 0, none⟩ a1).setCell ⟨b + 2, 1, none⟩ a2).setCell ⟨b + 2, 2, none⟩ (.bool z)) ∧
    Nx M M w (((W.setCell ⟨b + 2, 0, none⟩ a1).setCell ⟨b + 2, 1, none⟩ a2).setCell ⟨b + 2, 2, none⟩ (.bool z)) ∧
    MkAt M K (((W.setCell ⟨b + 2, 0, none⟩ a1).setCell ⟨b + 2, 1, none⟩ a2).setCell ⟨b + 2, 2, none⟩ (.bool z)) pb S r f e m ∧
    PrtV (hide (((W.setCell ⟨b + 2, 0, none⟩ a1).setCell ⟨b + 2, 1, none⟩ a2).setCell ⟨b + 2, 2, none⟩ (.bool z)) (MK M K)) ⟨A1, A2, z⟩ (.agg #[a1, a2, .bool z]) := by
  have hk : Kor (Kor K (b + 2)) b' (b + 2) = true := Kor_or (Kor_me K (b + 2))
  have hs := ((((put_subM (M := M) (W := W) (i := 0) hk a1).trans (put_subM (M := M) (i := 1) hk a2)).trans (put_subM (M := M) (i := 2) hk (.bool z))).trans Kor_sub).trans Kor_sub
  exact ⟨load_part (put_three h.at2), ((h.nx.far (by omega)).far (by omega)).far (by omega), (((h.mkr.far hk hM).far hk hM).far hk hM).less.less, _, _, rfl, h.r4.sub hs, h.r5.sub hs⟩
end Go.Proofs.Ytgbljnnmhmlifaa

namespace Go.Proofs.Ytgbljnnmhmlifaa
open Go.RowKit

attribute [local irreducible] FreeW textFrame

set_option maxRecDepth 20000 in
set_option maxHeartbeats 16000000 in
theorem then_any (M K : Nat → Bool) (S : Mk) (p q : Prt) (vp vq : Value) (pb : Nat) (r f e m : Value) (w : World) (hm : MkAt M K w pb S r f e m) (hp : PrtV (hide w (MK M K)) p vp) (hq : PrtV (hide w (MK M K)) q vq)
    (hS : S.Ok) (hpo : p.Ok S.sets.length) (hqo : q.Ok S.sets.length) (hn : S.sets.length ≤ 1048576) (hM : ∀ k, M k = true → k < w.heap.size) (hK : ∀ k, K k = true → k < w.heap.size) :
    Calls Try.prog 63 #[.pointer (some ⟨pb, 0, none⟩), vp, vq] w fun x w' => ∃ v', x = .returned v' ∧ Nx M M w w' ∧ MkAt M K w' pb ⟨S.sets, linkF S.follow p.ends q.first⟩ r f e m ∧ PrtV (hide w' (MK M K)) (bothP p q) v' := by
  obtain ⟨p1, p2, rfl, hp1, hp2⟩ := hp
  obtain ⟨q1, q2, rfl, hq1, hq2⟩ := hq
  obtain ⟨P1, cp1, rfl, _⟩ := hp1.form
  obtain ⟨P2, cp2, rfl, _⟩ := hp2.form
  obtain ⟨Q1, cq1, rfl, _⟩ := hq1.form
  obtain ⟨Q2, cq2, rfl, _⟩ := hq2.form
  -- the three blocks
  obtain ⟨w3, hw3⟩ : ∃ w3, ((w.alloc (.cells #[.slice P1 p.first.length cp1, .slice P2 p.ends.length cp2, .bool p.empty] 78)).alloc (.cells #[.slice Q1 q.first.length cq1, .slice Q2 q.ends.length cq2, .bool q.empty] 78)).alloc (.cells #[.slice none 0 0, .slice none 0 0, .bool false] 78) = w3 := ⟨_, rfl⟩
  have hb3 : Below w.heap.size w w3 := by rw [← hw3]; exact (((Below.refl _ _).alloc (Nat.le_refl _) _).alloc (by simp) _).alloc (by simp; omega) _
  have hs3 : w3.heap.size = w.heap.size + 3 := by rw [← hw3]; simp
  have hx0 : BlkIs w3 w.heap.size 78 #[.slice P1 p.first.length cp1, .slice P2 p.ends.length cp2, .bool p.empty] := by rw [← hw3]; exact ((BlkIs.new w _ _).alloc _).alloc _
  have hx1 : BlkIs w3 (w.heap.size + 1) 78 #[.slice Q1 q.first.length cq1, .slice Q2 q.ends.length cq2, .bool q.empty] := by
    rw [← hw3]
    have h := BlkIs.new (w.alloc (.cells #[.slice P1 p.first.length cp1, .slice P2 p.ends.length cp2, .bool p.empty] 78)) 78 #[.slice Q1 q.first.length cq1, .slice Q2 q.ends.length cq2, .bool q.empty]
    rw [World.size_alloc] at h
    exact h.alloc _
  have hx2 : BlkIs w3 (w.heap.size + 2) 78 #[.slice none 0 0, .slice none 0 0, .bool false] := by
    rw [← hw3]
    have h := BlkIs.new ((w.alloc (.cells #[.slice P1 p.first.length cp1, .slice P2 p.ends.length cp2, .bool p.empty] 78)).alloc (.cells #[.slice Q1 q.first.length cq1, .slice Q2 q.ends.length cq2, .bool q.empty] 78)) 78 #[.slice none 0 0, .slice none 0 0, .bool false]
    rw [World.size_alloc, World.size_alloc] at h
    exact h
  have hup : Sub (hide w (MK M K)) (hide w3 (MK M (Kor K (w.heap.size + 2)))) := Kor_up (Nx.below hb3) (by omega)
  have hMf : ∀ k, w.heap.size ≤ k → M k = false := fun k hk => by
    rw [Bool.eq_false_iff]; intro e; have := hM k e; omega
  have HLK := Lib.hid (link_any M (Kor K (w.heap.size + 2)) S p.ends q.first _ _ pb r f e m w3 (hm.new hb3 (by omega)) (hp2.sub hup) (hq1.sub hup) hS hpo.2 hqo.1 hn (fun k hk => by have := hM k hk; omega) (Kor_lt (fun k hk => by have := hK k hk; omega) (by omega)))
  have HX := Lib.hid (And.intro hx0 (And.intro hx1 hx2))
  have HB3 := Lib.hid (And.intro hb3 hs3)
  have HMF := Lib.hid hMf
  have HK := Lib.hid hK
  have HM := Lib.hid hM
  have HR := Lib.hid (And.intro (And.intro (hp1.sub hup) (hp2.sub hup)) (And.intro (hq1.sub hup) (hq2.sub hup)))
  have HO := Lib.hid (show (p.first.length ≤ 1048576 ∧ p.ends.length ≤ 1048576) ∧ (q.first.length ≤ 1048576 ∧ q.ends.length ≤ 1048576) from ⟨⟨Nat.le_trans (risesB_len0 hpo.1) hn, Nat.le_trans (risesB_len0 hpo.2) hn⟩, ⟨Nat.le_trans (risesB_len0 hqo.1) hn, Nat.le_trans (risesB_len0 hqo.2) hn⟩⟩)
  obtain ⟨d0, d1, d2, _, _, _⟩ := three hx0
  obtain ⟨e0, e1, e2, _, _, _⟩ := three hx1
  clear hp1 hp2 hq1 hq2 hb3 hx0 hx1 hx2 hup hMf hK hM hS hpo hqo hm hn
  obtain ⟨pe, hpe⟩ : ∃ pe, p.empty = pe := ⟨_, rfl⟩
  obtain ⟨qe, hqe⟩ : ∃ qe, q.empty = qe := ⟨_, rfl⟩
  rw [hpe] at hw3 d2 HX ⊢
  rw [hqe] at hw3 e2 HX ⊢
  have HPQ := Lib.hid (And.intro hpe hqe)
  clear hpe hqe
  go_enter Try.func63, Try.ntmps63
  go_wp2_with fail
  go_at_call 66
  refine HLK.out.mono ?_
  rintro x u1 ⟨y, rfl, hnx, hmk⟩
  have hbl : ∀ k, w.heap.size ≤ k → k < w3.heap.size → u1.heap[k]? = w3.heap[k]? := fun k hk hk2 => hnx.block k hk2 (HMF.out k hk)
  have hx0 : BlkIs u1 w.heap.size 78 _ := (hbl _ (Nat.le_refl _) HX.out.1.lt).trans HX.out.1
  have hx1 : BlkIs u1 (w.heap.size + 1) 78 _ := (hbl _ (by omega) HX.out.2.1.lt).trans HX.out.2.1
  have hx2 : BlkIs u1 (w.heap.size + 2) 78 _ := (hbl _ (by omega) HX.out.2.2.lt).trans HX.out.2.2
  have hsz : w.heap.size + 3 ≤ u1.heap.size := by have := hnx.size; have := HB3.out.2; omega
  have HTH := Lib.hid (fun z => (show ThenI M K w (u1.alloc (.cells #[.slice P1 p.first.length cp1, .slice Q2 q.ends.length cq2, .bool z] 78)) pb ⟨S.sets, linkF S.follow p.ends q.first⟩ r f e m w.heap.size u1.heap.size p q _ _ _ _ p.first q.ends (.slice P1 p.first.length cp1) (.slice Q2 q.ends.length cq2) (.bool z) from by
    have hb : Below u1.heap.size u1 (u1.alloc (.cells #[.slice P1 p.first.length cp1, .slice Q2 q.ends.length cq2, .bool z] 78)) := (Below.refl _ _).alloc (Nat.le_refl _) _
    have hs := (hnx.sub (Kor K (w.heap.size + 2))).trans (Kor_up (K := Kor K (w.heap.size + 2)) (Nx.below hb) (Nat.le_refl _))
    refine ⟨(hx0.step hb).trans ?_, (hx1.step hb).trans ?_, hx2.step hb, BlkIs.new _ _ _, hmk.new hb (Nat.le_refl _), (Nx.below HB3.out.1).trans (hnx.trans (Nx.below hb)), HR.out.1.1.sub hs, HR.out.1.2.sub hs, HR.out.2.1.sub hs, HR.out.2.2.sub hs, HR.out.1.1.sub hs, HR.out.2.2.sub hs⟩
    · rw [HPQ.out.1]
    · rw [HPQ.out.2]))
  clear d0 d1 d2 e0 e1 e2
  obtain ⟨d0, d1, d2, _, _, _⟩ := three hx0
  obtain ⟨e0, e1, e2, _, _, _⟩ := three hx1
  have HSZ := Lib.hid hsz
  have HMU := Lib.hid (HMF.out u1.heap.size (by omega))
  have HM2 := Lib.hid (HMF.out (w.heap.size + 2) (by omega))
  have HKK := Lib.hid (show ∀ k, MK M (Kor (Kor K (w.heap.size + 2)) u1.heap.size) k = true → k < u1.heap.size + 1 from fun k hk => by
    unfold MK at hk
    simp only [Bool.or_eq_true] at hk
    rcases hk with hk | hk
    · have := HM.out k hk; omega
    · exact Kor_lt (Kor_lt (fun k hk => by have := HK.out k hk; omega) (by omega)) (by omega) k hk)
  clear hnx hmk hbl hx0 hx1 hx2 hsz hw3
  cases pe with
  | false =>
    cases qe with
    | false =>
      have hth := (HTH.out false).put2 (Nat.le_refl _) (by have := HSZ.out; omega) HMU.out (.bool false)
      obtain ⟨U0, hU0⟩ : ∃ U0, (u1.alloc (.cells #[.slice P1 p.first.length cp1, .slice Q2 q.ends.length cq2, .bool false] 78)).setCell ⟨u1.heap.size, 2, none⟩ (.bool false) = U0 := ⟨_, rfl⟩
      clear HTH
      rw [hU0] at hth
      have hsU : u1.heap.size + 1 ≤ U0.heap.size := hth.at3.lt
      obtain ⟨d0', d1', d2', _, _, _⟩ := three hth.at0
      obtain ⟨e0', e1', e2', _, _, _⟩ := three hth.at1
      obtain ⟨g0, g1, g2, l0, l1, l2⟩ := three hth.at3
      obtain ⟨k0, k1, k2, m0, m1, m2⟩ := three hth.at2
      have hlt1 := hth.at2.lt
      have hlt2 := hth.at3.lt
      rw [HPQ.out.1] at d2'
      rw [HPQ.out.2] at e2'
      have HT0 := Lib.hid hth
      clear hth
      go_wp2
      obtain ⟨hl, hn1, hm1, hp1⟩ := HT0.out.fin (Nat.le_refl _) HM2.out
      refine ⟨rfl, _, results_cell1 rfl rfl hl, _, rfl, hn1, hm1, ?_⟩
      unfold bothP
      rw [HPQ.out.1, HPQ.out.2]
      exact hp1
    | true =>
      have hth := (HTH.out false).put2 (Nat.le_refl _) (by have := HSZ.out; omega) HMU.out (.bool false)
      obtain ⟨U0, hU0⟩ : ∃ U0, (u1.alloc (.cells #[.slice P1 p.first.length cp1, .slice Q2 q.ends.length cq2, .bool false] 78)).setCell ⟨u1.heap.size, 2, none⟩ (.bool false) = U0 := ⟨_, rfl⟩
      clear HTH
      rw [hU0] at hth
      have hsU : u1.heap.size + 1 ≤ U0.heap.size := hth.at3.lt
      obtain ⟨d0', d1', d2', _, _, _⟩ := three hth.at0
      obtain ⟨e0', e1', e2', _, _, _⟩ := three hth.at1
      obtain ⟨g0, g1, g2, l0, l1, l2⟩ := three hth.at3
      obtain ⟨k0, k1, k2, m0, m1, m2⟩ := three hth.at2
      have hlt1 := hth.at2.lt
      have hlt2 := hth.at3.lt
      rw [HPQ.out.1] at d2'
      rw [HPQ.out.2] at e2'
      have HT0 := Lib.hid hth
      clear hth
      go_wp2_with fail
      go_at_call 64
      have HC1 := Lib.hid (merged_any p.ends q.ends _ _ U0 _ (fun k hk => by have := HKK.out k hk; omega) HT0.out.r1 HT0.out.r3 (by have := HO.out; omega))
      refine HC1.out.mono ?_
      rintro x c1 ⟨v1, rfl, hv1, hb1⟩
      have ht1 := HT0.out.step hb1
      obtain ⟨U1, hU1⟩ : ∃ U1, c1.setCell ⟨u1.heap.size, 1, none⟩ v1 = U1 := ⟨_, rfl⟩
      have hth := (ht1.put (Nat.le_refl _) (by have := HSZ.out; omega) HMU.out hv1).2
      rw [hU1] at hth
      have hsU1 : U0.heap.size ≤ U1.heap.size := by rw [← hU1]; simpa [World.setCell] using hb1.size
      clear d0 d1 d2 e0 e1 e2 d0' d1' d2' e0' e1' e2' g0 g1 g2 l0 l1 l2 k0 k1 k2 m0 m1 m2 hlt1 hlt2
      obtain ⟨B1, z1, rfl, _⟩ := hv1.form
      obtain ⟨dd0, dd1, dd2, l0, l1, l2⟩ := three ht1.at3
      have HT1 := Lib.hid hth
      obtain ⟨d0, d1, d2, _, _, _⟩ := three hth.at0
      obtain ⟨e0, e1, e2, _, _, _⟩ := three hth.at1
      obtain ⟨g0, g1, g2, _, _, _⟩ := three hth.at3
      obtain ⟨k0, k1, k2, m0, m1, m2⟩ := three hth.at2
      have hlt1 := hth.at2.lt
      have hlt2 := hth.at3.lt
      rw [HPQ.out.1] at d2
      rw [HPQ.out.2] at e2
      clear hth ht1 hv1 hb1
      go_wp2
      obtain ⟨hl, hn1, hm1, hp1⟩ := HT1.out.fin (Nat.le_refl _) HM2.out
      refine ⟨rfl, _, results_cell1 rfl rfl hl, _, rfl, hn1, hm1, ?_⟩
      unfold bothP
      rw [HPQ.out.1, HPQ.out.2]
      exact hp1
  | true =>
    cases qe with
    | false =>
      have hth := (HTH.out false).put2 (Nat.le_refl _) (by have := HSZ.out; omega) HMU.out (.bool false)
      obtain ⟨U0, hU0⟩ : ∃ U0, (u1.alloc (.cells #[.slice P1 p.first.length cp1, .slice Q2 q.ends.length cq2, .bool false] 78)).setCell ⟨u1.heap.size, 2, none⟩ (.bool false) = U0 := ⟨_, rfl⟩
      clear HTH
      rw [hU0] at hth
      have hsU : u1.heap.size + 1 ≤ U0.heap.size := hth.at3.lt
      obtain ⟨d0', d1', d2', _, _, _⟩ := three hth.at0
      obtain ⟨e0', e1', e2', _, _, _⟩ := three hth.at1
      obtain ⟨g0, g1, g2, l0, l1, l2⟩ := three hth.at3
      obtain ⟨k0, k1, k2, m0, m1, m2⟩ := three hth.at2
      have hlt1 := hth.at2.lt
      have hlt2 := hth.at3.lt
      rw [HPQ.out.1] at d2'
      rw [HPQ.out.2] at e2'
      have HT0 := Lib.hid hth
      clear hth
      go_wp2_with fail
      go_at_call 64
      have HC1 := Lib.hid (merged_any p.first q.first _ _ U0 _ (fun k hk => by have := HKK.out k hk; omega) HT0.out.r0 HT0.out.r2 (by have := HO.out; omega))
      refine HC1.out.mono ?_
      rintro x c1 ⟨v1, rfl, hv1, hb1⟩
      have ht1 := HT0.out.step hb1
      obtain ⟨U1, hU1⟩ : ∃ U1, c1.setCell ⟨u1.heap.size, 0, none⟩ v1 = U1 := ⟨_, rfl⟩
      have hth := (ht1.put (Nat.le_refl _) (by have := HSZ.out; omega) HMU.out hv1).1
      rw [hU1] at hth
      have hsU1 : U0.heap.size ≤ U1.heap.size := by rw [← hU1]; simpa [World.setCell] using hb1.size
      clear d0 d1 d2 e0 e1 e2 d0' d1' d2' e0' e1' e2' g0 g1 g2 l0 l1 l2 k0 k1 k2 m0 m1 m2 hlt1 hlt2
      obtain ⟨B1, z1, rfl, _⟩ := hv1.form
      obtain ⟨dd0, dd1, dd2, l0, l1, l2⟩ := three ht1.at3
      have HT1 := Lib.hid hth
      obtain ⟨d0, d1, d2, _, _, _⟩ := three hth.at0
      obtain ⟨e0, e1, e2, _, _, _⟩ := three hth.at1
      obtain ⟨g0, g1, g2, _, _, _⟩ := three hth.at3
      obtain ⟨k0, k1, k2, m0, m1, m2⟩ := three hth.at2
      have hlt1 := hth.at2.lt
      have hlt2 := hth.at3.lt
      rw [HPQ.out.1] at d2
      rw [HPQ.out.2] at e2
      clear hth ht1 hv1 hb1
      go_wp2
      obtain ⟨hl, hn1, hm1, hp1⟩ := HT1.out.fin (Nat.le_refl _) HM2.out
      refine ⟨rfl, _, results_cell1 rfl rfl hl, _, rfl, hn1, hm1, ?_⟩
      unfold bothP
      rw [HPQ.out.1, HPQ.out.2]
      exact hp1
    | true =>
      have hth := HTH.out true
      obtain ⟨U0, hU0⟩ : ∃ U0, u1.alloc (.cells #[.slice P1 p.first.length cp1, .slice Q2 q.ends.length cq2, .bool true] 78) = U0 := ⟨_, rfl⟩
      clear HTH
      rw [hU0] at hth
      have hsU : u1.heap.size + 1 ≤ U0.heap.size := hth.at3.lt
      obtain ⟨d0', d1', d2', _, _, _⟩ := three hth.at0
      obtain ⟨e0', e1', e2', _, _, _⟩ := three hth.at1
      obtain ⟨g0, g1, g2, l0, l1, l2⟩ := three hth.at3
      obtain ⟨k0, k1, k2, m0, m1, m2⟩ := three hth.at2
      have hlt1 := hth.at2.lt
      have hlt2 := hth.at3.lt
      rw [HPQ.out.1] at d2'
      rw [HPQ.out.2] at e2'
      have HT0 := Lib.hid hth
      clear hth
      go_wp2_with fail
      go_at_call 64
      have HC1 := Lib.hid (merged_any p.first q.first _ _ U0 _ (fun k hk => by have := HKK.out k hk; omega) HT0.out.r0 HT0.out.r2 (by have := HO.out; omega))
      refine HC1.out.mono ?_
      rintro x c1 ⟨v1, rfl, hv1, hb1⟩
      have ht1 := HT0.out.step hb1
      obtain ⟨U1, hU1⟩ : ∃ U1, c1.setCell ⟨u1.heap.size, 0, none⟩ v1 = U1 := ⟨_, rfl⟩
      have hth := (ht1.put (Nat.le_refl _) (by have := HSZ.out; omega) HMU.out hv1).1
      rw [hU1] at hth
      have hsU1 : U0.heap.size ≤ U1.heap.size := by rw [← hU1]; simpa [World.setCell] using hb1.size
      clear d0 d1 d2 e0 e1 e2 d0' d1' d2' e0' e1' e2' g0 g1 g2 l0 l1 l2 k0 k1 k2 m0 m1 m2 hlt1 hlt2
      obtain ⟨B1, z1, rfl, _⟩ := hv1.form
      obtain ⟨dd0, dd1, dd2, l0, l1, l2⟩ := three ht1.at3
      have HT1 := Lib.hid hth
      obtain ⟨d0, d1, d2, _, _, _⟩ := three hth.at0
      obtain ⟨e0, e1, e2, _, _, _⟩ := three hth.at1
      obtain ⟨g0, g1, g2, _, _, _⟩ := three hth.at3
      obtain ⟨k0, k1, k2, m0, m1, m2⟩ := three hth.at2
      have hlt1 := hth.at2.lt
      have hlt2 := hth.at3.lt
      rw [HPQ.out.1] at d2
      rw [HPQ.out.2] at e2
      clear hth ht1 hv1 hb1
      go_wp2_with fail
      go_at_call 64
      have HC2 := Lib.hid (merged_any p.ends q.ends _ _ U1 _ (fun k hk => by have := HKK.out k hk; omega) HT1.out.r1 HT1.out.r3 (by have := HO.out; omega))
      refine HC2.out.mono ?_
      rintro x c2 ⟨v2, rfl, hv2, hb2⟩
      have ht2 := HT1.out.step hb2
      obtain ⟨U2, hU2⟩ : ∃ U2, c2.setCell ⟨u1.heap.size, 1, none⟩ v2 = U2 := ⟨_, rfl⟩
      have hth := (ht2.put (Nat.le_refl _) (by have := HSZ.out; omega) HMU.out hv2).2
      rw [hU2] at hth
      have hsU2 : U1.heap.size ≤ U2.heap.size := by rw [← hU2]; simpa [World.setCell] using hb2.size
      clear dd0 dd1 dd2 l0 l1 l2 d0 d1 d2 e0 e1 e2 g0 g1 g2 k0 k1 k2 m0 m1 m2 hlt1 hlt2
      obtain ⟨B2, z2, rfl, _⟩ := hv2.form
      obtain ⟨dd0, dd1, dd2, l0, l1, l2⟩ := three ht2.at3
      have HT2 := Lib.hid hth
      obtain ⟨d0, d1, d2, _, _, _⟩ := three hth.at0
      obtain ⟨e0, e1, e2, _, _, _⟩ := three hth.at1
      obtain ⟨g0, g1, g2, _, _, _⟩ := three hth.at3
      obtain ⟨k0, k1, k2, m0, m1, m2⟩ := three hth.at2
      have hlt1 := hth.at2.lt
      have hlt2 := hth.at3.lt
      rw [HPQ.out.1] at d2
      rw [HPQ.out.2] at e2
      clear hth ht2 hv2 hb2
      go_wp2
      obtain ⟨hl, hn1, hm1, hp1⟩ := HT2.out.fin (Nat.le_refl _) HM2.out
      refine ⟨rfl, _, results_cell1 rfl rfl hl, _, rfl, hn1, hm1, ?_⟩
      unfold bothP
      rw [HPQ.out.1, HPQ.out.2]
      exact hp1
end Go.Proofs.Ytgbljnnmhmlifaa

