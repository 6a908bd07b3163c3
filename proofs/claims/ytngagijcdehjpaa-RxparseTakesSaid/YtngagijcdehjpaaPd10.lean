/-
  WHAT Parse OF PACKAGE rxparse ANSWERS: a contract. No condition.
-/
import Derived.Test.YtngagijcdehjpaaPd9
import Derived.Test.YtngagijcdehjpaaCatOwn
namespace Go.Proofs.Ytngagijcdehjpaa
open Go.RowKit

/-- what Parse answers -/
def ParsedAs : Except (Nat × Nat) Tree → Ending → World → Prop
  | .ok T, e, W => ∃ v, e = .returned (.tuple #[v, .int .i64 0, .int .i64 0]) ∧ T.At W v
  | .error q, e, _ => e = .returned (.tuple #[reV 0 (fun _ => false) none 0 0 0 0, .int .i64 (q.1 : Nat), .int .i64 (q.2 : Nat)])
theorem results_cell3 {fn : Func} {p p2 p3 : Tmp} {ty ty2 ty3 : TypeId} {tmps : Array Value} {P : Program} {w : World} {a a2 a3 : Addr} {v v2 v3 : Value} (h : fn.results = #[.cell p ty, .cell p2 ty2, .cell p3 ty3])
    (hp : tmps.getD p undef = .pointer (some a)) (hp2 : tmps.getD p2 undef = .pointer (some a2)) (hp3 : tmps.getD p3 undef = .pointer (some a3))
    (hl : (loadVar ty a).run P w = .ok v w) (hl2 : (loadVar ty2 a2).run P w = .ok v2 w) (hl3 : (loadVar ty3 a3).run P w = .ok v3 w) : (results fn tmps).run P w = .ok (.tuple #[v, v2, v3]) w := by
  have hp' : tmps[p]?.getD undef = .pointer (some a) := by rw [← hp]; simp
  have hp2' : tmps[p2]?.getD undef = .pointer (some a2) := by rw [← hp2]; simp
  have hp3' : tmps[p3]?.getD undef = .pointer (some a3) := by rw [← hp3]; simp
  unfold results
  rw [h]
  simp [hp', hp2', hp3', hl, hl2, hl3, Result.andThen, asAddr]
theorem load_int {w : World} {g : Nat} {t : TypeId} {x : Int} (h : BlkIs w g t #[.int .i64 x]) : (loadVar 3 ⟨g, 0, none⟩).run Try.prog w = .ok (.int .i64 x) w := by
  have c0 := h.cell 0
  simp at c0
  go_simp
theorem load_eno {w : World} {g : Nat} {t : TypeId} {x : Int} (h : BlkIs w g t #[.int .i64 x]) : (loadVar 32 ⟨g, 0, none⟩).run Try.prog w = .ok (.int .i64 x) w := by
  have c0 := h.cell 0
  simp at c0
  go_simp
/-- the results in their cells -/
theorem parse_ret {W' : World} {n : Nat} {tmps : Array Value} {k lo hi : Int} {m : Nat → Bool} {A : Option Addr} {l c : Nat} {x y : Int} {tr ta te : TypeId} (h4 : tmps.getD 4 undef = .pointer (some ⟨n, 0, none⟩)) (h5 : tmps.getD 5 undef = .pointer (some ⟨n + 1, 0, none⟩)) (h6 : tmps.getD 6 undef = .pointer (some ⟨n + 1 + 1, 0, none⟩))
    (hr : BlkIs W' n tr (reL k m A l c lo hi).toArray) (ha : BlkIs W' (n + 1) ta #[.int .i64 x]) (he : BlkIs W' (n + 1 + 1) te #[.int .i64 y]) :
    (results Try.f11 tmps).run Try.prog W' = .ok (.tuple #[reV k m A l c lo hi, .int .i64 x, .int .i64 y]) W' :=
  results_cell3 rfl h4 h5 h6 (load_re hr) (load_int ha) (load_eno he)
theorem hmf : ∀ (fn : Fn) (first cap : Array Value) (w : World), (Instr.makeFunc fn first cap).run Try.prog w = .ok (.func fn first cap) w := fun _ _ _ _ => rfl
set_option maxHeartbeats 1000000 in
theorem parse_great (s : ByteArray) (F : Value) (fr : Frs) (W : World) (hs : 400 < s.size) : Calls Try.prog 11 #[.string s, F] W fun e W' => Below W.heap.size W W' ∧ ParsedAs (parseP s fr) e W' := by
  have hp : parseP s fr = .error (0, 4) := by unfold parseP; rw [if_pos hs]
  rw [hp]
  have e1 : decide (400 < (s.size : Int)) = true := by simp; omega
  go_enter_defers Try.func11, Try.ntmps11
  go_wp2
  have h1 := ((BlkIs.new W 31 zeroL.toArray).alloc (.cells #[.int .i64 0] 3)).alloc (.cells #[.int .i64 4] 32)
  have h2 := (BlkIs.new (W.alloc (.cells zeroL.toArray 31)) 3 #[.int .i64 0]).alloc (.cells #[.int .i64 4] 32)
  have h3 := BlkIs.new ((W.alloc (.cells zeroL.toArray 31)).alloc (.cells #[.int .i64 0] 3)) 32 #[.int .i64 4]
  simp only [World.size_alloc] at h2 h3
  rw [zeroL_is] at h1
  have hb : Below W.heap.size W (((W.alloc (.cells zeroL.toArray 31)).alloc (.cells #[.int .i64 0] 3)).alloc (.cells #[.int .i64 4] 32)) := (((Below.refl _ _).alloc (Nat.le_refl _) _).alloc (by simp) _).alloc (by simp; omega) _
  rw [zeroL_is] at h2 h3 hb
  exact ⟨_, parse_ret rfl rfl rfl h1 h2 h3, hb, rfl⟩

theorem parseP_must {s : ByteArray} {fr : Frs} {T : Tree} {j : Nat} (hs : s.size ≤ 400) (hw : wholeP s fr = .ok (T, j)) :
    (∃ q, mustE T = .panicked [{ v := fltV q, recovered := false }] ∧ parseP s fr = .error q) ∨ (mustE T = .returned (.tuple #[]) ∧ parseP s fr = .ok T ∧ T.nodes ≤ 300) := by
  have hp : parseP s fr = if 300 < T.nodes then .error (0, 4) else if 30 < T.deepN then .error (0, 3) else if T.mayN = true then .ok T else .error (0, 2) := by
    unfold parseP
    rw [if_neg (show ¬ 400 < s.size by omega), hw]
  rw [hp]
  unfold mustE
  by_cases h1 : 300 < T.nodes
  · exact .inl ⟨(0, 4), by rw [if_pos h1], by simp [h1]⟩
  by_cases h2 : 30 < T.deepN
  · exact .inl ⟨(0, 3), by rw [if_neg h1, if_pos h2], by simp [h1, h2]⟩
  by_cases h3 : T.mayN = true
  · exact .inr ⟨by rw [if_neg h1, if_neg h2, if_pos h3], by simp [h1, h2, h3], by omega⟩
  · exact .inl ⟨(0, 2), by rw [if_neg h1, if_neg h2, if_neg h3], by simp [h1, h2, h3]⟩
/-- the world in which a parser stands first -/
def Wpar (W : World) (s : ByteArray) (F : Value) : World := (((W.alloc (.cells zeroL.toArray 31)).alloc (.cells #[.int .i64 0] 3)).alloc (.cells #[.int .i64 0] 32)).alloc (.cells #[.string s, .int .i64 0, .int .i64 0, F] 47)
theorem Wpar_facts (W : World) (s : ByteArray) (F : Value) (fr : Frs) (hF : FrsAt W fr F) (hs : s.size ≤ 400) :
    Sf (W.heap.size + 1 + 1 + 1) s F fr (Wpar W s F) 0 0 ∧ BlkIs (Wpar W s F) W.heap.size 31 zeroL.toArray ∧ BlkIs (Wpar W s F) (W.heap.size + 1) 3 #[.int .i64 0] ∧ BlkIs (Wpar W s F) (W.heap.size + 1 + 1) 32 #[.int .i64 0] ∧
    Below W.heap.size W (Wpar W s F) ∧ W.heap.size + 1 + 1 + 1 < (Wpar W s F).heap.size := by
  have h1 := (((BlkIs.new W 31 zeroL.toArray).alloc (.cells #[.int .i64 0] 3)).alloc (.cells #[.int .i64 0] 32)).alloc (.cells #[.string s, .int .i64 0, .int .i64 0, F] 47)
  have h2 := ((BlkIs.new (W.alloc (.cells zeroL.toArray 31)) 3 #[.int .i64 0]).alloc (.cells #[.int .i64 0] 32)).alloc (.cells #[.string s, .int .i64 0, .int .i64 0, F] 47)
  have h3 := (BlkIs.new ((W.alloc (.cells zeroL.toArray 31)).alloc (.cells #[.int .i64 0] 3)) 32 #[.int .i64 0]).alloc (.cells #[.string s, .int .i64 0, .int .i64 0, F] 47)
  have h4 := BlkIs.new (((W.alloc (.cells zeroL.toArray 31)).alloc (.cells #[.int .i64 0] 3)).alloc (.cells #[.int .i64 0] 32)) 47 #[.string s, .int .i64 0, .int .i64 0, F]
  simp only [World.size_alloc] at h2 h3 h4
  have hb : Below W.heap.size W (Wpar W s F) := ((((Below.refl _ _).alloc (Nat.le_refl _) _).alloc (by simp) _).alloc (by simp; omega) _).alloc (by simp; omega) _
  refine ⟨⟨⟨Kept.refl _ _, h4, Nat.zero_le _, hs⟩, hF.sub fun p v hv => ?_⟩, h1, h2, h3, hb, by unfold Wpar; simp⟩
  have hlt := World.block_lt_of_cell? W p hv
  refine hide_show ?_ ((World.cell?_of_block (w := W) (hb.block _ hlt)).trans hv)
  rw [frm_no]; omega
theorem laidP {W Wp W2 : World} {s : ByteArray} {F : Value} {T : Tree} {A : Option Addr} {n c j : Nat} (hsz : W.heap.size + 1 + 1 + 1 < Wp.heap.size) (hb : Below W.heap.size W Wp) (hr : BlkIs Wp W.heap.size 31 zeroL.toArray) (ha : BlkIs Wp (W.heap.size + 1) 3 #[.int .i64 0]) (he : BlkIs Wp (W.heap.size + 1 + 1) 32 #[.int .i64 0])
    (g : St (W.heap.size + 1 + 1 + 1) s F Wp W2 j 0) (hT : T.At W2 (reV T.kind T.set A n c T.lo T.hi)) :
    BlkIs ((W2.alloc (.cells zeroL.toArray 31)).setCells W2.heap.size 0 (reL T.kind T.set A n c T.lo T.hi)) W2.heap.size 31 (reL T.kind T.set A n c T.lo T.hi).toArray ∧
    BlkIs ((W2.alloc (.cells zeroL.toArray 31)).setCells W2.heap.size 0 (reL T.kind T.set A n c T.lo T.hi)) W.heap.size 31 zeroL.toArray ∧
    BlkIs ((W2.alloc (.cells zeroL.toArray 31)).setCells W2.heap.size 0 (reL T.kind T.set A n c T.lo T.hi)) (W.heap.size + 1) 3 #[.int .i64 0] ∧
    BlkIs ((W2.alloc (.cells zeroL.toArray 31)).setCells W2.heap.size 0 (reL T.kind T.set A n c T.lo T.hi)) (W.heap.size + 1 + 1) 32 #[.int .i64 0] ∧
    Below W.heap.size W ((W2.alloc (.cells zeroL.toArray 31)).setCells W2.heap.size 0 (reL T.kind T.set A n c T.lo T.hi)) ∧ T.At ((W2.alloc (.cells zeroL.toArray 31)).setCells W2.heap.size 0 (reL T.kind T.set A n c T.lo T.hi)) (reV T.kind T.set A n c T.lo T.hi) := by
  have hk := g.kept
  have h2 : W.heap.size + 1 + 1 + 1 < W2.heap.size := Nat.lt_of_lt_of_le hsz hk.1.size
  have hbl : Below W2.heap.size W2 ((W2.alloc (.cells zeroL.toArray 31)).setCells W2.heap.size 0 (reL T.kind T.set A n c T.lo T.hi)) := below_setCells _ (Nat.le_refl _) _ _ _ ((Below.refl _ _).alloc (Nat.le_refl _) _)
  exact ⟨store_re (BlkIs.new W2 31 zeroL.toArray) rfl, (hr.kept hk (by omega)).step hbl, (ha.kept hk (by omega)).step hbl, (he.kept hk (by omega)).step hbl, (hb.trans (hk.1.mono (by omega))).trans (hbl.mono (by omega)), hT.step hbl⟩
theorem catP {w : World} {T : Tree} {A : Option Addr} {n c : Nat} (hT : T.At w (reV T.kind T.set A n c T.lo T.hi)) (hn : T.nodes ≤ 300) :
    Calls Try.prog 22 #[.slice (some ⟨w.heap.size, 0, none⟩) 1 1] (w.alloc (.cells (reL T.kind T.set A n c T.lo T.hi).toArray 31)) fun e w' => ∃ v, e = .returned v ∧ Tree.At (hide w' (low (w.heap.size + 1))) T v ∧ Below (w.heap.size + 1) (w.alloc (.cells (reL T.kind T.set A n c T.lo T.hi).toArray 31)) w' := by
  have h := cat_own [T] (some ⟨w.heap.size, 0, none⟩) 1 (w.alloc (.cells (reL T.kind T.set A n c T.lo T.hi).toArray 31)) (fun _ => ⟨_, 0, rfl, by
    refine AllAt.mk [T] _ 0 fun i hi => ?_
    obtain rfl : i = 0 := by simpa using hi
    refine ⟨reL T.kind T.set A n c T.lo T.hi, hT.step ((Below.refl _ _).alloc (Nat.le_refl _) _), rfl, fun j v hv => ?_⟩
    have := (BlkIs.new w 31 (reL T.kind T.set A n c T.lo T.hi).toArray).cell j
    rw [Nat.zero_mul, Nat.add_zero, Nat.zero_add, this, List.getElem?_toArray]
    exact hv⟩) (by simp [nodesL]; omega)
  rw [World.size_alloc] at h
  exact h
theorem laidQ {W w w' : World} {T : Tree} {A A' : Option Addr} {n c n' c' : Nat} (hb : Below W.heap.size W w) (hr : BlkIs w W.heap.size 31 zeroL.toArray) (ha : BlkIs w (W.heap.size + 1) 3 #[.int .i64 0]) (he : BlkIs w (W.heap.size + 1 + 1) 32 #[.int .i64 0])
    (hT : Tree.At (hide w' (low (w.heap.size + 1))) T (reV T.kind T.set A' n' c' T.lo T.hi)) (h4 : Below (w.heap.size + 1) (w.alloc (.cells (reL T.kind T.set A n c T.lo T.hi).toArray 31)) w') :
    BlkIs (w'.setCells W.heap.size 0 (reL T.kind T.set A' n' c' T.lo T.hi)) W.heap.size 31 (reL T.kind T.set A' n' c' T.lo T.hi).toArray ∧ BlkIs (w'.setCells W.heap.size 0 (reL T.kind T.set A' n' c' T.lo T.hi)) (W.heap.size + 1) 3 #[.int .i64 0] ∧
    BlkIs (w'.setCells W.heap.size 0 (reL T.kind T.set A' n' c' T.lo T.hi)) (W.heap.size + 1 + 1) 32 #[.int .i64 0] ∧ Below W.heap.size W (w'.setCells W.heap.size 0 (reL T.kind T.set A' n' c' T.lo T.hi)) ∧
    ∀ V : World, (∀ k, W.heap.size + 1 + 1 < k → V.heap[k]? = (w'.setCells W.heap.size 0 (reL T.kind T.set A' n' c' T.lo T.hi)).heap[k]?) → T.At V (reV T.kind T.set A' n' c' T.lo T.hi) := by
  have hal : Below w.heap.size w (w.alloc (.cells (reL T.kind T.set A n c T.lo T.hi).toArray 31)) := (Below.refl _ _).alloc (Nat.le_refl _) _
  have hbl : Below w.heap.size w w' := hal.trans (h4.mono (Nat.le_succ _))
  have hsz := he.lt
  refine ⟨store_re (hr.step hbl) rfl, BlkIs.farCells (by omega) _ _ _ (ha.step hbl), BlkIs.farCells (by omega) _ _ _ (he.step hbl), below_setCells _ (Nat.le_refl _) _ _ _ (hb.trans (hbl.mono (by omega))), fun V hV => hT.sub fun p v hv => ?_⟩
  obtain ⟨h1, h2⟩ := hide_cell hv
  rw [low_no] at h1
  refine (World.cell?_of_block (w := w') ?_).trans h2
  rw [hV _ (by omega)]
  exact heap_cells _ _ (by omega) _ _ _
set_option maxHeartbeats 2000000 in
theorem parse_any (s : ByteArray) (F : Value) (fr : Frs) (W : World) (hF : FrsAt W fr F) : Calls Try.prog 11 #[.string s, F] W fun e W' => Below W.heap.size W W' ∧ ParsedAs (parseP s fr) e W' := by
  by_cases hs : 400 < s.size
  · exact parse_great s F fr W hs
  have hs4 : s.size ≤ 400 := by omega
  have e1 : decide (400 < (s.size : Int)) = false := by simp; omega
  obtain ⟨A0, c0, rfl, _⟩ := id hF
  obtain ⟨hsf, hr, ha, he, hbw, hsz⟩ := Wpar_facts W s _ fr hF hs4
  have hW := fun W' (h : Sf (W.heap.size + 1 + 1 + 1) s (.slice A0 fr.length c0) fr W' 0 0) => whole_any h
  have HSF := Lib.hid hsf
  have HR := Lib.hid hr
  have HA := Lib.hid ha
  have HE := Lib.hid he
  have HBW := Lib.hid hbw
  have hmf' := hmf
  have hn1 : W.heap.size ≠ W.heap.size + 1 + 1 + 1 := by omega
  have hn2 : W.heap.size + 1 ≠ W.heap.size + 1 + 1 + 1 := by omega
  have hn3 : W.heap.size + 1 + 1 ≠ W.heap.size + 1 + 1 + 1 := by omega
  clear hsf hr ha he hbw hF hs
  /- behind a panic -/
  have hcatch : ∀ (q : Nat × Nat) (W2 : World) (tmps : Array Value), parseP s fr = .error q → Below W.heap.size W W2 → BlkIs W2 W.heap.size 31 zeroL.toArray → BlkIs W2 (W.heap.size + 1) 3 #[.int .i64 0] → BlkIs W2 (W.heap.size + 1 + 1) 32 #[.int .i64 0] →
      tmps.getD 4 undef = .pointer (some ⟨W.heap.size, 0, none⟩) → tmps.getD 5 undef = .pointer (some ⟨W.heap.size + 1, 0, none⟩) → tmps.getD 6 undef = .pointer (some ⟨W.heap.size + 1 + 1, 0, none⟩) →
      Leaves Try.prog Try.f11 tmps (fun e W' => Below W.heap.size W W' ∧ ParsedAs (parseP s fr) e W') [{ target := .fn (.func 19) #[.pointer (some ⟨W.heap.size, 0, none⟩), .pointer (some ⟨W.heap.size + 1, 0, none⟩), .pointer (some ⟨W.heap.size + 1 + 1, 0, none⟩)], args := #[] }] (.panicking [{ v := fltV q, recovered := false }]) W2 := by
    intro q W2 tmps hq hb h1 h2 h3 t4 t5 t6
    refine leaves_cons (f := 19) (args := #[.pointer (some ⟨W.heap.size, 0, none⟩), .pointer (some ⟨W.heap.size + 1, 0, none⟩), .pointer (some ⟨W.heap.size + 1 + 1, 0, none⟩)]) (by simp) (by simp [go_sem]) ?_
    refine (catch_flt W.heap.size (W.heap.size + 1) (W.heap.size + 1 + 1) q W2 h1 rfl h2 rfl h3 rfl (by omega) (by omega) (by omega)).mono ?_
    rintro e u' w'' ⟨rfl, rfl, k1, k2, k3, kb⟩
    rw [zeroL_is] at k1
    refine ⟨_, parse_ret t4 t5 t6 k1 k2 k3, hb.trans (kb _ (Nat.le_refl _) (by omega) (by omega)), ?_⟩
    rw [hq]
    rfl
  have HCA := Lib.hid hcatch
  clear hcatch
  rcases hl : wholeP s fr with q | ⟨T, j⟩
  · have hq : parseP s fr = .error q := by
      unfold parseP
      rw [if_neg (show ¬ 400 < s.size by omega), hl]
    simp only [hl] at hW
    rw [hq] at HCA ⊢
    unfold Wpar zeroL at *
    go_enter_defers Try.func11, Try.ntmps11
    go_wp2_with (first
      | (go_at_call 20; (with_reducible refine (hW _ HSF.out).mono ?_); rintro e W2 ⟨rfl, hk⟩))
    exact HCA.out q W2 _ rfl (HBW.out.trans (hk.1.mono (by omega))) (HR.out.kept hk hn1) (HA.out.kept hk hn2) (HE.out.kept hk hn3) rfl rfl rfl
  simp only [hl] at hW
  rcases parseP_must hs4 hl with ⟨q, hme, hq⟩ | ⟨hme, hq, hnn⟩
  · rw [hq] at HCA ⊢
    unfold Wpar zeroL at *
    go_enter_defers Try.func11, Try.ntmps11
    go_wp2_with (first
      | (go_at_call 20; (with_reducible refine (hW _ HSF.out).mono ?_); rintro e W2 ⟨⟨v, rfl, henc⟩, g2⟩; obtain ⟨A, n, c, rfl⟩ := henc.at.form; have HL := Lib.hid (laidP hsz HBW.out HR.out HA.out HE.out g2 henc.at); have HTH := Lib.hid (BlkIs.new W2 31 zeroL.toArray).there; unfold zeroL at HTH HL; clear henc)
      | (refine wpList_store_mid rfl 31 (.tmp 8) (.tmp 17) rfl W2.heap.size 0 (reL T.kind T.set A n c T.lo T.hi).toArray rfl rfl HTH.out info_re8 reL_all ?_; clear HTH; have hlz := HL.out; clear HL; revert hlz; generalize World.setCells _ _ _ _ = Wb; intro hlz; obtain ⟨b1, b2, b3, b4, b5, b6⟩ := hlz; have B1 := Lib.hid b1; have B2 := Lib.hid b2; have B3 := Lib.hid b3; have B4 := Lib.hid b4; have B5 := Lib.hid b5; have B6 := Lib.hid b6; clear b1 b2 b3 b4 b5 b6)
      | (refine wpList_load_mid rfl 31 (.tmp 8) rfl W2.heap.size 0 rfl (reL T.kind T.set A n c T.lo T.hi) _ B1.out.range Try.underlying31 rfl info_re8 ?_)
      | (go_at_call 21; refine (mustBe_any T _ Wb B6.out).mono ?_; rintro e W3 ⟨rfl, hb3⟩; rw [hme]))
    exact HCA.out q W3 _ rfl (B5.out.trans (hb3.mono B5.out.size)) (B2.out.step hb3) (B3.out.step hb3) (B4.out.step hb3) rfl rfl rfl
  · rw [hq]
    clear HCA
    unfold Wpar zeroL at *
    go_enter_defers Try.func11, Try.ntmps11
    go_wp2_with (first
      | (go_at_call 20; (with_reducible refine (hW _ HSF.out).mono ?_); rintro e W2 ⟨⟨v, rfl, henc⟩, g2⟩; obtain ⟨A, n, c, rfl⟩ := henc.at.form; have HL := Lib.hid (laidP hsz HBW.out HR.out HA.out HE.out g2 henc.at); have HTH := Lib.hid (BlkIs.new W2 31 zeroL.toArray).there; unfold zeroL at HTH HL; clear henc)
      | (refine wpList_store_mid rfl 31 (.tmp 8) (.tmp 17) rfl W2.heap.size 0 (reL T.kind T.set A n c T.lo T.hi).toArray rfl rfl HTH.out info_re8 reL_all ?_; clear HTH; have hlz := HL.out; clear HL; revert hlz; generalize World.setCells _ _ _ _ = Wb; intro hlz; obtain ⟨b1, b2, b3, b4, b5, b6⟩ := hlz; have B1 := Lib.hid b1; have B2 := Lib.hid b2; have B3 := Lib.hid b3; have B4 := Lib.hid b4; have B5 := Lib.hid b5; have B6 := Lib.hid b6; clear b1 b2 b3 b4 b5 b6)
      | (refine wpList_load_mid rfl 31 (.tmp 8) rfl W2.heap.size 0 rfl (reL T.kind T.set A n c T.lo T.hi) _ B1.out.range Try.underlying31 rfl info_re8 ?_)
      | (go_at_call 21; refine (mustBe_any T _ Wb B6.out).mono ?_; rintro e W3 ⟨rfl, hb3⟩; rw [hme])
      | (refine wpList_load_mid rfl 31 (.tmp 8) rfl W2.heap.size 0 rfl [.int .i64 T.kind, .int .u64 (wd T.set 0 : Nat), .int .u64 (wd T.set 1 : Nat), .int .u64 (wd T.set 2 : Nat), .int .u64 (wd T.set 3 : Nat), .slice A n c, .int .i64 T.lo, .int .i64 T.hi] _ (B1.out.step hb3).range Try.underlying31 rfl info_re8 ?_)
      | (go_at_call 22; refine (catP (B6.out.step hb3) hnn).mono ?_; rintro e W4 ⟨v, rfl, hv, hb4⟩; obtain ⟨A', n', c', rfl⟩ := (hv.sub hide_less).form; have HL4 := Lib.hid (laidQ (B5.out.trans (hb3.mono B5.out.size)) (B2.out.step hb3) (B3.out.step hb3) (B4.out.step hb3) hv hb4); have HR4 := Lib.hid (((B2.out.step hb3).alloc (.cells (reL T.kind T.set A n c T.lo T.hi).toArray 31)).below hb4 (Nat.lt_succ_of_lt (B2.out.step hb3).lt)); unfold zeroL at HR4)
      | (refine wpList_store_mid rfl 31 (.tmp 4) (.tmp 22) rfl W.heap.size 0 (reL T.kind T.set A' n' c' T.lo T.hi).toArray rfl rfl (there8 HR4.out rfl) info_re8 reL_all ?_; have hlz := HL4.out; clear HL4 HR4; revert hlz; generalize World.setCells _ _ _ _ = Wc; intro hlz; obtain ⟨d1, d2, d3, d4, d5⟩ := hlz; have D1 := Lib.hid d1; have D2 := Lib.hid d2; have D3 := Lib.hid d3; have D4 := Lib.hid d4; have D5 := Lib.hid d5; have q2 := d2.cell 0; have q3 := d3.cell 0; have w2 := d2.frozen 0; have w3 := d3.frozen 0; simp at q2 q3; clear d1 d2 d3 d4 d5))
    refine leaves_cons (f := 19) (args := #[.pointer (some ⟨W.heap.size, 0, none⟩), .pointer (some ⟨W.heap.size + 1, 0, none⟩), .pointer (some ⟨W.heap.size + 1 + 1, 0, none⟩)]) (by simp) (by simp [go_sem]) ?_
    refine (catch_none _ _ _ _).mono ?_
    rintro e u' w'' ⟨rfl, rfl, rfl⟩
    have k1 := (D1.out.far (p := ⟨W.heap.size + 1, 0, none⟩) (by show W.heap.size ≠ W.heap.size + 1; omega) (.int .i64 0)).far (p := ⟨W.heap.size + 1 + 1, 0, none⟩) (by show W.heap.size ≠ W.heap.size + 1 + 1; omega) (.int .i64 0)
    have k2 := (D2.out.put 0 (.int .i64 0)).far (p := ⟨W.heap.size + 1 + 1, 0, none⟩) (by show W.heap.size + 1 ≠ W.heap.size + 1 + 1; omega) (.int .i64 0)
    have k3 := (D3.out.far (p := ⟨W.heap.size + 1, 0, none⟩) (by show W.heap.size + 1 + 1 ≠ W.heap.size + 1; omega) (.int .i64 0)).put 0 (.int .i64 0)
    refine ⟨_, parse_ret rfl rfl rfl k1 k2 k3, (D4.out.setCell (p := ⟨W.heap.size + 1, 0, none⟩) (by show W.heap.size ≤ W.heap.size + 1; omega) _).setCell (p := ⟨W.heap.size + 1 + 1, 0, none⟩) (by show W.heap.size ≤ W.heap.size + 1 + 1; omega) _, _, rfl, D5.out _ fun k hk => ?_⟩
    exact (Below.heap_setCell _ ⟨W.heap.size + 1 + 1, 0, none⟩ _ k (by show k ≠ W.heap.size + 1 + 1; omega)).trans (Below.heap_setCell _ ⟨W.heap.size + 1, 0, none⟩ _ k (by show k ≠ W.heap.size + 1; omega))
end Go.Proofs.Ytngagijcdehjpaa

