/-
  WHAT Byte, row, Cat, Alt, Rep, Text OF PACKAGE rx ANSWER: contracts: what is made lies in new memory as the tree that the document says. Condition: what is handed in has at most 2^40 nodes.
-/
import Derived.Test.YtngagijcdehjpaaClone2
namespace Go.Proofs.Ytngagijcdehjpaa
open Go.RowKit

theorem info_re8 : (Try.prog.info? 31).map (·.size) = some 8 := by kernel_rfl
theorem reL_all {k lo hi : Int} {m : Nat → Bool} {A : Option Addr} {n c : Nat} : (reL k m A n c lo hi).toArray.all (·.oneCell') = true := by simp [reL, Value.oneCell']
theorem load_re {w : World} {g : Nat} {t : TypeId} {k lo hi : Int} {m : Nat → Bool} {A : Option Addr} {n c : Nat} (h : BlkIs w g t (reL k m A n c lo hi).toArray) : (loadVar 31 ⟨g, 0, none⟩).run Try.prog w = .ok (reV k m A n c lo hi) w :=
  run_loadVar_mid (P := Try.prog) w g 0 31 (reL k m A n c lo hi) _ h.range Try.underlying31 rfl info_re8
theorem store_re {w : World} {g : Nat} {t : TypeId} {k lo hi : Int} {m : Nat → Bool} {A : Option Addr} {n c : Nat} {cs : Array Value} (h : BlkIs w g t cs) (hs : cs.size = 8) :
    BlkIs (w.setCells g 0 (reL k m A n c lo hi)) g t (reL k m A n c lo hi).toArray := h.fill (new := (reL k m A n c lo hi).toArray) (by rw [hs]; rfl)
/-- the zero value of api.Re -/
def zeroL : List Value := [.int .i64 0, .int .u64 0, .int .u64 0, .int .u64 0, .int .u64 0, .slice none 0 0, .int .i64 0, .int .i64 0]
theorem wd_zero (i : Nat) : wd (fun _ => false) i = 0 := by
  refine (eq_wd (by decide) fun j _ => ?_).symm
  simp
theorem zeroL_is : zeroL = reL 0 (fun _ => false) none 0 0 0 0 := by
  unfold zeroL reL
  simp only [wd_zero]; rfl

set_option maxHeartbeats 1000000 in
theorem byte_any (m : Nat → Bool) (w : World) : Calls Try.prog 50 #[setV m] w fun e w' => e = .returned (reV 1 m none 0 0 0 0) ∧ Below w.heap.size w w' := by
  unfold setV
  have hb := BlkIs.new (w.alloc (.cells #[.int .u64 (wd m 0 : Nat), .int .u64 (wd m 1 : Nat), .int .u64 (wd m 2 : Nat), .int .u64 (wd m 3 : Nat)] 28)) 31 zeroL.toArray
  rw [World.size_alloc] at hb
  have h0 : Below w.heap.size w ((w.alloc (.cells #[.int .u64 (wd m 0 : Nat), .int .u64 (wd m 1 : Nat), .int .u64 (wd m 2 : Nat), .int .u64 (wd m 3 : Nat)] 28)).alloc (.cells zeroL.toArray 31)) := ((Below.refl _ _).alloc (Nat.le_refl _) _).alloc (by simp) _
  have hl := load_re (store_re (k := 1) (m := m) (A := none) (n := 0) (c := 0) (lo := 0) (hi := 0) hb rfl)
  have HB := Lib.hid hb
  have H0 := Lib.hid (below_cells (w.heap.size + 1) (reL 1 m none 0 0 0 0) 0 _ (Nat.le_succ _) h0)
  have HL := Lib.hid hl
  clear hb h0 hl
  unfold zeroL at *
  go_enter Try.func50, Try.ntmps50
  go_wp2_with (first | refine wpList_store_mid rfl 31 (.tmp 2) (.tmp 4) rfl (w.heap.size + 1) 0 (reL 1 m none 0 0 0 0).toArray rfl rfl HB.out.there info_re8 reL_all ?_)
  exact bodyPost_ret (results_cell1 rfl rfl HL.out) rfl ⟨rfl, H0.out⟩

/-- V's cells lie so in W, too -/
def Sub (V W : World) : Prop := ∀ p v, V.cell? p = some v → W.cell? p = some v
theorem Sub.refl (W : World) : Sub W W := fun _ _ h => h
theorem Sub.trans {A B C : World} (h : Sub A B) (k : Sub B C) : Sub A C := fun p v hv => k p v (h p v hv)
theorem sub_below {W W' : World} (hb : Below W.heap.size W W') : Sub W W' := fun p _ hv => (hb.cell (World.block_lt_of_cell? W p hv)).trans hv
theorem Tree.At.sub {V W : World} (hs : Sub V W) : ∀ (T : Tree) {v : Value}, Tree.At V T v → Tree.At W T v := by
  intro T
  induction T using Tree.ind with
  | h k m l lo hi ih =>
    intro v h
    unfold Tree.At at h ⊢
    obtain ⟨A, c, rfl, hc, hl⟩ := h
    refine ⟨A, c, rfl, hc, fun hne => ?_⟩
    obtain ⟨b, o, rfl, ha⟩ := hl hne
    refine ⟨b, o, rfl, AllAt.mk l b o fun i hi => ?_⟩
    obtain ⟨cs, h1, h2, h3⟩ := AllAt.get l b o ha i hi
    exact ⟨cs, ih _ (List.getElem_mem hi) h1, h2, fun j v hv => hs _ _ (h3 j v hv)⟩
theorem AllAt.sub {V W : World} (hs : Sub V W) {l : List Tree} {b o : Nat} (h : AllAt V l b o) : AllAt W l b o :=
  AllAt.mk l b o fun i hi => by
    obtain ⟨cs, h1, h2, h3⟩ := AllAt.get l b o h i hi
    exact ⟨cs, h1.sub hs, h2, fun j v hv => hs _ _ (h3 j v hv)⟩
/-- a world without a block -/
def less (W : World) (g : Nat) : World := W.putObj g (.deferred none)
theorem less_cell {W : World} {g : Nat} {p : Addr} {v : Value} (h : (less W g).cell? p = some v) : p.block ≠ g ∧ W.cell? p = some v := by
  by_cases e : p.block = g
  · exfalso
    unfold less World.putObj World.cell? at h
    subst e
    by_cases hl : p.block < W.heap.size
    · simp [hl] at h
    · simp [hl] at h
  · refine ⟨e, ?_⟩
    rw [← h]
    exact (World.cell?_of_block (w := W) (World.putObj_heap_other e)).symm
theorem less_sub {W W' : World} {g : Nat} (h : ∀ k, k ≠ g → W.heap[k]? ≠ none → W'.heap[k]? = W.heap[k]?) : Sub (less W g) W' := fun p v hv => by
  obtain ⟨h1, h2⟩ := less_cell hv
  rw [World.cell?_of_block (w := W)]
  · exact h2
  · refine h _ h1 fun hn => ?_
    rw [World.cell?, hn] at h2
    cases h2

def rowT (kind : Int) (none : Tree) : List Tree → Tree
  | [] => none
  | [t] => t
  | l => .node kind (fun _ => false) l 0 0
theorem rowT_many (kind : Int) (z : Tree) {l : List Tree} (h : 2 ≤ l.length) : rowT kind z l = .node kind (fun _ => false) l 0 0 := by
  match l, h with
  | _ :: _ :: _, _ => rfl

set_option maxRecDepth 10000 in
set_option maxHeartbeats 2000000 in
theorem row_any (kind : Int) (l : List Tree) (A : Option Addr) (c : Nat) (z : Tree) (k0 lo0 hi0 : Int) (m0 : Nat → Bool) (A0 : Option Addr) (n0 c0 : Nat) (w V : World) (hV : Sub V w) (hat : l ≠ [] → ∃ b o, A = some ⟨b, o, none⟩ ∧ AllAt V l b o) (hc : l.length ≤ c ∧ c ≤ 9223372036854775807)
    (hz : Tree.At V z (reV k0 m0 A0 n0 c0 lo0 hi0)) :
    Calls Try.prog 32 #[.int .i64 kind, .slice A l.length c, reV k0 m0 A0 n0 c0 lo0 hi0] w fun e w' => ∃ v, e = .returned v ∧ Tree.At V (rowT kind z l) v ∧ Below w.heap.size w w' := by
  have hb := BlkIs.new (w.alloc (.cells (reL k0 m0 A0 n0 c0 lo0 hi0).toArray 31)) 31 zeroL.toArray
  rw [World.size_alloc] at hb
  have hb0 := (BlkIs.new w 31 (reL k0 m0 A0 n0 c0 lo0 hi0).toArray).alloc (.cells zeroL.toArray 31)
  have h0 : Below w.heap.size w ((w.alloc (.cells (reL k0 m0 A0 n0 c0 lo0 hi0).toArray 31)).alloc (.cells zeroL.toArray 31)) := ((Below.refl _ _).alloc (Nat.le_refl _) _).alloc (by simp) _
  obtain ⟨W2, hW2⟩ : ∃ W2, W2 = (w.alloc (.cells (reL k0 m0 A0 n0 c0 lo0 hi0).toArray 31)).alloc (.cells zeroL.toArray 31) := ⟨_, rfl⟩
  rw [← hW2] at hb hb0 h0
  have HB := Lib.hid hb
  have HB0 := Lib.hid hb0
  have H0 := Lib.hid h0
  have fin : ∀ (k lo hi : Int) (m : Nat → Bool) (A : Option Addr) (n c : Nat), (loadVar 31 ⟨w.heap.size + 1, 0, none⟩).run Try.prog (W2.setCells (w.heap.size + 1) 0 (reL k m A n c lo hi)) = .ok (reV k m A n c lo hi) (W2.setCells (w.heap.size + 1) 0 (reL k m A n c lo hi)) ∧ Below w.heap.size w (W2.setCells (w.heap.size + 1) 0 (reL k m A n c lo hi)) :=
    fun k lo hi m A n c => ⟨load_re (store_re HB.out rfl), below_cells (w.heap.size + 1) (reL k m A n c lo hi) 0 _ (Nat.le_succ _) H0.out⟩
  have HF := Lib.hid fin
  have HZ := Lib.hid hz
  have HAT := Lib.hid hat
  clear hb hb0 h0 fin hz hat
  have hr0 := HB0.out.range
  have c5 := HB0.out.eight
  have HW := Lib.hid hW2
  unfold zeroL reL at hW2
  unfold reL at c5
  obtain ⟨z0, z1, z2, z3, z4, z5, z6, z7⟩ := c5
  have hthere := HB.out.there
  match l with
  | [] =>
    have e0 : (((0 : Nat) : Int) == 0) = true := rfl
    simp only [List.length_nil]
    unfold reV reL at *
    go_enter Try.func32, Try.ntmps32
    go_wp2_with (first | rw [← hW2] | refine wpList_store_mid rfl 31 (.tmp 6) (.tmp 11) rfl (w.heap.size + 1) 0 (reL k0 m0 A0 n0 c0 lo0 hi0).toArray rfl rfl HB.out.there info_re8 reL_all ?_)
    obtain ⟨f1, f2⟩ := HF.out k0 lo0 hi0 m0 A0 n0 c0
    exact bodyPost_ret (results_cell1 rfl rfl f1) rfl ⟨_, rfl, HZ.out, f2⟩
  | [t] =>
    obtain ⟨b, o, rfl, ha⟩ := HAT.out (by simp)
    unfold AllAt at ha
    obtain ⟨⟨cs, h1, h2, h3⟩, _⟩ := ha
    obtain ⟨A1, n1, c1, rfl⟩ := h1.eight
    have HR := Lib.hid (rangeAt_step (W := w) (fun j v hv => hV _ _ (h3 j v hv)) (by simp [reL]) H0.out)
    have HH := Lib.hid h1
    clear h1 h2 h3
    have hcc : (1 : Nat) ≤ c := hc.1
    simp only [List.length_cons, List.length_nil, Nat.zero_add] at *
    unfold reV reL
    go_enter Try.func32, Try.ntmps32
    go_wp2_with (first | rw [← hW2] | refine wpList_load_mid rfl 31 (.tmp 15) rfl b o rfl (reL t.kind t.set A1 n1 c1 t.lo t.hi) _ HR.out Try.underlying31 rfl info_re8 ?_ | refine wpList_store_mid rfl 31 (.tmp 6) (.tmp 16) rfl (w.heap.size + 1) 0 (reL t.kind t.set A1 n1 c1 t.lo t.hi).toArray rfl rfl HB.out.there info_re8 reL_all ?_)
    obtain ⟨f1, f2⟩ := HF.out t.kind t.lo t.hi t.set A1 n1 c1
    exact bodyPost_ret (results_cell1 rfl rfl f1) rfl ⟨_, rfl, HH.out, f2⟩
  | t :: t2 :: r =>
    have e0 : (((t :: t2 :: r).length : Int) == 0) = false := by simp; omega
    have e1 : (((t :: t2 :: r).length : Int) == 1) = false := by simp; omega
    have hT : Tree.At V (rowT kind z (t :: t2 :: r)) (reV kind (fun _ => false) A (t :: t2 :: r).length c 0 0) := by
      rw [rowT_many kind z (by simp)]
      unfold Tree.At
      exact ⟨A, c, rfl, hc, HAT.out⟩
    have HT := Lib.hid hT
    clear hT
    generalize hn : (t :: t2 :: r).length = n at *
    unfold reV reL
    have hz4 : ∀ i, (wd (fun _ => false) i : Nat) = 0 := wd_zero
    go_enter Try.func32, Try.ntmps32
    go_wp2_with (first | rw [← hW2] | refine wpList_store_mid rfl 31 (.tmp 6) (.tmp 19) rfl (w.heap.size + 1) 0 (reL kind (fun _ => false) A n c 0 0).toArray rfl (by simp only [reL, hz4]; rfl) HB.out.there info_re8 reL_all ?_)
    obtain ⟨f1, f2⟩ := HF.out kind 0 0 (fun _ => false) A n c
    exact bodyPost_ret (results_cell1 rfl rfl f1) rfl ⟨_, rfl, HT.out, f2⟩

theorem Tree.At.form {W : World} {T : Tree} {v : Value} (h : Tree.At W T v) : ∃ A n c, v = reV T.kind T.set A n c T.lo T.hi := by
  cases T with
  | node k m l lo hi =>
    obtain ⟨A, c, rfl, _⟩ := h.open
    exact ⟨A, l.length, c, rfl⟩
theorem AllAt.step {W W' : World} {l : List Tree} {b o : Nat} (h : AllAt W l b o) (hb : Below W.heap.size W W') : AllAt W' l b o :=
  AllAt.mk l b o fun i hi => by
    obtain ⟨cs, h1, h2, h3⟩ := AllAt.get l b o h i hi
    exact ⟨cs, h1.step hb, h2, rangeAt_step h3 (by intro e; subst e; simp at h2) hb⟩
theorem at_none (k : Int) (w : World) : Tree.At w (.node k (fun _ => false) [] 0 0) (reV k (fun _ => false) none 0 0 0 0) := by
  unfold Tree.At
  exact ⟨none, 0, rfl, ⟨Nat.le_refl _, by omega⟩, fun h => absurd rfl h⟩
theorem less_other {W : World} {g n : Nat} (h : g < n) : ∀ k, n ≤ k → (less W g).heap[k]? = W.heap[k]? := fun k hk => World.putObj_heap_other (by omega)
theorem some_lt {W : World} {k : Nat} (h : W.heap[k]? ≠ none) : k < W.heap.size := by
  rcases Nat.lt_or_ge k W.heap.size with h1 | h1
  · exact h1
  · exact absurd (Array.getElem?_eq_none h1) h
theorem sub_two {W W' : World} {g : Nat} (hb : Below W.heap.size W W') : Sub (less W g) W' := less_sub fun k _ hn => hb.block k (some_lt hn)
theorem heap_cells (g k : Nat) (hk : k ≠ g) : ∀ (vs : List Value) (o : Nat) (w : World), (w.setCells g o vs).heap[k]? = w.heap[k]?
  | [], _, _ => rfl
  | v :: r, o, w => by
    rw [World.setCells, heap_cells g k hk r (o + 1)]
    exact Below.heap_setCell w ⟨g, o, none⟩ v k hk
theorem byte_zero (w : World) : Calls Try.prog 50 #[.agg #[.int .u64 0, .int .u64 0, .int .u64 0, .int .u64 0]] w fun e w' => e = .returned (reV 1 (fun _ => false) none 0 0 0 0) ∧ Below w.heap.size w w' := by
  have := byte_any (fun _ => false) w
  rwa [set0_build] at this
theorem row_zero (kind : Int) (l : List Tree) (A : Option Addr) (c : Nat) (w V : World) (hV : Sub V w) (hat : l ≠ [] → ∃ b o, A = some ⟨b, o, none⟩ ∧ AllAt V l b o) (hc : l.length ≤ c ∧ c ≤ 9223372036854775807) :
    Calls Try.prog 32 #[.int .i64 kind, .slice A l.length c, .agg #[.int .i64 0, .int .u64 0, .int .u64 0, .int .u64 0, .int .u64 0, .slice none 0 0, .int .i64 0, .int .i64 0]] w fun e w' => ∃ v, e = .returned v ∧ Tree.At V (rowT kind (.node 0 (fun _ => false) [] 0 0) l) v ∧ Below w.heap.size w w' := by
  have := row_any kind l A c (.node 0 (fun _ => false) [] 0 0) 0 0 0 (fun _ => false) none 0 0 w V hV hat hc (at_none 0 V)
  have hz : reV 0 (fun _ => false) none 0 0 0 0 = .agg #[.int .i64 0, .int .u64 0, .int .u64 0, .int .u64 0, .int .u64 0, .slice none 0 0, .int .i64 0, .int .i64 0] := by
    unfold reV
    rw [← zeroL_is]; rfl
  rwa [hz] at this

set_option maxRecDepth 10000 in
set_option maxHeartbeats 2000000 in
theorem cat_any (l : List Tree) (A : Option Addr) (c : Nat) (w : World) (hat : l ≠ [] → ∃ b o, A = some ⟨b, o, none⟩ ∧ AllAt w l b o) (hn : nodesL l ≤ 1099511627776) :
    Calls Try.prog 22 #[.slice A l.length c] w fun e w' => ∃ v, e = .returned v ∧ Tree.At w' (rowT 2 (.node 0 (fun _ => false) [] 0 0) l) v ∧ Below w.heap.size w w' := by
  have hb := BlkIs.new w 31 zeroL.toArray
  have h0 : Below w.heap.size w (w.alloc (.cells zeroL.toArray 31)) := (Below.refl _ _).alloc (Nat.le_refl _) _
  have hcl := clone_any l A c (w.alloc (.cells zeroL.toArray 31)) (fun hne => by obtain ⟨b, o, h1, h2⟩ := hat hne; exact ⟨b, o, h1, h2.step h0⟩) hn
  have HB := Lib.hid hb
  have H0 := Lib.hid h0
  have HCL := Lib.hid hcl
  clear hb h0 hcl hat
  obtain ⟨R, hR⟩ : ∃ R, R = rowT 2 (.node 0 (fun _ => false) [] 0 0) l := ⟨_, rfl⟩
  rw [← hR]
  have HRR := Lib.hid hR
  clear hR
  unfold zeroL at *
  go_enter Try.func22, Try.ntmps22
  go_wp2_with (first
    | (go_at_call 33; go_must (refine HCL.out.mono ?_); rintro e w1 ⟨A', c', rfl, k1, k2, k3, hb1⟩)
    | (go_at_call 32; go_must (refine (row_zero 2 l A' c' w1 (less w1 w.heap.size) (less_sub fun _ _ _ => rfl) (fun hne => (k3 hne).imp fun g h => ⟨0, h.1, h.2.2 _ (less_other (by simp))⟩) ⟨k1, k2⟩).mono ?_); rintro e w3 ⟨v, rfl, hv, hb3⟩; obtain ⟨A2, n2, c2, rfl⟩ := hv.form; have hB3 := HB.out.step (hb1.trans (hb3.mono hb1.size)))
    | (refine wpList_store_mid rfl 31 (.tmp 2) (.tmp 6) rfl w.heap.size 0 (reL _ _ A2 n2 c2 _ _).toArray rfl rfl hB3.there info_re8 reL_all ?_))
  have hB := H0.out.trans ((hb1.trans (hb3.mono hb1.size)).mono H0.out.size)
  rw [← HRR.out] at hv ⊢
  have hl := load_re (store_re (k := R.kind) (m := R.set) (A := A2) (n := n2) (c := c2) (lo := R.lo) (hi := R.hi) hB3 rfl)
  have hB4 := below_cells w.heap.size (reL R.kind R.set A2 n2 c2 R.lo R.hi) 0 _ (Nat.le_refl _) hB
  exact bodyPost_ret (results_cell1 rfl rfl hl) rfl ⟨_, rfl, hv.sub (less_sub fun k hk hn => (heap_cells w.heap.size k hk _ 0 w3).trans (hb3.block k (some_lt hn))), hB4⟩

end Go.Proofs.Ytngagijcdehjpaa

