/-
  WHAT Rep AND Text OF PACKAGE rx ANSWER: contracts. Condition: what is handed in has at most 2^40 nodes; the text at most 2^30 bytes.
-/
import Derived.RangeFuncNested
import Derived.RangeFuncWrites
import Derived.RangeFuncBound
import Derived.RangeFuncCalls
import Derived.RangeFuncLeaves
import Derived.Test.YtkladjjeacjgpaaDoorQG05
import Derived.Test.YtkladjjeacjgpaaDoorQEnds
import Derived.Test.YtkladjjeacjgpaaDoorQMayn
namespace Go.Proofs.YtkladjjeacjgpaaDoor
open Go.RowKit

set_option maxRecDepth 10000 in
set_option maxHeartbeats 2000000 in
theorem rep_any (T : Tree) (v : Value) (lo hi : Int) (w : World) (hat : Tree.At w T v) (hn : T.nodes ≤ 1099511627776) :
    Calls Tryd.prog 61 #[v, .int .i64 lo, .int .i64 hi] w fun e w' => ∃ v', e = .returned v' ∧ Tree.At w' (.node 4 (fun _ => false) [T] lo hi) v' ∧ Below w.heap.size w w' := by
  obtain ⟨A, n, c, rfl⟩ := hat.form
  generalize hk : T.kind = k at *
  generalize hm : T.set = m at *
  generalize hl : T.lo = l at *
  generalize hh : T.hi = h at *
  obtain ⟨W2, hW2⟩ : ∃ W2, W2 = ((w.alloc (.cells (reL k m A n c l h).toArray 27)).alloc (.cells zeroL.toArray 27)).alloc (.cells (reL k m A n c l h).toArray 27) := ⟨_, rfl⟩
  have hB : Below w.heap.size w W2 := by rw [hW2]; exact (((Below.refl _ _).alloc (Nat.le_refl _) _).alloc (by simp) _).alloc (by simp; omega) _
  have hres : BlkIs W2 (w.heap.size + 1) 27 zeroL.toArray := by
    have := (BlkIs.new (w.alloc (.cells (reL k m A n c l h).toArray 27)) 27 zeroL.toArray).alloc (.cells (reL k m A n c l h).toArray 27)
    rw [World.size_alloc] at this
    rw [hW2]; exact this
  have harr : BlkIs W2 (w.heap.size + 1 + 1) 27 (reL k m A n c l h).toArray := by
    have := BlkIs.new ((w.alloc (.cells (reL k m A n c l h).toArray 27)).alloc (.cells zeroL.toArray 27)) 27 (reL k m A n c l h).toArray
    rw [World.size_alloc, World.size_alloc] at this
    rw [hW2]; exact this
  have hsz : W2.heap.size = w.heap.size + 3 := by rw [hW2]; simp
  have hcl := clone_any [T] (some ⟨w.heap.size + 1 + 1, 0, none⟩) 1 W2 (fun _ => ⟨_, 0, rfl, by
    refine AllAt.mk [T] _ 0 fun i hi => ?_
    obtain rfl : i = 0 := by simpa using hi
    refine ⟨reL k m A n c l h, hat.step hB, rfl, fun j v hv => ?_⟩
    have := harr.cell j
    simpa [hv] using this⟩) (by simpa [nodesL] using hn)
  have HB := Lib.hid hB
  have HR := Lib.hid hres
  have HCL := Lib.hid hcl
  have HW := Lib.hid hW2
  clear hB hres harr hcl hat
  simp only [List.length_cons, List.length_nil, Nat.zero_add] at HCL
  unfold zeroL at *
  unfold reV reL at *
  go_enter Tryd.func61, Tryd.ntmps61
  go_wp2_with (first
    | rw [← hW2]
    | (go_at_call 52; go_must (refine HCL.out.mono ?_); rintro e w1 ⟨A', c', rfl, k1, k2, k3, hb1⟩; have hB3 := HR.out.step hb1)
    | (refine wpList_store_mid rfl 27 (.tmp 6) (.tmp 12) rfl (w.heap.size + 1) 0 (reL 4 (fun _ => false) A' 1 c' lo hi).toArray rfl (by simp only [reL, wd_zero]; rfl) hB3.there info_re8 reL_all ?_))
  have hBe := HB.out.trans (hb1.mono HB.out.size)
  have hl := load_re (store_re (k := 4) (m := fun _ => false) (A := A') (n := 1) (c := c') (lo := lo) (hi := hi) hB3 rfl)
  have hB4 := below_cells (w.heap.size + 1) (reL 4 (fun _ => false) A' 1 c' lo hi) 0 _ (Nat.le_succ _) hBe
  refine bodyPost_ret (results_cell1 rfl rfl hl) rfl ⟨_, rfl, ?_, hB4⟩
  obtain ⟨g, rfl, hg, hall⟩ := k3 (by simp)
  unfold Tree.At
  refine ⟨some ⟨g, 0, none⟩, c', rfl, ⟨k1, k2⟩, fun _ => ⟨g, 0, rfl, (hall (less w1 (w.heap.size + 1)) (less_other (by omega))).sub (less_sub fun k hk hn => heap_cells (w.heap.size + 1) k hk _ 0 w1)⟩⟩

/-- a byte of a text -/
def byteT (b : UInt8) : Tree := .node 1 (sOf [b.toNat]) [] 0 0
def textT (s : List UInt8) : Tree := rowT 2 (.node 0 (fun _ => false) [] 0 0) (s.map byteT)
/-- the first j bytes are laid -/
def TextRow (s : List UInt8) (L j : Nat) (W : World) : Prop := W.there L 0 (s.length * 8) ∧ (∀ i, W.frozen? ⟨L, i, none⟩ = false) ∧ ∀ (i : Nat) (h : i < s.length), i < j → W.rangeAt L (i * 8) (reL 1 (sOf [s[i].toNat]) none 0 0 0 0)

theorem size_cells (g : Nat) : ∀ (vs : List Value) (o : Nat) (w : World), (w.setCells g o vs).heap.size = w.heap.size
  | [], _, _ => rfl
  | v :: r, o, w => by rw [World.setCells, size_cells g r (o + 1)]; exact World.size_setCell _ _ _
theorem text_steps {wr w1 w2 : World} {L j n : Nat} {s : ByteArray} {ob : Obj} (hL : L < wr.heap.size) (h : TextRow s.data.toList L j wr) (hb1 : Below (wr.alloc ob).heap.size (wr.alloc ob) w1) (hb2 : Below w1.heap.size w1 w2) (hlen : s.data.toList.length = n) (hp : j < n) {x : UInt8}
    (hx : x = s.data.toList[j]'(by omega)) :
    w2.there L (j * 8) (reL 1 (sOf [x.toNat]) none 0 0 0 0).toArray.size ∧ Below wr.heap.size wr w2 ∧ TextRow s.data.toList L (j + 1) (w2.setCells L (j * 8) (reL 1 (sOf [x.toNat]) none 0 0 0 0)) := by
  have hb : Below wr.heap.size wr w2 := ((Below.refl _ _).alloc (Nat.le_refl _) ob).trans ((hb1.trans (hb2.mono hb1.size)).mono (by simp))
  have hcell : ∀ i, w2.cell? ⟨L, i, none⟩ = wr.cell? ⟨L, i, none⟩ := fun i => hb.cell (p := ⟨L, i, none⟩) hL
  have hth : ∀ o m, o + m ≤ n * 8 → w2.there L o m := fun o m hm q hq => by
    have := h.1 (o + q) (by omega)
    rw [Nat.zero_add] at this
    rw [hcell, hb.frozen (p := ⟨L, o + q, none⟩) hL]
    exact this
  refine ⟨hth _ _ (by simp [reL]; omega), hb, World.there_setCells (by rw [hlen]; exact hth 0 _ (by omega)) _ _ _, fun i => ?_, fun i hi hij => ?_⟩
  · rw [World.frozen?_setCells, hb.frozen (p := ⟨L, i, none⟩) hL]
    exact h.2.1 i
  · by_cases e : i = j
    · subst e
      rw [← hx]
      exact World.rangeAt_setCells_same w2 L (i * 8) _ (hth _ _ (by simp [reL]; omega))
    · refine World.rangeAt_setCells_apart (fun q v hv => (hcell _).trans (h.2.2 i hi (by omega) q v hv)) _ _ _ (.inr ?_)
      simp only [reL, List.length_cons, List.length_nil]
      omega

end Go.Proofs.YtkladjjeacjgpaaDoor

/-
  A WORLD WITH SOME BLOCKS HIDDEN. No condition.
-/
namespace Go.Proofs.YtkladjjeacjgpaaDoor
open Go.RowKit

/-- a world with some blocks hidden -/
def hide (W : World) (H : Nat → Bool) : World := { W with heap := W.heap.mapIdx fun k o => if H k then .deferred none else o }
theorem hide_get (W : World) (H : Nat → Bool) (k : Nat) : (hide W H).heap[k]? = (W.heap[k]?).map fun o => if H k then .deferred none else o := by
  unfold hide; simp
theorem hide_size (W : World) (H : Nat → Bool) : (hide W H).heap.size = W.heap.size := by unfold hide; simp
theorem hide_cell {W : World} {H : Nat → Bool} {p : Addr} {v : Value} (h : (hide W H).cell? p = some v) : H p.block = false ∧ W.cell? p = some v := by
  cases e : H p.block
  · refine ⟨rfl, ?_⟩
    rw [← h]
    refine (World.cell?_of_block (w := W) ?_).symm
    rw [hide_get]
    simp [e]
  · exfalso
    unfold World.cell? at h
    rw [hide_get, e] at h
    cases hb : W.heap[p.block]? with
    | none => rw [hb] at h; cases h
    | some x => rw [hb] at h; cases h
theorem hide_show {W : World} {H : Nat → Bool} {p : Addr} {v : Value} (e : H p.block = false) (h : W.cell? p = some v) : (hide W H).cell? p = some v := by
  rw [← h]
  refine World.cell?_of_block (w := W) ?_
  rw [hide_get]
  simp [e]
theorem hide_sub {W W' : World} {H H' : Nat → Bool} (h : ∀ k, H k = false → k < W.heap.size → H' k = false ∧ W'.heap[k]? = W.heap[k]?) : Sub (hide W H) (hide W' H') := fun p v hv => by
  obtain ⟨h1, h2⟩ := hide_cell hv
  obtain ⟨h3, h4⟩ := h _ h1 (World.block_lt_of_cell? W p h2)
  exact hide_show h3 ((World.cell?_of_block (w := W) h4).trans h2)
theorem hide_less {W : World} {H : Nat → Bool} : Sub (hide W H) W := fun _ _ hv => (hide_cell hv).2

def low (n k : Nat) : Bool := decide (k < n)
theorem low_no {n k : Nat} : low n k = false ↔ n ≤ k := by unfold low; simp
end Go.Proofs.YtkladjjeacjgpaaDoor

/-
  ITERATORS THAT TELL TREES, TO WHATEVER LOOP: what a caller of such an iterator says is said with the blocks that it holds ('O'): who leaves these as they lie leaves what is said as it is. The law of 'range over a function' over such an iterator. No condition.
-/
namespace Go.Proofs.YtkladjjeacjgpaaDoor
open Go.RowKit

/-- nothing but blocks of O, and new ones, has turned -/
structure Far (O : Nat → Prop) (W W' : World) : Prop where
  os : W'.os = W.os
  tape : W'.tape = W.tape
  output : W'.output = W.output
  size : W.heap.size ≤ W'.heap.size
  far : ∀ k, k < W.heap.size → ¬ O k → W'.heap[k]? = W.heap[k]?
/-- what O' has beyond O is new -/
def InN (O : Nat → Prop) (W : World) (O' : Nat → Prop) : Prop := ∀ k, O' k → O k ∨ W.heap.size ≤ k
theorem InN.refl (O : Nat → Prop) (W : World) : InN O W O := fun _ h => .inl h
theorem InN.trans {O O' O2 : Nat → Prop} {A B : World} (h : InN O A O') (k : InN O' B O2) (hs : A.heap.size ≤ B.heap.size) : InN O A O2 := fun x hx => by
  rcases k x hx with g | g
  · exact h x g
  · exact .inr (by omega)
theorem Far.refl (O : Nat → Prop) (W : World) : Far O W W := ⟨rfl, rfl, rfl, Nat.le_refl _, fun _ _ _ => rfl⟩
theorem Far.trans {O O' : Nat → Prop} {A B C : World} (h : Far O A B) (hi : InN O A O') (k : Far O' B C) : Far O A C :=
  ⟨k.os.trans h.os, k.tape.trans h.tape, k.output.trans h.output, Nat.le_trans h.size k.size, fun x hx hn => (k.far x (Nat.lt_of_lt_of_le hx h.size) (fun g => (hi x g).elim hn (by omega))).trans (h.far x hx hn)⟩
theorem Far.mono {O O' : Nat → Prop} {A B : World} (h : Far O A B) (hi : ∀ k, O k → O' k) : Far O' A B := ⟨h.os, h.tape, h.output, h.size, fun k hk hn => h.far k hk (fun g => hn (hi k g))⟩
theorem Far.of_below {O : Nat → Prop} {W W' : World} (h : Below W.heap.size W W') : Far O W W' := ⟨h.os, h.tape, h.output, h.size, fun k hk _ => h.block k hk⟩
theorem Far.below {O : Nat → Prop} {W W' : World} {n : Nat} (h : Far O W W') (hn : n ≤ W.heap.size) (hO : ∀ k, O k → n ≤ k) : Below n W W' :=
  ⟨h.os, h.tape, h.output, h.size, fun k hk => h.far k (by omega) (fun g => by have := hO k g; omega)⟩
theorem Far.alloc {O : Nat → Prop} {W W' : World} (h : Far O W W') (o : Obj) : Far O W (W'.alloc o) := h.trans (InN.refl O W) (Far.of_below ((Below.refl _ _).alloc (Nat.le_refl _) o))
theorem far_put {O : Nat → Prop} {W : World} {l : Nat} (o : Obj) (hO : O l) : Far O W (W.putObj l o) := ⟨rfl, rfl, rfl, by simp, fun k _ hn => World.putObj_heap_other (fun e => hn (e ▸ hO))⟩
theorem far_grown {O : Nat → Prop} {W W' : World} {row : Option Nat} (hg : W.grownBy W' row) (hr : ∀ k, row = some k → O k) : Far O W W' :=
  ⟨hg.os, hg.tape, hg.output, hg.size, fun k hk hn => hg.block k hk (fun e => hn (hr k e.symm))⟩
theorem far_set {O : Nat → Prop} {W : World} {b i : Nat} (v : Value) (hO : O b) : Far O W (W.setCell ⟨b, i, none⟩ v) := ⟨rfl, rfl, rfl, by simp [World.setCell], fun k _ hn => Below.heap_setCell _ _ _ k (fun e => hn (by rw [e]; exact hO))⟩

/-- the blocks of O lie as they lay -/
structure Near (O : Nat → Prop) (W W' : World) : Prop where
  size : W.heap.size ≤ W'.heap.size
  near : ∀ k, O k → W'.heap[k]? = W.heap[k]?
abbrev Held := (Nat → Prop) → World → Prop
structure Holder (J : Held) : Prop where
  lt : ∀ O W, J O W → ∀ k, O k → k < W.heap.size
  keep : ∀ O W W', J O W → Near O W W' → J O W'
theorem Far.near {O O' : Nat → Prop} {W W' : World} (h : Far O W W') (hl : ∀ k, O' k → k < W.heap.size) (hd : ∀ k, O' k → ¬ O k) : Near O' W W' := ⟨h.size, fun k hk => h.far k (hl k hk) (hd k hk)⟩
theorem near_alloc {O : Nat → Prop} {W : World} (o : Obj) (hl : ∀ k, O k → k < W.heap.size) : Near O W (W.alloc o) := ⟨by simp, fun k hk => Below.heap_alloc _ _ _ (hl k hk)⟩
theorem near_put {O : Nat → Prop} {W : World} {l : Nat} (o : Obj) (hO : ¬ O l) : Near O W (W.putObj l o) := ⟨by simp, fun k hk => World.putObj_heap_other (fun e => hO (e ▸ hk))⟩
theorem Near.trans {O : Nat → Prop} {A B C : World} (h : Near O A B) (k : Near O B C) : Near O A C := ⟨Nat.le_trans h.size k.size, fun x hx => (k.near x hx).trans (h.near x hx)⟩
/-- what is said next: with what was held, and new blocks -/
def NextIs (O : Nat → Prop) (W : World) (J : Held) (W' : World) : Prop := ∃ O', J O' W' ∧ InN O W O' ∧ Far O W W'
theorem NextIs.refl {O : Nat → Prop} {W : World} {J : Held} (h : J O W) : NextIs O W J W := ⟨O, h, InN.refl O W, Far.refl O W⟩
theorem NextIs.mono {O : Nat → Prop} {W W' : World} {J J' : Held} (h : NextIs O W J W') (hj : ∀ O, J O W' → J' O W') : NextIs O W J' W' := h.imp fun O' h => ⟨hj O' h.1, h.2⟩
theorem NextIs.wide {O O2 : Nat → Prop} {W W' : World} {J : Held} (h : NextIs O W J W') (hs : ∀ k, O k → O2 k) : NextIs O2 W J W' := by
  obtain ⟨O', h1, h2, h3⟩ := h
  exact ⟨O', h1, fun k hk => (h2 k hk).imp (hs k) id, h3.mono hs⟩
theorem NextIs.trans {O : Nat → Prop} {A B C : World} {J J' : Held} (h : NextIs O A J B) (hk : ∀ O', J O' B → NextIs O' B J' C) : NextIs O A J' C := by
  obtain ⟨O1, h1, h2, h3⟩ := h
  obtain ⟨O2, k1, k2, k3⟩ := hk O1 h1
  exact ⟨O2, k1, h2.trans k2 h3.size, h3.trans h2 k3⟩
/-- what V says of cells is not held -/
def Clear (V : World) (O : Nat → Prop) : Prop := ∀ p v, V.cell? p = some v → ¬ O p.block
theorem Clear.next {V W : World} {O O' : Nat → Prop} (hc : Clear V O) (hs : Sub V W) (hi : InN O W O') : Clear V O' := fun p v hv ho => by
  rcases hi _ ho with h | h
  · exact hc p v hv h
  · have := World.block_lt_of_cell? W p (hs p v hv)
    omega
theorem Sub.far {V W W' : World} {O : Nat → Prop} (hs : Sub V W) (hc : Clear V O) (hf : Far O W W') : Sub V W' := fun p v hv => by
  have h1 := hs p v hv
  rw [World.cell?_of_block (w := W)]
  · exact h1
  · exact hf.far _ (World.block_lt_of_cell? W p h1) (hc p v hv)

theorem YieldAt.anyN {n m : Nat} {P : Program} {l : Nat} {args : Array Value} {W : World} {R : Ending → World → Prop} (h : YieldAt Fence.wide n P l args W R) : YieldAt Fence.wide m P l args W R := by
  obtain ⟨fn, tmps, assign, body, h1, h2⟩ := h
  exact ⟨fn, tmps, assign, body, h1, h2.1, fun c cs _ => h2.2 c cs (room_wide _)⟩

/-- function gf, with lb laid behind its arguments, tells the trees ts of V -/
def Tells (gf : Nat) (lb : Array Value) (ts : List Tree) (V : World) : Prop :=
  ∀ (l : Nat) (J : Nat → Held) (X : Held) (O : Nat → Prop) (W : World), (∀ i, Holder (J i)) → Holder X → Sub V W → Clear V O → J 0 O W →
    (∀ (i : Nat) (h : i < ts.length) (O : Nat → Prop) (W : World) (cs : List Value), J i O W → Sub V W → Clear V O → Tree.At V ts[i] (.agg cs.toArray) → cs.length = 8 →
      YieldAt Fence.wide 1 Tryd.prog l #[.agg cs.toArray] W fun e W' => (e = .returned (.bool true) ∧ NextIs O W (J (i + 1)) W') ∨ (e = .returned (.bool false) ∧ NextIs O W X W')) →
    CallsIn Fence.wide 2 Tryd.prog gf (#[.func (.yield l) #[] #[]] ++ lb) W fun e W' => (∃ v, e = .returned v) ∧ (NextIs O W (J ts.length) W' ∨ NextIs O W X W')

/-- how a round may be left -/
def tellEnds (O : Nat → Prop) (W : World) (J : Held) (Jx : Code → Held) : Exit → Act → World → Prop
  | .normal, _, W' => NextIs O W J W'
  | .ret, _, W' => NextIs O W (Jx .ret) W'
  | .exit id, _, W' => NextIs O W (Jx (.exit id)) W'
  | .goto t, _, W' => NextIs O W (Jx (.goto t)) W'
  | .panic _, _, _ => False
  | .outgrown, _, _ => False

theorem range_tells {g : Operand} {p : Tmp} {assign body : Code} {Q : Exit → Act → World → Prop} {a : Act} {w : World} {n : Nat} (h1 : 1 ≤ n) {gf : Nat} {lb : Array Value} (hg : a.eval g = .func (.func gf) #[] lb)
    (eg : ∀ args w, (callFunc gf args).run Tryd.prog w = .ok (.enter gf args) w) (ts : List Tree) (V : World) (hT : Tells gf lb ts V) (hs : Sub V w) (O : Nat → Prop) (hc : Clear V O)
    (J : Nat → Held) (Jx : Code → Held) (hJ : ∀ i, Holder (J i)) (hJx : ∀ c, Holder (Jx c)) (h0 : J 0 O w) (a₁ : Nat → List Value → Act)
    (hassign : ∀ (l : Nat) (k : Int) (m : Nat → Bool) (A : Option Addr) (x c : Nat) (lo hi : Int) (W : World) (K : Act → World → Prop), K (a₁ W.heap.size (reL k m A x c lo hi)) (W.alloc (.cells (reL k m A x c lo hi).toArray 27)) →
      assign.wpIn (Fence.wide.inRound l) (n - 1 - 1) Tryd.prog (Exit.then K (fun _ _ _ => False)) { tmps := a.tmps.setIfInBounds p (reV k m A x c lo hi), defers := [] } W)
    (hbody : ∀ (l i : Nat) (h : i < ts.length) (O : Nat → Prop) (W : World) (A : Option Addr) (x c g : Nat), J i O W → Sub V W → Clear V O → Tree.At V ts[i] (reV ts[i].kind ts[i].set A x c ts[i].lo ts[i].hi) →
      ¬ O g → Clear V (fun k => k = g) → BlkIs W g 27 (reL ts[i].kind ts[i].set A x c ts[i].lo ts[i].hi).toArray →
      body.wpIn (Fence.wide.inRound l) (n - 1 - 1) Tryd.prog (tellEnds (fun k => O k ∨ k = g) W (J (i + 1)) Jx) (a₁ g (reL ts[i].kind ts[i].set A x c ts[i].lo ts[i].hi)) W)
    (hdone : ∀ (D : Nat) (O' : Nat → Prop) (W : World), J ts.length O' W → InN O w O' → Far O w W → Sub V W → Clear V O' → w.heap.size ≤ D → ¬ O' D → W.heap[D]? = some (.deferred (some [])) →
      Q .normal { a with defers := { target := .collected D, args := #[] } :: a.defers } W)
    (hstop : ∀ (D : Nat) (c : Code) (O' : Nat → Prop) (W : World), Jx c O' W → InN O w O' → Far O w W → Sub V W → Clear V O' → w.heap.size ≤ D → ¬ O' D → W.heap[D]? = some (.deferred (some [])) →
      c.wpIn Fence.wide n Tryd.prog Q { a with defers := { target := .collected D, args := #[] } :: a.defers } W) :
    (Code.rangeFunc g #[p] assign body).wpIn Fence.wide n Tryd.prog Q a w := by
  refine wpIn_rangeFunc fun fn hfn => ?_
  show ∃ l mark w₁ d w₁' f args w₂, _
  let rd : LoopState → Option Code → Obj := fun st pe => .loop { state := st, pending := pe, fn, tmps := a.tmps, params := #[p], assign, body, defers := w.heap.size }
  let Wd : (Nat → Prop) → (Nat → Prop) → LoopState → Option Code → World → Prop := fun O O' st pe W =>
    (∀ k, O' k ↔ O k ∨ k = w.heap.size ∨ k = w.heap.size + 1) ∧ ¬ O w.heap.size ∧ ¬ O (w.heap.size + 1) ∧ W.heap[w.heap.size + 1]? = some (rd st pe) ∧ W.heap[w.heap.size]? = some (.deferred (some []))
  let J' : Nat → Held := fun i O' W => ∃ O, J i O W ∧ Wd O O' .ready none W
  let X' : Held := fun O' W => ∃ c O, Jx c O W ∧ Wd O O' .done (some c) W
  have hsub : ∀ {O O' st pe W W'}, Wd O O' st pe W → Near O' W W' → Near O W W' ∧ Wd O O' st pe W' := fun {O O' st pe W W'} h k =>
    ⟨⟨k.size, fun x hx => k.near x ((h.1 x).2 (.inl hx))⟩, h.1, h.2.1, h.2.2.1, (k.near _ ((h.1 _).2 (.inr (.inr rfl)))).trans h.2.2.2.1, (k.near _ ((h.1 _).2 (.inr (.inl rfl)))).trans h.2.2.2.2⟩
  have hlt : ∀ {O O' st pe W}, Wd O O' st pe W → (∀ k, O k → k < W.heap.size) → ∀ k, O' k → k < W.heap.size := fun {O O' st pe W} h k x hx => by
    rcases (h.1 x).1 hx with g | rfl | rfl
    · exact k x g
    · exact (Array.getElem?_eq_some_iff.1 h.2.2.2.2).1
    · exact (Array.getElem?_eq_some_iff.1 h.2.2.2.1).1
  have HJ' : ∀ i, Holder (J' i) := fun i => ⟨fun O' W ⟨O, h, k⟩ => hlt k ((hJ i).lt _ _ h), fun O' W W' ⟨O, h, k⟩ hn => ⟨O, (hJ i).keep _ _ _ h (hsub k hn).1, (hsub k hn).2⟩⟩
  have HX' : Holder X' := ⟨fun O' W ⟨c, O, h, k⟩ => hlt k ((hJx c).lt _ _ h), fun O' W W' ⟨c, O, h, k⟩ hn => ⟨c, O, (hJx c).keep _ _ _ h (hsub k hn).1, (hsub k hn).2⟩⟩
  let W1 := (w.alloc (.deferred (some []))).alloc (rd .ready none)
  let O1 : Nat → Prop := fun k => O k ∨ k = w.heap.size ∨ k = w.heap.size + 1
  have hOlt := (hJ 0).lt _ _ h0
  have hB1 : Below w.heap.size w W1 := ((Below.refl _ w).alloc (Nat.le_refl _) _).alloc (by simp) _
  have hj1 : J' 0 O1 W1 := by
    refine ⟨O, (hJ 0).keep _ _ _ h0 ⟨hB1.size, fun k hk => hB1.block k (hOlt k hk)⟩, fun k => Iff.rfl, fun h => by have := hOlt _ h; omega, fun h => by have := hOlt _ h; omega, ?_, (Below.heap_alloc _ _ _ (by simp)).trans (World.alloc_heap_new w _)⟩
    have := World.alloc_heap_new (w.alloc (.deferred (some []))) (rd .ready none)
    rwa [World.size_alloc] at this
  have hs1 : Sub V W1 := hs.trans (sub_below hB1)
  have hc1 : Clear V O1 := hc.next hs fun k hk => hk.imp id (by omega)
  have hfar : ∀ {O'' W''}, InN O1 W1 O'' → Far O1 W1 W'' → InN O w O'' ∧ Far O w W'' := fun {O'' W''} hi hf => by
    have hi1 : InN O w O1 := fun k hk => hk.imp id (by omega)
    exact ⟨hi1.trans hi hB1.size, (Far.of_below hB1).trans hi1 hf⟩
  refine ⟨w.heap.size + 1, [{ target := .collected w.heap.size, args := #[] }], W1, { target := .fn (.func gf) lb, args := #[] ++ #[.func (.yield (w.heap.size + 1)) #[] #[]] }, W1, gf,
    #[] ++ #[.func (.yield (w.heap.size + 1)) #[] #[]] ++ lb, W1, run_enterLoop_outer _ _ _ _ _, ?_, ?_, ?_, fun _ => h1, ?_⟩
  · simp only [resolve, hg]
    simp [go_sem]
  · intro f' hf'
    simp [Target.leads] at hf'
    subst hf'
    trivial
  · simp [invoke, go_sem, eg]
  rw [Array.empty_append]
  refine (callsIn_wide.2 (callsIn_wide.1 (hT (w.heap.size + 1) J' X' O1 W1 HJ' HX' hs1 hc1 hj1 ?_))).mono ?_
  · rintro i hi O' W cs ⟨O2, hj, hwd⟩ hsW hcW hat hcs
    refine YieldAt.anyN (n := n - 1 - 1) ?_
    obtain ⟨hO', hn1, hn2, hl, hd⟩ := hwd
    have hlW : w.heap.size + 1 < W.heap.size := (Array.getElem?_eq_some_iff.1 hl).1
    obtain ⟨A2, x2, c2, rfl⟩ := hat.eight
    refine ⟨fn, _, assign, body, run_yield (P := Tryd.prog) (args := #[.agg (reL ts[i].kind ts[i].set A2 x2 c2 ts[i].lo ts[i].hi).toArray]) hl rfl, roundIn_of_wpIn hfn ?_⟩
    have hz : ((#[p] : Array Tmp).zip #[Value.agg (reL ts[i].kind ts[i].set A2 x2 c2 ts[i].lo ts[i].hi).toArray]).foldl (fun t (p, v) => t.setIfInBounds p v) a.tmps = a.tmps.setIfInBounds p (reV ts[i].kind ts[i].set A2 x2 c2 ts[i].lo ts[i].hi) := by simp [reV]
    show assign.wpIn _ _ _ _ { tmps := ((#[p] : Array Tmp).zip #[Value.agg (reL ts[i].kind ts[i].set A2 x2 c2 ts[i].lo ts[i].hi).toArray]).foldl (fun t (p, v) => t.setIfInBounds p v) a.tmps, defers := [] } W
    rw [hz]
    let Wm := W.alloc (.cells (reL ts[i].kind ts[i].set A2 x2 c2 ts[i].lo ts[i].hi).toArray 27)
    have hbm : Below W.heap.size W Wm := (Below.refl _ _).alloc (Nat.le_refl _) _
    have hlm : Wm.heap[w.heap.size + 1]? = some (rd .ready none) := (hbm.block _ hlW).trans hl
    have hdm : Wm.heap[w.heap.size]? = some (.deferred (some [])) := (hbm.block _ (by omega)).trans hd
    have hO2 : ∀ k, O2 k → O' k := fun k h => (hO' k).2 (.inl h)
    have hOlt2 := (hJ i).lt _ _ hj
    have hszm : Wm.heap.size = W.heap.size + 1 := by simp [Wm]
    have hnbx : ¬ O2 W.heap.size := fun h => by have := hOlt2 _ h; omega
    have hbx : BlkIs Wm W.heap.size 27 (reL ts[i].kind ts[i].set A2 x2 c2 ts[i].lo ts[i].hi).toArray := BlkIs.new W _ _
    refine hassign _ _ _ _ _ _ _ _ W _ ⟨_, run_beginRound hlm rfl, ?_⟩
    let Wb := Wm.putObj (w.heap.size + 1) (rd .busy none)
    have hlb : Wb.heap[w.heap.size + 1]? = some (rd .busy none) := World.putObj_heap_same (by omega)
    have hdb : Wb.heap[w.heap.size]? = some (.deferred (some [])) := (World.putObj_heap_other (by omega)).trans hdm
    have hjb : J i O2 Wb := (hJ i).keep _ _ _ hj ((near_alloc _ hOlt2).trans (near_put _ hn2))
    have hsb : Sub V Wb := (hsW.trans (sub_below hbm)).far hcW (far_put _ ((hO' _).2 (.inr (.inr rfl))))
    have hcb : Clear V O2 := fun p v hv h => hcW p v hv ((hO' _).2 (.inl h))
    have hfb : Far O' W Wb := (Far.of_below hbm).trans (InN.refl O' W) (far_put _ ((hO' _).2 (.inr (.inr rfl))))
    have hszb : Wb.heap.size = W.heap.size + 1 := by simp [Wb, hszm]
    have hib : InN O' W O2 := fun k h => .inl (hO2 k h)
    have hbxb : BlkIs Wb W.heap.size 27 (reL ts[i].kind ts[i].set A2 x2 c2 ts[i].lo ts[i].hi).toArray := (World.putObj_heap_other (by omega)).trans hbx
    -- behind the body: the record takes its end
    let Og : Nat → Prop := fun k => O2 k ∨ k = W.heap.size
    have hOg1 : ¬ Og (w.heap.size + 1) := fun h => h.elim hn2 (by omega)
    have hOg2 : ¬ Og w.heap.size := fun h => h.elim hn1 (by omega)
    have hiOg : InN O' W Og := fun k hk => hk.elim (fun h => .inl (hO2 k h)) (fun e => .inr (by omega))
    have ends : ∀ (O3 : Nat → Prop) (W3 : World), InN Og Wb O3 → Far Og Wb W3 → ∀ j : Option Code,
        (Instr.endRound (w.heap.size + 1) j).run Tryd.prog W3 = .ok (.bool j.isNone) (W3.putObj (w.heap.size + 1) (rd (if j.isNone then .ready else .done) j)) ∧ ¬ O3 (w.heap.size + 1) ∧
        ∃ O4 : Nat → Prop, Wd O3 O4 (if j.isNone then .ready else .done) j (W3.putObj (w.heap.size + 1) (rd (if j.isNone then .ready else .done) j)) ∧ InN O' W O4 ∧ Far O' W (W3.putObj (w.heap.size + 1) (rd (if j.isNone then .ready else .done) j)) := fun O3 W3 hi3 hf3 j => by
      have hl3 := (hf3.far _ (by omega) hOg1).trans hlb
      have hd3 := (hf3.far _ (by omega) hOg2).trans hdb
      have ho1 : ¬ O3 (w.heap.size + 1) := fun h => (hi3 _ h).elim hOg1 (by omega)
      have ho2 : ¬ O3 w.heap.size := fun h => (hi3 _ h).elim hOg2 (by omega)
      refine ⟨run_endRound (P := Tryd.prog) j hl3, ho1, fun k => O3 k ∨ k = w.heap.size ∨ k = w.heap.size + 1, ⟨fun k => Iff.rfl, ho2, ho1, World.putObj_heap_same (Array.getElem?_eq_some_iff.1 hl3).1, (World.putObj_heap_other (by omega)).trans hd3⟩, ?_, ?_⟩
      · rintro k (h | rfl | rfl)
        · rcases hi3 k h with g | g
          · exact hiOg k g
          · exact .inr (by omega)
        · exact .inl ((hO' _).2 (.inr (.inl rfl)))
        · exact .inl ((hO' _).2 (.inr (.inr rfl)))
      · exact (hfb.trans hiOg hf3).trans (InN.refl O' W) (far_put _ ((hO' _).2 (.inr (.inr rfl))))
    have out : ∀ (c : Code) (W3 : World), NextIs Og Wb (Jx c) W3 → ∃ b W4, (Instr.endRound (w.heap.size + 1) (some c)).run Tryd.prog W3 = .ok b W4 ∧ ((Ending.returned b = .returned (.bool true) ∧ NextIs O' W (J' (i + 1)) W4) ∨ (Ending.returned b = .returned (.bool false) ∧ NextIs O' W X' W4)) := by
      rintro c W3 ⟨O3, hj3, hi3, hf3⟩
      obtain ⟨hr, hno, O4, hw4, hi4, hf4⟩ := ends O3 W3 hi3 hf3 (some c)
      exact ⟨_, _, hr, .inr ⟨rfl, O4, ⟨c, O3, (hJx c).keep _ _ _ hj3 (near_put _ hno), hw4⟩, hi4, hf4⟩⟩
    refine wpIn_mono (hbody _ i hi O2 Wb A2 x2 c2 W.heap.size hjb hsb hcb hat hnbx (fun p v hv e => by have := World.block_lt_of_cell? W p (hsW p v hv); omega) hbxb) ?_
    rintro e a3 W3 hp
    cases e with
    | normal =>
      obtain ⟨O3, hj3, hi3, hf3⟩ := hp
      obtain ⟨hr, hno, O4, hw4, hi4, hf4⟩ := ends O3 W3 hi3 hf3 none
      exact ⟨_, _, hr, .inl ⟨rfl, O4, ⟨O3, (hJ _).keep _ _ _ hj3 (near_put _ hno), hw4⟩, hi4, hf4⟩⟩
    | ret => exact out _ _ hp
    | exit id => exact out _ _ hp
    | goto t => exact out _ _ hp
    | panic ch => exact hp.elim
    | outgrown => exact hp.elim
  · rintro e W2 ⟨⟨v, rfl⟩, (⟨O2, ⟨O3, hj, hwd⟩, hi, hf⟩ | ⟨O2, ⟨c, O3, hj, hwd⟩, hi, hf⟩)⟩
    · obtain ⟨hO', hn1, hn2, hl, hd⟩ := hwd
      have hi3 : InN O1 W1 O3 := fun k hk => hi k ((hO' k).2 (.inl hk))
      have hi' : InN O1 W1 O2 := hi
      have hcl := hc1.next hs1 hi
      have hput : Far O2 W2 (W2.putObj (w.heap.size + 1) (.loop { state := .exhausted, pending := none, fn, tmps := a.tmps, params := #[p], assign, body, defers := w.heap.size })) := far_put _ ((hO' _).2 (.inr (.inr rfl)))
      obtain ⟨hi4, hf4⟩ := hfar hi3 (hf.trans hi hput)
      exact ⟨none, _, run_endLoop (P := Tryd.prog) hl (by simp), hdone _ O3 _ ((hJ _).keep _ _ _ hj (near_put _ hn2)) hi4 hf4 ((hs1.far hc1 hf).far hcl hput) (fun p v hv h => hcl p v hv ((hO' _).2 (.inl h))) (Nat.le_refl _) hn1 ((World.putObj_heap_other (by omega)).trans hd)⟩
    · obtain ⟨hO', hn1, hn2, hl, hd⟩ := hwd
      have hi3 : InN O1 W1 O3 := fun k hk => hi k ((hO' k).2 (.inl hk))
      have hcl := hc1.next hs1 hi
      have hput : Far O2 W2 (W2.putObj (w.heap.size + 1) (.loop { state := .exhausted, pending := some c, fn, tmps := a.tmps, params := #[p], assign, body, defers := w.heap.size })) := far_put _ ((hO' _).2 (.inr (.inr rfl)))
      obtain ⟨hi4, hf4⟩ := hfar hi3 (hf.trans hi hput)
      exact ⟨some c, _, run_endLoop (P := Tryd.prog) hl (by simp), hstop _ c O3 _ ((hJx _).keep _ _ _ hj (near_put _ hn2)) hi4 hf4 ((hs1.far hc1 hf).far hcl hput) (fun p v hv h => hcl p v hv ((hO' _).2 (.inl h))) (Nat.le_refl _) hn1 ((World.putObj_heap_other (by omega)).trans hd)⟩

end Go.Proofs.YtkladjjeacjgpaaDoor

/-
  WHAT isVoid, isStar AND THE REFERENCE'S void ANSWER: contracts. No condition.
-/
namespace Go.Proofs.YtkladjjeacjgpaaDoor
open Go.RowKit

def voidB (k : Int) (m : Nat → Bool) : Bool := (k == 1) && setEq m (fun _ => false)
def Tree.isV (t : Tree) : Bool := voidB t.kind t.set

set_option maxRecDepth 10000 in
set_option maxHeartbeats 1000000 in
theorem isVoid_at (k : Int) (m : Nat → Bool) (A : Option Addr) (n c : Nat) (lo hi : Int) (w : World) :
    Calls Tryd.prog 55 #[reV k m A n c lo hi] w fun e w' => e = .returned (.bool (voidB k m)) ∧ Below w.heap.size w w' := by
  have he := eql_set m (fun _ => false)
  rw [set0_build] at he
  unfold setV at he
  unfold reV reL voidB at *
  have b0 : Below w.heap.size w (w.alloc (.cells #[.int .i64 k, .int .u64 (wd m 0 : Nat), .int .u64 (wd m 1 : Nat), .int .u64 (wd m 2 : Nat), .int .u64 (wd m 3 : Nat), .slice A n c, .int .i64 lo, .int .i64 hi] 27)) := (Below.refl _ _).alloc (Nat.le_refl _) _
  have HB := Lib.hid b0
  clear b0
  generalize setEq m (fun _ => false) = q at *
  generalize hk : (k == 1) = y at *
  cases y <;> cases q
  all_goals
    go_enter Tryd.func55, Tryd.ntmps55
    go_wp2
    go_ret
    exact ⟨rfl, HB.out⟩

set_option maxRecDepth 10000 in
set_option maxHeartbeats 1000000 in
theorem refVoid_at (k : Int) (m : Nat → Bool) (A : Option Addr) (n c : Nat) (lo hi : Int) (w : World) :
    Calls Tryd.prog 24 #[reV k m A n c lo hi] w fun e w' => e = .returned (.bool (voidB k m)) ∧ Below w.heap.size w w' := by
  have he := eql_set m (fun _ => false)
  rw [set0_build] at he
  unfold setV at he
  unfold reV reL voidB at *
  have b0 : Below w.heap.size w (w.alloc (.cells #[.int .i64 k, .int .u64 (wd m 0 : Nat), .int .u64 (wd m 1 : Nat), .int .u64 (wd m 2 : Nat), .int .u64 (wd m 3 : Nat), .slice A n c, .int .i64 lo, .int .i64 hi] 27)) := (Below.refl _ _).alloc (Nat.le_refl _) _
  have HB := Lib.hid b0
  clear b0
  generalize setEq m (fun _ => false) = q at *
  generalize hk : (k == 1) = y at *
  cases y <;> cases q
  all_goals
    go_enter Tryd.func24, Tryd.ntmps24
    go_wp2
    go_ret
    exact ⟨rfl, HB.out⟩

set_option maxRecDepth 10000 in
theorem isStar_any (lo hi : Int) (w : World) : Calls Tryd.prog 60 #[.int .i64 lo, .int .i64 hi] w fun e w' => e = .returned (.bool ((lo == 0) && (hi == -1))) ∧ w' = w := by
  generalize hk : (lo == 0) = y at *
  generalize hq : (hi == -1) = z at *
  cases y <;> cases z
  all_goals
    go_enter Tryd.func60, Tryd.ntmps60
    go_wp2
    go_ret
    exact ⟨rfl, rfl⟩

end Go.Proofs.YtkladjjeacjgpaaDoor

/-
  WHAT A CALLER HOLDS, WITH A BLOCK MORE; A WAY FROM WORLD TO WORLD. No condition.
-/
namespace Go.Proofs.YtkladjjeacjgpaaDoor
open Go.RowKit
/-- from W on, with O held, to W', with O' held -/
structure Trip (O : Nat → Prop) (W : World) (O' : Nat → Prop) (W' : World) : Prop where
  inn : InN O W O'
  far : Far O W W'
theorem Trip.refl (O : Nat → Prop) (W : World) : Trip O W O W := ⟨InN.refl O W, Far.refl O W⟩
theorem Trip.trans {O O' O2 : Nat → Prop} {A B C : World} (h : Trip O A O' B) (k : Trip O' B O2 C) : Trip O A O2 C := ⟨h.inn.trans k.inn h.far.size, h.far.trans h.inn k.far⟩
theorem Trip.sub {O O' O2 : Nat → Prop} {A B : World} (h : Trip O A O' B) (hs : ∀ k, O2 k → O' k) : Trip O A O2 B := ⟨fun k hk => h.inn k (hs k hk), h.far⟩
theorem Trip.add {O O' : Nat → Prop} {A B : World} (h : Trip O A O' B) {b : Nat} (hb : A.heap.size ≤ b) : Trip O A (fun k => O' k ∨ k = b) B :=
  ⟨fun k hk => hk.elim (h.inn k) (fun e => .inr (e ▸ hb)), h.far⟩
theorem Trip.below {O O' : Nat → Prop} {A B C : World} (h : Trip O A O' B) (k : Below B.heap.size B C) : Trip O A O' C := ⟨h.inn, h.far.trans h.inn (Far.of_below k)⟩
theorem Trip.put {O O' : Nat → Prop} {A B : World} (h : Trip O A O' B) {l : Nat} (hl : A.heap.size ≤ l) (o : Obj) : Trip O A O' (B.putObj l o) := by
  refine ⟨h.inn, ?_⟩
  have h2 := h.add hl
  exact ⟨h.far.os, h.far.tape, h.far.output, by simpa using h.far.size, fun k hk hn => (World.putObj_heap_other (by omega)).trans (h.far.far k hk hn)⟩
theorem NextIs.of {O O' : Nat → Prop} {W W' : World} {J : Held} (h : Trip O W O' W') (hj : J O' W') : NextIs O W J W' := ⟨O', hj, h.inn, h.far⟩
theorem NextIs.trip {O O' : Nat → Prop} {A B C : World} {J : Held} (h : Trip O A O' B) (k : NextIs O' B J C) : NextIs O A J C := by
  obtain ⟨O2, hj, hi, hf⟩ := k
  exact NextIs.of (h.trans ⟨hi, hf⟩) hj

/-- with one block more -/
def With (J : Held) (b : Nat) (o : Obj) : Held := fun O W => ∃ Oo, J Oo W ∧ (∀ k, O k ↔ Oo k ∨ k = b) ∧ ¬ Oo b ∧ W.heap[b]? = some o
theorem With.holder {J : Held} (h : Holder J) (b : Nat) (o : Obj) : Holder (With J b o) :=
  ⟨fun O W ⟨Oo, hj, hO, hn, hb⟩ k hk => by
    rcases (hO k).1 hk with g | rfl
    · exact h.lt _ _ hj k g
    · exact (Array.getElem?_eq_some_iff.1 hb).1,
   fun O W W' ⟨Oo, hj, hO, hn, hb⟩ hk => ⟨Oo, h.keep _ _ _ hj ⟨hk.size, fun k hk' => hk.near k ((hO k).2 (.inl hk'))⟩, hO, hn, (hk.near b ((hO b).2 (.inr rfl))).trans hb⟩⟩
theorem With.start {J : Held} {O : Nat → Prop} {W : World} {b : Nat} {o : Obj} (h : J O W) (hn : ¬ O b) (hb : W.heap[b]? = some o) : With J b o (fun k => O k ∨ k = b) W := ⟨O, h, fun _ => Iff.rfl, hn, hb⟩
theorem With.next {J : Held} {O Oo : Nat → Prop} {W W' : World} {b : Nat} {o : Obj} (hO : ∀ k, O k ↔ Oo k ∨ k = b) (hn : ¬ Oo b) (hb : W.heap[b]? = some o) (h : NextIs Oo W J W') : NextIs O W (With J b o) W' := by
  obtain ⟨O2, hj, hi, hf⟩ := h
  have hlt := (Array.getElem?_eq_some_iff.1 hb).1
  have hn2 : ¬ O2 b := fun g => (hi b g).elim hn (by omega)
  refine ⟨fun k => O2 k ∨ k = b, ⟨O2, hj, fun _ => Iff.rfl, hn2, (hf.far b hlt hn).trans hb⟩, ?_, hf.mono fun k hk => (hO k).2 (.inl hk)⟩
  rintro k (g | rfl)
  · exact (hi k g).imp (fun g => (hO k).2 (.inl g)) id
  · exact .inl ((hO k).2 (.inr rfl))
theorem Clear.less {V : World} {O O' : Nat → Prop} (h : Clear V O) (hs : ∀ k, O' k → O k) : Clear V O' := fun p v hv g => h p v hv (hs _ g)
theorem Holder.and {J : Held} (h : Holder J) (p : Prop) : Holder (fun O W => p ∧ J O W) := ⟨fun O W hj => h.lt O W hj.2, fun O W W' hj hk => ⟨hj.1, h.keep O W W' hj.2 hk⟩⟩
theorem Holder.or {J K : Held} (h : Holder J) (k : Holder K) : Holder (fun O W => J O W ∨ K O W) := ⟨fun O W hj => hj.elim (h.lt O W) (k.lt O W), fun O W W' hj hk => hj.imp (fun g => h.keep O W W' g hk) (fun g => k.keep O W W' g hk)⟩
theorem holder_no : Holder (fun _ _ => False) := ⟨fun _ _ h => h.elim, fun _ _ _ h _ => h.elim⟩

theorem near_below {O : Nat → Prop} {W W' : World} (hb : Below W.heap.size W W') (hl : ∀ k, O k → k < W.heap.size) : Near O W W' := ⟨hb.size, fun k hk => hb.block k (hl k hk)⟩
theorem Holder.below {J : Held} (h : Holder J) {O : Nat → Prop} {W W' : World} (hj : J O W) (hb : Below W.heap.size W W') : J O W' := h.keep _ _ _ hj (near_below hb (h.lt _ _ hj))
theorem Holder.put {J : Held} (h : Holder J) {O : Nat → Prop} {W : World} {l : Nat} (hj : J O W) (hn : ¬ O l) (o : Obj) : J O (W.putObj l o) := h.keep _ _ _ hj (near_put o hn)

end Go.Proofs.YtkladjjeacjgpaaDoor

