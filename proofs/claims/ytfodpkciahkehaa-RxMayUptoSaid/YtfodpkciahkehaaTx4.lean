/-
  WHAT texts, textsOf, Void, Empty, First, Last OF PACKAGE rx ANSWER: contracts. Condition: each node of the tree may be; it has at most 2^40 nodes.
-/
import Derived.Test.YtfodpkciahkehaaTx3
import Derived.Test.YtfodpkciahkehaaTxT
namespace Go.Proofs.Ytfodpkciahkehaa
open Go.RowKit

theorem info_tx3 : (Try.prog.info? 56).map (fun i => (i.size, i.bytes, i.zero.map (·.cells.size))) = some (10, 72, some 10) := by kernel_rfl
theorem info_tx' : ∃ i z, Try.prog.info? 56 = some i ∧ i.zero = some z ∧ i.size = 10 ∧ i.bytes = 72 ∧ z.cells.size = 10 := by
  have h := info_tx3
  cases hi : Try.prog.info? 56 with
  | none => rw [hi] at h; cases h
  | some i =>
    rw [hi] at h
    simp only [Option.map_some, Option.some.injEq, Prod.mk.injEq] at h
    cases hz : i.zero with
    | none => rw [hz] at h; simp at h
    | some z => rw [hz] at h; exact ⟨i, z, rfl, hz, h.1, h.2.1, by simpa using h.2.2⟩

/-- cells of texts, side by side -/
def flatT (xs : List Tx) : List Value := xs.flatMap Tx.L
theorem flatT_len (xs : List Tx) : (flatT xs).length = xs.length * 10 := by
  induction xs with
  | nil => rfl
  | cons x xs ih => simp only [flatT, List.flatMap_cons, List.length_append] at *; rw [ih, Tx.len]; simp; omega
theorem flatT_get : ∀ (xs : List Tx) (i : Nat) (h : i < xs.length) (q : Nat) (v : Value), (xs[i]).L[q]? = some v → (flatT xs)[i * 10 + q]? = some v
  | x :: xs, 0, _, q, v, hv => by
    have hq : q < 10 := by have := (List.getElem?_eq_some_iff.1 hv).1; rw [Tx.len] at this; exact this
    show (x.L ++ flatT xs)[0 * 10 + q]? = some v
    rw [List.getElem?_append_left (by rw [Tx.len]; omega), Nat.zero_mul, Nat.zero_add]
    exact hv
  | x :: xs, i + 1, h, q, v, hv => by
    have := flatT_get xs i (by simpa using h) q v (by simpa using hv)
    show (x.L ++ flatT xs)[(i + 1) * 10 + q]? = some v
    rw [List.getElem?_append_right (by rw [Tx.len]; omega), Tx.len, show (i + 1) * 10 + q - 10 = i * 10 + q by omega]
    exact this
theorem flatT_snoc (xs : List Tx) (x : Tx) : flatT (xs ++ [x]) = flatT xs ++ x.L := by simp [flatT]

/-- a row that a call has built reads as texts -/
theorem own_texts {W : World} {base : Nat} {v : Value} {xs : List Tx} (h : W.ownsRow base 56 10 v xs.length (flatT xs)) : ∃ A d, v = .slice A xs.length d ∧ TxRow W A xs ∧ xs.length ≤ d := by
  rcases h.2 with ⟨rfl, h0⟩ | ⟨g, cap, cur, rfl, _, hh, hc, _⟩
  · refine ⟨none, 0, by rw [h0], fun hne => absurd (List.eq_nil_of_length_eq_zero h0) hne, by omega⟩
  · refine ⟨_, cap, rfl, fun _ => ⟨g, rfl, (Array.getElem?_eq_some_iff.1 hh).1, fun i hi q u hu => ?_⟩, hc⟩
    have hq : q < 10 := by have := (List.getElem?_eq_some_iff.1 hu).1; rw [Tx.len] at this; exact this
    rw [h.cellAt (i * 10 + q) (by omega)]
    exact flatT_get xs i hi q u hu
theorem tx_one (x : Tx) : ∀ u ∈ x.L, u.oneCell' = true := by
  intro u hu
  have := tx_all x
  rw [Array.all_eq_true'] at this
  exact this u (by simpa using hu)
theorem blk_grown {W W' : World} {row : Option Nat} {g : Nat} {t : TypeId} {cs : Array Value} (h : BlkIs W g t cs) (hg : W.grownBy W' row) (hr : some g ≠ row) : BlkIs W' g t cs := (hg.block g h.lt hr).trans h
theorem own_ne {W : World} {base : Nat} {e : TypeId} {size n : Nat} {v : Value} {xs : List Value} (h : W.ownsRow base e size v n xs) {g : Nat} (hg : g < base) : some g ≠ v.ownBlock := by
  rcases h.2 with ⟨rfl, _⟩ | ⟨k, cap, cur, rfl, hb, _⟩
  · simp [Value.ownBlock]
  · intro e
    simp [Value.ownBlock] at e
    omega
theorem below_own {n0 : Nat} {w W W' : World} {base : Nat} {e : TypeId} {size n : Nat} {v : Value} {xs : List Value} (h : W.ownsRow base e size v n xs) (hb : Below n0 w W) (hg : W.grownBy W' v.ownBlock) (hn : n0 ≤ base) (hs : n0 ≤ W.heap.size) : Below n0 w W' :=
  hb.grown hg hs (fun k hk => by
    rcases h.2 with ⟨rfl, _⟩ | ⟨q, cap, cur, rfl, hb, _⟩
    · simp [Value.ownBlock] at hk
    · simp [Value.ownBlock] at hk; omega)
theorem own_step {W W' : World} {base : Nat} {e : TypeId} {size n : Nat} {v : Value} {xs : List Value} (h : W.ownsRow base e size v n xs) (hb : Below W.heap.size W W') : W'.ownsRow base e size v n xs := by
  refine h.kept (row := none) ⟨hb.os, hb.tape, hb.output, hb.size, fun i hi _ => hb.block i hi⟩ ?_
  rcases h.2 with ⟨rfl, _⟩ | ⟨k, cap, cur, rfl, _⟩
  · exact .inl rfl
  · exact .inr (by simp [Value.ownBlock])

/-- where 'texts' stands in its loop -/
def TextsIs (w : World) (cs : List Value) (xs : List Tx) (v : Value) (W : World) : Prop :=
  BlkIs W w.heap.size 50 cs.toArray ∧ BlkIs W (w.heap.size + 1) 56 zeroT.toArray ∧ Below w.heap.size w W ∧ W.ownsRow (w.heap.size + 1 + 1) 56 10 v xs.length (flatT xs) ∧ w.heap.size + 1 + 1 ≤ W.heap.size
theorem TextsIs.step {w W W' : World} {cs : List Value} {xs : List Tx} {v : Value} (h : TextsIs w cs xs v W) (hb : Below W.heap.size W W') : TextsIs w cs xs v W' :=
  ⟨h.1.step hb, h.2.1.step hb, h.2.2.1.trans (hb.mono h.2.2.1.size), own_step h.2.2.2.1 hb, Nat.le_trans h.2.2.2.2 hb.size⟩
theorem TextsIs.more {w W W' : World} {cs : List Value} {xs : List Tx} {x : Tx} {v v' : Value} (h : TextsIs w cs xs v W) (ho : W'.ownsRow (w.heap.size + 1 + 1) 56 10 v' (xs.length + 1) (flatT xs ++ x.L)) (hg : W.grownBy W' v.ownBlock) : TextsIs w cs (xs ++ [x]) v' W' := by
  refine ⟨blk_grown h.1 hg (own_ne h.2.2.2.1 (by omega)), blk_grown h.2.1 hg (own_ne h.2.2.2.1 (by omega)), below_own h.2.2.2.1 h.2.2.1 hg (by omega) h.2.2.1.size, ?_, Nat.le_trans h.2.2.2.2 hg.size⟩
  rw [flatT_snoc, List.length_append]
  exact ho

/-- what the kind says of its Subs' texts -/
def kindTx (k : Int) (m : Nat → Bool) (lo hi : Int) (xs : List Tx) : Tx := if k = 0 then .one else if k = 1 then ⟨setEq m (fun _ => false), false, m, m⟩ else if k = 2 then xs.foldl thenX .one else if k = 3 then xs.foldl orX .none
  else if hi = 0 then .one else if lo = 0 then orX (xs.headD .zero) .one else xs.headD .zero
theorem tx_kind (k : Int) (m : Nat → Bool) (l : List Tree) (lo hi : Int) : (Tree.node k m l lo hi).tx = kindTx k m lo hi (txs l) := by
  unfold kindTx
  rw [Tree.tx]

theorem kind_any (k : Int) (f : FuncId) (hf : (k = 0 ∧ f = 49) ∨ (k = 1 ∧ f = 50) ∨ (k = 2 ∧ f = 51) ∨ (k = 3 ∧ f = 52) ∨ (k = 4 ∧ f = 53))
    (m : Nat → Bool) (A : Option Addr) (n c : Nat) (lo hi : Int) (B : Option Addr) (xs : List Tx) (d : Nat) (hl : xs.length ≤ 1099511627776) (h4 : k = 4 → xs.length = 1) (w : World) (hx : TxRow w B xs) (hd : xs.length ≤ d) :
    Calls Try.prog f #[reV k m A n c lo hi, .slice B xs.length d] w fun e w' => e = .returned (kindTx k m lo hi xs).V ∧ Below w.heap.size w w' := by
  unfold kindTx
  rcases hf with ⟨rfl, rfl⟩ | ⟨rfl, rfl⟩ | ⟨rfl, rfl⟩ | ⟨rfl, rfl⟩ | ⟨rfl, rfl⟩
  · rw [if_pos rfl]; exact emptyTexts_any 0 m A n c lo hi _ w
  · rw [if_neg (by decide), if_pos rfl]; exact byteTexts_any 1 m A n c lo hi _ w
  · rw [if_neg (by decide), if_neg (by decide), if_pos rfl]; exact catTexts_any 2 m A n c lo hi B xs d hl w hx hd
  · rw [if_neg (by decide), if_neg (by decide), if_neg (by decide), if_pos rfl]; exact altTexts_any 3 m A n c lo hi B xs d hl w hx hd
  · rw [if_neg (by decide), if_neg (by decide), if_neg (by decide), if_neg (by decide)]
    obtain ⟨x, rfl⟩ : ∃ x, xs = [x] := by
      match xs, h4 rfl with
      | [x], _ => exact ⟨x, rfl⟩
    exact repTexts_any 4 m A n c lo hi B x d w hx
theorem idx_tellers (k : Int) (f : FuncId) (hf : (k = 0 ∧ f = 49) ∨ (k = 1 ∧ f = 50) ∨ (k = 2 ∧ f = 51) ∨ (k = 3 ∧ f = 52) ∨ (k = 4 ∧ f = 53)) (u : World) :
    (Instr.index 72 (.agg tellersA) (.int .i64 k)).run Try.prog u = .ok (.func (.func f) #[] #[]) u := by
  rcases hf with ⟨rfl, rfl⟩ | ⟨rfl, rfl⟩ | ⟨rfl, rfl⟩ | ⟨rfl, rfl⟩ | ⟨rfl, rfl⟩ <;> kernel_rfl

end Go.Proofs.Ytfodpkciahkehaa

