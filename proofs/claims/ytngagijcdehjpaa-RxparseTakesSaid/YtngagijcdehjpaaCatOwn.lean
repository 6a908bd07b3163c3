/-
  WHAT Cat OF PACKAGE rx ANSWERS lies in new memory alone: a contract. Condition: at most 2^40 nodes.
-/
import Derived.Test.YtngagijcdehjpaaPd1
namespace Go.Proofs.Ytngagijcdehjpaa
open Go.RowKit
def low (n k : Nat) : Bool := decide (k < n)
theorem low_no {n k : Nat} : low n k = false ↔ n ≤ k := by unfold low; simp
set_option maxRecDepth 10000 in
set_option maxHeartbeats 2000000 in
theorem cat_own (l : List Tree) (A : Option Addr) (c : Nat) (w : World) (hat : l ≠ [] → ∃ b o, A = some ⟨b, o, none⟩ ∧ AllAt w l b o) (hn : nodesL l ≤ 1099511627776) :
    Calls Try.prog 22 #[.slice A l.length c] w fun e w' => ∃ v, e = .returned v ∧ Tree.At (hide w' (low w.heap.size)) (rowT 2 (.node 0 (fun _ => false) [] 0 0) l) v ∧ Below w.heap.size w w' := by
  have hb := BlkIs.new w 31 zeroL.toArray
  have h0 : Below w.heap.size w (w.alloc (.cells zeroL.toArray 31)) := (Below.refl _ _).alloc (Nat.le_refl _) _
  have hcl := clone_any l A c (w.alloc (.cells zeroL.toArray 31)) (fun hne => by obtain ⟨b, o, h1, h2⟩ := hat hne; exact ⟨b, o, h1, h2.step h0⟩) hn
  have HB := Lib.hid hb
  have H0 := Lib.hid h0
  have HCL := Lib.hid hcl
  clear hb h0 hcl hat
  obtain ⟨R, hR⟩ : ∃ R, R = rowT 2 (.node 0 (fun _ => false) [] 0 0) l := ⟨_, rfl⟩
  rw [← hR]
  have HRR := Lib.hid hR
  clear hR
  have hag : ∀ (w1 : World) (k : Nat), w.heap.size + 1 ≤ k → (hide w1 (low (w.heap.size + 1))).heap[k]? = w1.heap[k]? := fun w1 k hk => by
    rw [hide_get, low_no.2 hk]
    simp
  have HAG := Lib.hid hag
  clear hag
  unfold zeroL at *
  go_enter Try.func22, Try.ntmps22
  go_wp2_with (first
    | (go_at_call 33; go_must (refine HCL.out.mono ?_); rintro e w1 ⟨A', c', rfl, k1, k2, k3, hb1⟩)
    | (go_at_call 32; go_must (refine (row_zero 2 l A' c' w1 (hide w1 (low (w.heap.size + 1))) hide_less (fun hne => (k3 hne).imp fun g h => ⟨0, h.1, h.2.2 _ (fun k hk => HAG.out w1 k (by simpa using hk))⟩) ⟨k1, k2⟩).mono ?_); rintro e w3 ⟨v, rfl, hv, hb3⟩; obtain ⟨A2, n2, c2, rfl⟩ := hv.form; have hB3 := HB.out.step (hb1.trans (hb3.mono hb1.size)))
    | (refine wpList_store_mid rfl 31 (.tmp 2) (.tmp 6) rfl w.heap.size 0 (reL _ _ A2 n2 c2 _ _).toArray rfl rfl hB3.there info_re8 reL_all ?_))
  have hB := H0.out.trans ((hb1.trans (hb3.mono hb1.size)).mono H0.out.size)
  rw [← HRR.out] at hv ⊢
  have hl := load_re (store_re (k := R.kind) (m := R.set) (A := A2) (n := n2) (c := c2) (lo := R.lo) (hi := R.hi) hB3 rfl)
  have hB4 := below_cells w.heap.size (reL R.kind R.set A2 n2 c2 R.lo R.hi) 0 _ (Nat.le_refl _) hB
  refine bodyPost_ret (results_cell1 rfl rfl hl) rfl ⟨_, rfl, hv.sub (hide_sub fun k hk hn => ?_), hB4⟩
  rw [low_no] at hk ⊢
  exact ⟨by omega, (heap_cells w.heap.size k (by omega) _ 0 w3).trans (hb3.block k hn)⟩
end Go.Proofs.Ytngagijcdehjpaa

