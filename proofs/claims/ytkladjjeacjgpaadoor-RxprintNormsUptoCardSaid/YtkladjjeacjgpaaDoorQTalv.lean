/-
  THE DOCUMENT's EXAMPLE OF LAYER 7, BY PLAIN FUNCTIONS: its text; its plain tree. No condition.
-/
import Derived.Test.YtkladjjeacjgpaaDoorQTpr
namespace Go.Proofs.YtkladjjeacjgpaaDoor
open Go.RowKit

def ltr (b : Int) : Tree := .node 1 (sRange b b) [] 0 0
def exP : Tree := .node 2 (fun _ => false) [ltr 97, .node 4 (fun _ => false) [.node 3 (fun _ => false) [ltr 98, .node 2 (fun _ => false) [ltr 99, ltr 100] 0 0] 0 0] 0 (-1)] 0 0
def exN : Tree := .node 3 (fun _ => false) [ltr 97, ltr 98, .node 2 (fun _ => false) [.node 0 (fun _ => false) [] 0 0, ltr 97] 0 0] 0 0
theorem exP_may : exP.mayN = true := by decide +kernel
theorem exN_may : exN.mayN = true := by decide +kernel
theorem exP_text : (textOf exP).data.toList = [97, 40, 98, 124, 99, 100, 41, 42] := by decide +kernel
theorem exN_plain : exN.plain.same (.node 1 (sRange 97 98) [] 0 0) = true := by decide +kernel

set_option maxRecDepth 20000 in
set_option maxHeartbeats 2000000 in
theorem letter_any (b : Nat) (hb : b < 256) (w : World) : Calls Tryd.prog 18 #[.int .i64 b] w fun e w' => e = .returned (reV 1 (sRange b b) none 0 0 0 0) ∧ Below w.heap.size w w' := by
  have h0 : Below w.heap.size w (w.alloc (.cells zeroL.toArray 27)) := (Below.refl _ _).alloc (Nat.le_refl _) _
  have hz := BlkIs.new w 27 zeroL.toArray
  have HC := Lib.hid (refRange_any b b hb (w.alloc (.cells zeroL.toArray 27)))
  have H0 := Lib.hid (And.intro h0 hz)
  clear h0 hz
  unfold zeroL at *
  unfold setV at HC
  go_enter Tryd.func18, Tryd.ntmps18
  go_wp2_with (first
    | (go_at_call 19; go_must (refine HC.out.mono ?_); rintro e u ⟨rfl, hb2⟩; have hB3 := H0.out.2.step hb2; have HB2 := Lib.hid (H0.out.1.trans (hb2.mono H0.out.1.size)); clear hb2)
    | (refine wpList_store_mid rfl 27 (.tmp 2) (.tmp 6) rfl w.heap.size 0 (reL 1 (sRange b b) none 0 0 0 0).toArray rfl rfl hB3.there info_re8 reL_all ?_))
  have hl := load_re (store_re (k := 1) (m := sRange b b) (A := none) (n := 0) (c := 0) (lo := 0) (hi := 0) hB3 rfl)
  exact bodyPost_ret (results_cell1 rfl rfl hl) rfl ⟨rfl, below_cells w.heap.size _ 0 _ (Nat.le_refl _) HB2.out⟩

end Go.Proofs.YtkladjjeacjgpaaDoor

