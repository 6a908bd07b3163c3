/-
  WHAT EACH FUNCTION OF PACKAGE octs ANSWERS, at every argument and in every memory: contracts. No condition but those that a contract names.
-/
import Derived.Test.YtfodpkciahkehaaRows
import Derived.Test.YtfodpkciahkehaaPop
import Derived.Lib.Hide
import Derived.Deep.RegionWith
namespace Go.Proofs.Ytfodpkciahkehaa
open Go.RowKit

theorem idx_set (m : Nat → Bool) (w : World) :
    (Instr.index 24 (setV m) (.int .i64 0)).run Try.prog w = .ok (.int .u64 (wd m 0 : Nat)) w ∧
    (Instr.index 24 (setV m) (.int .i64 1)).run Try.prog w = .ok (.int .u64 (wd m 1 : Nat)) w ∧
    (Instr.index 24 (setV m) (.int .i64 2)).run Try.prog w = .ok (.int .u64 (wd m 2 : Nat)) w ∧
    (Instr.index 24 (setV m) (.int .i64 3)).run Try.prog w = .ok (.int .u64 (wd m 3 : Nat)) w :=
  ⟨by kernel_rfl, by kernel_rfl, by kernel_rfl, by kernel_rfl⟩

set_option maxHeartbeats 400000 in
theorem any_any (m n : Nat → Bool) (w : World) :
    Calls Try.prog 56 #[setV m, setV n] w fun e w' => e = .returned (setV (sOr m n)) ∧ Below w.heap.size w w' := by
  have ix := idx_set n
  go_enter Try.func56, Try.ntmps56
  go_wp2
  refine wp_loop_unr 5 ?_
  go_wp2_with (refine unr_succ ?_; intro _ _)
  refine bodyPost_ret (v := setV (sOr m n)) (by simp [results, Try.results56, go_sem, bits_or_wd]) rfl ⟨rfl, ?_⟩
  exact (((Below.refl _ _).alloc (Nat.le_refl _) _).alloc (by simp) _).alloc (by simp; omega) _

def belowIs (n : Int) (w : World) : Ending → World → Prop := fun e w' => e = .returned (setV (sBelow n)) ∧ Below w.heap.size w w'

end Go.Proofs.Ytfodpkciahkehaa

