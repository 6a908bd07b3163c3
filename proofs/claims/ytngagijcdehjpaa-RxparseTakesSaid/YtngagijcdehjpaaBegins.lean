/-
  WHAT hackleref04's At, Takes AND Begins ANSWER, at every tree that may be. Condition: each node of the tree may be; the text has at most 2^30 bytes.
-/
import Derived.Test.YtngagijcdehjpaaEnds3
import Derived.Deep.RegionHeld
namespace Go.Proofs.Ytngagijcdehjpaa
open Go.RowKit

/-- the one place -/
def atP (p : Nat) : Nat → Bool := updS (fun _ => false) p true

set_option maxHeartbeats 2000000 in
theorem refAt_any (s : ByteArray) (hs30 : s.size ≤ 1073741824) (n : Nat) (hn : n = s.size + 1) (p : Nat) (hp : p < n) (w : World) :
    Calls Try.prog 26 #[.string s, .int .i64 p] w (EndsIs n (atP p) w) := by
  have hw0 : IntKind.i64.wrap ((s.size : Int) + 1) = ((n : Nat) : Int) := by rw [IntKind.wrap_i64]; omega
  have hmk := fun w => make_bools n (by omega) w
  have hnew := BlkIs.new w 4 (bl n (fun _ => false))
  have d1 := bl_range hnew hp
  have d2 := hnew.frozen p
  have hpi : (p : Int) < (n : Int) := by omega
  have HNW := Lib.hid hnew
  clear hnew hn
  unfold EndsIs
  go_enter Try.func26, Try.ntmps26
  go_wp2
  go_ret
  refine ⟨_, rfl, Nat.le_refl _, ?_, (Below.refl _ _).alloc (Nat.le_refl _) _⟩
  rw [bl_set]
  exact BlkIs.new _ _ _

def Tree.takes (s : List UInt8) (T : Tree) : Bool := T.ends s (atP 0) s.length

theorem exec_load4 {P : Program} {o : Oper} {a : Act} {w : World} {v : Value} (t : TypeId) (x : Operand) (p : Value) (ho : o.op = .load t x) (hx : a.eval x = p) (h : (Instr.loadAt t p).run P w = .ok v w) : (execOp a.eval o).run P w = .ok (.value v) w := by
  unfold execOp
  simp only [ho, hx, Sem.run_bind, Sem.run_pure, h, Result.andThen_ok]
theorem loadRe {w : World} {g : Nat} {k : Int} {m : Nat → Bool} {A : Option Addr} {q c : Nat} {lo hi : Int} (h : BlkIs w g 31 (reL k m A q c lo hi).toArray) : (Instr.loadAt 31 (.pointer (some ⟨g, 0, none⟩))).run Try.prog w = .ok (reV k m A q c lo hi) w := by
  unfold reL at h
  obtain ⟨c0, c1, c2, c3, c4, c5, c6, c7⟩ := h.eight
  unfold reV reL
  go_simp

set_option maxHeartbeats 4000000 in
theorem refTakes_any (T : Tree) (v : Value) (s : ByteArray) (hs30 : s.size ≤ 1073741824) (w : World) (hok : T.ok = true) (hat : T.At w v) :
    Calls Try.prog 14 #[v, .string s] w fun e w' => e = .returned (.bool (T.takes s.data.toList)) ∧ Below w.heap.size w w' := by
  obtain ⟨n, hn⟩ : ∃ n, n = s.size + 1 := ⟨_, rfl⟩
  have HAt := Lib.hid (fun W => refAt_any s hs30 n hn 0 (by omega) W)
  have HEn := Lib.hid (fun W (g0 : Nat) (h : T.At W v) (f : Nat → Bool) (hf : BlkIs W g0 4 (bl n f)) => refEnds_any s hs30 n hn T v W g0 f hok h hf)
  have htk : T.takes s.data.toList = T.ends s.data.toList (atP 0) s.size := rfl
  have hlt : s.size < n := by omega
  have hli : (s.size : Int) < (n : Int) := by omega
  rw [htk]
  cases T with
  | node k m l lo hi =>
  have HAT := Lib.hid hat
  obtain ⟨A, c, rfl, _, _⟩ := hat.open
  have hB0 : Below w.heap.size w (w.alloc (.cells (reL k m A l.length c lo hi).toArray 31)) := (Below.refl _ _).alloc (Nat.le_refl _) _
  have hX0 := BlkIs.new w 31 (reL k m A l.length c lo hi).toArray
  have HN := Lib.hid hn
  clear hat hn htk
  unfold EndsIs reV reL at *
  go_enter Try.func14, Try.ntmps14
  go_wp2_with fail
  have HB := Lib.hid hB0
  have HX := Lib.hid hX0
  clear hB0 hX0
  generalize w.alloc (.cells #[.int .i64 k, .int .u64 (wd m 0 : Nat), .int .u64 (wd m 1 : Nat), .int .u64 (wd m 2 : Nat), .int .u64 (wd m 3 : Nat), .slice A l.length c, .int .i64 lo, .int .i64 hi] 31) = w2 at *
  refine wp_region_held_drew (S := fun u => Below w.heap.size w u ∧ BlkIs u w.heap.size 31 (reL k m A l.length c lo hi).toArray) (by kernel_rfl) ⟨HB.out.drew, HX.out.drew⟩ ?_
  intro hS0
  refine wpAnyH_take (i := 0) (v := reV k m A l.length c lo hi) rfl (by kernel_rfl) (by kernel_rfl) (by kernel_rfl) (fun _ _ _ h => h) (.inl ⟨rfl, fun u hu => exec_load4 31 (.tmp 2) _ rfl rfl (loadRe hu.2)⟩) hS0 ?_
  refine wpAnyH_take (i := 1) (v := .string s) rfl (by kernel_rfl) (by kernel_rfl) (by kernel_rfl) (fun _ _ _ h => h) (.inl ⟨rfl, fun u hu => by go_simp⟩) hS0 ?_
  refine wpAnyH_take (i := 2) (v := .string s) rfl (by kernel_rfl) (by kernel_rfl) (by kernel_rfl) (fun _ _ _ h => h) (.inl ⟨rfl, fun u hu => by go_simp⟩) hS0 ?_
  refine wpAnyH_take (i := 5) (v := .string s) rfl (by kernel_rfl) (by kernel_rfl) (by kernel_rfl) (fun _ _ _ h => h) (.inl ⟨rfl, fun u hu => by go_simp⟩) hS0 ?_
  refine wpAnyH_take (i := 6) (v := .int .i64 (s.size : Nat)) rfl (by kernel_rfl) (by kernel_rfl) (by kernel_rfl) (fun _ _ _ h => h) (.inl ⟨rfl, fun u hu => by go_simp⟩) hS0 ?_
  refine wpAnyH_ready (rs := [3]) (by kernel_rfl) (by simp) ?_
  refine AllReadyH.cons rfl (fun K hK => ?_) AllReadyH.nil
  go_simp
  go_at_call 26
  refine (HAt.out _).mono ?_
  rintro e w3 ⟨g3, rfl, hg3, hr3, hb3⟩
  refine hK.out _ _ ⟨hS0.1.trans (hb3.mono hS0.1.size), hS0.2.step hb3⟩ (fun hS => ?_)
  clear hK K
  have HR3 := Lib.hid hr3
  have HE := Lib.hid (HEn.out _ g3 (HAT.out.step hS.1) _ hr3)
  clear hS0 hb3 hr3 hg3
  refine wpAnyH_ready (rs := [4]) (by kernel_rfl) (by simp) ?_
  refine AllReadyH.cons rfl (fun K hK => ?_) AllReadyH.nil
  go_simp
  go_at_call 25
  refine HE.out.mono ?_
  rintro e w4 ⟨g4, rfl, hg4, hr4, hb4⟩
  refine hK.out _ _ ⟨hS.1.trans (hb4.mono hS.1.size), hS.2.step hb4⟩ (fun hS2 => ?_)
  clear hK K
  have d4 := bl_range hr4 hlt
  clear hS hb4 hr4 hg4 HE
  refine wpAnyH_ready (rs := [7]) (by kernel_rfl) (by simp) ?_
  refine AllReadyH.cons rfl (fun K hK => ?_) AllReadyH.nil
  go_simp
  refine hK.out _ _ hS2 (fun hS3 => ?_)
  clear hK K
  refine wpAnyH_ready (rs := [8]) (by kernel_rfl) (by simp) ?_
  refine AllReadyH.cons rfl (fun K hK => ?_) AllReadyH.nil
  go_simp
  refine hK.out _ _ hS2 (fun hS4 => ?_)
  clear hK K
  refine wpAnyH_ready (rs := [9]) (by kernel_rfl) (by simp) ?_
  refine AllReadyH.cons rfl (fun K hK => ?_) AllReadyH.nil
  go_simp
  refine hK.out _ _ hS2 (fun hS5 => ?_)
  clear hK K
  refine wpAnyH_done (by kernel_rfl) ?_ _
  go_wp2
  go_ret
  exact ⟨rfl, hS2.1⟩

end Go.Proofs.Ytngagijcdehjpaa

