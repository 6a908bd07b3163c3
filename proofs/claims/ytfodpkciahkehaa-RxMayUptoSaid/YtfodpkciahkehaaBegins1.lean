/-
  WHAT hackleref04's Begins ANSWERS at a ReByte. Condition: the text has at most 2^30 bytes.
-/
import Derived.Test.YtfodpkciahkehaaBegins2
import Derived.Test.YtfodpkciahkehaaFreeG
namespace Go.Proofs.Ytfodpkciahkehaa
open Go.RowKit
attribute [local irreducible] FreeW

theorem freeW_skip {P : Program} {C : World → Prop} {o : Oper} {a : Act} {ops : Array Oper} {K : Act → Prop} (i d : Nat) (b : Bool) (hg : o.guard = some (i, b)) (hi : (ops[i]?).bind (·.dst) = some d) (hv : a.tmps.getD d undef = undef) (h1 : K (a.put o.dst undef)) :
    if Region.wanted o (yielded ops a.tmps) = true then ∃ v, (∀ w, C w → freeAt P o a w v) ∧ K (a.put o.dst v) else K (a.put o.dst undef) := by
  rw [if_neg]
  · exact h1
  · unfold Region.wanted yielded
    rw [hg]
    cases h : a.tmps[d]? with
    | none => simp [hi, h]
    | some x =>
      rw [Array.getD_eq_getD_getElem?, h] at hv
      have hx : x = undef := hv
      subst hx
      simp [hi, h, undef]

set_option maxHeartbeats 8000000 in
set_option maxRecDepth 20000 in
theorem begins_k1 (s : ByteArray) (n : Nat) (hs30 : s.size ≤ 1073741824) (hn : n = s.size + 1) (m : Nat → Bool) (l : List Tree) (lo hi : Int) (A : Option Addr) (c : Nat) (w : World) (g0 : Nat) (f : Nat → Bool) (hf0 : BlkIs w g0 4 (bl n f)) :
    Calls Try.prog 19 #[reV 1 m A l.length c lo hi, .string s, .slice (some ⟨g0, 0, none⟩) n n] w (BoolIs (if setEq m (fun _ => false) then false else f s.size || (decide (0 < s.size) && (f (s.size - 1) && m (byteAt s.data.toList (s.size - 1))))) w) := by
  have hB0 : Below w.heap.size w (w.alloc (.cells (reL 1 m A l.length c lo hi).toArray 27)) := (Below.refl _ _).alloc (Nat.le_refl _) _
  have hX0 := BlkIs.new w 27 (reL 1 m A l.length c lo hi).toArray
  have HB0 := Lib.hid (And.intro hB0 (And.intro hX0 (hf0.alloc (.cells (reL 1 m A l.length c lo hi).toArray 27))))
  have hsn : s.size < n := by omega
  have hsi : (s.size : Int) < (n : Int) := by omega
  have HN := Lib.hid hn
  clear hB0 hX0 hn
  have he := eql_set m (fun _ => false)
  rw [set0_build] at he
  unfold BoolIs at *
  unfold setV at he
  unfold reV reL at *
  clear hf0
  generalize setEq m (fun _ => false) = q at *
  cases q with
  | true =>
    go_enter Try.func19, Try.ntmps19
    go_wp2
    go_ret
    exact ⟨rfl, HB0.out.1⟩
  | false =>
  rw [if_neg (by simp)]
  obtain ⟨hq0, hq1⟩ : (0 < s.size → (s.size - 1 < n)) ∧ True := ⟨fun h => by omega, trivial⟩
  by_cases hpos : 0 < s.size
  · have hl1 : s.size - 1 < s.size := by omega
    have hl1n : s.size - 1 < n := by omega
    have hl1i : ((s.size - 1 : Nat) : Int) < (n : Int) := by omega
    have hb1 : byteAt s.data.toList (s.size - 1) = (s[s.size - 1]'hl1).toNat := by
      rw [Lib.getD_at s (s.size - 1) hl1]; rfl
    have hx1 : (s[s.size - 1]'hl1).toNat < 256 := by have := UInt8.toNat_lt (s[s.size - 1]'hl1); omega
    have hi1 := idx_byte 9 Try.underlying9 s (s.size - 1) hl1 (P := Try.prog)
    have hk1 : IntKind.i64.wrap (((s[s.size - 1]'hl1).toNat : Nat) : Int) = (((s[s.size - 1]'hl1).toNat : Nat) : Int) := by rw [IntKind.wrap_i64]; omega
    have hw1 : IntKind.i64.wrap ((s.size : Int) - 1) = ((s.size - 1 : Nat) : Int) := by rw [IntKind.wrap_i64]; omega
    have dpos : decide ((s.size : Int) > 0) = true := decide_eq_true (by omega)
    have dpos2 : decide (0 < s.size) = true := decide_eq_true hpos
    have HC := Lib.hid (fun u => refHas_any m (s[s.size - 1]'hl1).toNat hx1 u)
    have HCE := Lib.hid (fun (u : World) (h1 : BlkIs u w.heap.size 27 (reL 1 m A l.length c lo hi).toArray) (h2 : BlkIs u g0 4 (bl n f)) =>
      (⟨bl_range h2 hsn, bl_range h2 hl1n, h1.cell 1, h1.cell 2, h1.cell 3, h1.cell 4⟩ : u.cell? ⟨g0, s.size, none⟩ = some (.bool (f s.size)) ∧ u.cell? ⟨g0, s.size - 1, none⟩ = some (.bool (f (s.size - 1))) ∧
        u.cell? ⟨w.heap.size, 1, none⟩ = some (.int .u64 (wd m 0 : Nat)) ∧ u.cell? ⟨w.heap.size, 2, none⟩ = some (.int .u64 (wd m 1 : Nat)) ∧ u.cell? ⟨w.heap.size, 3, none⟩ = some (.int .u64 (wd m 2 : Nat)) ∧ u.cell? ⟨w.heap.size, 4, none⟩ = some (.int .u64 (wd m 3 : Nat))))
    rw [dpos2, Bool.true_and, hb1]
    unfold setV at HC
    clear hb1 hq0 hq1
    generalize f s.size = x at *
    generalize f (s.size - 1) = y at *
    generalize hmz : m (s[s.size - 1]'hl1).toNat = z at *
    clear hmz
    cases x <;> cases y <;> cases z
    all_goals (
      go_enter Try.func19, Try.ntmps19
      go_wp2_with fail
      refine wp_region_reads 139 (fun u => Below w.heap.size w u ∧ BlkIs u w.heap.size 27 (reL 1 m A l.length c lo hi).toArray ∧ BlkIs u g0 4 (bl n f)) (by kernel_rfl) (by kernel_rfl) rfl ⟨HB0.out.1.drew, HB0.out.2.1.drew, HB0.out.2.2.drew⟩ (fun u u' h hb => ⟨h.1.trans (hb.mono h.1.size), h.2.1.step hb, h.2.2.step hb⟩) ?_
      clear he
      repeat
        refine freeW_step fun K hK => ?_
        first
          | ((first
                | (refine freeW_no 4 32 false rfl rfl ?_ ?_; (focus (go_simp; done)))
                | (refine freeW_no 7 35 true rfl rfl ?_ ?_; (focus (go_simp; done)))
                | (refine freeW_no 14 42 true rfl rfl ?_ ?_; (focus (go_simp; done)))
                | (refine freeW_skip 7 35 true rfl rfl ?_ ?_; (focus (go_simp; done)))
                | (refine freeW_skip 14 42 true rfl rfl ?_ ?_; (focus (go_simp; done))))
             have HK := Go.Lib.hid hK
             clear hK
             go_simp
             have hK := HK.out
             clear HK
             refine hK _ ?_
             clear hK K)
          | (skip
             (first
               | (refine freeW_yes 4 32 false rfl rfl ?_ ?_; (focus (go_simp; done)))
               | (refine freeW_yes 7 35 true rfl rfl ?_ ?_; (focus (go_simp; done)))
               | (refine freeW_yes 14 42 true rfl rfl ?_ ?_; (focus (go_simp; done)))
               | skip)
             go_simp
             apply Exists.intro
             refine ⟨fun u h1 h2 h3 => ?_, hK _ ?_⟩
             · obtain ⟨d0, d1, b1, b2, b3, b4⟩ := HCE.out u h2 h3
               clear h1 h2 h3
               unfold freeAt
               go_simp
               first
                 | exact free_val
                 | (apply free_call
                    first
                      | (go_at_call 18; exact HC.out _)
                    )
             clear hK K)
      refine freeW_nil ?_
      intro u hu _
      have HU := Lib.hid hu
      clear hu
      go_wp2
      go_ret
      exact ⟨rfl, HU.out.1⟩)
  · have hz : s.size = 0 := by omega
    have dpos : decide ((s.size : Int) > 0) = false := decide_eq_false (by omega)
    have dpos2 : decide (0 < s.size) = false := decide_eq_false hpos
    have HC := Lib.hid (fun u => refHas_any m 0 (by decide) u)
    have HCE := Lib.hid (fun (u : World) (h1 : BlkIs u w.heap.size 27 (reL 1 m A l.length c lo hi).toArray) (h2 : BlkIs u g0 4 (bl n f)) =>
      (⟨bl_range h2 hsn, trivial, h1.cell 1, h1.cell 2, h1.cell 3, h1.cell 4⟩ : u.cell? ⟨g0, s.size, none⟩ = some (.bool (f s.size)) ∧ True ∧
        u.cell? ⟨w.heap.size, 1, none⟩ = some (.int .u64 (wd m 0 : Nat)) ∧ u.cell? ⟨w.heap.size, 2, none⟩ = some (.int .u64 (wd m 1 : Nat)) ∧ u.cell? ⟨w.heap.size, 3, none⟩ = some (.int .u64 (wd m 2 : Nat)) ∧ u.cell? ⟨w.heap.size, 4, none⟩ = some (.int .u64 (wd m 3 : Nat))))
    rw [dpos2, Bool.false_and, Bool.or_false]
    clear hq0 hq1 hpos hz
    generalize f s.size = x at *
    cases x
    all_goals (
      go_enter Try.func19, Try.ntmps19
      go_wp2_with fail
      refine wp_region_reads 139 (fun u => Below w.heap.size w u ∧ BlkIs u w.heap.size 27 (reL 1 m A l.length c lo hi).toArray ∧ BlkIs u g0 4 (bl n f)) (by kernel_rfl) (by kernel_rfl) rfl ⟨HB0.out.1.drew, HB0.out.2.1.drew, HB0.out.2.2.drew⟩ (fun u u' h hb => ⟨h.1.trans (hb.mono h.1.size), h.2.1.step hb, h.2.2.step hb⟩) ?_
      clear he
      repeat
        refine freeW_step fun K hK => ?_
        first
          | ((first
                | (refine freeW_no 4 32 false rfl rfl ?_ ?_; (focus (go_simp; done)))
                | (refine freeW_no 7 35 true rfl rfl ?_ ?_; (focus (go_simp; done)))
                | (refine freeW_no 14 42 true rfl rfl ?_ ?_; (focus (go_simp; done)))
                | (refine freeW_skip 7 35 true rfl rfl ?_ ?_; (focus (go_simp; done)))
                | (refine freeW_skip 14 42 true rfl rfl ?_ ?_; (focus (go_simp; done))))
             have HK := Go.Lib.hid hK
             clear hK
             go_simp
             have hK := HK.out
             clear HK
             refine hK _ ?_
             clear hK K)
          | (skip
             (first
               | (refine freeW_yes 4 32 false rfl rfl ?_ ?_; (focus (go_simp; done)))
               | (refine freeW_yes 7 35 true rfl rfl ?_ ?_; (focus (go_simp; done)))
               | (refine freeW_yes 14 42 true rfl rfl ?_ ?_; (focus (go_simp; done)))
               | skip)
             go_simp
             apply Exists.intro
             refine ⟨fun u h1 h2 h3 => ?_, hK _ ?_⟩
             · obtain ⟨d0, d1, b1, b2, b3, b4⟩ := HCE.out u h2 h3
               clear h1 h2 h3
               unfold freeAt
               go_simp
               first
                 | exact free_val
                 | (apply free_call
                    first
                      | (go_at_call 18; exact HC.out _)
                    )
             clear hK K)
      refine freeW_nil ?_
      intro u hu _
      have HU := Lib.hid hu
      clear hu
      go_wp2
      go_ret
      exact ⟨rfl, HU.out.1⟩)

end Go.Proofs.Ytfodpkciahkehaa
