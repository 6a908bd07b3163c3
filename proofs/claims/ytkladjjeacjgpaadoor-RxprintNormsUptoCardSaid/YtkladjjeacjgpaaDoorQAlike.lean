/-
  WHAT alike OF PACKAGE rx ANSWERS: have two nodes the same fields, and as many Subs? A contract. No condition.
-/
import Derived.Test.YtkladjjeacjgpaaDoorQBegins1
namespace Go.Proofs.YtkladjjeacjgpaaDoor
open Go.RowKit
attribute [local irreducible] FreeW

def nodeEqB (k k' : Int) (m m' : Nat → Bool) (lo lo' hi hi' : Int) (n n' : Nat) : Bool := (k == k') && (setEq m m' && ((lo == lo') && ((hi == hi') && ((n : Int) == (n' : Int)))))

set_option maxHeartbeats 8000000 in
set_option maxRecDepth 20000 in
theorem alike_any (b o b' o' : Nat) (k k' : Int) (m m' : Nat → Bool) (A A' : Option Addr) (n n' c c' : Nat) (lo lo' hi hi' : Int) (w : World) (h1 : w.rangeAt b o (reL k m A n c lo hi)) (h2 : w.rangeAt b' o' (reL k' m' A' n' c' lo' hi')) :
    Calls Tryd.prog 90 #[.pointer (some ⟨b, o, none⟩), .pointer (some ⟨b', o', none⟩)] w fun e w' => e = .returned (.bool (nodeEqB k k' m m' lo lo' hi hi' n n')) ∧ Below w.heap.size w w' := by
  have H1 := Lib.hid h1
  have H2 := Lib.hid h2
  clear h1 h2
  have he := eql_set m m'
  unfold setV at he
  unfold nodeEqB
  generalize setEq m m' = x2 at *
  generalize e1 : (k == k') = x1 at *
  generalize e3 : (lo == lo') = x3 at *
  generalize e4 : (hi == hi') = x4 at *
  generalize e5 : ((n : Int) == (n' : Int)) = x5 at *
  cases x1
  · rw [Bool.false_and]
    go_enter Tryd.func90, Tryd.ntmps90
    go_wp2_with fail
    refine wp_region_reads 60 (fun u => Below w.heap.size w u) (by kernel_rfl) (by kernel_rfl) rfl (Below.refl _ _).drew (fun u u' h hb => h.trans (hb.mono h.size)) ?_
    repeat
      refine freeW_step fun K hK => ?_
      first
        | ((first
              | (refine freeW_no 9 14 true rfl rfl ?_ ?_; (focus (go_simp; done)))
              | (refine freeW_no 20 25 true rfl rfl ?_ ?_; (focus (go_simp; done)))
              | (refine freeW_no 31 36 true rfl rfl ?_ ?_; (focus (go_simp; done)))
              | (refine freeW_no 42 47 true rfl rfl ?_ ?_; (focus (go_simp; done)))
              | (refine freeW_skip 9 14 true rfl rfl ?_ ?_; (focus (go_simp; done)))
              | (refine freeW_skip 20 25 true rfl rfl ?_ ?_; (focus (go_simp; done)))
              | (refine freeW_skip 31 36 true rfl rfl ?_ ?_; (focus (go_simp; done)))
              | (refine freeW_skip 42 47 true rfl rfl ?_ ?_; (focus (go_simp; done))))
           have HK := Go.Lib.hid hK
           clear hK
           go_simp
           have hK := HK.out
           clear HK
           refine hK _ ?_
           clear hK K)
        | (skip
           (first
             | (refine freeW_yes 9 14 true rfl rfl ?_ ?_; (focus (go_simp; done)))
             | (refine freeW_yes 20 25 true rfl rfl ?_ ?_; (focus (go_simp; done)))
             | (refine freeW_yes 31 36 true rfl rfl ?_ ?_; (focus (go_simp; done)))
             | (refine freeW_yes 42 47 true rfl rfl ?_ ?_; (focus (go_simp; done)))
             | skip)
           go_simp
           apply Exists.intro
           refine ⟨fun u h1 => ?_, hK _ ?_⟩
           · obtain ⟨r0, r1, r2, r3, r4, r5, r6, r7⟩ := row_eight H1.out h1
             obtain ⟨s0, s1, s2, s3, s4, s5, s6, s7⟩ := row_eight H2.out h1
             clear h1
             unfold freeAt
             go_simp
             first
               | exact free_val
               | (apply free_call
                  first
                    | fail
                  )
           clear hK K)
    refine freeW_nil ?_
    intro u hu _
    have HU := Lib.hid hu
    clear hu
    go_wp2
    go_ret
    exact ⟨rfl, HU.out⟩
  rw [Bool.true_and]
  cases x2
  · rw [Bool.false_and]
    go_enter Tryd.func90, Tryd.ntmps90
    go_wp2_with fail
    refine wp_region_reads 60 (fun u => Below w.heap.size w u) (by kernel_rfl) (by kernel_rfl) rfl (Below.refl _ _).drew (fun u u' h hb => h.trans (hb.mono h.size)) ?_
    repeat
      refine freeW_step fun K hK => ?_
      first
        | ((first
              | (refine freeW_no 9 14 true rfl rfl ?_ ?_; (focus (go_simp; done)))
              | (refine freeW_no 20 25 true rfl rfl ?_ ?_; (focus (go_simp; done)))
              | (refine freeW_no 31 36 true rfl rfl ?_ ?_; (focus (go_simp; done)))
              | (refine freeW_no 42 47 true rfl rfl ?_ ?_; (focus (go_simp; done)))
              | (refine freeW_skip 9 14 true rfl rfl ?_ ?_; (focus (go_simp; done)))
              | (refine freeW_skip 20 25 true rfl rfl ?_ ?_; (focus (go_simp; done)))
              | (refine freeW_skip 31 36 true rfl rfl ?_ ?_; (focus (go_simp; done)))
              | (refine freeW_skip 42 47 true rfl rfl ?_ ?_; (focus (go_simp; done))))
           have HK := Go.Lib.hid hK
           clear hK
           go_simp
           have hK := HK.out
           clear HK
           refine hK _ ?_
           clear hK K)
        | (skip
           (first
             | (refine freeW_yes 9 14 true rfl rfl ?_ ?_; (focus (go_simp; done)))
             | (refine freeW_yes 20 25 true rfl rfl ?_ ?_; (focus (go_simp; done)))
             | (refine freeW_yes 31 36 true rfl rfl ?_ ?_; (focus (go_simp; done)))
             | (refine freeW_yes 42 47 true rfl rfl ?_ ?_; (focus (go_simp; done)))
             | skip)
           go_simp
           apply Exists.intro
           refine ⟨fun u h1 => ?_, hK _ ?_⟩
           · obtain ⟨r0, r1, r2, r3, r4, r5, r6, r7⟩ := row_eight H1.out h1
             obtain ⟨s0, s1, s2, s3, s4, s5, s6, s7⟩ := row_eight H2.out h1
             clear h1
             unfold freeAt
             go_simp
             first
               | exact free_val
               | (apply free_call
                  first
                    | fail
                  )
           clear hK K)
    refine freeW_nil ?_
    intro u hu _
    have HU := Lib.hid hu
    clear hu
    go_wp2
    go_ret
    exact ⟨rfl, HU.out⟩
  rw [Bool.true_and]
  cases x3
  · rw [Bool.false_and]
    go_enter Tryd.func90, Tryd.ntmps90
    go_wp2_with fail
    refine wp_region_reads 60 (fun u => Below w.heap.size w u) (by kernel_rfl) (by kernel_rfl) rfl (Below.refl _ _).drew (fun u u' h hb => h.trans (hb.mono h.size)) ?_
    repeat
      refine freeW_step fun K hK => ?_
      first
        | ((first
              | (refine freeW_no 9 14 true rfl rfl ?_ ?_; (focus (go_simp; done)))
              | (refine freeW_no 20 25 true rfl rfl ?_ ?_; (focus (go_simp; done)))
              | (refine freeW_no 31 36 true rfl rfl ?_ ?_; (focus (go_simp; done)))
              | (refine freeW_no 42 47 true rfl rfl ?_ ?_; (focus (go_simp; done)))
              | (refine freeW_skip 9 14 true rfl rfl ?_ ?_; (focus (go_simp; done)))
              | (refine freeW_skip 20 25 true rfl rfl ?_ ?_; (focus (go_simp; done)))
              | (refine freeW_skip 31 36 true rfl rfl ?_ ?_; (focus (go_simp; done)))
              | (refine freeW_skip 42 47 true rfl rfl ?_ ?_; (focus (go_simp; done))))
           have HK := Go.Lib.hid hK
           clear hK
           go_simp
           have hK := HK.out
           clear HK
           refine hK _ ?_
           clear hK K)
        | (skip
           (first
             | (refine freeW_yes 9 14 true rfl rfl ?_ ?_; (focus (go_simp; done)))
             | (refine freeW_yes 20 25 true rfl rfl ?_ ?_; (focus (go_simp; done)))
             | (refine freeW_yes 31 36 true rfl rfl ?_ ?_; (focus (go_simp; done)))
             | (refine freeW_yes 42 47 true rfl rfl ?_ ?_; (focus (go_simp; done)))
             | skip)
           go_simp
           apply Exists.intro
           refine ⟨fun u h1 => ?_, hK _ ?_⟩
           · obtain ⟨r0, r1, r2, r3, r4, r5, r6, r7⟩ := row_eight H1.out h1
             obtain ⟨s0, s1, s2, s3, s4, s5, s6, s7⟩ := row_eight H2.out h1
             clear h1
             unfold freeAt
             go_simp
             first
               | exact free_val
               | (apply free_call
                  first
                    | fail
                  )
           clear hK K)
    refine freeW_nil ?_
    intro u hu _
    have HU := Lib.hid hu
    clear hu
    go_wp2
    go_ret
    exact ⟨rfl, HU.out⟩
  rw [Bool.true_and]
  cases x4
  · rw [Bool.false_and]
    go_enter Tryd.func90, Tryd.ntmps90
    go_wp2_with fail
    refine wp_region_reads 60 (fun u => Below w.heap.size w u) (by kernel_rfl) (by kernel_rfl) rfl (Below.refl _ _).drew (fun u u' h hb => h.trans (hb.mono h.size)) ?_
    repeat
      refine freeW_step fun K hK => ?_
      first
        | ((first
              | (refine freeW_no 9 14 true rfl rfl ?_ ?_; (focus (go_simp; done)))
              | (refine freeW_no 20 25 true rfl rfl ?_ ?_; (focus (go_simp; done)))
              | (refine freeW_no 31 36 true rfl rfl ?_ ?_; (focus (go_simp; done)))
              | (refine freeW_no 42 47 true rfl rfl ?_ ?_; (focus (go_simp; done)))
              | (refine freeW_skip 9 14 true rfl rfl ?_ ?_; (focus (go_simp; done)))
              | (refine freeW_skip 20 25 true rfl rfl ?_ ?_; (focus (go_simp; done)))
              | (refine freeW_skip 31 36 true rfl rfl ?_ ?_; (focus (go_simp; done)))
              | (refine freeW_skip 42 47 true rfl rfl ?_ ?_; (focus (go_simp; done))))
           have HK := Go.Lib.hid hK
           clear hK
           go_simp
           have hK := HK.out
           clear HK
           refine hK _ ?_
           clear hK K)
        | (skip
           (first
             | (refine freeW_yes 9 14 true rfl rfl ?_ ?_; (focus (go_simp; done)))
             | (refine freeW_yes 20 25 true rfl rfl ?_ ?_; (focus (go_simp; done)))
             | (refine freeW_yes 31 36 true rfl rfl ?_ ?_; (focus (go_simp; done)))
             | (refine freeW_yes 42 47 true rfl rfl ?_ ?_; (focus (go_simp; done)))
             | skip)
           go_simp
           apply Exists.intro
           refine ⟨fun u h1 => ?_, hK _ ?_⟩
           · obtain ⟨r0, r1, r2, r3, r4, r5, r6, r7⟩ := row_eight H1.out h1
             obtain ⟨s0, s1, s2, s3, s4, s5, s6, s7⟩ := row_eight H2.out h1
             clear h1
             unfold freeAt
             go_simp
             first
               | exact free_val
               | (apply free_call
                  first
                    | fail
                  )
           clear hK K)
    refine freeW_nil ?_
    intro u hu _
    have HU := Lib.hid hu
    clear hu
    go_wp2
    go_ret
    exact ⟨rfl, HU.out⟩
  rw [Bool.true_and]
  go_enter Tryd.func90, Tryd.ntmps90
  go_wp2_with fail
  refine wp_region_reads 60 (fun u => Below w.heap.size w u) (by kernel_rfl) (by kernel_rfl) rfl (Below.refl _ _).drew (fun u u' h hb => h.trans (hb.mono h.size)) ?_
  repeat
    refine freeW_step fun K hK => ?_
    first
      | ((first
            | (refine freeW_no 9 14 true rfl rfl ?_ ?_; (focus (go_simp; done)))
            | (refine freeW_no 20 25 true rfl rfl ?_ ?_; (focus (go_simp; done)))
            | (refine freeW_no 31 36 true rfl rfl ?_ ?_; (focus (go_simp; done)))
            | (refine freeW_no 42 47 true rfl rfl ?_ ?_; (focus (go_simp; done)))
            | (refine freeW_skip 9 14 true rfl rfl ?_ ?_; (focus (go_simp; done)))
            | (refine freeW_skip 20 25 true rfl rfl ?_ ?_; (focus (go_simp; done)))
            | (refine freeW_skip 31 36 true rfl rfl ?_ ?_; (focus (go_simp; done)))
            | (refine freeW_skip 42 47 true rfl rfl ?_ ?_; (focus (go_simp; done))))
         have HK := Go.Lib.hid hK
         clear hK
         go_simp
         have hK := HK.out
         clear HK
         refine hK _ ?_
         clear hK K)
      | (skip
         (first
           | (refine freeW_yes 9 14 true rfl rfl ?_ ?_; (focus (go_simp; done)))
           | (refine freeW_yes 20 25 true rfl rfl ?_ ?_; (focus (go_simp; done)))
           | (refine freeW_yes 31 36 true rfl rfl ?_ ?_; (focus (go_simp; done)))
           | (refine freeW_yes 42 47 true rfl rfl ?_ ?_; (focus (go_simp; done)))
           | skip)
         go_simp
         apply Exists.intro
         refine ⟨fun u h1 => ?_, hK _ ?_⟩
         · obtain ⟨r0, r1, r2, r3, r4, r5, r6, r7⟩ := row_eight H1.out h1
           obtain ⟨s0, s1, s2, s3, s4, s5, s6, s7⟩ := row_eight H2.out h1
           clear h1
           unfold freeAt
           go_simp
           first
             | exact free_val
             | (apply free_call
                first
                  | fail
                )
         clear hK K)
  refine freeW_nil ?_
  intro u hu _
  have HU := Lib.hid hu
  clear hu
  go_wp2
  go_ret
  exact ⟨rfl, HU.out⟩

end Go.Proofs.YtkladjjeacjgpaaDoor

