/-
  hacklelaw06.RxparseMay: its walk: true for every text and any fragments. Condition: a text is no longer than a machine holds.
-/
import Derived.Test.YtngagijcdehjpaaSmall6
import Derived.Test.YtngagijcdehjpaaAlive6
import Derived.Test.YtngagijcdehjpaaShift
namespace Go.Proofs.Ytngagijcdehjpaa
open Go.RowKit
def wrapT (s : ByteArray) : ByteArray := (⟨#[40]⟩ ++ s) ++ ⟨#[41]⟩
theorem wrapT_is (s : ByteArray) : Wrap s (wrapT s) := by
  unfold Wrap wrapT
  simp [ByteArray.data_append]
theorem mayN_few {s : ByteArray} {fr : Frs} {T : Tree} (h : parseP s fr = .ok T) : T.nodes ≤ 300 ∧ T.mayN = true := by
  unfold parseP at h
  split at h
  · cases h
  · split at h
    · cases h
    · repeat' split at h
      all_goals first
        | (cases h; done)
        | (injection h with h; subst h; exact ⟨by omega, by assumption⟩)
theorem zero_at (W : World) : Tree.At W (.node 0 (fun _ => false) [] 0 0) (reV 0 (fun _ => false) none 0 0 0 0) := at_none 0 W
theorem FrsAt.on {W W' : World} {fr : Frs} {F : Value} (h : FrsAt W fr F) (hb : Below W.heap.size W W') : FrsAt W' fr F := h.sub (sub_below hb)

set_option maxHeartbeats 2000000 in
theorem rxparseMay_any (s : ByteArray) (F : Value) (fr : Frs) (W : World) (hF : FrsAt W fr F) : Calls Try.prog 4 #[.string s, F] W fun e W' => e = .returned (.bool true) ∧ Below W.heap.size W W' := by
  have ha := alive6_any
  by_cases hs : 390 < s.size
  · have e1 : decide (390 < (s.size : Int)) = true := by simp; omega
    go_enter Try.func4, Try.ntmps4
    go_wp2_with (first
      | (go_at_call 6; (with_reducible refine (ha _).mono ?_); rintro e w1 ⟨rfl, hb1⟩))
    go_ret
    exact ⟨rfl, hb1⟩
  have e1 : decide (390 < (s.size : Int)) = false := by simp; omega
  have hs4 : s.size ≤ 390 := by omega
  have HF := Lib.hid hF
  have hm := fun w => many_any s w (by omega)
  have p1 := fun W (h : FrsAt W fr F) => parse_any s F fr W h
  clear hF hs
  obtain ⟨A0, c0, hFv, _⟩ := id HF.out
  subst hFv
  go_enter Try.func4, Try.ntmps4
  go_wp2_with (first
    | (go_at_call 6; (with_reducible refine (ha _).mono ?_); rintro e w1 ⟨rfl, hb1⟩; have HB1 := Lib.hid hb1; clear hb1))
  refine (great6_any _ fr w1 (HF.out.on HB1.out)).mono ?_
  rintro e w2 ⟨⟨z, rfl⟩, hb2⟩
  have HB2 := Lib.hid (HB1.out.trans (hb2.mono HB1.out.size))
  clear hb2
  cases z
  case true =>
    go_wp2
    go_ret
    exact ⟨rfl, HB2.out⟩
  go_wp2_with fail
  refine (hm _).mono ?_
  rintro e w3 ⟨⟨z, rfl⟩, rfl⟩
  cases z
  case true =>
    go_wp2
    go_ret
    exact ⟨rfl, HB2.out⟩
  clear hm e1
  rcases hp : parseP s fr with q | T
  · obtain ⟨q1, q2⟩ := parse_fine hp
    simp only [hp] at p1
    have e2 : ((q.2 : Int) == 0) = false := by simp; omega
    have e3 : decide (0 ≤ (q.1 : Int)) = true := by simp
    have e4 : decide ((q.1 : Int) ≤ (s.size : Int)) = true := by simp; omega
    have hS := fun W => refSame_any _ _ _ _ W (zero_at W) (zero_at W)
    simp only [like_self] at hS
    unfold reV reL at hS
    simp only [wd_zero] at hS
    go_wp2_with (first
      | (go_at_call 11; (with_reducible refine (p1 _ (HF.out.on HB2.out)).mono ?_); rintro e w4 ⟨hb4, rfl⟩; have HB4 := Lib.hid ((HB2.out.trans (hb4.mono HB2.out.size)).alloc (Nat.le_trans HB2.out.size hb4.size) (.cells (reL 0 (fun _ => false) none 0 0 0 0).toArray 31)); unfold reV reL; unfold reL at HB4; simp only [wd_zero] at HB4 ⊢)
      | (go_at_call 12; refine (hS _).mono ?_; rintro e w5 ⟨rfl, hb5⟩))
    go_ret
    exact ⟨rfl, HB4.out.trans (hb5.mono HB4.out.size)⟩
  · obtain ⟨hn, hmay⟩ := mayN_few hp
    simp only [hp] at p1
    have p2 := fun W (h : FrsAt W fr (.slice A0 fr.length c0)) => parse_any (wrapT s) _ fr W h
    have hbi : ((⟨#[40]⟩ : ByteArray) ++ s) ++ ⟨#[41]⟩ = wrapT s := rfl
    rcases parse_wrap (fr := fr) (wrapT_is s) hs4 hp with h2 | ⟨q, h2, hq⟩
    · simp only [h2] at p2
      have hM := fun W v (h : T.At W v) => refMayRe_any T v W h
      rw [may_few (by omega), hmay] at hM
      have hS := fun W v v' (h : T.At W v) (h' : T.At W v') => refSame_any T T v v' W h h'
      simp only [like_self] at hS
      clear hn hmay hp h2
      go_wp2_with (first
        | (go_at_call 11; (with_reducible refine (p1 _ (HF.out.on HB2.out)).mono ?_); rintro e w4 ⟨hb4, v, rfl, hat⟩; obtain ⟨A, n, c, rfl⟩ := hat.form; have hb4' := (HB2.out.trans (hb4.mono HB2.out.size)); have HB4 := Lib.hid (hb4'.alloc hb4'.size (.cells (reL T.kind T.set A n c T.lo T.hi).toArray 31)); have HR4 := Lib.hid (BlkIs.new w4 31 (reL T.kind T.set A n c T.lo T.hi).toArray); have HT4 := Lib.hid (hat.step ((Below.refl w4.heap.size w4).alloc (Nat.le_refl _) (.cells (reL T.kind T.set A n c T.lo T.hi).toArray 31))); clear hat hb4 hb4'; unfold reV reL; unfold reL at HB4 HR4 HT4)
        | rw [hbi]
        | (go_at_call 11; (with_reducible refine (p2 _ (HF.out.on HB4.out)).mono ?_); rintro e w5 ⟨hb5, v, rfl, hat⟩; obtain ⟨A', n', c', rfl⟩ := hat.form; have hb5' := (HB4.out.trans (hb5.mono HB4.out.size)); have HB5 := Lib.hid (hb5'.alloc hb5'.size (.cells (reL T.kind T.set A' n' c' T.lo T.hi).toArray 31)); have hal := (Below.refl w5.heap.size w5).alloc (Nat.le_refl _) (.cells (reL T.kind T.set A' n' c' T.lo T.hi).toArray 31); have HR5 := Lib.hid ((HR4.out.step hb5).step hal); have HN5 := Lib.hid (BlkIs.new w5 31 (reL T.kind T.set A' n' c' T.lo T.hi).toArray); have HTa := Lib.hid ((HT4.out.step hb5).step hal); have HTb := Lib.hid (hat.step hal); clear hat hb5 hb5' hal; unfold reV reL; unfold reL at HB5 HR5 HN5; unfold reV reL at HTb HTa)
        | (refine wpList_load_mid rfl 31 (.tmp 5) rfl w4.heap.size 0 rfl [.int .i64 T.kind, .int .u64 (wd T.set 0 : Nat), .int .u64 (wd T.set 1 : Nat), .int .u64 (wd T.set 2 : Nat), .int .u64 (wd T.set 3 : Nat), .slice A n c, .int .i64 T.lo, .int .i64 T.hi] _ HR5.out.range Try.underlying31 rfl info_re8 ?_)
        | (go_at_call 13; (with_reducible refine (hM _ _ HTa.out).mono ?_); rintro e w6 ⟨rfl, hb6⟩; obtain ⟨k0, k1, k2, k3, k4, k5, k6, k7⟩ := (HR5.out.step hb6).eight; obtain ⟨m0, m1, m2, m3, m4, m5, m6, m7⟩ := (HN5.out.step hb6).eight)
        | (go_at_call 12; (with_reducible refine (hS _ _ _ (HTa.out.step hb6) (HTb.out.step hb6)).mono ?_); rintro e w7 ⟨rfl, hb7⟩))
      go_ret
      exact ⟨rfl, (HB5.out.trans (hb6.mono HB5.out.size)).trans (hb7.mono (Nat.le_trans HB5.out.size hb6.size))⟩
    · simp only [h2] at p2
      have e5 : decide (0 < (q : Int)) = true := by simp; omega
      clear hn hmay hp h2
      go_wp2_with (first
        | (go_at_call 11; (with_reducible refine (p1 _ (HF.out.on HB2.out)).mono ?_); rintro e w4 ⟨hb4, v, rfl, hat⟩; obtain ⟨A, n, c, rfl⟩ := hat.form; have hb4' := (HB2.out.trans (hb4.mono HB2.out.size)); have HB4 := Lib.hid (hb4'.alloc hb4'.size (.cells (reL T.kind T.set A n c T.lo T.hi).toArray 31)); have HR4 := Lib.hid (BlkIs.new w4 31 (reL T.kind T.set A n c T.lo T.hi).toArray); have HT4 := Lib.hid (hat.step ((Below.refl w4.heap.size w4).alloc (Nat.le_refl _) (.cells (reL T.kind T.set A n c T.lo T.hi).toArray 31))); clear hat hb4 hb4'; unfold reV reL; unfold reL at HB4 HR4 HT4)
        | rw [hbi]
        | (go_at_call 11; (with_reducible refine (p2 _ (HF.out.on HB4.out)).mono ?_); rintro e w5 ⟨hb5, rfl⟩; have hb5' := (HB4.out.trans (hb5.mono HB4.out.size)); have HB5 := Lib.hid (hb5'.alloc hb5'.size (.cells (reL 0 (fun _ => false) none 0 0 0 0).toArray 31)); clear hb5 hb5'; unfold reV reL; unfold reL at HB5; simp only [wd_zero] at HB5 ⊢))
      go_ret
      exact ⟨rfl, HB5.out⟩
end Go.Proofs.Ytngagijcdehjpaa
