/-
  WHAT has ANSWERS: is one of a row like a tree: a contract. Condition: the row's trees have at most 2^40 nodes.
-/
import Derived.Test.YtkladjjeacjgpaaDoorQTbyt
namespace Go.Proofs.YtkladjjeacjgpaaDoor
open Go.RowKit

theorem has1_any (t T : Tree) (v v' : Value) (g : Nat) (w : World) (hat : t.At w v) (hat' : T.At w v') (A : Option Addr) (n c : Nat) (hv' : v' = reV T.kind T.set A n c T.lo T.hi) (hg : BlkIs w g 27 (reL T.kind T.set A n c T.lo T.hi).toArray) (hn : t.nodes ≤ 1099511627776) :
    Calls Tryd.prog 76 #[v, .pointer (some ⟨g, 0, none⟩)] w fun e w' => e = .returned (.bool (t.same T)) ∧ Below w.heap.size w w' := by
  obtain ⟨A2, n2, c2, rfl⟩ := hat.form
  subst hv'
  have hb := (Below.refl w.heap.size w).alloc (Nat.le_refl _) (.cells (reL t.kind t.set A2 n2 c2 t.lo t.hi).toArray 27)
  have hs := same_any t T _ _ _ (hat.step hb) (hat'.step hb) hn
  obtain ⟨k0, k1, k2, k3, k4, k5, k6, k7⟩ := (hg.step hb).eight
  have HB := Lib.hid hb
  have HS := Lib.hid hs
  have hlt := hg.lt
  clear hb hs hat hat' hg
  unfold reV reL at *
  go_enter Tryd.func76, Tryd.ntmps76
  go_wp2_with (first | (go_at_call 77; go_must (refine HS.out.mono ?_); rintro e w2 ⟨rfl, hb2⟩; have HB2 := Lib.hid hb2; clear hb2))
  go_ret
  exact ⟨rfl, HB.out.trans (HB2.out.mono HB.out.size)⟩

set_option maxRecDepth 100000 in
set_option maxHeartbeats 4000000 in
theorem index_any (l : List Tree) (T : Tree) (A : Option Addr) (c : Nat) (v' : Value) (g : Nat) (w : World) (hc : l.length ≤ c ∧ c ≤ 9223372036854775807) (hl : l ≠ [] → ∃ b o, A = some ⟨b, o, none⟩ ∧ AllAt w l b o) (hat' : T.At w v') (A' : Option Addr) (n' c' : Nat) (hv' : v' = reV T.kind T.set A' n' c' T.lo T.hi) (hg : BlkIs w g 27 (reL T.kind T.set A' n' c' T.lo T.hi).toArray)
    (hn : ∀ t ∈ l, t.nodes ≤ 1099511627776) :
    Calls Tryd.prog 89 #[.slice A l.length c, .func (.func 76) #[] #[.pointer (some ⟨g, 0, none⟩)]] w fun e w' => (∃ r : Int, e = .returned (.int .i64 r) ∧ decide (0 ≤ r) = l.any (fun t => t.same T)) ∧ Below w.heap.size w w' := by
  have HL := Lib.hid hl
  have HH := Lib.hid (fun (t : Tree) (v : Value) (u : World) (hu : Below w.heap.size w u) (ht : t.At w v) (hn : t.nodes ≤ 1099511627776) => has1_any t T v v' g u (ht.step hu) (hat'.step hu) A' n' c' hv' (hg.step hu) hn)
  have HN := Lib.hid hn
  clear hl hn hat' hv' hg
  go_enter Tryd.func89, Tryd.ntmps89
  go_wp2
  go_loopw [8] (fun s wr => ∃ i : Nat, i ≤ l.length ∧ s = .int .i64 i ∧ Hid ((∀ t ∈ l.take i, t.same T = false) ∧ Below w.heap.size w wr)) (fun s _ => l.length - (intOf s).toNat)
  case atStart => exact ⟨0, Nat.zero_le _, rfl, Lib.hid ⟨by simp, Below.refl _ _⟩⟩
  case round =>
    obtain ⟨i, hi, rfl, HI⟩ := hrel
    by_cases hlt : i < l.length
    · have hdi : decide ((i : Int) < (l.length : Int)) = true := by simp; omega
      obtain ⟨b, o, rfl, hall⟩ := HL.out (by intro e; subst e; simp at hlt)
      obtain ⟨cs, hat, hcs, hrow⟩ := hall.get l b o i hlt
      obtain ⟨A2, c2, rfl, hc2, _⟩ := at_sub hat
      obtain ⟨k0, k1, k2, k3, k4, k5, k6, k7⟩ := row_eight hrow HI.out.2
      have hcall := HH.out l[i] _ wr HI.out.2 hat (HN.out _ (List.getElem_mem hlt))
      have HC := Lib.hid hcall
      have HT := Lib.hid (fun h => take_next hlt (fun t => t.same T = false) HI.out.1 h)
      clear hcall hall hat hrow
      unfold reL at HC
      cases hq : l[i].same T with
      | true =>
        rw [hq] at HC
        have HQ := Lib.hid hq
        go_wp2_with (first | (go_at_call 76; go_must (refine HC.out.mono ?_); rintro e w2 ⟨rfl, hb2⟩; have HB2 := Lib.hid (HI.out.2.trans (hb2.mono HI.out.2.size)); clear hb2))
        go_ret
        refine ⟨⟨(i : Int), rfl, ?_⟩, HB2.out⟩
        rw [decide_eq_true (by omega)]
        exact (List.any_eq_true.2 ⟨l[i], List.getElem_mem hlt, HQ.out⟩).symm
      | false =>
        rw [hq] at HC
        have HQ := Lib.hid hq
        go_wp2_with (first | (go_at_call 76; go_must (refine HC.out.mono ?_); rintro e w2 ⟨rfl, hb2⟩; have HB2 := Lib.hid (HI.out.2.trans (hb2.mono HI.out.2.size)); clear hb2))
        exact ⟨⟨i + 1, by omega, by go_num, Lib.hid ⟨HT.out HQ.out, HB2.out⟩⟩, by simp [intOf]; try omega⟩
    · have hdi : decide ((i : Int) < (l.length : Int)) = false := by simp; omega
      obtain rfl : i = l.length := by omega
      go_wp2
      go_ret
      refine ⟨⟨-1, rfl, ?_⟩, HI.out.2⟩
      have := HI.out.1
      rw [List.take_length] at this
      rw [decide_eq_false (by omega)]
      exact (List.any_eq_false.2 fun t ht => by rw [this t ht]; simp).symm

set_option maxRecDepth 100000 in
theorem contains_any (b : Bool) (A : Option Addr) (n c g : Nat) (w : World)
    (hi : Calls Tryd.prog 89 #[.slice A n c, .func (.func 76) #[] #[.pointer (some ⟨g, 0, none⟩)]] w fun e w' => (∃ r : Int, e = .returned (.int .i64 r) ∧ decide (0 ≤ r) = b) ∧ Below w.heap.size w w') :
    Calls Tryd.prog 75 #[.slice A n c, .func (.func 76) #[] #[.pointer (some ⟨g, 0, none⟩)]] w fun e w' => e = .returned (.bool b) ∧ Below w.heap.size w w' := by
  have HI := Lib.hid hi
  clear hi
  go_enter Tryd.func75, Tryd.ntmps75
  go_wp2_with (first | (go_at_call 89; go_must (refine HI.out.mono ?_); rintro e w2 ⟨⟨r, rfl, hr⟩, hb2⟩; have HB2 := Lib.hid (And.intro hr hb2); have hge : decide (r ≥ 0) = b := hr; clear hr hb2))
  go_ret
  exact ⟨rfl, HB2.out.2⟩

set_option maxRecDepth 100000 in
theorem hasT_any (l : List Tree) (T : Tree) (A : Option Addr) (c : Nat) (v' : Value) (w : World) (hc : l.length ≤ c ∧ c ≤ 9223372036854775807) (hl : l ≠ [] → ∃ b o, A = some ⟨b, o, none⟩ ∧ AllAt w l b o) (hat' : T.At w v') (hn : ∀ t ∈ l, t.nodes ≤ 1099511627776) :
    Calls Tryd.prog 59 #[.slice A l.length c, v'] w fun e w' => e = .returned (.bool (l.any (fun t => t.same T))) ∧ Below w.heap.size w w' := by
  obtain ⟨A', n', c', rfl⟩ := hat'.form
  have hb := (Below.refl w.heap.size w).alloc (Nat.le_refl _) (.cells (reL T.kind T.set A' n' c' T.lo T.hi).toArray 27)
  have hi := index_any l T A c _ w.heap.size _ hc (fun h => by obtain ⟨b, o, h1, h2⟩ := hl h; exact ⟨b, o, h1, h2.step hb⟩) (hat'.step hb) A' n' c' rfl (BlkIs.new w _ _) hn
  have HB := Lib.hid hb
  have HI := Lib.hid (contains_any _ _ _ _ _ _ hi)
  clear hb hi hl hat' hn
  unfold reV reL at *
  go_enter Tryd.func59, Tryd.ntmps59
  generalize l.any (fun t => t.same T) = q at *
  go_wp2_with (first | (go_at_call 75; go_must (refine HI.out.mono ?_); rintro e w2 ⟨rfl, hb2⟩; have HB2 := Lib.hid (HB.out.trans (hb2.mono HB.out.size)); clear hb2))
  go_ret
  exact ⟨rfl, HB2.out⟩

end Go.Proofs.YtkladjjeacjgpaaDoor

