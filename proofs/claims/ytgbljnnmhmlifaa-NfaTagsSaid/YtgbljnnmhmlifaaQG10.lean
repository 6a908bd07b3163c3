/-
  WHAT nfa's Run ANSWERS, of any automaton and any text: a contract. No condition but that it lies there.
-/
import Derived.Lib.Strings
import Derived.RangeFuncWrites
import Derived.Test.YtgbljnnmhmlifaaQG09
namespace Go.Proofs.Ytgbljnnmhmlifaa
open Go.RowKit

def b8 (s : ByteArray) (i : Nat) : Nat := if h : i < s.size then (s[i]'h).toNat else 0
theorem b8_lt (s : ByteArray) (i : Nat) : b8 s i < 256 := by
  unfold b8; split
  · exact UInt8.toNat_lt _
  · decide
def atTo (N : Nf) (s : ByteArray) : Nat → List Int
  | 0 => []
  | 1 => beginL N (b8 s 0)
  | j + 2 => keepTo N.sets.length (markF N (atTo N s (j + 1))) N (b8 s (j + 1))
theorem atTo_succ (N : Nf) (s : ByteArray) {j : Nat} (h : 1 ≤ j) : atTo N s (j + 1) = keepTo N.sets.length (markF N (atTo N s j)) N (b8 s j) := by
  obtain ⟨k, rfl⟩ : ∃ k, j = k + 1 := ⟨j - 1, by omega⟩
  rfl
theorem keep_in {k : Nat} {f : Nat → Bool} {N : Nf} {c : Nat} : ∀ p ∈ keepTo k f N c, 0 ≤ p ∧ p < (k : Int) := fun p hp => by
  unfold keepTo at hp
  obtain ⟨i, hi, rfl⟩ := List.mem_map.1 hp
  have := List.mem_range.1 (List.mem_filter.1 hi).1
  omega
theorem keep_nil (k : Nat) (N : Nf) (c : Nat) : keepTo k (markF N []) N c = [] := by
  unfold keepTo markF
  simp
theorem atTo_in {N : Nf} (h : MayIs N) (s : ByteArray) : ∀ j, ∀ p ∈ atTo N s j, 0 ≤ p ∧ p < (N.sets.length : Int)
  | 0 => fun p hp => by cases hp
  | 1 => fun p hp => by
    unfold atTo beginL at hp
    exact h.firsts.1 p (List.mem_filter.1 hp).1
  | j + 2 => fun p hp => by
    unfold atTo at hp
    exact keep_in p hp
theorem atTo_none {N : Nf} (s : ByteArray) {j : Nat} (h : 1 ≤ j) (he : atTo N s j = []) : ∀ n, atTo N s (j + n) = []
  | 0 => he
  | n + 1 => by
    rw [show j + (n + 1) = (j + n) + 1 by omega, atTo_succ N s (by omega), atTo_none s h he n, keep_nil]
theorem IntsV.len0 {W : World} {l : List Int} {v : Value} (h : IntsV W l v) : ∃ A c, v = .slice A l.length c := by
  obtain ⟨A, c, rfl, _, _⟩ := h
  exact ⟨A, c, rfl⟩
def ranL (N : Nf) (s : ByteArray) : List Int := if N.may then atTo N s s.size else []
def ranT (N : Nf) (s : ByteArray) : Int := if N.may then (if s.size = 0 then N.empty else tagL N (atTo N s s.size)) else -1

set_option maxRecDepth 20000 in
set_option maxHeartbeats 8000000 in
theorem Run_any (N : Nf) (s : ByteArray) (hs : s.size ≤ 1073741824) (v : Value) (w : World) (h : NfaAt w N v) :
    Calls Try.prog 17 #[v, .string s] w fun e w' => ∃ v', e = .returned (.tuple #[v', .int .i64 (ranT N s)]) ∧ IntsV w' (ranL N s) v' ∧ Below w.heap.size w w' := by
  obtain ⟨A0, A1, A2, A3, A4, c0, c1, c2, c3, c4, rfl⟩ := h.form
  have hb0 : Below w.heap.size w (w.alloc (.cells #[.slice A0 N.sets.length c0, .slice A1 N.rules.length c1, .slice A2 N.first.length c2, .slice A3 N.follow.length c3, .slice A4 N.ends.length c4, .int .i64 N.empty] 30)) := (Below.refl _ _).alloc (Nat.le_refl _) _
  have hbx := BlkIs.new w 30 #[.slice A0 N.sets.length c0, .slice A1 N.rules.length c1, .slice A2 N.first.length c2, .slice A3 N.follow.length c3, .slice A4 N.ends.length c4, .int .i64 N.empty]
  obtain ⟨W1, hW1⟩ : ∃ W1, w.alloc (.cells #[.slice A0 N.sets.length c0, .slice A1 N.rules.length c1, .slice A2 N.first.length c2, .slice A3 N.follow.length c3, .slice A4 N.ends.length c4, .int .i64 N.empty] 30) = W1 := ⟨_, rfl⟩
  rw [hW1] at hb0 hbx
  have HAT := Lib.hid h
  have H0 := Lib.hid (And.intro hb0 hbx)
  have HM := Lib.hid (fun (u : World) (hu : Below w.heap.size w u) => mayN_any N _ u (h.step hu))
  obtain ⟨d0, d1, d2, d3, d4, d5⟩ := six hbx
  obtain ⟨R, hR⟩ : ∃ R, R = ranL N s := ⟨_, rfl⟩
  obtain ⟨Q, hQ⟩ : ∃ Q, Q = ranT N s := ⟨_, rfl⟩
  rw [← hR, ← hQ]
  unfold ranL at hR
  unfold ranT at hQ
  clear h hb0 hbx
  cases hm : N.may with
  | false =>
    rw [hm] at HM hR hQ
    simp only [Bool.false_eq_true, if_false] at hR hQ
    have HRQ := Lib.hid (And.intro hR hQ)
    clear hR hQ HAT
    go_enter Try.func17, Try.ntmps17
    go_wp2_with fail
    go_at_call 15
    refine (HM.out _ H0.out.1).mono ?_
    rintro e u ⟨rfl, hbu⟩
    have HU := Lib.hid (H0.out.1.trans (hbu.mono H0.out.1.size))
    clear hbu
    go_wp2
    exact bodyPost_ret (results_tmp2 rfl _ _ _) rfl ⟨.slice none 0 0, by rw [HRQ.out.2]; rfl, by rw [HRQ.out.1]; exact IntsV.nil _, HU.out⟩
  | true =>
    rw [hm] at HM hR hQ
    simp only [if_true] at hR hQ
    have hmi := may_is hm
    have HMI := Lib.hid hmi
    by_cases hz : s.size = 0
    · obtain rfl : s = ⟨#[]⟩ := by
        apply ByteArray.ext
        exact Array.eq_empty_of_size_eq_zero hz
      rw [if_pos hz] at hQ
      have HRQ := Lib.hid (And.intro (show R = [] from hR) hQ)
      clear hR hQ HAT hz hs hmi
      go_enter Try.func17, Try.ntmps17
      go_wp2_with fail
      go_at_call 15
      refine (HM.out _ H0.out.1).mono ?_
      rintro e u ⟨rfl, hbu⟩
      have HU := Lib.hid (And.intro (H0.out.1.trans (hbu.mono H0.out.1.size)) (H0.out.2.step hbu))
      clear hbu d0 d1 d2 d3 d4 d5
      obtain ⟨d0, d1, d2, d3, d4, d5⟩ := six HU.out.2
      go_wp2_with fail
      go_region
      go_wp2
      exact bodyPost_ret (results_tmp2 rfl _ _ _) rfl ⟨.slice none 0 0, by rw [HRQ.out.2]; rfl, by rw [HRQ.out.1]; exact IntsV.nil _, HU.out.1.drew⟩
    · rw [if_neg hz] at hQ
      have hpos : 0 < s.size := by omega
      have e0 : s.toList.isEmpty = false := by
        rw [Lib.toList_data]
        cases hcs : s.data.toList with
        | nil =>
          have hl : s.data.toList.length = s.size := by rw [Array.length_toList]; rfl
          rw [hcs] at hl
          simp at hl
          omega
        | cons a r => rfl
      have HBG := Lib.hid (fun (u : World) (hu : Below w.heap.size w u) => begin_any N (b8 s 0) (b8_lt s 0) _ u (HAT.out.step hu) hmi.firsts.1 (by have := hmi.firsts.2; omega))
      have HST := Lib.hid (fun (j : Nat) (va : Value) (u : World) (hu : Below w.heap.size w u) (ha : IntsV u (atTo N s j) va) => step_any N (atTo N s j) (b8 s j) (b8_lt s j) _ va u (HAT.out.step hu) ha (atTo_in hmi s j) hmi.follow hmi.rows (by have := hmi.small; omega))
      have HTG := Lib.hid (fun (j : Nat) (va : Value) (u : World) (hu : Below w.heap.size w u) (ha : IntsV u (atTo N s j) va) => tag_any N (atTo N s j) _ va u (HAT.out.step hu) ha (fun p hp => by have := atTo_in hmi s j p hp; have := hmi.rules; omega) (by rw [hmi.ends, hmi.rules]))
      have hix : ∀ (j : Nat), j < s.size → ∀ u : World, (Instr.index 9 (.string s) (.int .i64 (j : Nat))).run Try.prog u = .ok (.int .u8 (b8 s j : Nat)) u := fun j hj u => by
        have := idx_byte 9 Try.underlying9 s j hj u (P := Try.prog)
        rw [this]; unfold b8; rw [dif_pos hj]
      have hix0 : ∀ u : World, (Instr.index 9 (.string s) (.int .i64 0)).run Try.prog u = .ok (.int .u8 (b8 s 0 : Nat)) u := fun u => hix 0 hpos u
      have HIX := Lib.hid hix
      have HRQ := Lib.hid (And.intro hR hQ)
      clear hR hQ HAT hz hmi hix
      go_enter Try.func17, Try.ntmps17
      go_wp2_with fail
      go_at_call 15
      refine (HM.out _ H0.out.1).mono ?_
      rintro e u ⟨rfl, hbu⟩
      have HU := Lib.hid (And.intro (H0.out.1.trans (hbu.mono H0.out.1.size)) (H0.out.2.step hbu))
      clear hbu d0 d1 d2 d3 d4 d5
      go_wp2_with fail
      refine wp_region_held_drew (S := fun u => Below w.heap.size w u ∧ BlkIs u w.heap.size 30 #[.slice A0 N.sets.length c0, .slice A1 N.rules.length c1, .slice A2 N.first.length c2, .slice A3 N.follow.length c3, .slice A4 N.ends.length c4, .int .i64 N.empty]) (by kernel_rfl) ⟨HU.out.1.drew, HU.out.2.drew⟩ ?_
      intro hS0
      refine wpAnyH_take (i := 0) (v := .agg #[.slice A0 N.sets.length c0, .slice A1 N.rules.length c1, .slice A2 N.first.length c2, .slice A3 N.follow.length c3, .slice A4 N.ends.length c4, .int .i64 N.empty]) rfl (by kernel_rfl) (by kernel_rfl) (by kernel_rfl) (fun _ _ _ h => h) (.inl ⟨rfl, fun u hu => by
        obtain ⟨d0, d1, d2, d3, d4, d5⟩ := six hu.2
        go_simp⟩) hS0 ?_
      refine wpAnyH_take (i := 1) (v := .string s) rfl (by kernel_rfl) (by kernel_rfl) (by kernel_rfl) (fun _ _ _ h => h) (.inl ⟨rfl, fun u hu => by go_simp⟩) hS0 ?_
      refine wpAnyH_take (i := 2) (v := .int .u8 (b8 s 0 : Nat)) rfl (by kernel_rfl) (by kernel_rfl) (by kernel_rfl) (fun _ _ _ h => h) (.inl ⟨rfl, fun u hu => by go_simp⟩) hS0 ?_
      refine wpAnyH_ready (rs := [3]) (by kernel_rfl) (by simp) ?_
      refine AllReadyH.cons rfl (fun K hK => ?_) AllReadyH.nil
      go_simp
      go_at_call 38
      refine (HBG.out _ hS0.1).mono ?_
      rintro e u5 ⟨v5, rfl, hri5, hb5⟩
      refine hK.out _ _ ⟨hS0.1.trans (hb5.mono hS0.1.size), hS0.2.step hb5⟩ (fun hS1 => ?_)
      have HI5 := Lib.hid (show IntsV u5 (atTo N s 1) v5 from hri5.ints)
      clear hK K hS0 hb5 hri5
      refine wpAnyH_ready (rs := [4]) (by kernel_rfl) (by simp) ?_
      refine AllReadyH.cons rfl (fun K hK => ?_) AllReadyH.nil
      go_simp
      refine hK.out _ _ hS1 (fun hS2 => ?_)
      clear hK K
      refine wpAnyH_done (by kernel_rfl) ?_ _
      have HS2 := Lib.hid (And.intro hS2 HI5.out)
      clear hS1 hS2 HI5
      go_wp2
      go_loopw [6, 7] (fun x i wr => ∃ j : Nat, i = .int .i64 j ∧ 1 ≤ j ∧ j ≤ s.size ∧ Hid ((Below w.heap.size w wr ∧ BlkIs wr w.heap.size 30 #[.slice A0 N.sets.length c0, .slice A1 N.rules.length c1, .slice A2 N.first.length c2, .slice A3 N.follow.length c3, .slice A4 N.ends.length c4, .int .i64 N.empty]) ∧ IntsV wr (atTo N s j) x)) (fun _ i _ => s.size - (intOf i).toNat)
      case atStart => exact ⟨1, rfl, Nat.le_refl _, hpos, HS2⟩
      case round =>
        obtain ⟨j, rfl, hj1, hj, HH⟩ := hrel
        obtain ⟨Ax, cx, rfl⟩ := HH.out.2.len0
        obtain ⟨d0, d1, d2, d3, d4, d5⟩ := six HH.out.1.2
        by_cases hp : j < s.size ∧ 0 < (atTo N s j).length
        · have hk1 : IntKind.i64.wrap ((j : Int) + 1) = ((j + 1 : Nat) : Int) := by rw [IntKind.wrap_i64]; omega
          have hp1 := hp.1
          have hdl : decide ((j : Int) < (s.size : Int)) = true := by simp; omega
          have hdn : decide (((atTo N s j).length : Int) > 0) = true := by simp; omega
          have hdm : decide (0 < ((atTo N s j).length : Int)) = true := by simp; omega
          have hdo : decide (0 < (atTo N s j).length) = true := by simp; omega
          have hixj := HIX.out j hp1
          have HCS := Lib.hid (fun (u : World) (hu : Below w.heap.size w u) (ha : IntsV u (atTo N s j) (.slice Ax (atTo N s j).length cx)) => HST.out j _ u hu ha)
          have hsu := atTo_succ N s hj1
          rw [← hsu] at HCS
          clear hp hsu d0 d1 d2 d3 d4 d5
          generalize (atTo N s j).length = nx at *
          generalize b8 s j = bj at *
          obtain ⟨d0, d1, d2, d3, d4, d5⟩ := six HH.out.1.2
          go_wp2_with fail
          refine wp_region_held_drew (S := fun u => (Below w.heap.size w u ∧ BlkIs u w.heap.size 30 #[.slice A0 N.sets.length c0, .slice A1 N.rules.length c1, .slice A2 N.first.length c2, .slice A3 N.follow.length c3, .slice A4 N.ends.length c4, .int .i64 N.empty]) ∧ IntsV u (atTo N s j) (.slice Ax nx cx)) (by kernel_rfl) ⟨⟨HH.out.1.1.drew, HH.out.1.2.drew⟩, HH.out.2.step (Below.refl _ _).drew⟩ ?_
          clear d0 d1 d2 d3 d4 d5
          intro hS0
          refine wpAnyH_take (i := 0) (v := .agg #[.slice A0 N.sets.length c0, .slice A1 N.rules.length c1, .slice A2 N.first.length c2, .slice A3 N.follow.length c3, .slice A4 N.ends.length c4, .int .i64 N.empty]) rfl (by kernel_rfl) (by kernel_rfl) (by kernel_rfl) (fun _ _ _ h => h) (.inl ⟨rfl, fun u hu => by
            obtain ⟨d0, d1, d2, d3, d4, d5⟩ := six hu.1.2
            go_simp⟩) hS0 ?_
          refine wpAnyH_take (i := 1) (v := .slice Ax nx cx) rfl (by kernel_rfl) (by kernel_rfl) (by kernel_rfl) (fun _ _ _ h => h) (.inl ⟨rfl, fun u hu => by go_simp⟩) hS0 ?_
          refine wpAnyH_take (i := 2) (v := .string s) rfl (by kernel_rfl) (by kernel_rfl) (by kernel_rfl) (fun _ _ _ h => h) (.inl ⟨rfl, fun u hu => by go_simp⟩) hS0 ?_
          refine wpAnyH_take (i := 3) (v := .int .i64 (j : Int)) rfl (by kernel_rfl) (by kernel_rfl) (by kernel_rfl) (fun _ _ _ h => h) (.inl ⟨rfl, fun u hu => by go_simp⟩) hS0 ?_
          refine wpAnyH_take (i := 4) (v := .int .u8 (bj : Nat)) rfl (by kernel_rfl) (by kernel_rfl) (by kernel_rfl) (fun _ _ _ h => h) (.inl ⟨rfl, fun u hu => by go_simp⟩) hS0 ?_
          refine wpAnyH_ready (rs := [5]) (by kernel_rfl) (by simp) ?_
          refine AllReadyH.cons rfl (fun K hK => ?_) AllReadyH.nil
          go_simp
          go_at_call 39
          refine (HCS.out _ hS0.1.1 hS0.2).mono ?_
          rintro e u5 ⟨v5, rfl, hri5, hb5⟩
          refine hK.out _ _ ⟨⟨hS0.1.1.trans (hb5.mono hS0.1.1.size), hS0.1.2.step hb5⟩, hS0.2.step hb5⟩ (fun hS1 => ?_)
          have HI5 := Lib.hid hri5.ints
          clear hK K hS0 hb5 hri5
          refine wpAnyH_ready (rs := [6]) (by kernel_rfl) (by simp) ?_
          refine AllReadyH.cons rfl (fun K hK => ?_) AllReadyH.nil
          go_simp
          refine hK.out _ _ hS1 (fun hS2 => ?_)
          clear hK K
          refine wpAnyH_done (by kernel_rfl) ?_ _
          have HS2 := Lib.hid (And.intro hS2.1 HI5.out)
          clear hS1 hS2 HI5
          go_wp2
          exact ⟨⟨j + 1, rfl, by omega, hp1, HS2⟩, by simp [intOf]; omega⟩
        · have HEND := Lib.hid (show atTo N s s.size = atTo N s j by
            by_cases hjs : j < s.size
            · have : atTo N s j = [] := by
                have : ¬ 0 < (atTo N s j).length := fun h => hp ⟨hjs, h⟩
                exact List.eq_nil_of_length_eq_zero (by omega)
              have h2 := atTo_none s hj1 this (s.size - j)
              rw [show j + (s.size - j) = s.size by omega] at h2
              rw [h2, this]
            · rw [show j = s.size by omega])
          have HCT := Lib.hid (fun (u : World) (hu : Below w.heap.size w u) (ha : IntsV u (atTo N s j) (.slice Ax (atTo N s j).length cx)) => HTG.out j _ u hu ha)
          have HFIN := Lib.hid (show tagL N (atTo N s j) = Q by rw [HRQ.out.2, HEND.out])
          have HFIR := Lib.hid (show R = atTo N s j by rw [HRQ.out.1, HEND.out])
          rw [HFIN.out] at HCT
          by_cases hjs : j < s.size
          · have hdl : decide ((j : Int) < (s.size : Int)) = true := by simp; omega
            have hl0 : ¬ 0 < (atTo N s j).length := fun h => hp ⟨hjs, h⟩
            have hdn : decide (((atTo N s j).length : Int) > 0) = false := decide_eq_false (by omega)
            have hdm : decide (0 < ((atTo N s j).length : Int)) = false := decide_eq_false (by omega)
            have hdo : decide (0 < (atTo N s j).length) = false := decide_eq_false hl0
            clear hp hl0
            generalize (atTo N s j).length = nx at *
            go_wp2_with fail
            go_at_call 40
            refine (HCT.out _ HH.out.1.1 HH.out.2).mono ?_
            rintro e u9 ⟨rfl, hb9⟩
            have HV := Lib.hid (And.intro (HH.out.2.step hb9) (HH.out.1.1.trans (hb9.mono HH.out.1.1.size)))
            clear hb9
            go_wp2
            exact bodyPost_ret (results_tmp2 rfl _ _ _) rfl ⟨_, rfl, by rw [HFIR.out]; exact HV.out.1, HV.out.2⟩
          · have hdl : decide ((j : Int) < (s.size : Int)) = false := by simp; omega
            clear hp
            generalize (atTo N s j).length = nx at *
            go_wp2_with fail
            go_at_call 40
            refine (HCT.out _ HH.out.1.1 HH.out.2).mono ?_
            rintro e u9 ⟨rfl, hb9⟩
            have HV := Lib.hid (And.intro (HH.out.2.step hb9) (HH.out.1.1.trans (hb9.mono HH.out.1.1.size)))
            clear hb9
            go_wp2
            exact bodyPost_ret (results_tmp2 rfl _ _ _) rfl ⟨_, rfl, by rw [HFIR.out]; exact HV.out.1, HV.out.2⟩
end Go.Proofs.Ytgbljnnmhmlifaa

namespace Go.Proofs.Ytgbljnnmhmlifaa
open Go.RowKit

end Go.Proofs.Ytgbljnnmhmlifaa

namespace Go.Proofs.Ytgbljnnmhmlifaa
open Go.RowKit

end Go.Proofs.Ytgbljnnmhmlifaa

namespace Go.Proofs.Ytgbljnnmhmlifaa
open Go.RowKit

variable {F : Fence} {n : Nat} {P : Program}

def roundEnds {σ : Type} (B : Nat) (Kp : World → World → Prop) (Iy : σ → World → Prop) (Ix : Code → World → Prop) (s : σ) (W : World) : Exit → Act → World → Prop
  | .normal, _, W' => KeepsFrom B W W' ∧ Kp W W' ∧ Iy s W'
  | .ret, _, W' => KeepsFrom B W W' ∧ Ix .ret W'
  | .exit id, _, W' => KeepsFrom B W W' ∧ Ix (.exit id) W'
  | .goto t, _, W' => KeepsFrom B W W' ∧ Ix (.goto t) W'
  | .panic _, _, _ => False
  | .outgrown, _, _ => False

def Bides (B : Nat) (I : World → Prop) : Prop := ∀ (W : World) (l : Nat) (o o' : Obj), I W → B ≤ l → W.heap[l]? = some o → o.isCells = false → I (W.putObj l o')
theorem range_own {σ : Type} {g : Operand} {ps : Array Tmp} {assign body : Code} {Q : Exit → Act → World → Prop} {a : Act} {w : World}
    (hro : F.round = none) (h1 : 1 ≤ n) {gf : Nat} {bd lb : Array Value} (hg : a.eval g = .func (.func gf) bd lb) (hFg : F.fn gf) (eg : ∀ args w, (callFunc gf args).run P w = .ok (.enter gf args) w)
    (encs : σ → Array Value) (hps : ∀ s, (encs s).size = ps.size) (Kp : World → World → Prop)
    (hKt : ∀ {A B C : World}, Kp A B → Kp B C → Kp A C) (hKb : ∀ (W : World) (l : Nat) (o o' : Obj), w.heap.size ≤ l → W.heap[l]? = some o → o.isCells = false → Kp W (W.putObj l o'))
    (I Iy : σ → World → Prop) (Ix : Code → World → Prop) (Fin : World → Prop)
    (hI : ∀ s, Bides w.heap.size (I s)) (hIy : ∀ s, Bides w.heap.size (Iy s)) (hIx : ∀ c, Bides w.heap.size (Ix c)) (hFin : Bides w.heap.size Fin)
    (hcall : ∀ (l : Nat) (G X : World → Prop), (∀ W W', G W → KeepsOthers W W' → G W') →
      (∀ s W, I s W → G W → YieldAt F (n - 1 - 1) P l (encs s) W fun e W' => (e = .returned (.bool true) ∧ Iy s W' ∧ Kp W W' ∧ G W') ∨ (e = .returned (.bool false) ∧ X W')) →
      ∀ W, Below w.heap.size w W → KeepsOthers w W → G W → CallsIn F (n - 1) P gf (bd ++ #[.func (.yield l) #[] #[]] ++ lb) W fun e W' => (∃ v, e = .returned v) ∧ ((Fin W' ∧ G W') ∨ X W'))
    (a₁ : σ → Act)
    (hassign : ∀ (l : Nat) (s : σ) (W : World) (K : Act → World → Prop), K (a₁ s) W →
      assign.wpIn (F.inRound l) (n - 1 - 1) P (Exit.then K (fun _ _ _ => False)) { tmps := (ps.zip (encs s)).foldl (fun t (p, v) => t.setIfInBounds p v) a.tmps, defers := [] } W)
    (hbody : ∀ (l : Nat) (s : σ) (W : World), w.heap.size ≤ W.heap.size → I s W → body.wpIn (F.inRound l) (n - 1 - 1) P (roundEnds w.heap.size Kp Iy Ix s W) (a₁ s) W)
    (hdone : ∀ (D : Nat) (W : World), w.heap.size ≤ D → Fin W → W.heap[D]? = some (.deferred (some [])) → Q .normal { a with defers := { target := .collected D, args := #[] } :: a.defers } W)
    (hstop : ∀ (D : Nat) (c : Code) (W : World), w.heap.size ≤ D → Ix c W → W.heap[D]? = some (.deferred (some [])) → c.wpIn F n P Q { a with defers := { target := .collected D, args := #[] } :: a.defers } W) :
    (Code.rangeFunc g ps assign body).wpIn F n P Q a w := by
  refine wpIn_rangeFunc fun fn hfn => ?_
  rw [hro]
  -- the record of the loop in its two free states
  let rd : LoopState → Option Code → Obj := fun st pe => .loop { state := st, pending := pe, fn, tmps := a.tmps, params := ps, assign, body, defers := w.heap.size }
  let G : World → Prop := fun W => W.heap[w.heap.size + 1]? = some (rd .ready none) ∧ W.heap[w.heap.size]? = some (.deferred (some []))
  let X : World → Prop := fun W => ∃ c, Ix c W ∧ W.heap[w.heap.size + 1]? = some (rd .done (some c)) ∧ W.heap[w.heap.size]? = some (.deferred (some []))
  let W1 := (w.alloc (.deferred (some []))).alloc (rd .ready none)
  have hG1 : G W1 := by
    refine ⟨?_, (Below.heap_alloc _ _ _ (by simp)).trans (World.alloc_heap_new w _)⟩
    have := World.alloc_heap_new (w.alloc (.deferred (some []))) (rd .ready none)
    rwa [World.size_alloc] at this
  have hB1 : Below w.heap.size w W1 := ((Below.refl _ w).alloc (Nat.le_refl _) _).alloc (by simp) _
  have hK1 : KeepsOthers w W1 := (KeepsOthers.alloc w _).trans (KeepsOthers.alloc _ _)
  refine ⟨w.heap.size + 1, [{ target := .collected w.heap.size, args := #[] }], W1, { target := .fn (.func gf) lb, args := bd ++ #[.func (.yield (w.heap.size + 1)) #[] #[]] }, W1, gf,
    bd ++ #[.func (.yield (w.heap.size + 1)) #[] #[]] ++ lb, W1, run_enterLoop_outer _ _ _ _ _, ?_, ?_, ?_, fun _ => h1, ?_⟩
  · simp only [resolve, hg]
    simp [go_sem]
  · intro f' hf'
    simp [Target.leads] at hf'
    subst hf'
    exact hFg
  · simp [invoke, go_sem, eg]
  refine (hcall (w.heap.size + 1) G X (fun W W' h hk => ⟨hk.same _ _ h.1 rfl, hk.same _ _ h.2 rfl⟩) ?_ W1 hB1 hK1 hG1).mono ?_
  · rintro s W hi ⟨hl, hd⟩
    have hlt : w.heap.size + 1 < W.heap.size := (Array.getElem?_eq_some_iff.1 hl).1
    refine ⟨fn, _, assign, body, run_yield (P := P) (args := encs s) hl (hps s), roundIn_of_wpIn hfn (hassign _ s W _ ⟨_, run_beginRound hl rfl, ?_⟩)⟩
    let Wb := W.putObj (w.heap.size + 1) (rd .busy none)
    have hlb : Wb.heap[w.heap.size + 1]? = some (rd .busy none) := World.putObj_heap_same hlt
    have hdb : Wb.heap[w.heap.size]? = some (.deferred (some [])) := (World.putObj_heap_other (by omega)).trans hd
    have hib : I s Wb := hI s _ _ _ _ hi (by omega) hl rfl
    have hkb : Kp W Wb := hKb _ _ _ _ (by omega) hl rfl
    have ends : ∀ (j : Option Code) (W3 : World), KeepsFrom w.heap.size Wb W3 →
        W3.heap[w.heap.size + 1]? = some (rd .busy none) ∧ (Instr.endRound (w.heap.size + 1) j).run P W3 = .ok (.bool j.isNone) (W3.putObj (w.heap.size + 1) (rd (if j.isNone then .ready else .done) j)) ∧
        (W3.putObj (w.heap.size + 1) (rd (if j.isNone then .ready else .done) j)).heap[w.heap.size + 1]? = some (rd (if j.isNone then .ready else .done) j) ∧
        (W3.putObj (w.heap.size + 1) (rd (if j.isNone then .ready else .done) j)).heap[w.heap.size]? = some (.deferred (some [])) := fun j W3 hk => by
      have hl3 := hk.same _ _ (by omega) hlb rfl
      exact ⟨hl3, run_endRound (P := P) j hl3, World.putObj_heap_same (Array.getElem?_eq_some_iff.1 hl3).1, (World.putObj_heap_other (by omega)).trans (hk.same _ _ (Nat.le_refl _) hdb rfl)⟩
    refine wpIn_mono (hbody _ s Wb (by show _ ≤ (W.putObj _ _).heap.size; rw [World.putObj_size]; omega) hib) ?_
    rintro e a3 W3 hp
    cases e with
    | normal =>
      obtain ⟨hk, hkp, hy⟩ := hp
      obtain ⟨hl3, hr, hl4, hd4⟩ := ends none W3 hk
      exact ⟨_, _, hr, .inl ⟨rfl, hIy s _ _ _ _ hy (by omega) hl3 rfl, hKt (hKt hkb hkp) (hKb _ _ _ _ (by omega) hl3 rfl), hl4, hd4⟩⟩
    | ret =>
      obtain ⟨hl3, hr, hl4, hd4⟩ := ends (some .ret) W3 hp.1
      exact ⟨_, _, hr, .inr ⟨rfl, _, hIx _ _ _ _ _ hp.2 (by omega) hl3 rfl, hl4, hd4⟩⟩
    | exit id =>
      obtain ⟨hl3, hr, hl4, hd4⟩ := ends (some (.exit id)) W3 hp.1
      exact ⟨_, _, hr, .inr ⟨rfl, _, hIx _ _ _ _ _ hp.2 (by omega) hl3 rfl, hl4, hd4⟩⟩
    | goto t =>
      obtain ⟨hl3, hr, hl4, hd4⟩ := ends (some (.goto t)) W3 hp.1
      exact ⟨_, _, hr, .inr ⟨rfl, _, hIx _ _ _ _ _ hp.2 (by omega) hl3 rfl, hl4, hd4⟩⟩
    | panic ch => exact hp.elim
    | outgrown => exact hp.elim
  · rintro e W2 ⟨⟨v, rfl⟩, (⟨hf, hl, hd⟩ | ⟨c, hx, hl, hd⟩)⟩
    · exact ⟨none, _, run_endLoop (P := P) hl (by simp), hdone _ _ (Nat.le_refl _) (hFin _ _ _ _ hf (by omega) hl rfl) ((World.putObj_heap_other (by omega)).trans hd)⟩
    · exact ⟨some c, _, run_endLoop (P := P) hl (by simp), hstop _ c _ (Nat.le_refl _) (hIx c _ _ _ _ hx (by omega) hl rfl) ((World.putObj_heap_other (by omega)).trans hd)⟩

end Go.Proofs.Ytgbljnnmhmlifaa

