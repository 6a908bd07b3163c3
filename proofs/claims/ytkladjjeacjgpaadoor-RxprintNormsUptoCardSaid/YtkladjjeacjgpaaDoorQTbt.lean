/-
  WHAT byteText ANSWERS: a byte, written: a contract. No condition.
-/
import Derived.Lib.Bytealg
import Derived.BigQuiet
import Derived.WalkLawsBesides
import Derived.Test.YtkladjjeacjgpaaDoorQG06
namespace Go.Proofs.YtkladjjeacjgpaaDoor
open Go.RowKit

def hexL (d : Nat) : UInt8 := if d < 10 then UInt8.ofNat (48 + d) else UInt8.ofNat (87 + d)
def oneL (signs : List UInt8) (b : Nat) : List UInt8 :=
  if b = 10 then [92, 110] else if b = 13 then [92, 114] else if b = 9 then [92, 116]
  else if 0 ≤ Lib.indexByte signs (UInt8.ofNat b) then [92, (UInt8.ofNat b)] else if 32 ≤ b ∧ b ≤ 126 then [(UInt8.ofNat b)]
  else [92, 120, hexL (b / 16), hexL (b % 16)]
def strV (l : List UInt8) : Value := .string ⟨l.toArray⟩

set_option maxRecDepth 100000 in
theorem idxB_any (s : ByteArray) (c : Int) (w : World) : Calls Tryd.prog 79 #[.string s, .int .u8 c] w fun e w' => e = .returned (.int .i64 (Lib.indexByte s.data.toList c.toNat.toUInt8)) ∧ w' = w := by
  have h : ∀ w, (callFunc 97 #[.string s, .int .u8 c]).run Tryd.prog w = .ok (.value (.int .i64 (Lib.indexByte s.data.toList c.toNat.toUInt8))) w := fun w => by
    rw [run_callFunc_extern Tryd.func97 (by kernel_rfl) (by kernel_rfl) (by kernel_rfl) (by kernel_rfl), Lib.run_indexByteString]
    rfl
  go_enter Tryd.func79, Tryd.ntmps79
  go_wp2
  go_ret
  exact ⟨rfl, rfl⟩

theorem and15 : ∀ b : Fin 256, bits .and .u8 ((b.val : Nat) : Int) 15 = ((b.val % 16 : Nat) : Int) := by decide +kernel
theorem hex_fin : ∀ d : Fin 16, ((⟨#[48, 49, 50, 51, 52, 53, 54, 55, 56, 57, 97, 98, 99, 100, 101, 102]⟩ : ByteArray).data.getD d.val 0) = hexL d.val := by decide +kernel
theorem hex_get (x : Int) (h : x.toNat < 16) (h' : x.toNat < (⟨#[48, 49, 50, 51, 52, 53, 54, 55, 56, 57, 97, 98, 99, 100, 101, 102]⟩ : ByteArray).size) : (⟨#[48, 49, 50, 51, 52, 53, 54, 55, 56, 57, 97, 98, 99, 100, 101, 102]⟩ : ByteArray)[x.toNat] = hexL x.toNat := by
  have := hex_fin ⟨x.toNat, h⟩
  rw [← this]
  show _ = Array.getD _ _ _
  unfold Array.getD
  split
  · rfl
  · rename_i hq
    exact absurd h' hq
theorem str_app (a b : Array UInt8) : (ByteArray.mk a) ++ (ByteArray.mk b) = ByteArray.mk (a ++ b) := by
  apply ByteArray.ext
  simp
set_option maxRecDepth 100000 in
theorem conv_new (l : List UInt8) (u : World) : (convert 63 9 (.slice (some ⟨u.heap.size, 0, none⟩) l.length l.length)).run Tryd.prog (u.alloc (.cells (l.map (fun x => Value.int .u8 (x.toNat : Nat))).toArray 5)) = .ok (strV l) (u.alloc (.cells (l.map (fun x => Value.int .u8 (x.toNat : Nat))).toArray 5)) :=
  run_convert_bytes_back (P := Tryd.prog) (u.alloc (.cells (l.map (fun x => Value.int .u8 (x.toNat : Nat))).toArray 5)) 63 9 5 ⟨u.heap.size, 0, none⟩ l.length l Tryd.underlying63 Tryd.underlying5 Tryd.underlying9 (fun t ht => by
    have h := (BlkIs.new u 5 (l.map (fun x => Value.int .u8 (x.toNat : Nat))).toArray).cell t
    rw [Addr.add_lit, Nat.zero_add, h]
    simp [ht])

set_option maxRecDepth 100000 in
set_option maxHeartbeats 4000000 in
theorem byteText_any (b : Nat) (hb : b < 256) (s : ByteArray) (w : World) : Calls Tryd.prog 63 #[.int .u8 b, .string s] w fun e w' => e = .returned (strV (oneL s.data.toList b)) ∧ Below w.heap.size w w' := by
  have HI := Lib.hid (fun u => idxB_any s (b : Int) u)
  have e0 : ((b : Int).toNat).toUInt8 = (UInt8.ofNat b) := rfl
  rw [e0] at HI
  unfold oneL
  have hB1 := (Below.refl w.heap.size w).alloc (Nat.le_refl _) (.cells #[.int .u8 (b : Int)] 5)
  by_cases h10 : b = 10
  · subst h10
    go_enter Tryd.func63, Tryd.ntmps63
    go_wp2
    go_ret
    exact ⟨rfl, Below.refl _ _⟩
  have e10 : ((b : Int) == 10) = false := by simp; omega
  by_cases h13 : b = 13
  · subst h13
    go_enter Tryd.func63, Tryd.ntmps63
    go_wp2
    go_ret
    exact ⟨rfl, Below.refl _ _⟩
  have e13 : ((b : Int) == 13) = false := by simp; omega
  by_cases h9 : b = 9
  · subst h9
    go_enter Tryd.func63, Tryd.ntmps63
    go_wp2
    go_ret
    exact ⟨rfl, Below.refl _ _⟩
  have e9 : ((b : Int) == 9) = false := by simp; omega
  rw [if_neg h10, if_neg h13, if_neg h9]
  generalize hix : Lib.indexByte s.data.toList (UInt8.ofNat b) = ix at *
  have HB := Lib.hid hB1
  clear hB1
  have hb8 : (UInt8.ofNat b).toNat = b := by rw [UInt8.toNat_ofNat']; omega
  have HCV := Lib.hid (fun u => conv_new [(UInt8.ofNat b)] u)
  simp only [List.map_cons, List.map_nil, List.length_cons, List.length_nil, hb8, Nat.zero_add, strV] at HCV
  have HCW := Lib.hid (fun u => conv_new [hexL (b / 16), hexL (b % 16)] u)
  simp only [List.map_cons, List.map_nil, List.length_cons, List.length_nil, Nat.zero_add, Nat.reduceAdd, strV] at HCW
  by_cases hpos : 0 ≤ ix
  · have ei : decide (ix ≥ 0) = true := decide_eq_true hpos
    go_enter Tryd.func63, Tryd.ntmps63
    go_wp2_with (first | (go_at_call 79; go_must (refine (HI.out _).mono ?_); rintro e w2 ⟨rfl, rfl⟩; have hcv := HCV.out w2))
    go_ret
    refine ⟨?_, HB.out⟩
    exact congrArg (fun x => Ending.returned (.string x)) (str_app #[92] #[UInt8.ofNat b])
  · have ei : decide (ix ≥ 0) = false := decide_eq_false hpos
    rw [if_neg hpos]
    by_cases h32 : 32 ≤ b
    · have e32 : decide ((b : Int) ≥ 32) = true := decide_eq_true (by omega)
      by_cases h126 : b ≤ 126
      · have e126 : decide ((b : Int) ≤ 126) = true := decide_eq_true (by omega)
        go_enter Tryd.func63, Tryd.ntmps63
        go_wp2_with (first | (go_at_call 79; go_must (refine (HI.out _).mono ?_); rintro e w2 ⟨rfl, rfl⟩; have hcv := HCV.out w2))
        go_ret
        refine ⟨?_, HB.out⟩
        exact congrArg (fun x => Ending.returned (.string x)) (str_app #[] #[UInt8.ofNat b])
      · have e126 : decide ((b : Int) ≤ 126) = false := decide_eq_false (by omega)
        go_enter Tryd.func63, Tryd.ntmps63
        go_wp2_with (first | (go_at_call 79; go_must (refine (HI.out _).mono ?_); rintro e w2 ⟨rfl, rfl⟩))
        refine wp_region_held_drew (S := fun u => Below w2.heap.size w2 u) (by kernel_rfl) ((Below.refl _ _).drew) ?_
        intro hS0
        refine wpAnyH_take (i := 0) (v := .int .u8 (b : Int)) rfl (by kernel_rfl) (by kernel_rfl) (by kernel_rfl) (fun _ _ _ h => h) (.inl ⟨rfl, fun u hu => by
          go_simp⟩) hS0 ?_
        refine wpAnyH_take (i := 3) (v := .int .u8 (b : Int)) rfl (by kernel_rfl) (by kernel_rfl) (by kernel_rfl) (fun _ _ _ h => h) (.inl ⟨rfl, fun u hu => by
          go_simp⟩) hS0 ?_
        refine wpAnyH_take (i := 1) (v := .int .u8 ((b / 16 : Nat) : Int)) rfl (by kernel_rfl) (by kernel_rfl) (by kernel_rfl) (fun _ _ _ h => h) (.inl ⟨rfl, fun u hu => by
          go_simp⟩) hS0 ?_
        refine wpAnyH_take (i := 4) (v := .int .u8 ((b % 16 : Nat) : Int)) rfl (by kernel_rfl) (by kernel_rfl) (by kernel_rfl) (fun _ _ _ h => h) (.inl ⟨rfl, fun u hu => by
          go_simp
          exact and15 ⟨b, hb⟩⟩) hS0 ?_
        refine wpAnyH_take (i := 2) (v := .int .u8 ((hexL (b / 16)).toNat : Int)) rfl (by kernel_rfl) (by kernel_rfl) (by kernel_rfl) (fun _ _ _ h => h) (.inl ⟨rfl, fun u hu => by
          go_simp
          rw [dif_pos (⟨by omega, by omega⟩ : 0 ≤ (b : Int) / 16 ∧ (b : Int) / 16 < 16), hex_get _ (by omega)]
          have e : ((b : Int) / 16).toNat = b / 16 := by omega
          rw [e]
          rfl⟩) hS0 ?_
        refine wpAnyH_take (i := 5) (v := .int .u8 ((hexL (b % 16)).toNat : Int)) rfl (by kernel_rfl) (by kernel_rfl) (by kernel_rfl) (fun _ _ _ h => h) (.inl ⟨rfl, fun u hu => by
          go_simp
          rw [dif_pos (⟨by omega, by omega⟩ : 0 ≤ (b : Int) % 16 ∧ (b : Int) % 16 < 16), hex_get _ (by omega)]
          have e : ((b : Int) % 16).toNat = b % 16 := by omega
          rw [e]
          rfl⟩) hS0 ?_
        generalize hU0 : World.drew _ = U0 at *
        have hcv := HCW.out U0
        refine wpAnyH_ready (rs := [6]) (by kernel_rfl) (by simp) ?_
        refine AllReadyH.cons rfl (fun K hK => ?_) AllReadyH.nil
        go_simp
        refine hK.out _ _ (hS0.alloc hS0.size _) (fun hS1 => ?_)
        clear hK K
        refine wpAnyH_ready (rs := [7]) (by kernel_rfl) (by simp) ?_
        refine AllReadyH.cons rfl (fun K hK => ?_) AllReadyH.nil
        go_simp
        refine hK.out _ _ hS1 (fun hS2 => ?_)
        clear hK K hcv
        refine wpAnyH_ready (rs := [8]) (by kernel_rfl) (by simp) ?_
        refine AllReadyH.cons rfl (fun K hK => ?_) AllReadyH.nil
        go_simp
        refine hK.out _ _ hS1 (fun hS3 => ?_)
        clear hK K
        refine wpAnyH_ready (rs := [9]) (by kernel_rfl) (by simp) ?_
        refine AllReadyH.cons rfl (fun K hK => ?_) AllReadyH.nil
        go_simp
        refine hK.out _ _ hS1 (fun hS4 => ?_)
        clear hK K
        refine wpAnyH_done (by kernel_rfl) ?_ _
        go_wp2
        go_ret
        refine ⟨?_, hS1⟩
        exact congrArg (fun x => Ending.returned (.string x)) (str_app #[92, 120] #[hexL (b / 16), hexL (b % 16)])
    · have e32 : decide ((b : Int) ≥ 32) = false := decide_eq_false (by omega)
      go_enter Tryd.func63, Tryd.ntmps63
      go_wp2_with (first | (go_at_call 79; go_must (refine (HI.out _).mono ?_); rintro e w2 ⟨rfl, rfl⟩))
      refine wp_region_held_drew (S := fun u => Below w2.heap.size w2 u) (by kernel_rfl) ((Below.refl _ _).drew) ?_
      intro hS0
      refine wpAnyH_take (i := 0) (v := .int .u8 (b : Int)) rfl (by kernel_rfl) (by kernel_rfl) (by kernel_rfl) (fun _ _ _ h => h) (.inl ⟨rfl, fun u hu => by
        go_simp⟩) hS0 ?_
      refine wpAnyH_take (i := 3) (v := .int .u8 (b : Int)) rfl (by kernel_rfl) (by kernel_rfl) (by kernel_rfl) (fun _ _ _ h => h) (.inl ⟨rfl, fun u hu => by
        go_simp⟩) hS0 ?_
      refine wpAnyH_take (i := 1) (v := .int .u8 ((b / 16 : Nat) : Int)) rfl (by kernel_rfl) (by kernel_rfl) (by kernel_rfl) (fun _ _ _ h => h) (.inl ⟨rfl, fun u hu => by
        go_simp⟩) hS0 ?_
      refine wpAnyH_take (i := 4) (v := .int .u8 ((b % 16 : Nat) : Int)) rfl (by kernel_rfl) (by kernel_rfl) (by kernel_rfl) (fun _ _ _ h => h) (.inl ⟨rfl, fun u hu => by
        go_simp
        exact and15 ⟨b, hb⟩⟩) hS0 ?_
      refine wpAnyH_take (i := 2) (v := .int .u8 ((hexL (b / 16)).toNat : Int)) rfl (by kernel_rfl) (by kernel_rfl) (by kernel_rfl) (fun _ _ _ h => h) (.inl ⟨rfl, fun u hu => by
        go_simp
        rw [dif_pos (⟨by omega, by omega⟩ : 0 ≤ (b : Int) / 16 ∧ (b : Int) / 16 < 16), hex_get _ (by omega)]
        have e : ((b : Int) / 16).toNat = b / 16 := by omega
        rw [e]
        rfl⟩) hS0 ?_
      refine wpAnyH_take (i := 5) (v := .int .u8 ((hexL (b % 16)).toNat : Int)) rfl (by kernel_rfl) (by kernel_rfl) (by kernel_rfl) (fun _ _ _ h => h) (.inl ⟨rfl, fun u hu => by
        go_simp
        rw [dif_pos (⟨by omega, by omega⟩ : 0 ≤ (b : Int) % 16 ∧ (b : Int) % 16 < 16), hex_get _ (by omega)]
        have e : ((b : Int) % 16).toNat = b % 16 := by omega
        rw [e]
        rfl⟩) hS0 ?_
      generalize hU0 : World.drew _ = U0 at *
      have hcv := HCW.out U0
      refine wpAnyH_ready (rs := [6]) (by kernel_rfl) (by simp) ?_
      refine AllReadyH.cons rfl (fun K hK => ?_) AllReadyH.nil
      go_simp
      refine hK.out _ _ (hS0.alloc hS0.size _) (fun hS1 => ?_)
      clear hK K
      refine wpAnyH_ready (rs := [7]) (by kernel_rfl) (by simp) ?_
      refine AllReadyH.cons rfl (fun K hK => ?_) AllReadyH.nil
      go_simp
      refine hK.out _ _ hS1 (fun hS2 => ?_)
      clear hK K hcv
      refine wpAnyH_ready (rs := [8]) (by kernel_rfl) (by simp) ?_
      refine AllReadyH.cons rfl (fun K hK => ?_) AllReadyH.nil
      go_simp
      refine hK.out _ _ hS1 (fun hS3 => ?_)
      clear hK K
      refine wpAnyH_ready (rs := [9]) (by kernel_rfl) (by simp) ?_
      refine AllReadyH.cons rfl (fun K hK => ?_) AllReadyH.nil
      go_simp
      refine hK.out _ _ hS1 (fun hS4 => ?_)
      clear hK K
      refine wpAnyH_done (by kernel_rfl) ?_ _
      go_wp2
      go_ret
      refine ⟨?_, hS1⟩
      exact congrArg (fun x => Ending.returned (.string x)) (str_app #[92, 120] #[hexL (b / 16), hexL (b % 16)])
end Go.Proofs.YtkladjjeacjgpaaDoor

