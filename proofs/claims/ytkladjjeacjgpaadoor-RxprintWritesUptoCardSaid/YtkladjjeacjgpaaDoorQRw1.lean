/-
  WHAT hackleref07's one ANSWERS: a contract. Condition: a byte.
-/
import Derived.BigQuiet
import Derived.Test.YtkladjjeacjgpaaDoorQTst
namespace Go.Proofs.YtkladjjeacjgpaaDoor
open Go.RowKit

def refOneL (some : List UInt8) (b : Nat) : List UInt8 :=
  if b = 10 then [92, 110] else if b = 13 then [92, 114] else if b = 9 then [92, 116] else if b < 32 ∨ 126 < b then [92, 120, hexL (b / 16), hexL (b % 16)] else if some.any (fun c => decide (c.toNat = b)) then [92, UInt8.ofNat b] else [UInt8.ofNat b]
theorem one_signs : ∀ b : Fin 256, refOneL [124, 42, 43, 63, 123, 125, 40, 41, 91, 93, 46, 60, 62, 47, 92] b.val = oneL signsB.data.toList b.val := by decide +kernel
theorem one_class : ∀ b : Fin 256, refOneL [91, 93, 94, 45, 47, 92] b.val = oneL classB.data.toList b.val := by decide +kernel

theorem hex_ext : ∀ d : Fin 16, (ByteArray.mk #[48, 49, 50, 51, 52, 53, 54, 55, 56, 57, 97, 98, 99, 100, 101, 102]).extract d.val (d.val + 1) = ⟨#[hexL d.val]⟩ := by decide +kernel
theorem hex_four (x y : UInt8) : (ByteArray.mk #[92, 120] ++ ByteArray.mk #[x]) ++ ByteArray.mk #[y] = ⟨#[92, 120, x, y]⟩ := by
  apply ByteArray.ext
  simp [ByteArray.data_append]

set_option maxHeartbeats 1000000 in
theorem refOne_hex (s : ByteArray) (b : Nat) (hb : b < 256) (h1 : b ≠ 10) (h2 : b ≠ 13) (h3 : b ≠ 9) (h4 : b < 32 ∨ 126 < b) (w : World) : Calls Tryd.prog 49 #[.int .i64 b, .string s] w fun e w' => e = .returned (.string ⟨#[92, 120, hexL (b / 16), hexL (b % 16)]⟩) ∧ Below w.heap.size w w' := by
  have e1 : ((b : Int) == 10) = false := by simp; omega
  have e2 : ((b : Int) == 13) = false := by simp; omega
  have e3 : ((b : Int) == 9) = false := by simp; omega
  have x1 := hex_ext ⟨b / 16, by omega⟩
  have x2 := hex_ext ⟨b % 16, by omega⟩
  have HX := Lib.hid (And.intro x1 x2)
  clear x1 x2
  rcases h4 with h4 | h4
  · have e4 : decide ((b : Int) < 32) = true := by simp; omega
    go_enter Tryd.func49, Tryd.ntmps49
    go_wp2
    go_quiet (fail)
    rw [HX.out.1, HX.out.2, hex_four]
    go_wp2
    go_ret
    exact ⟨rfl, below_drewN (Below.refl _ _) _⟩
  · have e4 : decide ((b : Int) < 32) = false := by simp; omega
    have e5 : decide ((b : Int) > 126) = true := by simp; omega
    go_enter Tryd.func49, Tryd.ntmps49
    go_wp2
    go_quiet (fail)
    rw [HX.out.1, HX.out.2, hex_four]
    go_wp2
    go_ret
    exact ⟨rfl, below_drewN (Below.refl _ _) _⟩

theorem any_take {l : List UInt8} {b j : Nat} (h : j < l.length) (ha : (l.take j).any (fun c => decide (c.toNat = b)) = false) (hx : l[j].toNat ≠ b) : (l.take (j + 1)).any (fun c => decide (c.toNat = b)) = false := by
  rw [List.take_succ_eq_append_getElem h, List.any_append, ha]
  simpa using hx
theorem any_here {l : List UInt8} {b j : Nat} (h : j < l.length) (hx : l[j].toNat = b) : l.any (fun c => decide (c.toNat = b)) = true := by
  rw [List.any_eq_true]
  exact ⟨l[j], List.getElem_mem h, by simpa using hx⟩

set_option maxRecDepth 20000 in
set_option maxHeartbeats 1000000 in
theorem refOne_plain (s : ByteArray) (hs30 : s.size ≤ 1073741824) (b : Nat) (hb : b < 256) (h4 : 32 ≤ b ∧ b ≤ 126) (w : World) : Calls Tryd.prog 49 #[.int .i64 b, .string s] w fun e w' => e = .returned (.string ⟨(if s.data.toList.any (fun c => decide (c.toNat = b)) then [92, UInt8.ofNat b] else [UInt8.ofNat b]).toArray⟩) ∧ Below w.heap.size w w' := by
  have e1 : ((b : Int) == 10) = false := by simp; omega
  have e2 : ((b : Int) == 13) = false := by simp; omega
  have e3 : ((b : Int) == 9) = false := by simp; omega
  have e4 : decide ((b : Int) < 32) = false := by simp; omega
  have e5 : decide ((b : Int) > 126) = false := by simp; omega
  have e6 : IntKind.u8.wrap (b : Int) = (b : Int) := by rw [IntKind.wrap_u8]; omega
  have hb8 : (UInt8.ofNat b).toNat = b := by rw [UInt8.toNat_ofNat']; omega
  have hcv := conv_new [UInt8.ofNat b] w
  simp only [List.map_cons, List.map_nil, List.length_cons, List.length_nil, Nat.zero_add, hb8, strV] at hcv
  have hL : s.data.toList.length = s.size := by rw [Array.length_toList]; rfl
  obtain ⟨c, hc⟩ : ∃ c, c = UInt8.ofNat b := ⟨_, rfl⟩
  rw [← hc] at hcv hb8 ⊢
  have hb0 : Below w.heap.size w (w.alloc (.cells #[.int .u8 (b : Int)] 5)) := (Below.refl _ _).alloc (Nat.le_refl _) _
  have HB0 := Lib.hid hb0
  obtain ⟨R, hR⟩ : ∃ R, R = (if s.data.toList.any (fun c => decide (c.toNat = b)) then [92, c] else [c]) := ⟨_, rfl⟩
  rw [← hR]
  have HR := Lib.hid hR
  have HL := Lib.hid hL
  clear hR hL hb0 hc hb8
  go_enter Tryd.func49, Tryd.ntmps49
  go_wp2
  have hcc : (⟨[c].toArray⟩ : ByteArray) = ⟨#[c]⟩ := rfl
  go_loopw [6] (fun i wr => ∃ j : Nat, i = .int .i64 j ∧ j ≤ s.size ∧ Hid (Below w.heap.size w wr ∧ (s.data.toList.take j).any (fun c => decide (c.toNat = b)) = false)) (fun i _ => s.size - (intOf i).toNat)
  case atStart => exact ⟨0, rfl, Nat.zero_le _, Lib.hid ⟨HB0.out, by simp⟩⟩
  case round =>
    obtain ⟨j, rfl, hj, HH⟩ := hrel
    by_cases hp : j < s.size
    · have hdl : decide ((j : Int) < (s.size : Int)) = true := by simp; omega
      have hix := idx_byte 9 Tryd.underlying9 s j hp wr
      have hk1 : IntKind.i64.wrap ((j : Int) + 1) = ((j + 1 : Nat) : Int) := by rw [IntKind.wrap_i64]; omega
      have hp' : j < s.data.toList.length := by rw [HL.out]; exact hp
      have hx : s[j] = s.data.toList[j] := rfl
      rw [hx] at hix
      have hyl := UInt8.toNat_lt s.data.toList[j]
      obtain ⟨z, hz0⟩ : ∃ z, z = (s.data.toList[j]).toNat := ⟨_, rfl⟩
      rw [← hz0] at hix hyl
      have HX := Lib.hid (And.intro (fun (h : z ≠ b) => any_take (b := b) hp' HH.out.2 (by rw [← hz0]; exact h)) (fun (h : z = b) => any_here (b := b) hp' (by rw [← hz0]; exact h)))
      have hcv2 : IntKind.i64.wrap (z : Int) = (z : Int) := by rw [IntKind.wrap_i64]; omega
      clear hz0 hx hyl
      by_cases hz : z = b
      · have e7 : ((z : Int) == (b : Int)) = true := by rw [hz]; simp
        have HZ := Lib.hid hz
        clear hz hcv
        go_wp2
        go_ret
        refine ⟨?_, HH.out.1⟩
        rw [HR.out, if_pos (HX.out.2 HZ.out)]
        rfl
      · have e7 : ((z : Int) == (b : Int)) = false := by simp; omega
        have HZ := Lib.hid hz
        clear hz hcv
        go_wp2
        exact ⟨⟨j + 1, by go_num, hp, Lib.hid ⟨HH.out.1, HX.out.1 HZ.out⟩⟩, by simp [intOf]; omega⟩
    · have hdl : decide ((j : Int) < (s.size : Int)) = false := by simp; omega
      obtain rfl : j = s.size := by omega
      clear hcv
      have hall := HH.out.2
      rw [List.take_of_length_le (by rw [HL.out]; exact Nat.le_refl _)] at hall
      have HA := Lib.hid hall
      clear hall
      go_wp2
      go_ret
      refine ⟨?_, HH.out.1⟩
      rw [HR.out, if_neg (by rw [HA.out]; simp)]
      rfl
theorem refOne_any (s : ByteArray) (hs30 : s.size ≤ 1073741824) (b : Nat) (hb : b < 256) (w : World) : Calls Tryd.prog 49 #[.int .i64 b, .string s] w fun e w' => e = .returned (.string ⟨(refOneL s.data.toList b).toArray⟩) ∧ Below w.heap.size w w' := by
  unfold refOneL
  by_cases h1 : b = 10
  · subst h1
    rw [if_pos rfl]
    go_enter Tryd.func49, Tryd.ntmps49
    go_wp2
    go_ret
    exact ⟨rfl, Below.refl _ _⟩
  by_cases h2 : b = 13
  · subst h2
    rw [if_neg (by decide), if_pos rfl]
    go_enter Tryd.func49, Tryd.ntmps49
    go_wp2
    go_ret
    exact ⟨rfl, Below.refl _ _⟩
  by_cases h3 : b = 9
  · subst h3
    rw [if_neg (by decide), if_neg (by decide), if_pos rfl]
    go_enter Tryd.func49, Tryd.ntmps49
    go_wp2
    go_ret
    exact ⟨rfl, Below.refl _ _⟩
  rw [if_neg h1, if_neg h2, if_neg h3]
  by_cases h4 : b < 32 ∨ 126 < b
  · rw [if_pos h4]
    exact refOne_hex s b hb h1 h2 h3 h4 w
  · rw [if_neg h4]
    exact refOne_plain s hs30 b hb (by omega) w
end Go.Proofs.YtkladjjeacjgpaaDoor

