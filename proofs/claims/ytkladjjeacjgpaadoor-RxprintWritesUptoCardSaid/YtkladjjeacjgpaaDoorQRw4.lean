/-
  WHAT hackleref07's dec ANSWERS: a contract. Condition: a number from 0 to 99.
-/
import Derived.Test.YtkladjjeacjgpaaDoorQTwr
namespace Go.Proofs.YtkladjjeacjgpaaDoor
open Go.RowKit

theorem dec_is : ∀ n : Fin 100, (decB (n.val : Int)).data.toList = (if n.val ≤ 9 then [UInt8.ofNat (48 + n.val)] else [UInt8.ofNat (48 + n.val / 10), UInt8.ofNat (48 + n.val % 10)]) := by decide +kernel
theorem bytes_eq {z : ByteArray} {l : List UInt8} (h : z.data.toList = l) : z = ⟨l.toArray⟩ := by
  obtain ⟨d⟩ := z
  have : d = l.toArray := by rw [← h]
  rw [this]
theorem dig_ext : ∀ d : Fin 10, (ByteArray.mk #[48, 49, 50, 51, 52, 53, 54, 55, 56, 57]).extract d.val (d.val + 1) = ⟨#[UInt8.ofNat (48 + d.val)]⟩ := by decide +kernel
theorem two_bytes (x y : UInt8) : ByteArray.mk #[x] ++ ByteArray.mk #[y] = ⟨#[x, y]⟩ := by
  apply ByteArray.ext
  simp [ByteArray.data_append]

set_option maxHeartbeats 1000000 in
theorem dec1_any (n : Nat) (hn : n ≤ 9) (w : World) : Calls Tryd.prog 32 #[.int .i64 n] w fun e w' => e = .returned (.string ⟨#[UInt8.ofNat (48 + n)]⟩) ∧ w' = w := by
  have e1 : decide ((n : Int) > 9) = false := by simp; omega
  have hx := dig_ext ⟨n, by omega⟩
  have HX := Lib.hid hx
  clear hx
  generalize UInt8.ofNat (48 + n) = a at *
  go_enter Tryd.func32, Tryd.ntmps32
  go_wp2
  rw [show (ByteArray.mk #[48, 49, 50, 51, 52, 53, 54, 55, 56, 57]).extract n (n + 1) = ⟨#[a]⟩ from HX.out]
  go_ret
  exact ⟨rfl, rfl⟩

set_option maxHeartbeats 1000000 in
theorem refDec_any (n : Nat) (hn : n < 100) (w : World) : Calls Tryd.prog 32 #[.int .i64 n] w fun e w' => e = .returned (.string (decB (n : Int))) ∧ w' = w := by
  have hd := bytes_eq (dec_is ⟨n, hn⟩)
  by_cases h9 : n ≤ 9
  · rw [if_pos h9] at hd
    rw [hd]
    exact dec1_any n h9 w
  · rw [if_neg h9] at hd
    rw [hd]
    have e1 : decide ((n : Int) > 9) = true := by simp; omega
    have H1 := Lib.hid (dec1_any (n / 10) (by omega) w)
    have H2 := Lib.hid (dec1_any (n % 10) (by omega) w)
    clear hd h9
    generalize UInt8.ofNat (48 + n / 10) = a at *
    generalize UInt8.ofNat (48 + n % 10) = b at *
    go_enter Tryd.func32, Tryd.ntmps32
    go_wp2_with fail
    go_at_call 32
    refine H1.out.mono ?_
    rintro e u ⟨rfl, rfl⟩
    go_wp2_with fail
    go_at_call 32
    refine H2.out.mono ?_
    rintro e u ⟨rfl, rfl⟩
    go_wp2
    go_ret
    exact ⟨rfl, rfl⟩
end Go.Proofs.YtkladjjeacjgpaaDoor

