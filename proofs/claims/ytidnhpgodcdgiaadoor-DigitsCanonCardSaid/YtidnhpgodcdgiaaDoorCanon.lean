/-
  WHAT THE REFERENCE'S Print AND Canon ANSWER. Condition: the two tables of the library that they read lie as they are laid.
-/
import Derived.Test.YtidnhpgodcdgiaaDoorBits
namespace Go.Proofs.YtidnhpgodcdgiaaDoor
open Go.RowKit Go.Sort

def digs16 : ByteArray := ⟨#[48, 49, 50, 51, 52, 53, 54, 55, 56, 57, 97, 98, 99, 100, 101, 102]⟩
theorem digs16_size : digs16.size = 16 := rfl
theorem piece16 : ∀ d : Fin 16, digs16.extract d.val (d.val + 1) = ⟨#[chr d.val]⟩ := by decide +kernel
theorem slice16 {t : TypeId} (ht : (Tryd.prog).underlying t = some .string) (d : Nat) (h : d < 16) (w : World) :
    (Instr.slice t (.string digs16) (some (.int .i64 (d : Nat))) (some (.int .i64 ((d + 1 : Nat) : Int))) none).run Tryd.prog w = .ok (.string ⟨#[chr d]⟩) w := by
  rw [run_slice_string w t digs16 .i64 .i64 _ _ ht (by omega) (by omega) (by rw [digs16_size]; omega), show ((d : Nat) : Int).toNat = d by omega, show ((d + 1 : Nat) : Int).toNat = d + 1 by omega, piece16 ⟨d, h⟩]

theorem piece_app (d : Nat) (h : d < 16) (suf : List UInt8) : (digs16.extract d (d + 1) ++ ⟨suf.toArray⟩ : ByteArray) = ⟨(chr d :: suf).toArray⟩ := by
  rw [piece16 ⟨d, h⟩]
  apply ByteArray.ext
  rw [ByteArray.data_append]
  simp

/-- what the loop has written -/
def Written (b n v : Nat) (suf : List UInt8) : Prop := (suf = [] ∧ v = n) ∨ (suf ≠ [] ∧ v = 0 ∧ suf = reprL b n) ∨ (suf ≠ [] ∧ 0 < v ∧ reprL b v ++ suf = reprL b n)
theorem Written.step {b n v : Nat} {suf : List UInt8} (hb : b = 10 ∨ b = 16) (h : Written b n v suf) (hc : 0 < v ∨ suf = []) : Written b n (v / b) (chr (v % b) :: suf) := by
  have key : reprL b v ++ suf = reprL b n := by
    rcases h with ⟨rfl, rfl⟩ | ⟨h1, h2, _⟩ | ⟨_, _, h3⟩
    · simp
    · rcases hc with hc | hc
      · omega
      · exact (h1 hc).elim
    · exact h3
  by_cases hv : v < b
  · refine .inr (.inl ⟨by simp, Nat.div_eq_of_lt hv, ?_⟩)
    rw [← key, reprL_small hv, Nat.mod_eq_of_lt hv]; rfl
  · refine .inr (.inr ⟨by simp, Nat.div_pos (by omega) (by omega), ?_⟩)
    rw [← key, reprL_big (by omega) hv, List.append_assoc]; rfl
theorem Written.done {b n v : Nat} {suf : List UInt8} (h : Written b n v suf) (hv : v = 0) (hs : suf ≠ []) : suf = reprL b n := by
  rcases h with ⟨h1, _⟩ | ⟨_, _, h3⟩ | ⟨_, h2, _⟩
  · exact (hs h1).elim
  · exact h3
  · omega
theorem empty_is (suf : List UInt8) : (⟨suf.toArray⟩ : ByteArray).toList.isEmpty = suf.isEmpty := by
  rw [← decide_eq_emptyBytes]
  cases suf with
  | nil => rfl
  | cons c r =>
    refine decide_eq_false fun h => ?_
    have := congrArg ByteArray.size h
    rw [show ByteArray.empty.size = 0 from rfl] at this
    exact absurd this (by show (c :: r).toArray.size ≠ 0; simp)
/-- one more for the empty text -/
def emptyOf : Value → Nat
  | .string s => 1 - s.size
  | _ => 0

set_option maxHeartbeats 4000000 in
theorem refPrint_base (b : Nat) (hb : b = 10 ∨ b = 16) (n : Nat) (hn : n ≤ 9223372036854775807) (w : World) :
    Calls Tryd.prog 12 #[.int .u64 n, .int .i64 b] w fun e w' => e = .returned (.tuple #[.string ⟨(reprL b n).toArray⟩, .int .i64 0]) ∧ w' = w := by
  have hb1 : 1 ≤ b := by omega
  have hwb : IntKind.u64.wrap (b : Int) = (b : Int) := by rw [IntKind.wrap_u64]; omega
  have hb0 : ((b : Int) == 0) = false := by simp; omega
  have hm : decide ((n : Int) > 9223372036854775807) = false := by simp; omega
  have hg : (((b : Int) != 10) = true ∧ ((b : Int) != 16) = false) ∨ ((b : Int) != 10) = false := by rcases hb with rfl | rfl <;> simp
  rcases hg with ⟨g1, g2⟩ | g1
  all_goals (
    go_enter Tryd.func12, Tryd.ntmps12
    go_wp2
    go_loopw [0, 6] (fun x s wr => ∃ (v : Nat) (suf : List UInt8), x = .int .u64 v ∧ s = .string ⟨suf.toArray⟩ ∧ Hid (w = wr ∧ v ≤ 9223372036854775807 ∧ Written b n v suf ∧ suf.length + v ≤ 9223372036854775807)) (fun x s _ => (intOf x).toNat + emptyOf s)
    case atStart => exact ⟨n, [], rfl, rfl, Lib.hid ⟨rfl, hn, .inl ⟨rfl, rfl⟩, by simpa using hn⟩⟩
    case round =>
      obtain ⟨v, suf, rfl, rfl, HH⟩ := hrel
      obtain ⟨rfl, hv, hw, hl⟩ := HH.out
      by_cases hc : 0 < v ∨ suf = []
      · have hW := hw.step hb hc
        have hle : v / b ≤ v := Nat.div_le_self _ _
        have hlt : 0 < v → v / b < v := fun h => Nat.div_lt_self h (show 1 < b by omega)
        have hd16 : v % b < 16 := Nat.lt_of_lt_of_le (Nat.mod_lt _ hb1) (by omega)
        have hqi : (v : Int) / (b : Int) = ((v / b : Nat) : Int) := (Int.natCast_ediv v b).symm
        have hdi : (v : Int) % (b : Int) = ((v % b : Nat) : Int) := (Int.natCast_emod v b).symm
        generalize v % b = d at *
        generalize v / b = q at *
        have hwq : IntKind.u64.wrap (q : Int) = (q : Int) := by rw [IntKind.wrap_u64]; omega
        have hwd : IntKind.i64.wrap (d : Int) = (d : Int) := by rw [IntKind.wrap_i64]; omega
        have hwd1 : IntKind.i64.wrap ((d : Int) + 1) = ((d + 1 : Nat) : Int) := by rw [IntKind.wrap_i64]; omega
        have hmeas : q + (1 - (suf.length + 1)) < v + (1 - suf.length) := by
          rcases hc with hc | rfl
          · have := hlt hc; omega
          · simp; omega
        have hle2 : (chr d :: suf).length + q ≤ 9223372036854775807 := by
          rw [List.length_cons]
          by_cases h0 : 0 < v
          · have := hlt h0; omega
          · rcases hc with hc | rfl
            · exact (h0 hc).elim
            · simp; omega
        have happ := piece_app d hd16 suf
        unfold digs16 at happ
        have hlim : (9223372036854775807 < min (d + 1) 16 - d + suf.length) = False := by
          rw [List.length_cons] at hle2
          simp only [eq_iff_iff, iff_false]; omega
        have HE := Lib.hid (And.intro hW (And.intro hmeas (And.intro hle (And.intro hle2 (And.intro hv happ)))))
        clear hW hw hmeas hle hl HH hle2 happ hlt
        by_cases hc0 : 0 < v
        · have hgt : decide ((v : Int) > 0) = true := by simp; omega
          clear hc
          go_wp2
          obtain ⟨hW, hmeas, hle, hle2, hv, happ⟩ := HE.out
          rw [happ]
          exact ⟨⟨q, _, rfl, rfl, Lib.hid ⟨by first | trivial | rfl, by omega, hW, hle2⟩⟩, by simpa [intOf, emptyOf, ByteArray.size] using hmeas⟩
        · have hgt : decide ((v : Int) > 0) = false := by simp; omega
          obtain rfl : suf = [] := by
            rcases hc with hc | hc
            · exact (hc0 hc).elim
            · exact hc
          clear hc
          go_wp2
          obtain ⟨hW, hmeas, hle, hle2, hv, happ⟩ := HE.out
          have happ2 : (⟨#[48, 49, 50, 51, 52, 53, 54, 55, 56, 57, 97, 98, 99, 100, 101, 102]⟩ : ByteArray).extract d (d + 1) ++ ⟨#[]⟩ = ⟨[chr d].toArray⟩ := happ
          rw [happ2]
          exact ⟨⟨q, _, rfl, rfl, Lib.hid ⟨by first | trivial | rfl, by omega, hW, hle2⟩⟩, by simpa [intOf, emptyOf, ByteArray.size] using hmeas⟩
      · have hgt : decide ((v : Int) > 0) = false := by simp; omega
        have hse : (⟨suf.toArray⟩ : ByteArray).toList.isEmpty = false := by rw [empty_is]; cases suf with | nil => simp at hc | cons c r => rfl
        have hfin := hw.done (by omega) (by intro e; exact hc (.inr e))
        have hse2 : suf.isEmpty = false := by rw [← empty_is]; exact hse
        obtain rfl : v = 0 := by omega
        have HF := Lib.hid hfin
        clear hw hc HH hse hfin
        go_wp2
        go_ret2
        rw [← HF.out]
        exact ⟨rfl, by first | rfl | trivial⟩)

set_option maxHeartbeats 1000000 in
theorem refPrint_any (x : Int) (n : Nat) (hn : n < 18446744073709551616) (w : World) :
    Calls Tryd.prog 12 #[.int .u64 n, .int .i64 x] w fun e w' => e = .returned (.tuple #[.string ⟨(printZ x n).1.toArray⟩, .int .i64 ((printZ x n).2 : Nat)]) ∧ w' = w := by
  unfold printZ
  by_cases h : isB x
  · rw [if_pos h]
    by_cases hm : n ≤ 9223372036854775807
    · rw [if_pos hm]
      have hx : ((x.toNat : Nat) : Int) = x := by unfold isB at h; omega
      have := refPrint_base x.toNat (by unfold isB at h; omega) n hm w
      rw [hx] at this
      exact this
    · rw [if_neg hm]
      have hg : decide ((n : Int) > 9223372036854775807) = true := by simp; omega
      rcases h with rfl | rfl
      all_goals (
        go_enter Tryd.func12, Tryd.ntmps12
        go_wp2
        go_ret2
        exact ⟨rfl, rfl⟩)
  · rw [if_neg h]
    have h10 : (x == 10) = false := by unfold isB at h; simp; omega
    have h16 : (x == 16) = false := by unfold isB at h; simp; omega
    have g10 : (x != 10) = true := by unfold isB at h; simp; omega
    have g16 : (x != 16) = true := by unfold isB at h; simp; omega
    go_enter Tryd.func12, Tryd.ntmps12
    go_wp2
    all_goals (go_ret2; exact ⟨rfl, rfl⟩)

/-! ### Canon -/
/-- are these the canonical digits of a number? -/
def canonZ (x : Int) (l : List UInt8) : Bool := decide ((parseZ x l).2 = 0) && decide ((printZ x (parseZ x l).1).1 = l)

theorem parseN_le (b : Nat) (l : List UInt8) : (parseN b l).1 ≤ 9223372036854775807 := by
  unfold parseN
  split
  · simp
  · split
    · split
      · assumption
      · simp
    · simp
theorem parseZ_le (x : Int) (l : List UInt8) : (parseZ x l).1 ≤ 9223372036854775807 := by
  unfold parseZ
  split
  · exact parseN_le _ _
  · simp
theorem beq_is (l m : List UInt8) : (l == m) = decide (l = m) := by
  by_cases h : l = m
  · subst h; simp
  · rw [decide_eq_false h, beq_eq_false_iff_ne]; exact h

set_option maxHeartbeats 1000000 in
theorem canon_any (x : Int) (s : ByteArray) (w : World) (hT : Tabs w) :
    Calls Tryd.prog 13 #[.string s, .int .i64 x] w fun e w' => e = .returned (.bool (canonZ x s.data.toList)) ∧ Below w.heap.size w w' := by
  have HT := Lib.hid hT
  have hle := parseZ_le x s.data.toList
  have hp := parse_any x s w
  unfold canonZ
  generalize hP : parseZ x s.data.toList = pz at *
  obtain ⟨n, e⟩ := pz
  simp only at hle hp ⊢
  have hpr := fun W hW => print_any x n (by omega) W hW
  have HP := Lib.hid hp
  have HPR := Lib.hid hpr
  clear hP hT hp hpr
  generalize (printZ x n).1 = l at *
  by_cases h0 : e = 0
  · subst h0
    go_enter Tryd.func13, Tryd.ntmps13
    go_wp2_with fail
    refine HP.out.mono ?_
    rintro e w1 ⟨rfl, hb⟩
    have HB := Lib.hid hb
    clear hb
    go_wp2_with fail
    refine (HPR.out w1 (HT.out.step HB.out)).mono ?_
    rintro e w2 ⟨rfl, hb2⟩
    have HB2 := Lib.hid (HB.out.trans (hb2.mono HB.out.size))
    clear hb2
    go_wp2
    go_ret
    refine ⟨?_, HB2.out⟩
    show Ending.returned (Value.bool (l == s.toList)) = _
    rw [ByteArray.toList_eq, beq_is]
    rfl
  · have hne : ((e : Int) != 0) = true := by simp; omega
    go_enter Tryd.func13, Tryd.ntmps13
    go_wp2_with (go_at_call 7; refine HP.out.mono ?_; rintro e w1 ⟨rfl, hb⟩)
    go_ret
    exact ⟨by simp [h0], hb⟩

end Go.Proofs.YtidnhpgodcdgiaaDoor
