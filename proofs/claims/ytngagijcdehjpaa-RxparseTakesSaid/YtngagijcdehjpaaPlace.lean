/-
  A READER THAT ANSWERS A VALUE ENDS BEHIND WHERE IT BEGAN. Of no program. No condition.
-/
import Derived.Test.YtngagijcdehjpaaPd2
namespace Go.Proofs.Ytngagijcdehjpaa
open Go.RowKit
section
variable {s : ByteArray} {fr : Frs} {grp : Nat → Res Tree}
theorem then_ok {α β : Type} {r : Res α} {f : α → Nat → Res β} {x : β} {j : Nat} (h : r.then f = .ok (x, j)) : ∃ a k, r = .ok (a, k) ∧ f a k = .ok (x, j) := by
  rcases r with q | ⟨a, k⟩
  · simp [Res.then] at h
  · exact ⟨a, k, rfl, h⟩
theorem bad_ok {α : Type} {i e : Nat} {x : α × Nat} (h : (bad i e : Res α) = .ok x) : False := by simp [bad] at h
theorem ok_snd {α : Type} {a b : α} {i j : Nat} (h : (Except.ok (a, i) : Res α) = .ok (b, j)) : i = j := by injection h with h; injection h
theorem digP_on {b i n j : Nat} (h : digP s b i = .ok (n, j)) : i < j := by
  unfold digP at h
  split at h
  · have := ok_snd h; omega
  · exact (bad_ok h).elim
theorem letterP_on {i n j : Nat} (h : letterP s i = .ok (n, j)) : i < j := by
  unfold letterP at h
  repeat' split at h
  all_goals first
    | (have := ok_snd h; omega)
    | (exact (bad_ok h).elim)
    | skip
  obtain ⟨a, k, h1, h2⟩ := then_ok h
  obtain ⟨c, l, h3, h4⟩ := then_ok h2
  have := digP_on h1; have := digP_on h3; have := ok_snd h4; omega
theorem escP_on {i n j : Nat} (h : escP s i = .ok (n, j)) : i < j := by
  unfold escP at h
  split at h
  · exact (bad_ok h).elim
  split at h
  · have := letterP_on h; omega
  · have := ok_snd h; omega
theorem classF_on : ∀ (k : Nat) (m m' : Nat → Bool) (i j : Nat), classF s k m i = .ok (m', j) → i < j
  | 0, m, m', i, j, h => (bad_ok h).elim
  | k + 1, m, m', i, j, h => by
    rw [classF] at h
    split at h
    · have := ok_snd h; omega
    · obtain ⟨a, l, h1, h2⟩ := then_ok h
      have := spanP_on h1
      have := classF_on k _ _ _ _ h2
      omega
theorem classP_on {i j : Nat} {m : Nat → Bool} (h : classP s i = .ok (m, j)) : i < j := by
  unfold classP at h
  split at h
  · obtain ⟨a, l, h1, h2⟩ := then_ok h
    have := classF_on _ _ _ _ _ h1; have := ok_snd h2; omega
  · have := classF_on _ _ _ _ _ h; omega
theorem fragP_on {i j : Nat} {T : Tree} (h : fragP s fr i = .ok (T, j)) : i < j := by
  unfold fragP at h
  obtain ⟨a, l, h1, h2⟩ := then_ok h
  have := nameP_eq h1
  split at h2
  · unfold findF at h2
    split at h2
    · have := ok_snd h2; omega
    · exact (bad_ok h2).elim
  · exact (bad_ok h2).elim
def GrpOn (grp : Nat → Res Tree) : Prop := ∀ i T j, grp i = .ok (T, j) → i < j
theorem atomP_on (hG : GrpOn grp) {i j : Nat} {T : Tree} (h : atomP grp s fr i = .ok (T, j)) : i < j := by
  unfold atomP at h
  split at h
  · have := ok_snd h; omega
  split at h
  · obtain ⟨a, l, h1, h2⟩ := then_ok h
    have := escP_on h1; have := ok_snd h2; omega
  split at h
  · have := ok_snd h; omega
  split at h
  · obtain ⟨a, l, h1, h2⟩ := then_ok h
    have := classP_on h1; have := ok_snd h2; omega
  split at h
  · exact hG _ _ _ h
  split at h
  · exact fragP_on h
  · exact (bad_ok h).elim
theorem numP_on {i j n : Nat} (h : numP s i = .ok (n, j)) : i < j := by
  unfold numP at h
  obtain ⟨a, l, h1, h2⟩ := then_ok h
  have := digP_on h1
  split at h2
  · obtain ⟨c, k, h3, h4⟩ := then_ok h2
    have := digP_on h3; have := ok_snd h4; omega
  · have := ok_snd h2; omega
theorem shutP_on {i j first lo : Nat} {hi : Int} {x : Int × Int} (h : shutP s first lo hi i = .ok (x, j)) : i < j := by
  unfold shutP at h
  split at h
  · split at h
    · exact (bad_ok h).elim
    · have := ok_snd h; omega
  · exact (bad_ok h).elim
theorem boundsP_on {i j : Nat} {x : Int × Int} (h : boundsP s i = .ok (x, j)) : i < j := by
  unfold boundsP at h
  obtain ⟨a, l, h1, h2⟩ := then_ok h
  have := numP_on h1
  split at h2
  · split at h2
    · have := shutP_on h2; omega
    · obtain ⟨c, k, h3, h4⟩ := then_ok h2
      have := numP_on h3; have := shutP_on h4; omega
  · have := shutP_on h2; omega
theorem itemP_on (hG : GrpOn grp) {i j : Nat} {T : Tree} (h : itemP grp s fr i = .ok (T, j)) : i < j := by
  unfold itemP at h
  obtain ⟨a, l, h1, h2⟩ := then_ok h
  have := atomP_on hG h1
  split at h2
  · have := ok_snd h2; omega
  split at h2
  · have := ok_snd h2; omega
  split at h2
  · have := ok_snd h2; omega
  split at h2
  · obtain ⟨c, k, h3, h4⟩ := then_ok h2
    have := boundsP_on h3; have := ok_snd h4; omega
  · have := ok_snd h2; omega
theorem rowF_on (hG : GrpOn grp) : ∀ (k : Nat) (l l' : List Tree) (i j : Nat), rowF grp s fr k l i = .ok (l', j) → i ≤ j
  | 0, _, _, _, _, h => (bad_ok h).elim
  | k + 1, l, l', i, j, h => by
    rw [rowF] at h
    split at h
    · have := ok_snd h; omega
    · obtain ⟨a, m, h1, h2⟩ := then_ok h
      have := itemP_on hG h1
      have := rowF_on hG k _ _ _ _ h2
      omega
theorem rowP_on (hG : GrpOn grp) {i j : Nat} {T : Tree} (h : rowP grp s fr i = .ok (T, j)) : i ≤ j := by
  unfold rowP at h
  obtain ⟨a, m, h1, h2⟩ := then_ok h
  have := rowF_on hG _ _ _ _ _ h1; have := ok_snd h2; omega
theorem altF_on (hG : GrpOn grp) : ∀ (k : Nat) (l l' : List Tree) (i j : Nat), altF grp s fr k l i = .ok (l', j) → i ≤ j
  | 0, _, _, _, _, h => (bad_ok h).elim
  | k + 1, l, l', i, j, h => by
    rw [altF] at h
    split at h
    · obtain ⟨a, m, h1, h2⟩ := then_ok h
      have := rowP_on hG h1
      have := altF_on hG k _ _ _ _ h2
      omega
    · have := ok_snd h; omega
theorem altP_on (hG : GrpOn grp) {i j : Nat} {T : Tree} (h : altP grp s fr i = .ok (T, j)) : i ≤ j := by
  unfold altP at h
  obtain ⟨a, m, h1, h2⟩ := then_ok h
  obtain ⟨c, k, h3, h4⟩ := then_ok h2
  have := rowP_on hG h1
  have := altF_on hG _ _ _ _ _ h3
  have := ok_snd h4; omega
theorem grpP_on : ∀ d, GrpOn (grpP s fr d)
  | 0 => fun i T j h => (bad_ok h).elim
  | d + 1 => fun i T j h => by
    rw [grpP] at h
    obtain ⟨a, m, h1, h2⟩ := then_ok h
    rw [altsP_is] at h1
    have := altP_on (grpP_on d) h1
    split at h2
    · have := ok_snd h2; omega
    · exact (bad_ok h2).elim
end
end Go.Proofs.Ytngagijcdehjpaa

