/-
  A node's text, put together piece by piece: pure facts for hackleref07's Text.
-/
import Derived.Test.YtkladjjeacjgpaaDoorQRw4
import Derived.Test.YtkladjjeacjgpaaDoorQTpr
import Derived.Test.YtkladjjeacjgpaaDoorQG04
namespace Go.Proofs.YtkladjjeacjgpaaDoor
open Go.RowKit

theorem tail_snoc (sep x : List UInt8) (r : List (List UInt8)) : Lib.joinTail sep (r ++ [x]) = Lib.joinTail sep r ++ (sep ++ x) := by
  simp [Lib.joinTail]
theorem bytes_data (l : List UInt8) : (ByteArray.mk l.toArray).data.toList = l := by simp
theorem app_data (a b : ByteArray) : (a ++ b).data.toList = a.data.toList ++ b.data.toList := by simp [ByteArray.data_append]
theorem bytes_ext {a b : ByteArray} (h : a.data.toList = b.data.toList) : a = b := by
  apply ByteArray.ext
  exact Array.toList_inj.mp h
theorem joinB_nil (sep : ByteArray) : joinB [] sep = ⟨#[]⟩ := by unfold joinB; rw [List.map_nil, Lib.join_nil]
theorem joinB_data (ps : List ByteArray) (sep : ByteArray) : (joinB ps sep).data.toList = Lib.join (ps.map (·.data.toList)) sep.data.toList := by unfold joinB; simp
theorem joinB_snoc (ps : List ByteArray) (p sep : ByteArray) (h : ps ≠ []) : joinB (ps ++ [p]) sep = (joinB ps sep ++ sep) ++ p := by
  apply bytes_ext
  rw [app_data, app_data, joinB_data, joinB_data]
  cases ps with
  | nil => exact absurd rfl h
  | cons q r => simp only [List.cons_append, List.map_cons, List.map_append, List.map_nil, Lib.join_cons, tail_snoc, List.append_assoc]
theorem joinB_one (p sep : ByteArray) : joinB [p] sep = p := by
  apply bytes_ext
  rw [joinB_data, List.map_cons, List.map_nil, Lib.join_one]
theorem joinB_plain (ps : List ByteArray) (p : ByteArray) : joinB (ps ++ [p]) ⟨#[]⟩ = joinB ps ⟨#[]⟩ ++ p := by
  by_cases h : ps = []
  · subst h
    rw [List.nil_append, joinB_one, joinB_nil]
    apply bytes_ext
    rw [app_data]
    rfl
  · rw [joinB_snoc ps p _ h]
    apply bytes_ext
    simp
theorem take_snoc (ps : List ByteArray) (j : Nat) (h : j < ps.length) : ps.take (j + 1) = ps.take j ++ [ps[j]] := by rw [← List.take_append_getElem h]
theorem app_assoc (a b c : ByteArray) : (a ++ b) ++ c = a ++ (b ++ c) := by
  apply bytes_ext
  simp
theorem sizes_take (ps : List ByteArray) (j : Nat) : sizes (ps.take j) ≤ sizes ps := by
  unfold sizes
  induction ps generalizing j with
  | nil => simp
  | cons p r ih =>
    cases j with
    | zero => simp
    | succ j => simp only [List.take_succ_cons, List.map_cons, List.sum_cons]; have := ih j; omega
theorem piece_le (ps : List ByteArray) (j : Nat) (h : j < ps.length) : ps[j].size ≤ sizes ps := by
  unfold sizes
  induction ps generalizing j with
  | nil => simp at h
  | cons p r ih =>
    cases j with
    | zero => simp; omega
    | succ j => simp only [List.getElem_cons_succ, List.map_cons, List.sum_cons]; have := ih j (by simpa using h); omega
theorem accB_size (ps : List ByteArray) (sep : ByteArray) (h : sep.data.toList.length ≤ 1) (j : Nat) : (joinB (ps.take j) sep).size ≤ sizes ps := Nat.le_trans (joinB_size _ sep h) (sizes_take ps j)
/-- how a kind's Subs hold -/
theorem wrap_two {k' : Int} (s : ByteArray) : wrapB 2 k' s = if k' = 2 ∨ k' = 3 then (⟨#[40]⟩ ++ s) ++ ⟨#[41]⟩ else s := by
  unfold wrapB
  congr 1
  unfold holdsI
  simp only [eq_iff_iff]
  by_cases h3 : k' = 3
  · subst h3; simp
  · by_cases h2 : k' = 2
    · subst h2; simp
    · by_cases h4 : k' = 4
      · subst h4; simp
      · simp [h2, h3, h4]
theorem wrap_three {k' : Int} (s : ByteArray) : wrapB 3 k' s = if k' = 3 then (⟨#[40]⟩ ++ s) ++ ⟨#[41]⟩ else s := by
  unfold wrapB
  congr 1
  unfold holdsI
  simp only [eq_iff_iff]
  by_cases h3 : k' = 3
  · subst h3; simp
  · by_cases h2 : k' = 2
    · subst h2; simp
    · by_cases h4 : k' = 4
      · subst h4; simp
      · simp [h2, h3, h4]
theorem wrap_four {k' : Int} (h : 0 ≤ k' ∧ k' ≤ 4) (s : ByteArray) : wrapB 4 k' s = if 1 < k' then (⟨#[40]⟩ ++ s) ++ ⟨#[41]⟩ else s := by
  unfold wrapB
  congr 1
  unfold holdsI
  simp only [eq_iff_iff]
  by_cases h3 : k' = 3
  · subst h3; simp
  · by_cases h2 : k' = 2
    · subst h2; simp
    · by_cases h4 : k' = 4
      · subst h4; simp
      · simp [h2, h3, h4]; omega
/-- how often, written: the cases of the text -/
theorem times_star (lo hi : Int) (h : hi = -1) (h2 : lo < 2) (h3 : 0 ≤ lo) : timesOf lo hi = (ByteArray.mk #[42, 43]).extract lo.toNat (lo.toNat + 1) := by
  subst h
  have : lo = 0 ∨ lo = 1 := by omega
  rcases this with rfl | rfl
  · rfl
  · rfl
theorem times_may (lo hi : Int) (h : lo = 0) (h2 : hi = 1) : timesOf lo hi = ⟨#[63]⟩ := by subst h; subst h2; rfl
theorem times_open (lo hi : Int) (h : hi = -1) (h2 : ¬ lo < 2) : timesOf lo hi = (⟨#[123]⟩ ++ decB lo) ++ ⟨#[44, 125]⟩ := by
  subst h
  have h0 : (lo == 0) = false := by simp; omega
  have h1 : (lo == 1) = false := by simp; omega
  have h3 : ((-1 : Int) != lo) = true := by simp; omega
  have h4 : decide ((-1 : Int) > lo) = false := by simp; omega
  unfold timesOf timesB
  rw [h0, h1, h3, h4]
  apply bytes_ext
  simp
theorem times_same (lo hi : Int) (h : hi ≠ -1) (h2 : ¬ (lo = 0 ∧ hi = 1)) (h3 : hi = lo) : timesOf lo hi = (⟨#[123]⟩ ++ decB lo) ++ ⟨#[125]⟩ := by
  subst h3
  have h0 : (hi == -1) = false := by simp; omega
  have h1 : ((hi == 0) && (hi == 1)) = false := by simp; omega
  have h4 : (hi != hi) = false := by simp
  have h5 : decide (hi > hi) = false := by simp
  unfold timesOf timesB
  rw [h0, h1, h4, h5]
  simp
theorem times_upto (lo hi : Int) (h : hi ≠ -1) (h2 : ¬ (lo = 0 ∧ hi = 1)) (h3 : lo < hi) : timesOf lo hi = ((((⟨#[123]⟩ ++ decB lo) ++ ⟨#[44]⟩) ++ decB hi)) ++ ⟨#[125]⟩ := by
  have h0 : (hi == -1) = false := by simp; omega
  have h1 : ((lo == 0) && (hi == 1)) = false := by
    by_cases h : lo = 0
    · have : ¬ hi = 1 := fun e => h2 ⟨h, e⟩
      simp [this]
    · simp [h]
  have h4 : (hi != lo) = true := by simp; omega
  have h5 : decide (hi > lo) = true := by simp; omega
  unfold timesOf timesB
  rw [h0, h1, h4, h5]
  apply bytes_ext
  simp
end Go.Proofs.YtkladjjeacjgpaaDoor

