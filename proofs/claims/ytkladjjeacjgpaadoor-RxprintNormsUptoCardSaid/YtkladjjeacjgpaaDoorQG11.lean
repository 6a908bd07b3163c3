/-
  WHAT hackleref07's dec ANSWERS: a contract. Condition: a number from 0 to 99.
-/
import Derived.Test.YtkladjjeacjgpaaDoorQTwr
import Derived.Test.YtkladjjeacjgpaaDoorQTpr
import Derived.Test.YtkladjjeacjgpaaDoorQG04
import Derived.Test.YtkladjjeacjgpaaDoorQG10
namespace Go.Proofs.YtkladjjeacjgpaaDoor
open Go.RowKit

theorem dec_is : ∀ n : Fin 100, (decB (n.val : Int)).data.toList = (if n.val ≤ 9 then [UInt8.ofNat (48 + n.val)] else [UInt8.ofNat (48 + n.val / 10), UInt8.ofNat (48 + n.val % 10)]) := by decide +kernel
theorem bytes_eq {z : ByteArray} {l : List UInt8} (h : z.data.toList = l) : z = ⟨l.toArray⟩ := by
  obtain ⟨d⟩ := z
  have : d = l.toArray := by rw [← h]
  rw [this]
theorem dig_ext : ∀ d : Fin 10, (ByteArray.mk #[48, 49, 50, 51, 52, 53, 54, 55, 56, 57]).extract d.val (d.val + 1) = ⟨#[UInt8.ofNat (48 + d.val)]⟩ := by decide +kernel
theorem two_bytes (x y : UInt8) : ByteArray.mk #[x] ++ ByteArray.mk #[y] = ⟨#[x, y]⟩ := by
  apply ByteArray.ext
  simp [ByteArray.data_append]

set_option maxHeartbeats 1000000 in
theorem dec1_any (n : Nat) (hn : n ≤ 9) (w : World) : Calls Tryd.prog 32 #[.int .i64 n] w fun e w' => e = .returned (.string ⟨#[UInt8.ofNat (48 + n)]⟩) ∧ w' = w := by
  have e1 : decide ((n : Int) > 9) = false := by simp; omega
  have hx := dig_ext ⟨n, by omega⟩
  have HX := Lib.hid hx
  clear hx
  generalize UInt8.ofNat (48 + n) = a at *
  go_enter Tryd.func32, Tryd.ntmps32
  go_wp2
  rw [show (ByteArray.mk #[48, 49, 50, 51, 52, 53, 54, 55, 56, 57]).extract n (n + 1) = ⟨#[a]⟩ from HX.out]
  go_ret
  exact ⟨rfl, rfl⟩

set_option maxHeartbeats 1000000 in
theorem refDec_any (n : Nat) (hn : n < 100) (w : World) : Calls Tryd.prog 32 #[.int .i64 n] w fun e w' => e = .returned (.string (decB (n : Int))) ∧ w' = w := by
  have hd := bytes_eq (dec_is ⟨n, hn⟩)
  by_cases h9 : n ≤ 9
  · rw [if_pos h9] at hd
    rw [hd]
    exact dec1_any n h9 w
  · rw [if_neg h9] at hd
    rw [hd]
    have e1 : decide ((n : Int) > 9) = true := by simp; omega
    have H1 := Lib.hid (dec1_any (n / 10) (by omega) w)
    have H2 := Lib.hid (dec1_any (n % 10) (by omega) w)
    clear hd h9
    generalize UInt8.ofNat (48 + n / 10) = a at *
    generalize UInt8.ofNat (48 + n % 10) = b at *
    go_enter Tryd.func32, Tryd.ntmps32
    go_wp2_with fail
    go_at_call 32
    refine H1.out.mono ?_
    rintro e u ⟨rfl, rfl⟩
    go_wp2_with fail
    go_at_call 32
    refine H2.out.mono ?_
    rintro e u ⟨rfl, rfl⟩
    go_wp2
    go_ret
    exact ⟨rfl, rfl⟩
end Go.Proofs.YtkladjjeacjgpaaDoor

/-
  A node's text, put together piece by piece: pure facts for hackleref07's Text.
-/
namespace Go.Proofs.YtkladjjeacjgpaaDoor
open Go.RowKit

theorem tail_snoc (sep x : List UInt8) (r : List (List UInt8)) : Lib.joinTail sep (r ++ [x]) = Lib.joinTail sep r ++ (sep ++ x) := by
  simp [Lib.joinTail]
theorem bytes_data (l : List UInt8) : (ByteArray.mk l.toArray).data.toList = l := by simp
theorem app_data (a b : ByteArray) : (a ++ b).data.toList = a.data.toList ++ b.data.toList := by simp [ByteArray.data_append]
theorem bytes_ext {a b : ByteArray} (h : a.data.toList = b.data.toList) : a = b := by
  apply ByteArray.ext
  exact Array.toList_inj.mp h
theorem joinB_nil (sep : ByteArray) : joinB [] sep = ⟨#[]⟩ := by unfold joinB; rw [List.map_nil, Lib.join_nil]
theorem joinB_data (ps : List ByteArray) (sep : ByteArray) : (joinB ps sep).data.toList = Lib.join (ps.map (·.data.toList)) sep.data.toList := by unfold joinB; simp
theorem joinB_snoc (ps : List ByteArray) (p sep : ByteArray) (h : ps ≠ []) : joinB (ps ++ [p]) sep = (joinB ps sep ++ sep) ++ p := by
  apply bytes_ext
  rw [app_data, app_data, joinB_data, joinB_data]
  cases ps with
  | nil => exact absurd rfl h
  | cons q r => simp only [List.cons_append, List.map_cons, List.map_append, List.map_nil, Lib.join_cons, tail_snoc, List.append_assoc]
theorem joinB_one (p sep : ByteArray) : joinB [p] sep = p := by
  apply bytes_ext
  rw [joinB_data, List.map_cons, List.map_nil, Lib.join_one]
theorem joinB_plain (ps : List ByteArray) (p : ByteArray) : joinB (ps ++ [p]) ⟨#[]⟩ = joinB ps ⟨#[]⟩ ++ p := by
  by_cases h : ps = []
  · subst h
    rw [List.nil_append, joinB_one, joinB_nil]
    apply bytes_ext
    rw [app_data]
    rfl
  · rw [joinB_snoc ps p _ h]
    apply bytes_ext
    simp
theorem take_snoc (ps : List ByteArray) (j : Nat) (h : j < ps.length) : ps.take (j + 1) = ps.take j ++ [ps[j]] := by rw [← List.take_append_getElem h]
theorem app_assoc (a b c : ByteArray) : (a ++ b) ++ c = a ++ (b ++ c) := by
  apply bytes_ext
  simp
theorem sizes_take (ps : List ByteArray) (j : Nat) : sizes (ps.take j) ≤ sizes ps := by
  unfold sizes
  induction ps generalizing j with
  | nil => simp
  | cons p r ih =>
    cases j with
    | zero => simp
    | succ j => simp only [List.take_succ_cons, List.map_cons, List.sum_cons]; have := ih j; omega
theorem piece_le (ps : List ByteArray) (j : Nat) (h : j < ps.length) : ps[j].size ≤ sizes ps := by
  unfold sizes
  induction ps generalizing j with
  | nil => simp at h
  | cons p r ih =>
    cases j with
    | zero => simp; omega
    | succ j => simp only [List.getElem_cons_succ, List.map_cons, List.sum_cons]; have := ih j (by simpa using h); omega
theorem accB_size (ps : List ByteArray) (sep : ByteArray) (h : sep.data.toList.length ≤ 1) (j : Nat) : (joinB (ps.take j) sep).size ≤ sizes ps := Nat.le_trans (joinB_size _ sep h) (sizes_take ps j)
/-- how a kind's Subs hold -/
theorem wrap_two {k' : Int} (s : ByteArray) : wrapB 2 k' s = if k' = 2 ∨ k' = 3 then (⟨#[40]⟩ ++ s) ++ ⟨#[41]⟩ else s := by
  unfold wrapB
  congr 1
  unfold holdsI
  simp only [eq_iff_iff]
  by_cases h3 : k' = 3
  · subst h3; simp
  · by_cases h2 : k' = 2
    · subst h2; simp
    · by_cases h4 : k' = 4
      · subst h4; simp
      · simp [h2, h3, h4]
theorem wrap_three {k' : Int} (s : ByteArray) : wrapB 3 k' s = if k' = 3 then (⟨#[40]⟩ ++ s) ++ ⟨#[41]⟩ else s := by
  unfold wrapB
  congr 1
  unfold holdsI
  simp only [eq_iff_iff]
  by_cases h3 : k' = 3
  · subst h3; simp
  · by_cases h2 : k' = 2
    · subst h2; simp
    · by_cases h4 : k' = 4
      · subst h4; simp
      · simp [h2, h3, h4]
theorem wrap_four {k' : Int} (h : 0 ≤ k' ∧ k' ≤ 4) (s : ByteArray) : wrapB 4 k' s = if 1 < k' then (⟨#[40]⟩ ++ s) ++ ⟨#[41]⟩ else s := by
  unfold wrapB
  congr 1
  unfold holdsI
  simp only [eq_iff_iff]
  by_cases h3 : k' = 3
  · subst h3; simp
  · by_cases h2 : k' = 2
    · subst h2; simp
    · by_cases h4 : k' = 4
      · subst h4; simp
      · simp [h2, h3, h4]; omega
/-- how often, written: the cases of the text -/
theorem times_star (lo hi : Int) (h : hi = -1) (h2 : lo < 2) (h3 : 0 ≤ lo) : timesOf lo hi = (ByteArray.mk #[42, 43]).extract lo.toNat (lo.toNat + 1) := by
  subst h
  have : lo = 0 ∨ lo = 1 := by omega
  rcases this with rfl | rfl
  · rfl
  · rfl
theorem times_may (lo hi : Int) (h : lo = 0) (h2 : hi = 1) : timesOf lo hi = ⟨#[63]⟩ := by subst h; subst h2; rfl
theorem times_open (lo hi : Int) (h : hi = -1) (h2 : ¬ lo < 2) : timesOf lo hi = (⟨#[123]⟩ ++ decB lo) ++ ⟨#[44, 125]⟩ := by
  subst h
  have h0 : (lo == 0) = false := by simp; omega
  have h1 : (lo == 1) = false := by simp; omega
  have h3 : ((-1 : Int) != lo) = true := by simp; omega
  have h4 : decide ((-1 : Int) > lo) = false := by simp; omega
  unfold timesOf timesB
  rw [h0, h1, h3, h4]
  apply bytes_ext
  simp
theorem times_same (lo hi : Int) (h : hi ≠ -1) (h2 : ¬ (lo = 0 ∧ hi = 1)) (h3 : hi = lo) : timesOf lo hi = (⟨#[123]⟩ ++ decB lo) ++ ⟨#[125]⟩ := by
  subst h3
  have h0 : (hi == -1) = false := by simp; omega
  have h1 : ((hi == 0) && (hi == 1)) = false := by simp; omega
  have h4 : (hi != hi) = false := by simp
  have h5 : decide (hi > hi) = false := by simp
  unfold timesOf timesB
  rw [h0, h1, h4, h5]
  simp
theorem times_upto (lo hi : Int) (h : hi ≠ -1) (h2 : ¬ (lo = 0 ∧ hi = 1)) (h3 : lo < hi) : timesOf lo hi = ((((⟨#[123]⟩ ++ decB lo) ++ ⟨#[44]⟩) ++ decB hi)) ++ ⟨#[125]⟩ := by
  have h0 : (hi == -1) = false := by simp; omega
  have h1 : ((lo == 0) && (hi == 1)) = false := by
    by_cases h : lo = 0
    · have : ¬ hi = 1 := fun e => h2 ⟨h, e⟩
      simp [this]
    · simp [h]
  have h4 : (hi != lo) = true := by simp; omega
  have h5 : decide (hi > lo) = true := by simp; omega
  unfold timesOf timesB
  rw [h0, h1, h4, h5]
  apply bytes_ext
  simp
end Go.Proofs.YtkladjjeacjgpaaDoor

/-
  WHAT hackleref07's Text ANSWERS: a tree that may be, written: a contract. Condition: at most 2^20 nodes.
-/
namespace Go.Proofs.YtkladjjeacjgpaaDoor
open Go.RowKit

/-- a Sub put into the round's variable -/
theorem sub_box (wr : World) (k : Int) (m : Nat → Bool) (A : Option Addr) (n c : Nat) (lo hi : Int) : BlkIs (wr.alloc (.cells (reL k m A n c lo hi).toArray 27)) wr.heap.size 27 (reL k m A n c lo hi).toArray ∧
    Below wr.heap.size wr (wr.alloc (.cells (reL k m A n c lo hi).toArray 27)) :=
  ⟨BlkIs.new _ _ _, (Below.refl _ _).alloc (Nat.le_refl _) _⟩
theorem ok_kind (T : Tree) (h : T.ok = true) : 0 ≤ T.kind ∧ T.kind ≤ 4 := by
  cases T with
  | node k m l lo hi =>
    have := okNode_kinds (ok_open h).2
    simp only [Tree.kind]; omega
def TextIs (T : Tree) : Prop := ∀ (v : Value) (w : World), T.At w v → Calls Tryd.prog 17 #[v] w fun e w' => e = .returned (.string (textOf T)) ∧ Below w.heap.size w w'
theorem text_one (l : List Tree) (h : allOk l = true) (hn : nodesL l ≤ 1048576) (k : Int) : sizes (pieces setB k l) ≤ 8589934592 := by
  have := pieces_size setB setB_size k l h
  omega
theorem text_in (T : Tree) (h : T.ok = true) (hn : T.nodes ≤ 1048576) : (textOf T).size ≤ 8589934592 := by
  have := text_size setB setB_size T h
  unfold textOf; omega
theorem piece_at (k : Int) (l : List Tree) (j : Nat) (h : j < l.length) (h' : j < (pieces setB k l).length) : (pieces setB k l)[j] = wrapB k l[j].kind (textOf l[j]) := pieces_get setB k l j h h'

theorem next_cat (ps : List ByteArray) (j : Nat) (h : j < ps.length) : joinB (ps.take (j + 1)) ⟨#[]⟩ = joinB (ps.take j) ⟨#[]⟩ ++ ps[j] := by rw [take_snoc ps j h, joinB_plain]
theorem next_first (ps : List ByteArray) (sep : ByteArray) (j : Nat) (h : j < ps.length) (h0 : j = 0) : joinB (ps.take (j + 1)) sep = joinB (ps.take j) sep ++ ps[j] := by
  subst h0
  rw [take_snoc ps 0 h, List.take_zero, List.nil_append, joinB_one, joinB_nil]
  apply bytes_ext
  rw [app_data]
  rfl
theorem next_more (ps : List ByteArray) (sep : ByteArray) (j : Nat) (h : j < ps.length) (h0 : 0 < j) : joinB (ps.take (j + 1)) sep = (joinB (ps.take j) sep ++ sep) ++ ps[j] := by
  rw [take_snoc ps j h, joinB_snoc]
  intro e
  have := congrArg List.length e
  rw [List.length_take] at this
  simp only [List.length_nil] at this
  omega
theorem wrapped (x s : ByteArray) : x ++ ((⟨#[40]⟩ ++ s) ++ ⟨#[41]⟩) = ((x ++ ⟨#[40]⟩) ++ s) ++ ⟨#[41]⟩ := by simp only [app_assoc]
theorem nodesL_get : ∀ (l : List Tree) (j : Nat) (h : j < l.length), (l[j]).nodes ≤ nodesL l
  | t :: r, 0, _ => by simp [nodesL]
  | t :: r, j + 1, h => by
    have := nodesL_get r j (by simpa using h)
    simp only [List.getElem_cons_succ, nodesL]; omega

set_option maxRecDepth 20000 in
set_option maxHeartbeats 8000000 in
theorem refText_cat (m : Nat → Bool) (l : List Tree) (lo hi : Int) (hne : l ≠ []) (hok : allOk l = true) (hn : nodesL l ≤ 1048576) (IH0 : ∀ t ∈ l, TextIs t) : TextIs (.node 2 m l lo hi) := by
  intro v w hat
  obtain ⟨A, c, rfl, hc, hs⟩ := hat.open
  have HS := Lib.hid hs
  have hbox := BlkIs.new w 27 (reL 2 m A l.length c lo hi).toArray
  have hB0 : Below w.heap.size w (w.alloc (.cells (reL 2 m A l.length c lo hi).toArray 27)) := (Below.refl _ _).alloc (Nat.le_refl _) _
  have HB0 := Lib.hid (And.intro hB0 hbox)
  have hT : textOf (.node 2 m l lo hi) = joinB (pieces setB 2 l) ⟨#[]⟩ := by unfold textOf Tree.text; simp
  obtain ⟨R, hR⟩ : ∃ R, R = textOf (.node 2 m l lo hi) := ⟨_, rfl⟩
  rw [← hR]
  rw [hT] at hR
  have HR := Lib.hid hR
  have hpl := pieces_len setB 2 l
  have hsz := text_one l hok hn 2
  have HSZ := Lib.hid (fun j => Nat.le_trans (accB_size (pieces setB 2 l) ⟨#[]⟩ (by decide) j) hsz)
  have HP := Lib.hid (fun (j : Nat) (h : j < l.length) (h' : j < (pieces setB 2 l).length) => piece_at 2 l j h h')
  have HTS := Lib.hid (fun (j : Nat) (h : j < l.length) => text_in l[j] ((allOk_iff.1 hok) _ (List.getElem_mem h)) (Nat.le_trans (nodesL_get l j h) hn))
  have HKI := Lib.hid (fun (j : Nat) (h : j < l.length) => ok_kind l[j] ((allOk_iff.1 hok) _ (List.getElem_mem h)))
  have HPL := Lib.hid hpl
  have IH := Lib.hid IH0
  have HNE := Lib.hid hne
  clear hat hs IH0 hok hn hbox hB0 hT hR hsz hpl hne
  unfold TextIs at IH
  unfold reV reL at *
  go_enter Tryd.func17, Tryd.ntmps17
  go_wp2
  go_loopw [3, 4] (fun s i wr => ∃ (j : Nat) (acc : ByteArray), s = .string acc ∧ i = .int .i64 j ∧ j ≤ l.length ∧ acc.size ≤ 8589934592 ∧ Hid (acc = joinB ((pieces setB 2 l).take j) ⟨#[]⟩ ∧ Below w.heap.size w wr ∧ BlkIs wr w.heap.size 27 (reL 2 m A l.length c lo hi).toArray)) (fun _ i _ => l.length - (intOf i).toNat)
  case atStart => exact ⟨0, ⟨#[]⟩, rfl, rfl, Nat.zero_le _, by decide, Lib.hid ⟨by rw [List.take_zero, joinB_nil], HB0.out.1, HB0.out.2⟩⟩
  case round =>
    obtain ⟨j, acc, rfl, rfl, hj, hacc, HH⟩ := hrel
    obtain ⟨ha, hb, hbl⟩ := HH.out
    have HB := Lib.hid HH.out.2
    have HA := Lib.hid ha
    unfold reL at hbl
    obtain ⟨c0, c1, c2, c3, c4, c5, c6, c7⟩ := hbl.eight
    by_cases hp : j < l.length
    · have hdl : decide ((j : Int) < (l.length : Int)) = true := by simp; omega
      obtain ⟨b, o, rfl, hbw, hg⟩ := HS.out HNE.out
      obtain ⟨cs, hcat, hlen, hrow⟩ := hg j hp
      obtain ⟨A', n', c', rfl⟩ := hcat.eight
      obtain ⟨r0, r1, r2, r3, r4, r5, r6, r7⟩ := row_eight hrow hb
      have hp' : j < (pieces setB 2 l).length := by rw [HPL.out]; exact hp
      have hns := HSZ.out (j + 1)
      have hx := sub_box wr (l[j]).kind (l[j]).set A' n' c' (l[j]).lo (l[j]).hi
      have hcall := fun W9 (h9 : Below wr.heap.size wr W9) => IH.out _ (List.getElem_mem hp) _ W9 ((hcat.step hb).step h9)
      have htx := HTS.out j hp
      have hk1 : IntKind.i64.wrap ((j : Int) + 1) = ((j + 1 : Nat) : Int) := by rw [IntKind.wrap_i64]; have := hc; omega
      obtain ⟨W9, hW9⟩ : ∃ W9, wr.alloc (.cells (reL (l[j]).kind (l[j]).set A' n' c' (l[j]).lo (l[j]).hi).toArray 27) = W9 := ⟨_, rfl⟩
      rw [hW9] at hx
      have HX := Lib.hid hx
      have hcx := hcall W9 hx.2
      have hpj := HP.out j hp hp'
      have hki := HKI.out j hp
      have hxe := hx.1
      unfold reV reL at *
      obtain ⟨x0, x1, x2, x3, x4, x5, x6, x7⟩ := hxe.eight
      obtain ⟨d0, d1, d2, d3, d4, d5, d6, d7⟩ := (hbl.step hx.2).eight
      generalize (l[j]).kind = kx at *
      generalize (l[j]).set = mx at *
      generalize (l[j]).lo = lx at *
      generalize (l[j]).hi = hx' at *
      generalize textOf l[j] = tx at *
      have HC := Lib.hid hcx
      skip
      have HXB := Lib.hid hxe
      clear hrow hcat hcall hcx hg hb hbl hx hxe hc hlen ha
      by_cases hj0 : 0 < j
      · skip
        by_cases hk2 : kx = 2
        · skip
          have e0 : decide ((j : Int) > 0) = true := by simp; omega
          have e0b : decide (0 < (j : Int)) = true := by simp; omega
          have e0c : decide (0 < j) = true := by simp; omega
          have e2 : (kx == 2) = true := by simp; omega
          have hE : joinB ((pieces setB 2 l).take (j + 1)) ⟨#[]⟩ = (((acc ++ ⟨#[40]⟩) ++ tx) ++ ⟨#[41]⟩) := by
            rw [next_cat _ j hp', hpj, ← HA.out, wrap_two, if_pos (by omega), wrapped]
          rw [hE] at hns
          have HE := Lib.hid (And.intro hE hns)
          have hz1 : (ByteArray.mk #[40]).size = 1 := rfl
          have hz2 : (ByteArray.mk #[41]).size = 1 := rfl
          have hz3 : (ByteArray.mk #[124]).size = 1 := rfl
          have HPJ := Lib.hid hpj
          clear hE hns hpj hki
          try clear hk2
          try clear hk3
          try clear hk4
          try clear hj0
          go_wp2_with fail
          go_at_call 17
          refine HC.out.mono ?_
          rintro e u ⟨rfl, hbu⟩
          have HU := Lib.hid (And.intro (HB.out.1.trans ((HX.out.2.trans (hbu.mono HX.out.2.size)).mono HB.out.1.size)) ((HB.out.2.step HX.out.2).step hbu))
          clear hbu c0 c1 c2 c3 c4 c5 c6 c7 d0 d1 d2 d3 d4 d5 d6 d7 x0 x1 x2 x3 x4 x5 x6 x7 r0 r1 r2 r3 r4 r5 r6 r7
          go_wp2
          exact ⟨⟨j + 1, _, rfl, by go_num, hp, HE.out.2, Lib.hid ⟨HE.out.1.symm, HU.out.1, HU.out.2⟩⟩, by simp [intOf]; omega⟩
        · by_cases hk3 : kx = 3
          · skip
            have e0 : decide ((j : Int) > 0) = true := by simp; omega
            have e0b : decide (0 < (j : Int)) = true := by simp; omega
            have e0c : decide (0 < j) = true := by simp; omega
            have e2 : (kx == 2) = false := by simp; omega
            have e3 : (kx == 3) = true := by simp; omega
            have hE : joinB ((pieces setB 2 l).take (j + 1)) ⟨#[]⟩ = (((acc ++ ⟨#[40]⟩) ++ tx) ++ ⟨#[41]⟩) := by
              rw [next_cat _ j hp', hpj, ← HA.out, wrap_two, if_pos (by omega), wrapped]
            rw [hE] at hns
            have HE := Lib.hid (And.intro hE hns)
            have hz1 : (ByteArray.mk #[40]).size = 1 := rfl
            have hz2 : (ByteArray.mk #[41]).size = 1 := rfl
            have hz3 : (ByteArray.mk #[124]).size = 1 := rfl
            have HPJ := Lib.hid hpj
            clear hE hns hpj hki
            try clear hk2
            try clear hk3
            try clear hk4
            try clear hj0
            go_wp2_with fail
            go_at_call 17
            refine HC.out.mono ?_
            rintro e u ⟨rfl, hbu⟩
            have HU := Lib.hid (And.intro (HB.out.1.trans ((HX.out.2.trans (hbu.mono HX.out.2.size)).mono HB.out.1.size)) ((HB.out.2.step HX.out.2).step hbu))
            clear hbu c0 c1 c2 c3 c4 c5 c6 c7 d0 d1 d2 d3 d4 d5 d6 d7 x0 x1 x2 x3 x4 x5 x6 x7 r0 r1 r2 r3 r4 r5 r6 r7
            go_wp2
            exact ⟨⟨j + 1, _, rfl, by go_num, hp, HE.out.2, Lib.hid ⟨HE.out.1.symm, HU.out.1, HU.out.2⟩⟩, by simp [intOf]; omega⟩
          · skip
            have e0 : decide ((j : Int) > 0) = true := by simp; omega
            have e0b : decide (0 < (j : Int)) = true := by simp; omega
            have e0c : decide (0 < j) = true := by simp; omega
            have e2 : (kx == 2) = false := by simp; omega
            have e3 : (kx == 3) = false := by simp; omega
            have hE : joinB ((pieces setB 2 l).take (j + 1)) ⟨#[]⟩ = (acc ++ tx) := by
              rw [next_cat _ j hp', hpj, ← HA.out, wrap_two, if_neg (by omega)]
            rw [hE] at hns
            have HE := Lib.hid (And.intro hE hns)
            have hz1 : (ByteArray.mk #[40]).size = 1 := rfl
            have hz2 : (ByteArray.mk #[41]).size = 1 := rfl
            have hz3 : (ByteArray.mk #[124]).size = 1 := rfl
            have HPJ := Lib.hid hpj
            clear hE hns hpj hki
            try clear hk2
            try clear hk3
            try clear hk4
            try clear hj0
            go_wp2_with fail
            go_at_call 17
            refine HC.out.mono ?_
            rintro e u ⟨rfl, hbu⟩
            have HU := Lib.hid (And.intro (HB.out.1.trans ((HX.out.2.trans (hbu.mono HX.out.2.size)).mono HB.out.1.size)) ((HB.out.2.step HX.out.2).step hbu))
            clear hbu c0 c1 c2 c3 c4 c5 c6 c7 d0 d1 d2 d3 d4 d5 d6 d7 x0 x1 x2 x3 x4 x5 x6 x7 r0 r1 r2 r3 r4 r5 r6 r7
            go_wp2
            exact ⟨⟨j + 1, _, rfl, by go_num, hp, HE.out.2, Lib.hid ⟨HE.out.1.symm, HU.out.1, HU.out.2⟩⟩, by simp [intOf]; omega⟩
      · skip
        by_cases hk2 : kx = 2
        · skip
          have e0 : decide ((j : Int) > 0) = false := by simp; omega
          have e0b : decide (0 < (j : Int)) = false := by simp; omega
          have e0c : decide (0 < j) = false := by simp; omega
          have e2 : (kx == 2) = true := by simp; omega
          have hE : joinB ((pieces setB 2 l).take (j + 1)) ⟨#[]⟩ = (((acc ++ ⟨#[40]⟩) ++ tx) ++ ⟨#[41]⟩) := by
            rw [next_cat _ j hp', hpj, ← HA.out, wrap_two, if_pos (by omega), wrapped]
          rw [hE] at hns
          have HE := Lib.hid (And.intro hE hns)
          have hz1 : (ByteArray.mk #[40]).size = 1 := rfl
          have hz2 : (ByteArray.mk #[41]).size = 1 := rfl
          have hz3 : (ByteArray.mk #[124]).size = 1 := rfl
          have HPJ := Lib.hid hpj
          clear hE hns hpj hki
          try clear hk2
          try clear hk3
          try clear hk4
          try clear hj0
          go_wp2_with fail
          go_at_call 17
          refine HC.out.mono ?_
          rintro e u ⟨rfl, hbu⟩
          have HU := Lib.hid (And.intro (HB.out.1.trans ((HX.out.2.trans (hbu.mono HX.out.2.size)).mono HB.out.1.size)) ((HB.out.2.step HX.out.2).step hbu))
          clear hbu c0 c1 c2 c3 c4 c5 c6 c7 d0 d1 d2 d3 d4 d5 d6 d7 x0 x1 x2 x3 x4 x5 x6 x7 r0 r1 r2 r3 r4 r5 r6 r7
          go_wp2
          exact ⟨⟨j + 1, _, rfl, by go_num, hp, HE.out.2, Lib.hid ⟨HE.out.1.symm, HU.out.1, HU.out.2⟩⟩, by simp [intOf]; omega⟩
        · by_cases hk3 : kx = 3
          · skip
            have e0 : decide ((j : Int) > 0) = false := by simp; omega
            have e0b : decide (0 < (j : Int)) = false := by simp; omega
            have e0c : decide (0 < j) = false := by simp; omega
            have e2 : (kx == 2) = false := by simp; omega
            have e3 : (kx == 3) = true := by simp; omega
            have hE : joinB ((pieces setB 2 l).take (j + 1)) ⟨#[]⟩ = (((acc ++ ⟨#[40]⟩) ++ tx) ++ ⟨#[41]⟩) := by
              rw [next_cat _ j hp', hpj, ← HA.out, wrap_two, if_pos (by omega), wrapped]
            rw [hE] at hns
            have HE := Lib.hid (And.intro hE hns)
            have hz1 : (ByteArray.mk #[40]).size = 1 := rfl
            have hz2 : (ByteArray.mk #[41]).size = 1 := rfl
            have hz3 : (ByteArray.mk #[124]).size = 1 := rfl
            have HPJ := Lib.hid hpj
            clear hE hns hpj hki
            try clear hk2
            try clear hk3
            try clear hk4
            try clear hj0
            go_wp2_with fail
            go_at_call 17
            refine HC.out.mono ?_
            rintro e u ⟨rfl, hbu⟩
            have HU := Lib.hid (And.intro (HB.out.1.trans ((HX.out.2.trans (hbu.mono HX.out.2.size)).mono HB.out.1.size)) ((HB.out.2.step HX.out.2).step hbu))
            clear hbu c0 c1 c2 c3 c4 c5 c6 c7 d0 d1 d2 d3 d4 d5 d6 d7 x0 x1 x2 x3 x4 x5 x6 x7 r0 r1 r2 r3 r4 r5 r6 r7
            go_wp2
            exact ⟨⟨j + 1, _, rfl, by go_num, hp, HE.out.2, Lib.hid ⟨HE.out.1.symm, HU.out.1, HU.out.2⟩⟩, by simp [intOf]; omega⟩
          · skip
            have e0 : decide ((j : Int) > 0) = false := by simp; omega
            have e0b : decide (0 < (j : Int)) = false := by simp; omega
            have e0c : decide (0 < j) = false := by simp; omega
            have e2 : (kx == 2) = false := by simp; omega
            have e3 : (kx == 3) = false := by simp; omega
            have hE : joinB ((pieces setB 2 l).take (j + 1)) ⟨#[]⟩ = (acc ++ tx) := by
              rw [next_cat _ j hp', hpj, ← HA.out, wrap_two, if_neg (by omega)]
            rw [hE] at hns
            have HE := Lib.hid (And.intro hE hns)
            have hz1 : (ByteArray.mk #[40]).size = 1 := rfl
            have hz2 : (ByteArray.mk #[41]).size = 1 := rfl
            have hz3 : (ByteArray.mk #[124]).size = 1 := rfl
            have HPJ := Lib.hid hpj
            clear hE hns hpj hki
            try clear hk2
            try clear hk3
            try clear hk4
            try clear hj0
            go_wp2_with fail
            go_at_call 17
            refine HC.out.mono ?_
            rintro e u ⟨rfl, hbu⟩
            have HU := Lib.hid (And.intro (HB.out.1.trans ((HX.out.2.trans (hbu.mono HX.out.2.size)).mono HB.out.1.size)) ((HB.out.2.step HX.out.2).step hbu))
            clear hbu c0 c1 c2 c3 c4 c5 c6 c7 d0 d1 d2 d3 d4 d5 d6 d7 x0 x1 x2 x3 x4 x5 x6 x7 r0 r1 r2 r3 r4 r5 r6 r7
            go_wp2
            exact ⟨⟨j + 1, _, rfl, by go_num, hp, HE.out.2, Lib.hid ⟨HE.out.1.symm, HU.out.1, HU.out.2⟩⟩, by simp [intOf]; omega⟩
    · have hdl : decide ((j : Int) < (l.length : Int)) = false := by simp; omega
      have hfin : joinB (pieces setB 2 l) ⟨#[]⟩ = acc := by rw [HA.out, List.take_of_length_le (by rw [HPL.out]; omega)]
      have HFIN := Lib.hid hfin
      clear hfin ha hb hbl hc
      go_wp2
      go_ret
      exact ⟨by rw [HR.out, HFIN.out]; rfl, HH.out.2.1⟩
set_option maxRecDepth 20000 in
set_option maxHeartbeats 8000000 in
theorem refText_alt (m : Nat → Bool) (l : List Tree) (lo hi : Int) (hne : l ≠ []) (hok : allOk l = true) (hn : nodesL l ≤ 1048576) (IH0 : ∀ t ∈ l, TextIs t) : TextIs (.node 3 m l lo hi) := by
  intro v w hat
  obtain ⟨A, c, rfl, hc, hs⟩ := hat.open
  have HS := Lib.hid hs
  have hbox := BlkIs.new w 27 (reL 3 m A l.length c lo hi).toArray
  have hB0 : Below w.heap.size w (w.alloc (.cells (reL 3 m A l.length c lo hi).toArray 27)) := (Below.refl _ _).alloc (Nat.le_refl _) _
  have HB0 := Lib.hid (And.intro hB0 hbox)
  have hT : textOf (.node 3 m l lo hi) = joinB (pieces setB 3 l) ⟨#[124]⟩ := by unfold textOf Tree.text; simp
  obtain ⟨R, hR⟩ : ∃ R, R = textOf (.node 3 m l lo hi) := ⟨_, rfl⟩
  rw [← hR]
  rw [hT] at hR
  have HR := Lib.hid hR
  have hpl := pieces_len setB 3 l
  have hsz := text_one l hok hn 3
  have HSZ := Lib.hid (fun j => Nat.le_trans (accB_size (pieces setB 3 l) ⟨#[124]⟩ (by decide) j) hsz)
  have HP := Lib.hid (fun (j : Nat) (h : j < l.length) (h' : j < (pieces setB 3 l).length) => piece_at 3 l j h h')
  have HTS := Lib.hid (fun (j : Nat) (h : j < l.length) => text_in l[j] ((allOk_iff.1 hok) _ (List.getElem_mem h)) (Nat.le_trans (nodesL_get l j h) hn))
  have HKI := Lib.hid (fun (j : Nat) (h : j < l.length) => ok_kind l[j] ((allOk_iff.1 hok) _ (List.getElem_mem h)))
  have HPL := Lib.hid hpl
  have IH := Lib.hid IH0
  have HNE := Lib.hid hne
  clear hat hs IH0 hok hn hbox hB0 hT hR hsz hpl hne
  unfold TextIs at IH
  unfold reV reL at *
  go_enter Tryd.func17, Tryd.ntmps17
  go_wp2
  go_loopw [3, 4] (fun s i wr => ∃ (j : Nat) (acc : ByteArray), s = .string acc ∧ i = .int .i64 j ∧ j ≤ l.length ∧ acc.size ≤ 8589934592 ∧ Hid (acc = joinB ((pieces setB 3 l).take j) ⟨#[124]⟩ ∧ Below w.heap.size w wr ∧ BlkIs wr w.heap.size 27 (reL 3 m A l.length c lo hi).toArray)) (fun _ i _ => l.length - (intOf i).toNat)
  case atStart => exact ⟨0, ⟨#[]⟩, rfl, rfl, Nat.zero_le _, by decide, Lib.hid ⟨by rw [List.take_zero, joinB_nil], HB0.out.1, HB0.out.2⟩⟩
  case round =>
    obtain ⟨j, acc, rfl, rfl, hj, hacc, HH⟩ := hrel
    obtain ⟨ha, hb, hbl⟩ := HH.out
    have HB := Lib.hid HH.out.2
    have HA := Lib.hid ha
    unfold reL at hbl
    obtain ⟨c0, c1, c2, c3, c4, c5, c6, c7⟩ := hbl.eight
    by_cases hp : j < l.length
    · have hdl : decide ((j : Int) < (l.length : Int)) = true := by simp; omega
      obtain ⟨b, o, rfl, hbw, hg⟩ := HS.out HNE.out
      obtain ⟨cs, hcat, hlen, hrow⟩ := hg j hp
      obtain ⟨A', n', c', rfl⟩ := hcat.eight
      obtain ⟨r0, r1, r2, r3, r4, r5, r6, r7⟩ := row_eight hrow hb
      have hp' : j < (pieces setB 3 l).length := by rw [HPL.out]; exact hp
      have hns := HSZ.out (j + 1)
      have hx := sub_box wr (l[j]).kind (l[j]).set A' n' c' (l[j]).lo (l[j]).hi
      have hcall := fun W9 (h9 : Below wr.heap.size wr W9) => IH.out _ (List.getElem_mem hp) _ W9 ((hcat.step hb).step h9)
      have htx := HTS.out j hp
      have hk1 : IntKind.i64.wrap ((j : Int) + 1) = ((j + 1 : Nat) : Int) := by rw [IntKind.wrap_i64]; have := hc; omega
      obtain ⟨W9, hW9⟩ : ∃ W9, wr.alloc (.cells (reL (l[j]).kind (l[j]).set A' n' c' (l[j]).lo (l[j]).hi).toArray 27) = W9 := ⟨_, rfl⟩
      rw [hW9] at hx
      have HX := Lib.hid hx
      have hcx := hcall W9 hx.2
      have hpj := HP.out j hp hp'
      have hki := HKI.out j hp
      have hxe := hx.1
      unfold reV reL at *
      obtain ⟨x0, x1, x2, x3, x4, x5, x6, x7⟩ := hxe.eight
      obtain ⟨d0, d1, d2, d3, d4, d5, d6, d7⟩ := (hbl.step hx.2).eight
      generalize (l[j]).kind = kx at *
      generalize (l[j]).set = mx at *
      generalize (l[j]).lo = lx at *
      generalize (l[j]).hi = hx' at *
      generalize textOf l[j] = tx at *
      have HC := Lib.hid hcx
      skip
      have HXB := Lib.hid hxe
      clear hrow hcat hcall hcx hg hb hbl hx hxe hc hlen ha
      by_cases hj0 : 0 < j
      · skip
        by_cases hk3 : kx = 3
        · skip
          have e0 : decide ((j : Int) > 0) = true := by simp; omega
          have e0b : decide (0 < (j : Int)) = true := by simp; omega
          have e0c : decide (0 < j) = true := by simp; omega
          have e3 : (kx == 3) = true := by simp; omega
          have hE : joinB ((pieces setB 3 l).take (j + 1)) ⟨#[124]⟩ = ((((acc ++ ⟨#[124]⟩) ++ ⟨#[40]⟩) ++ tx) ++ ⟨#[41]⟩) := by
            rw [next_more _ _ j hp' (by omega), hpj, ← HA.out, wrap_three, if_pos (by omega), wrapped]
          rw [hE] at hns
          have HE := Lib.hid (And.intro hE hns)
          have hz1 : (ByteArray.mk #[40]).size = 1 := rfl
          have hz2 : (ByteArray.mk #[41]).size = 1 := rfl
          have hz3 : (ByteArray.mk #[124]).size = 1 := rfl
          have HPJ := Lib.hid hpj
          clear hE hns hpj hki
          try clear hk2
          try clear hk3
          try clear hk4
          try clear hj0
          go_wp2_with fail
          go_at_call 17
          refine HC.out.mono ?_
          rintro e u ⟨rfl, hbu⟩
          have HU := Lib.hid (And.intro (HB.out.1.trans ((HX.out.2.trans (hbu.mono HX.out.2.size)).mono HB.out.1.size)) ((HB.out.2.step HX.out.2).step hbu))
          clear hbu c0 c1 c2 c3 c4 c5 c6 c7 d0 d1 d2 d3 d4 d5 d6 d7 x0 x1 x2 x3 x4 x5 x6 x7 r0 r1 r2 r3 r4 r5 r6 r7
          go_wp2
          exact ⟨⟨j + 1, _, rfl, by go_num, hp, HE.out.2, Lib.hid ⟨HE.out.1.symm, HU.out.1, HU.out.2⟩⟩, by simp [intOf]; omega⟩
        · skip
          have e0 : decide ((j : Int) > 0) = true := by simp; omega
          have e0b : decide (0 < (j : Int)) = true := by simp; omega
          have e0c : decide (0 < j) = true := by simp; omega
          have e3 : (kx == 3) = false := by simp; omega
          have hE : joinB ((pieces setB 3 l).take (j + 1)) ⟨#[124]⟩ = ((acc ++ ⟨#[124]⟩) ++ tx) := by
            rw [next_more _ _ j hp' (by omega), hpj, ← HA.out, wrap_three, if_neg (by omega)]
          rw [hE] at hns
          have HE := Lib.hid (And.intro hE hns)
          have hz1 : (ByteArray.mk #[40]).size = 1 := rfl
          have hz2 : (ByteArray.mk #[41]).size = 1 := rfl
          have hz3 : (ByteArray.mk #[124]).size = 1 := rfl
          have HPJ := Lib.hid hpj
          clear hE hns hpj hki
          try clear hk2
          try clear hk3
          try clear hk4
          try clear hj0
          go_wp2_with fail
          go_at_call 17
          refine HC.out.mono ?_
          rintro e u ⟨rfl, hbu⟩
          have HU := Lib.hid (And.intro (HB.out.1.trans ((HX.out.2.trans (hbu.mono HX.out.2.size)).mono HB.out.1.size)) ((HB.out.2.step HX.out.2).step hbu))
          clear hbu c0 c1 c2 c3 c4 c5 c6 c7 d0 d1 d2 d3 d4 d5 d6 d7 x0 x1 x2 x3 x4 x5 x6 x7 r0 r1 r2 r3 r4 r5 r6 r7
          go_wp2
          exact ⟨⟨j + 1, _, rfl, by go_num, hp, HE.out.2, Lib.hid ⟨HE.out.1.symm, HU.out.1, HU.out.2⟩⟩, by simp [intOf]; omega⟩
      · skip
        by_cases hk3 : kx = 3
        · skip
          have e0 : decide ((j : Int) > 0) = false := by simp; omega
          have e0b : decide (0 < (j : Int)) = false := by simp; omega
          have e0c : decide (0 < j) = false := by simp; omega
          have e3 : (kx == 3) = true := by simp; omega
          have hE : joinB ((pieces setB 3 l).take (j + 1)) ⟨#[124]⟩ = (((acc ++ ⟨#[40]⟩) ++ tx) ++ ⟨#[41]⟩) := by
            rw [next_first _ _ j hp' (by omega), hpj, ← HA.out, wrap_three, if_pos (by omega), wrapped]
          rw [hE] at hns
          have HE := Lib.hid (And.intro hE hns)
          have hz1 : (ByteArray.mk #[40]).size = 1 := rfl
          have hz2 : (ByteArray.mk #[41]).size = 1 := rfl
          have hz3 : (ByteArray.mk #[124]).size = 1 := rfl
          have HPJ := Lib.hid hpj
          clear hE hns hpj hki
          try clear hk2
          try clear hk3
          try clear hk4
          try clear hj0
          go_wp2_with fail
          go_at_call 17
          refine HC.out.mono ?_
          rintro e u ⟨rfl, hbu⟩
          have HU := Lib.hid (And.intro (HB.out.1.trans ((HX.out.2.trans (hbu.mono HX.out.2.size)).mono HB.out.1.size)) ((HB.out.2.step HX.out.2).step hbu))
          clear hbu c0 c1 c2 c3 c4 c5 c6 c7 d0 d1 d2 d3 d4 d5 d6 d7 x0 x1 x2 x3 x4 x5 x6 x7 r0 r1 r2 r3 r4 r5 r6 r7
          go_wp2
          exact ⟨⟨j + 1, _, rfl, by go_num, hp, HE.out.2, Lib.hid ⟨HE.out.1.symm, HU.out.1, HU.out.2⟩⟩, by simp [intOf]; omega⟩
        · skip
          have e0 : decide ((j : Int) > 0) = false := by simp; omega
          have e0b : decide (0 < (j : Int)) = false := by simp; omega
          have e0c : decide (0 < j) = false := by simp; omega
          have e3 : (kx == 3) = false := by simp; omega
          have hE : joinB ((pieces setB 3 l).take (j + 1)) ⟨#[124]⟩ = (acc ++ tx) := by
            rw [next_first _ _ j hp' (by omega), hpj, ← HA.out, wrap_three, if_neg (by omega)]
          rw [hE] at hns
          have HE := Lib.hid (And.intro hE hns)
          have hz1 : (ByteArray.mk #[40]).size = 1 := rfl
          have hz2 : (ByteArray.mk #[41]).size = 1 := rfl
          have hz3 : (ByteArray.mk #[124]).size = 1 := rfl
          have HPJ := Lib.hid hpj
          clear hE hns hpj hki
          try clear hk2
          try clear hk3
          try clear hk4
          try clear hj0
          go_wp2_with fail
          go_at_call 17
          refine HC.out.mono ?_
          rintro e u ⟨rfl, hbu⟩
          have HU := Lib.hid (And.intro (HB.out.1.trans ((HX.out.2.trans (hbu.mono HX.out.2.size)).mono HB.out.1.size)) ((HB.out.2.step HX.out.2).step hbu))
          clear hbu c0 c1 c2 c3 c4 c5 c6 c7 d0 d1 d2 d3 d4 d5 d6 d7 x0 x1 x2 x3 x4 x5 x6 x7 r0 r1 r2 r3 r4 r5 r6 r7
          go_wp2
          exact ⟨⟨j + 1, _, rfl, by go_num, hp, HE.out.2, Lib.hid ⟨HE.out.1.symm, HU.out.1, HU.out.2⟩⟩, by simp [intOf]; omega⟩
    · have hdl : decide ((j : Int) < (l.length : Int)) = false := by simp; omega
      have hfin : joinB (pieces setB 3 l) ⟨#[124]⟩ = acc := by rw [HA.out, List.take_of_length_le (by rw [HPL.out]; omega)]
      have HFIN := Lib.hid hfin
      clear hfin ha hb hbl hc
      go_wp2
      go_ret
      exact ⟨by rw [HR.out, HFIN.out]; rfl, HH.out.2.1⟩
end Go.Proofs.YtkladjjeacjgpaaDoor

