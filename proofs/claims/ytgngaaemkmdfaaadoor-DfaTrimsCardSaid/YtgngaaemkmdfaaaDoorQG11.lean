/-
  THE MAKER OF SUBSETS AND ALL THAT IT HOLDS: each block has a part of its own, so that who writes one leaves the others. No condition.
-/
import Derived.Maps.OwnSet
import Derived.Maps.AppendAt
import Derived.Test.YtgngaaemkmdfaaaDoorQG08
import Derived.Test.YtgngaaemkmdfaaaDoorQG10
import Derived.Test.YtgngaaemkmdfaaaDoorQG04
namespace Go.Proofs.YtgngaaemkmdfaaaDoor
section
open Go.RowKit

theorem ownD_heap {W W' : World} {B : Nat} {t : TypeId} {z n : Nat} {v : Value} {xs : List Value} (h : W.ownsRow B t z v n xs) (hk : ∀ k, v.ownBlock = some k → W'.heap[k]? = W.heap[k]?) : W'.ownsRow B t z v n xs := by
  refine ⟨h.1, h.2.imp id ?_⟩
  rintro ⟨g, cap, cur, rfl, h1, h2, h3⟩
  exact ⟨g, cap, cur, rfl, h1, (hk g rfl).trans h2, h3⟩
def Tn (o : Option Nat) (u u' : World) : Prop := u.heap.size ≤ u'.heap.size ∧ (∀ k, k < u.heap.size → o ≠ some k → u'.heap[k]? = u.heap[k]?) ∧ (∀ (B : Nat) (W0 : World), B ≤ u.heap.size → (∀ k, o = some k → B ≤ k) → Below B W0 u → Below B W0 u')
theorem Tn.refl (o : Option Nat) (u : World) : Tn o u u := ⟨Nat.le_refl _, fun _ _ _ => rfl, fun _ _ _ _ h => h⟩
theorem Tn.trans {o : Option Nat} {u v w : World} (h : Tn o u v) (h' : Tn o v w) : Tn o u w :=
  ⟨Nat.le_trans h.1 h'.1, fun k hk ho => (h'.2.1 k (Nat.lt_of_lt_of_le hk h.1) ho).trans (h.2.1 k hk ho), fun B W0 hB ho hb => h'.2.2 B W0 (Nat.le_trans hB h.1) ho (h.2.2 B W0 hB ho hb)⟩
theorem Tn.below {o : Option Nat} {u u' : World} (h : Below u.heap.size u u') : Tn o u u' :=
  ⟨h.size, fun k hk _ => h.block k hk, fun _ _ hB _ hb => hb.trans (h.mono hB)⟩
theorem Tn.grown {o : Option Nat} {u u' : World} (h : u.grownBy u' o) : Tn o u u' :=
  ⟨h.size, fun k hk ho => h.block k hk (fun e => ho e.symm), fun _ _ hB ho hb => hb.grown h hB ho⟩
theorem Tn.wrote {g : Nat} {u u' : World} (h : Wrote g u u') : Tn (some g) u u' :=
  ⟨Nat.le_of_eq h.2.2.symm, fun k _ ho => h.1 k (fun e => ho (by rw [e])), fun B W0 _ ho hb => h.2.1 B W0 (ho g rfl) hb⟩

def rowsC (l : List (Nat → Bool)) : List Value := l.flatMap fun f => (rowA f).toList
theorem rowsC_app (a b : List (Nat → Bool)) : rowsC (a ++ b) = rowsC a ++ rowsC b := by simp [rowsC]
theorem rowsC_one (l : List (Nat → Bool)) : ∀ u ∈ rowsC l, u.oneCell' = true := by
  intro u hu
  obtain ⟨f, _, h⟩ := List.mem_flatMap.1 hu
  have := rowA_one f
  rw [Array.all_eq_true_iff_forall_mem] at this
  exact this u (Array.mem_toList_iff.1 h)
theorem rowsC_get : ∀ (l : List (Nat → Bool)) (i : Nat) (h : i < l.length) (k : Nat), k < 32 → (rowsC l)[i * 32 + k]? = some (rowP l[i] k)
  | f :: r, 0, _, k, hk => by
    simp only [rowsC, List.flatMap_cons, Nat.zero_mul, Nat.zero_add, List.getElem_cons_zero]
    rw [List.getElem?_append_left (by rw [Array.length_toList, rowA_size]; exact hk), Array.getElem?_toList, rowA_get f hk]
  | f :: r, i + 1, h, k, hk => by
    have hl : (rowA f).toList.length = 32 := by rw [Array.length_toList, rowA_size]
    have := rowsC_get r i (by simpa using h) k hk
    simp only [rowsC, List.flatMap_cons, List.getElem_cons_succ] at this ⊢
    rw [List.getElem?_append_right (by rw [hl]; omega), hl, show (i + 1) * 32 + k - 32 = i * 32 + k by omega]
    exact this
def RowsP (B : Nat) (W : World) (v : Value) (l : List (Nat → Bool)) : Prop := W.ownsRow B 76 32 v l.length (rowsC l)
theorem RowsP.nil (B : Nat) (W : World) : RowsP B W (.slice none 0 0) [] := World.ownsRow_nil _ _ _ _
theorem RowsP.heap {B : Nat} {W W' : World} {v : Value} {l : List (Nat → Bool)} (h : RowsP B W v l) (hk : ∀ k, v.ownBlock = some k → W'.heap[k]? = W.heap[k]?) : RowsP B W' v l := ownD_heap h hk
theorem RowsP.form {B : Nat} {W : World} {v : Value} {l : List (Nat → Bool)} (h : RowsP B W v l) : ∃ A c, v = .slice A l.length c ∧ (l.length ≤ c ∧ c ≤ 9223372036854775807) := by
  rcases h.2 with ⟨rfl, h0⟩ | ⟨g, cap, cur, rfl, _, _, h1, h2, _⟩
  · exact ⟨none, 0, by rw [h0], by omega, by omega⟩
  · exact ⟨_, cap, rfl, h1, by unfold maxLen at h2; omega⟩
theorem RowsP.at {B : Nat} {W : World} {v : Value} {l : List (Nat → Bool)} (h : RowsP B W v l) (i : Nat) (hi : i < l.length) : ∃ b c, v = .slice (some ⟨b, 0, none⟩) l.length c ∧ v.ownBlock = some b ∧ b < W.heap.size ∧ RowAt W b (i * 32) l[i] := by
  rcases h.2 with ⟨rfl, h0⟩ | ⟨g, cap, cur, rfl, h1, h2, h3⟩
  · omega
  · refine ⟨g, cap, rfl, rfl, (Array.getElem?_eq_some_iff.1 h2).1, fun k hk => ?_⟩
    have := World.ownsRow.cells (g := g) h rfl (i * 32 + k) _ (rowsC_get l i hi k hk)
    rw [Addr.add_lit, Nat.zero_add] at this
    exact this
theorem info_rowP : (Tryd.prog.info? 76).map (fun i => (i.zero, i.size, i.bytes)) = some (some (.agg (rowA fun _ => false)), 32, 256) := by kernel_rfl
theorem append_keepsD {P : Program} {w w' : World} {base : Nat} {t ty e : TypeId} {i : TypeInfo} {z : Value} {size bytes : Nat} (ht : P.underlying t = some (.slice e)) (hi : P.info? e = some i) (hz : i.zero = some z)
    (hsize : i.size = size) (hby : i.bytes = bytes) {v v' : Value} {n : Nat} {xs : List Value} (hown : w.ownsRow base e size v n xs)
    {a : Addr} {m c : Nat} {news : List Value} (hl : news.length = m * size) (hnews : ∀ j u, news[j]? = some u → w.cell? (a.add j) = some u) (h1 : ∀ u ∈ news, u.oneCell' = true)
    (h63 : n + m ≤ maxLen) (hbytes : (n + m) * bytes ≤ 140737488355328) (hr : (Builtin.append_ #[t, t] ty #[v, .slice (some a) m c]).run P w = .ok v' w') : w'.ownsRow base e size v n xs := by
  subst hsize
  subst hby
  rcases hown.2 with ⟨rfl, rfl⟩ | ⟨g, cap, cur, rfl, hbg, hg, hnc, hcm, hcs, htake⟩
  · have hx : xs = [] := List.eq_nil_of_length_eq_zero (by simpa using hown.1)
    subst hx
    exact World.ownsRow_nil _ _ _ _
  · by_cases hroom : n + m ≤ cap
    · have h2 := run_append_room (P := P) w t ty e i ht hi g n cap cur hg a m c news hl hnews h1 hroom (by rw [hl, hcs, ← Nat.add_mul]; exact Nat.mul_le_mul_right _ hroom)
      rw [h2] at hr
      injection hr with _ hr
      subst hr
      have hx : xs.length = n * i.size := hown.1
      have hcl : n * i.size ≤ cur.toList.length := by rw [Array.length_toList, hcs]; exact Nat.mul_le_mul_right _ hnc
      have hfit : n * i.size + news.length ≤ cur.toList.length := by rw [hl, ← Nat.add_mul, Array.length_toList, hcs]; exact Nat.mul_le_mul_right _ hroom
      refine ⟨hown.1, .inr ⟨g, cap, _, rfl, hbg, setRow_heap w g cur _ e _ hg, hnc, hcm, ?_, ?_⟩⟩
      · simp only [List.size_toArray, List.length_append, List.length_take, List.length_drop]
        rw [← hcs, ← Array.length_toList]; omega
      · show (cur.toList.take (n * i.size) ++ news ++ _).take (n * i.size) = xs
        rw [htake, List.append_assoc, ← hx]
        exact List.take_left
    · have holds : ∀ j u, xs[j]? = some u → w.cell? ((⟨g, 0, none⟩ : Addr).add j) = some u := hown.cells (g := g) rfl
      have h2 := run_append_grow (P := P) w t ty e i z ht hi hz ⟨g, 0, none⟩ n cap xs hown.1 holds a m c news hl hnews (by omega) (by unfold maxLen at h63; omega) (growslice_fits (by omega) hbytes)
      rw [h2] at hr
      injection hr with _ hr
      subst hr
      exact ownD_heap hown fun k hk => Below.heap_alloc w.drew _ k (by have := (World.ownsRow.lt hown k hk).2; exact this)
theorem append_rowP {B : Nat} {W : World} {v : Value} {l : List (Nat → Bool)} (hown : RowsP B W v l) {f : Nat → Bool} {b c : Nat} (hnew : RowAt W b 0 f) (hl : l.length + 1 ≤ 1073741824) (hB : B ≤ W.heap.size) :
    ∃ v' W', (Builtin.append_ #[72, 72] 72 #[v, .slice (some ⟨b, 0, none⟩) 1 c]).run Tryd.prog W = .ok v' W' ∧ RowsP B W' v' (l ++ [f]) ∧ W.grownBy W' v.ownBlock ∧ RowsP B W' v l ∧ (v'.ownBlock = v.ownBlock ∨ v'.ownBlock = some W.heap.size) := by
  obtain ⟨i0, hi0, hz0, hz1, hz2⟩ := info_parts info_rowP
  have hnews : ∀ j u, (rowA f).toList[j]? = some u → W.cell? ((⟨b, 0, none⟩ : Addr).add j) = some u := fun j u hu => by
    have hj : j < 32 := by have := (List.getElem?_eq_some_iff.1 hu).1; rw [Array.length_toList, rowA_size] at this; exact this
    rw [Array.getElem?_toList, rowA_get f hj] at hu
    rw [Addr.add_lit, hnew j hj]
    exact hu
  obtain ⟨v', W', hr, h1, h2, _, h4⟩ := run_append_own_at (P := Tryd.prog) (w := W) B 72 72 76 i0 _ 32 256 Tryd.underlying72 hi0 hz0 hz1 hz2 (rowA_size _) (by decide) v l.length _ hown
    ⟨b, 0, none⟩ 1 c (rowA f).toList (by rw [Array.length_toList, rowA_size]) hnews (by have := rowsC_one [f]; simpa [rowsC] using this) (by unfold maxLen; omega) (by omega) hB
  refine ⟨v', W', hr, ?_, h2, append_keepsD (P := Tryd.prog) Tryd.underlying72 hi0 hz0 hz1 hz2 hown (by rw [Array.length_toList, rowA_size]) hnews (by have := rowsC_one [f]; simpa [rowsC] using this) (by unfold maxLen; omega) (by omega) hr, h4⟩
  unfold RowsP
  rw [rowsC_app, List.length_append]
  have e : rowsC [f] = (rowA f).toList := by simp [rowsC]
  rw [e]
  exact h1
theorem cell_heap {W W' : World} {g o : Nat} (e : W'.heap[g]? = W.heap[g]?) : W'.cell? ⟨g, o, none⟩ = W.cell? ⟨g, o, none⟩ := by
  unfold World.cell?
  simp only [e]
theorem append_hdr {B : Nat} {W : World} {v : Value} {n : Nat} {xs : List Value} (hown : W.ownsRow B 26 1 v n xs) {b c : Nat} {x : Value} (hnew : W.cell? ⟨b, 0, none⟩ = some x) (h1 : x.oneCell' = true) (hl : n + 1 ≤ 1073741824) (hB : B ≤ W.heap.size) :
    ∃ v' W', (Builtin.append_ #[25, 25] 25 #[v, .slice (some ⟨b, 0, none⟩) 1 c]).run Tryd.prog W = .ok v' W' ∧ W'.ownsRow B 26 1 v' (n + 1) (xs ++ [x]) ∧ W.grownBy W' v.ownBlock ∧ W'.ownsRow B 26 1 v n xs ∧ (v'.ownBlock = v.ownBlock ∨ v'.ownBlock = some W.heap.size) := by
  obtain ⟨i0, hi0, hz0, hz1, hz2⟩ := info_parts (show (Tryd.prog.info? 26).map (fun i => (i.zero, i.size, i.bytes)) = some (some (.slice none 0 0), 1, 24) by kernel_rfl)
  have hnw : ∀ j u, [x][j]? = some u → W.cell? ((⟨b, 0, none⟩ : Addr).add j) = some u := fun j u hu => by
    cases j with
    | zero =>
      simp only [List.getElem?_cons_zero, Option.some.injEq] at hu
      subst hu
      rw [Addr.add_lit]; exact hnew
    | succ j => simp at hu
  have hone : ∀ u ∈ [x], u.oneCell' = true := fun u hu => by rw [List.mem_singleton.1 hu]; exact h1
  obtain ⟨v', W', hr, h2, h3, _, h4⟩ := run_append_own_at (P := Tryd.prog) (w := W) B 25 25 26 i0 _ 1 24 Tryd.underlying25 hi0 hz0 hz1 hz2 rfl (by decide) v n xs hown
    ⟨b, 0, none⟩ 1 c [x] rfl hnw hone (by unfold maxLen; omega) (by omega) hB
  exact ⟨v', W', hr, h2, h3, append_keepsD (P := Tryd.prog) Tryd.underlying25 hi0 hz0 hz1 hz2 hown rfl hnw hone (by unfold maxLen; omega) (by omega) hr, h4⟩
theorem append_intD {B : Nat} {W : World} {v : Value} {l : List Int} (hown : RowI B W v l) {b c : Nat} {x : Int} (hnew : W.cell? ⟨b, 0, none⟩ = some (.int .i64 x)) (hl : l.length + 1 ≤ 1073741824) (hB : B ≤ W.heap.size) :
    ∃ v' W', (Builtin.append_ #[26, 26] 26 #[v, .slice (some ⟨b, 0, none⟩) 1 c]).run Tryd.prog W = .ok v' W' ∧ RowI B W' v' (l ++ [x]) ∧ W.grownBy W' v.ownBlock ∧ (v'.ownBlock = v.ownBlock ∨ v'.ownBlock = some W.heap.size) := by
  obtain ⟨i0, hi0, hz0, hz1, hz2⟩ := info_parts info_int
  have hnw : ∀ j u, [Value.int .i64 x][j]? = some u → W.cell? ((⟨b, 0, none⟩ : Addr).add j) = some u := fun j u hu => by
    cases j with
    | zero =>
      simp only [List.getElem?_cons_zero, Option.some.injEq] at hu
      subst hu
      rw [Addr.add_lit]; exact hnew
    | succ j => simp at hu
  obtain ⟨v', W', hr, h2, h3, _, h4⟩ := run_append_own_at (P := Tryd.prog) (w := W) B 26 26 3 i0 _ 1 8 Tryd.underlying26 hi0 hz0 hz1 hz2 rfl (by decide) v l.length _ hown
    ⟨b, 0, none⟩ 1 c [.int .i64 x] rfl hnw (fun u hu => by rw [List.mem_singleton.1 hu]; rfl) (by unfold maxLen; omega) (by omega) hB
  refine ⟨v', W', hr, ?_, h3, h4⟩
  unfold RowI
  rw [List.map_append, List.length_append]
  exact h2
end

section
open Go.RowKit

structure SP where
  B : Nat
  W0 : World
  N : Nf
  of : Nat → Nat
  C : Nat
  g : Nat
  M : Nat
structure SD where
  L : List (List Int)
  K : List (List Int)
  nxt : List (List Int)
  T : List Int
  fol : List (Nat → Bool)
  tak : List (Nat → Bool)
def keyS (s : ByteArray) : Lit := .string s.data.toList
def textK (x : List Int) : ByteArray := textR (setOf x)
def NumIs (W : World) (M : Nat) (K : List (List Int)) : Prop :=
  ∃ D : DataW Unit, W.ownsMap Tryd.prog 9 (plainElem Tryd.prog 3) M K.length D ∧
    (∀ s : ByteArray, Maps.has D (keyS s) = (List.range K.length).any fun i => decide (1 ≤ i) && decide (textK (K.getD i []) = s)) ∧
    (∀ i, 1 ≤ i → i < K.length → D.atKey (keyS (textK (K.getD i []))) (.lit (.int .i64 0)) = .lit (.int .i64 (i : Nat)))
theorem NumIs.heap {W W' : World} {M : Nat} {K : List (List Int)} (h : NumIs W M K) (e : W'.heap[M]? = W.heap[M]?) : NumIs W' M K := by
  obtain ⟨D, h1, h2⟩ := h
  refine ⟨D, ?_, h2⟩
  unfold World.ownsMap at h1 ⊢
  obtain ⟨es, clock, hb, h3⟩ := h1
  exact ⟨es, clock, e.trans hb, h3⟩
theorem NumIs.lt {W : World} {M : Nat} {K : List (List Int)} (h : NumIs W M K) : M < W.heap.size := by
  obtain ⟨D, h1, _⟩ := h
  exact h1.lt
def intF (l : List Int) (c : Nat) : Value := .int .i64 (l.getD c 0)
def hdrs (bs : Nat → Nat) (C n : Nat) : List Value := (List.range n).map fun i => .slice (some ⟨bs i, 0, none⟩) C C
structure SMx (r : Nat → Prop) (p : SP) (ρ : Nat → Nat) (D : SD) (V : MkV) (bs : Nat → Nat) (W : World) : Prop where
  below : Below p.B p.W0 W
  low : p.W0.heap.size = p.B ∧ p.B ≤ p.g ∧ p.B ≤ p.M
  vals : V.of = p.of ∧ V.n = p.C ∧ V.em = p.N.empty ∧ V.nums = .map (some p.M)
  nfa : NfaAt p.W0 p.N (.agg #[V.v0, V.v1, V.v2, V.v3, V.v4, .int .i64 p.N.empty])
  blk : ¬ r 1 → BlkF W p.g 78 301 (mkF V)
  mp : ¬ r 2 → NumIs W p.M D.K
  fo : ¬ r 3 → RowsP p.B W V.fol D.fol
  ta : ¬ r 4 → RowsP p.B W V.tak D.tak
  st : ¬ r 5 → RowsP p.B W V.sts (D.L.map setOf)
  nx : ¬ r 6 → W.ownsRow p.B 26 1 V.next D.nxt.length (hdrs bs p.C D.nxt.length)
  tg : ¬ r 7 → RowI p.B W V.tag D.T
  rw : ∀ (i : Nat) (h : i < D.nxt.length), ¬ r (8 + i) → BlkF W (bs i) 3 p.C (intF D.nxt[i])
  rlow : ∀ i, i < D.nxt.length → p.B ≤ bs i
  ro : ρ p.g = 1 ∧ ρ p.M = 2 ∧ (∀ k, V.fol.ownBlock = some k → ρ k = 3) ∧ (∀ k, V.tak.ownBlock = some k → ρ k = 4) ∧ (∀ k, V.sts.ownBlock = some k → ρ k = 5) ∧ (∀ k, V.next.ownBlock = some k → ρ k = 6) ∧ (∀ k, V.tag.ownBlock = some k → ρ k = 7)
  rr : ∀ i, i < D.nxt.length → ρ (bs i) = 8 + i
abbrev SM := SMx fun _ => False
section
variable {r : Nat → Prop} {p : SP} {ρ : Nat → Nat} {D : SD} {V : MkV} {bs : Nat → Nat} {W W' : World}
theorem SMx.tn (h : SMx r p ρ D V bs W) {r' : Nat → Prop} {o : Option Nat} (hrr : ∀ q, r q → r' q) (ht : Tn o W W') (ho : ∀ k, o = some k → p.B ≤ k ∧ (r' (ρ k) ∨ W.heap.size ≤ k)) : SMx r' p ρ D V bs W' := by
  have hB : p.B ≤ W.heap.size := by have := h.low; have := h.below.size; omega
  have key : ∀ k q, k < W.heap.size → ρ k = q → ¬ r' q → W'.heap[k]? = W.heap[k]? := fun k q hk hq hr => ht.2.1 k hk (fun e => by
    rcases (ho k e).2 with h1 | h1
    · rw [hq] at h1; exact hr h1
    · omega)
  have up : ∀ q, ¬ r' q → ¬ r q := fun q h1 h2 => h1 (hrr q h2)
  refine ⟨ht.2.2 _ _ hB (fun k hk => (ho k hk).1) h.below, h.low, h.vals, h.nfa, fun hr => ?_, fun hr => ?_, fun hr => ?_, fun hr => ?_, fun hr => ?_, fun hr => ?_, fun hr => ?_, fun i hi hr => ?_, h.rlow, h.ro, h.rr⟩
  · exact (key _ _ (BlkIs.lt (h.blk (up _ hr))) h.ro.1 hr).trans (h.blk (up _ hr))
  · exact (h.mp (up _ hr)).heap (key _ _ (h.mp (up _ hr)).lt h.ro.2.1 hr)
  · exact (h.fo (up _ hr)).heap fun k hk => key k _ (World.ownsRow.lt (h.fo (up _ hr)) k hk).2 (h.ro.2.2.1 k hk) hr
  · exact (h.ta (up _ hr)).heap fun k hk => key k _ (World.ownsRow.lt (h.ta (up _ hr)) k hk).2 (h.ro.2.2.2.1 k hk) hr
  · exact (h.st (up _ hr)).heap fun k hk => key k _ (World.ownsRow.lt (h.st (up _ hr)) k hk).2 (h.ro.2.2.2.2.1 k hk) hr
  · exact ownD_heap (h.nx (up _ hr)) fun k hk => key k _ (World.ownsRow.lt (h.nx (up _ hr)) k hk).2 (h.ro.2.2.2.2.2.1 k hk) hr
  · exact ownI_heap (h.tg (up _ hr)) fun k hk => key k _ (World.ownsRow.lt (h.tg (up _ hr)) k hk).2 (h.ro.2.2.2.2.2.2 k hk) hr
  · exact (key _ _ (BlkIs.lt (h.rw i hi (up _ hr))) (h.rr i hi) hr).trans (h.rw i hi (up _ hr))
theorem SMx.step (h : SMx r p ρ D V bs W) (hb : Below W.heap.size W W') : SMx r p ρ D V bs W' := SMx.tn (o := none) h (fun _ h => h) (Tn.below hb) (fun k e => by cases e)
theorem SMx.size (h : SMx r p ρ D V bs W) : p.B ≤ W.heap.size := by have := h.low; have := h.below.size; omega
theorem SMx.cells (h : SM p ρ D V bs W) : W.cell? ⟨p.g, 256, none⟩ = some (.int .i64 (p.C : Nat)) ∧ W.cell? ⟨p.g, 257, none⟩ = some V.next ∧ W.cell? ⟨p.g, 258, none⟩ = some V.tag ∧
    W.cell? ⟨p.g, 259, none⟩ = some V.v0 ∧ W.cell? ⟨p.g, 260, none⟩ = some V.v1 ∧ W.cell? ⟨p.g, 261, none⟩ = some V.v2 ∧ W.cell? ⟨p.g, 262, none⟩ = some V.v3 ∧ W.cell? ⟨p.g, 263, none⟩ = some V.v4 ∧ W.cell? ⟨p.g, 264, none⟩ = some (.int .i64 p.N.empty) ∧
    W.cell? ⟨p.g, 265, none⟩ = some V.fol ∧ W.cell? ⟨p.g, 266, none⟩ = some V.tak ∧ W.cell? ⟨p.g, 267, none⟩ = some V.sts ∧ W.cell? ⟨p.g, 268, none⟩ = some (.map (some p.M)) := by
  have h1 := mk_cells (h.blk (fun h => h))
  obtain ⟨_, e1, e2, e3⟩ := h.vals
  rw [e1, e2, e3] at h1
  exact h1
theorem SMx.role (h : SM p ρ D V bs W) (o : Option Nat) (q : Nat) (ho : ∀ k, o = some k → ρ k = q ∨ W.heap.size ≤ k) : SM p (fun k => if o = some k then q else ρ k) D V bs W := by
  have key : ∀ k q', k < W.heap.size → ρ k = q' → (if o = some k then q else ρ k) = q' := fun k q' hk hq => by
    by_cases e : o = some k
    · rw [if_pos e]
      rcases ho k e with h1 | h1
      · exact h1.symm.trans hq
      · omega
    · rw [if_neg e]; exact hq
  have F : ¬ False := fun h => h
  exact ⟨h.below, h.low, h.vals, h.nfa, h.blk, h.mp, h.fo, h.ta, h.st, h.nx, h.tg, h.rw, h.rlow,
    ⟨key _ _ (BlkIs.lt (h.blk F)) h.ro.1, key _ _ (h.mp F).lt h.ro.2.1, fun k hk => key _ _ (World.ownsRow.lt (h.fo F) k hk).2 (h.ro.2.2.1 k hk), fun k hk => key _ _ (World.ownsRow.lt (h.ta F) k hk).2 (h.ro.2.2.2.1 k hk), fun k hk => key _ _ (World.ownsRow.lt (h.st F) k hk).2 (h.ro.2.2.2.2.1 k hk), fun k hk => key _ _ (World.ownsRow.lt (h.nx F) k hk).2 (h.ro.2.2.2.2.2.1 k hk), fun k hk => key _ _ (World.ownsRow.lt (h.tg F) k hk).2 (h.ro.2.2.2.2.2.2 k hk)⟩,
    fun i hi => key _ _ (BlkIs.lt (h.rw i hi F)) (h.rr i hi)⟩
theorem SMx.newSts (h : SMx (fun k => k = 5 ∨ k = 1) p ρ D V bs W) {v' : Value} {x : List Int} (hblk : BlkF W p.g 78 301 (mkF { V with sts := v' })) (hown : RowsP p.B W v' ((D.L ++ [x]).map setOf)) (hro : ∀ k, v'.ownBlock = some k → ρ k = 5) :
    SM p ρ { D with L := D.L ++ [x] } { V with sts := v' } bs W :=
  ⟨h.below, h.low, h.vals, h.nfa, fun _ => hblk, fun _ => h.mp (by decide), fun _ => h.fo (by decide), fun _ => h.ta (by decide), fun _ => hown, fun _ => h.nx (by decide), fun _ => h.tg (by decide), fun i hi _ => h.rw i hi (by omega), h.rlow, ⟨h.ro.1, h.ro.2.1, h.ro.2.2.1, h.ro.2.2.2.1, hro, h.ro.2.2.2.2.2.1, h.ro.2.2.2.2.2.2⟩, h.rr⟩
theorem SMx.newTag (h : SMx (fun k => k = 7 ∨ k = 1) p ρ D V bs W) {v' : Value} {t : Int} (hblk : BlkF W p.g 78 301 (mkF { V with tag := v' })) (hown : RowI p.B W v' (D.T ++ [t])) (hro : ∀ k, v'.ownBlock = some k → ρ k = 7) :
    SM p ρ { D with T := D.T ++ [t] } { V with tag := v' } bs W :=
  ⟨h.below, h.low, h.vals, h.nfa, fun _ => hblk, fun _ => h.mp (by decide), fun _ => h.fo (by decide), fun _ => h.ta (by decide), fun _ => h.st (by decide), fun _ => h.nx (by decide), fun _ => hown, fun i hi _ => h.rw i hi (by omega), h.rlow, ⟨h.ro.1, h.ro.2.1, h.ro.2.2.1, h.ro.2.2.2.1, h.ro.2.2.2.2.1, h.ro.2.2.2.2.2.1, hro⟩, h.rr⟩
theorem SMx.newFol (h : SMx (fun k => k = 3 ∨ k = 1) p ρ D V bs W) {v' : Value} {f : Nat → Bool} (hblk : BlkF W p.g 78 301 (mkF { V with fol := v' })) (hown : RowsP p.B W v' (D.fol ++ [f])) (hro : ∀ k, v'.ownBlock = some k → ρ k = 3) :
    SM p ρ { D with fol := D.fol ++ [f] } { V with fol := v' } bs W :=
  ⟨h.below, h.low, h.vals, h.nfa, fun _ => hblk, fun _ => h.mp (by decide), fun _ => hown, fun _ => h.ta (by decide), fun _ => h.st (by decide), fun _ => h.nx (by decide), fun _ => h.tg (by decide), fun i hi _ => h.rw i hi (by omega), h.rlow, ⟨h.ro.1, h.ro.2.1, hro, h.ro.2.2.2.1, h.ro.2.2.2.2.1, h.ro.2.2.2.2.2.1, h.ro.2.2.2.2.2.2⟩, h.rr⟩
theorem SMx.newTak (h : SMx (fun k => k = 4 ∨ k = 1) p ρ D V bs W) {v' : Value} {f : Nat → Bool} (hblk : BlkF W p.g 78 301 (mkF { V with tak := v' })) (hown : RowsP p.B W v' (D.tak ++ [f])) (hro : ∀ k, v'.ownBlock = some k → ρ k = 4) :
    SM p ρ { D with tak := D.tak ++ [f] } { V with tak := v' } bs W :=
  ⟨h.below, h.low, h.vals, h.nfa, fun _ => hblk, fun _ => h.mp (by decide), fun _ => h.fo (by decide), fun _ => hown, fun _ => h.st (by decide), fun _ => h.nx (by decide), fun _ => h.tg (by decide), fun i hi _ => h.rw i hi (by omega), h.rlow, ⟨h.ro.1, h.ro.2.1, h.ro.2.2.1, hro, h.ro.2.2.2.2.1, h.ro.2.2.2.2.2.1, h.ro.2.2.2.2.2.2⟩, h.rr⟩
theorem hdrs_succ (bs : Nat → Nat) (C n b : Nat) : hdrs (fun i => if i = n then b else bs i) C (n + 1) = hdrs bs C n ++ [.slice (some ⟨b, 0, none⟩) C C] := by
  unfold hdrs
  rw [List.range_succ, List.map_append]
  congr 1
  · apply List.map_congr_left
    intro i hi
    have e : ¬ i = n := by have := List.mem_range.1 hi; omega
    simp only [if_neg e]
  · simp
theorem SMx.newNxt (h : SMx (fun k => k = 6 ∨ k = 1) p ρ D V bs W) {v' : Value} {l : List Int} {b : Nat} (hblk : BlkF W p.g 78 301 (mkF { V with next := v' })) (hown : W.ownsRow p.B 26 1 v' (D.nxt.length + 1) (hdrs bs p.C D.nxt.length ++ [.slice (some ⟨b, 0, none⟩) p.C p.C])) (hro : ∀ k, v'.ownBlock = some k → ρ k = 6)
    (hb : BlkF W b 3 p.C (intF l)) (hbl : p.B ≤ b) (hbr : ρ b = 8 + D.nxt.length) :
    SM p ρ { D with nxt := D.nxt ++ [l] } { V with next := v' } (fun i => if i = D.nxt.length then b else bs i) W := by
  have hl : (D.nxt ++ [l]).length = D.nxt.length + 1 := by simp
  refine ⟨h.below, h.low, h.vals, h.nfa, fun _ => hblk, fun _ => h.mp (by decide), fun _ => h.fo (by decide), fun _ => h.ta (by decide), fun _ => h.st (by decide), fun _ => ?_, fun _ => h.tg (by decide), fun i hi _ => ?_, fun i hi => ?_, ⟨h.ro.1, h.ro.2.1, h.ro.2.2.1, h.ro.2.2.2.1, h.ro.2.2.2.2.1, hro, h.ro.2.2.2.2.2.2⟩, fun i hi => ?_⟩
  · show W.ownsRow p.B 26 1 v' (D.nxt ++ [l]).length (hdrs _ p.C (D.nxt ++ [l]).length)
    rw [hl, hdrs_succ]; exact hown
  · show BlkF W (if i = D.nxt.length then b else bs i) 3 p.C (intF (D.nxt ++ [l])[i])
    by_cases e : i = D.nxt.length
    · subst e; rw [if_pos rfl, List.getElem_concat_length rfl]; exact hb
    · rw [if_neg e]
      have : i < D.nxt.length := by have := hi; simp at this; omega
      rw [List.getElem_append_left this]
      exact h.rw i this (by omega)
  · by_cases e : i = D.nxt.length
    · simp only [if_pos e]; exact hbl
    · simp only [if_neg e]; exact h.rlow i (by have := hi; simp at this; omega)
  · by_cases e : i = D.nxt.length
    · simp only [if_pos e]; rw [hbr, e]
    · simp only [if_neg e]; exact h.rr i (by have := hi; simp at this; omega)
theorem SMx.newReach (h : SMx (fun k => k = 1) p ρ D V bs W) {f : Nat → Bool} (hblk : BlkF W p.g 78 301 (mkF { V with reach := f })) : SM p ρ D { V with reach := f } bs W :=
  ⟨h.below, h.low, h.vals, h.nfa, fun _ => hblk, fun _ => h.mp (by decide), fun _ => h.fo (by decide), fun _ => h.ta (by decide), fun _ => h.st (by decide), fun _ => h.nx (by decide), fun _ => h.tg (by decide), fun i hi _ => h.rw i hi (by omega), h.rlow, h.ro, h.rr⟩
theorem SMx.newMap (h : SMx (fun k => k = 2) p ρ D V bs W) {K : List (List Int)} (hm : NumIs W p.M K) : SM p ρ { D with K := K } V bs W :=
  ⟨h.below, h.low, h.vals, h.nfa, fun _ => h.blk (by decide), fun _ => hm, fun _ => h.fo (by decide), fun _ => h.ta (by decide), fun _ => h.st (by decide), fun _ => h.nx (by decide), fun _ => h.tg (by decide), fun i hi _ => h.rw i hi (by omega), h.rlow, h.ro, h.rr⟩
theorem SMx.newRow {n : Nat} (h : SMx (fun k => k = 8 + n) p ρ D V bs W) (hn : n < D.nxt.length) {l : List Int} (hb : BlkF W (bs n) 3 p.C (intF l)) : SM p ρ { D with nxt := D.nxt.set n l } V bs W := by
  have hl : (D.nxt.set n l).length = D.nxt.length := List.length_set
  refine ⟨h.below, h.low, h.vals, h.nfa, fun _ => h.blk (by omega), fun _ => h.mp (by omega), fun _ => h.fo (by omega), fun _ => h.ta (by omega), fun _ => h.st (by omega), fun _ => ?_, fun _ => h.tg (by omega), fun i hi _ => ?_, fun i hi => h.rlow i (by rwa [hl] at hi), h.ro, fun i hi => h.rr i (by rwa [hl] at hi)⟩
  · show W.ownsRow p.B 26 1 V.next (D.nxt.set n l).length (hdrs bs p.C (D.nxt.set n l).length)
    rw [hl]; exact h.nx (by omega)
  · by_cases e : i = n
    · subst e
      show BlkF W (bs i) 3 p.C (intF (D.nxt.set i l)[i])
      rw [List.getElem_set_self]; exact hb
    · have hi' : i < D.nxt.length := by rwa [hl] at hi
      show BlkF W (bs i) 3 p.C (intF (D.nxt.set n l)[i])
      rw [List.getElem_set_ne (Ne.symm e)]
      exact h.rw i hi' (by omega)
theorem SMx.tn2 (h : SM p ρ D V bs W) {q : Nat} (hq : q ≠ 1) {o : Option Nat} (ht : Tn o W W') (ho : ∀ k, o = some k → p.B ≤ k ∧ (ρ k = q ∨ W.heap.size ≤ k)) (i : Nat) (v : Value) :
    SMx (fun k => k = q ∨ k = 1) p ρ D V bs (W'.setCell ⟨p.g, i, none⟩ v) ∧ BlkF (W'.setCell ⟨p.g, i, none⟩ v) p.g 78 301 (putV (mkF V) i v) := by
  have h1 : SMx (fun k => k = q) p ρ D V bs W' := h.tn (fun _ h => h.elim) ht ho
  refine ⟨h1.tn (o := some p.g) (fun _ h => .inl h) (Tn.wrote (Wrote.cell _ _ _ _)) (fun k e => ?_), (h1.blk (fun e => hq e.symm)).put _ _⟩
  obtain rfl : p.g = k := Option.some.inj e
  exact ⟨h.low.2.1, .inl (.inr h.ro.1)⟩
theorem SMx.keep0 (h : SM p ρ D V bs W) {q : Nat} (hq : q ≠ 0) {o : Option Nat} (ht : Tn o W W') (ho : ∀ k, o = some k → p.B ≤ k ∧ (ρ k = q ∨ W.heap.size ≤ k)) (i : Nat) (v : Value) (k : Nat) (hk : k < W.heap.size) (h0 : ρ k = 0) : (W'.setCell ⟨p.g, i, none⟩ v).heap[k]? = W.heap[k]? := by
  have hg : k ≠ p.g := fun e => by rw [e, h.ro.1] at h0; cases h0
  refine (Below.heap_setCell W' ⟨p.g, i, none⟩ v k hg).trans (ht.2.1 k hk fun e => ?_)
  rcases (ho k e).2 with h1 | h1
  · exact hq (h1.symm.trans h0)
  · omega
theorem own_far (h : SM p ρ D V bs W) {q : Nat} (hq : q ≠ 1) {v : Value} (hv : ∀ k, v.ownBlock = some k → ρ k = q) (i : Nat) (x : Value) (k : Nat) (hk : v.ownBlock = some k) : (W'.setCell ⟨p.g, i, none⟩ x).heap[k]? = W'.heap[k]? :=
  Below.heap_setCell W' ⟨p.g, i, none⟩ x k (fun e => by
    have h1 := hv k hk
    rw [show k = p.g from e, h.ro.1] at h1
    exact hq h1.symm)
end
end

section
open Go.RowKit

section grow
variable {P : Program} {ops : Array Oper} {C : World → Prop}

def textFrame (ops : Array Oper) (vs : Nat → Value) (a0 : Act) : Nat → Act
  | 0 => a0
  | i + 1 => (textFrame ops vs a0 i).put ((ops[i]?).bind (·.dst)) (vs i)
theorem came_text {h N : Nat} {a0 : Act} (hD : distinctB ops h N = true) (hN : a0.tmps.size = N) (hh : h ≤ ops.size) (vs : Nat → Value) : ∀ k, k ≤ h → Came ops (fun j => decide (j < k)) vs a0 (textFrame ops vs a0 k)
  | 0, _ => ⟨rfl, rfl, fun i o t _ hi => by simp at hi, fun _ _ => rfl⟩
  | k + 1, hk => by
    have ih := came_text hD hN hh vs k (by omega)
    obtain ⟨o, ho⟩ : ∃ o, ops[k]? = some o := ⟨_, Array.getElem?_eq_getElem (by omega)⟩
    have := ih.put (L' := fun j => decide (j < k + 1)) (v' := vs) hD hN (fun i hi => by have := of_decide_eq_true hi; omega) (show k < h by omega) ho (by simp) (vs k)
      (fun j => by rw [Bool.eq_iff_iff]; simp; omega) (fun _ _ => rfl) rfl
    show Came ops _ vs a0 ((textFrame ops vs a0 k).put ((ops[k]?).bind (·.dst)) (vs k))
    rw [ho]
    exact this

variable {h N : Nat} {V : Nat → Value → World → Prop} {a0 : Act} {w0 : World}
end grow
end
end Go.Proofs.YtgngaaemkmdfaaaDoor
