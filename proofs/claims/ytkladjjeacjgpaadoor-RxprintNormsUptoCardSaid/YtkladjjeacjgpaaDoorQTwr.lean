/-
  WHAT written ANSWERS: a tree as text, given what setText answers: a contract. Condition: the tree may be, and has at most 2^20 nodes.
-/
import Derived.Test.YtkladjjeacjgpaaDoorQG09
import Derived.Test.YtkladjjeacjgpaaDoorQTnorm
namespace Go.Proofs.YtkladjjeacjgpaaDoor
open Go.RowKit

def joinB (ps : List ByteArray) (sep : ByteArray) : ByteArray := ⟨(Lib.join (ps.map (·.data.toList)) sep.data.toList).toArray⟩
def decB (n : Int) : ByteArray := ⟨(Lib.decDigits n.toNat).toArray⟩
def timesOf (lo hi : Int) : ByteArray := timesB (lo == 0) (hi == -1) (lo == 1) (hi == 1) (hi != lo) (decide (hi > lo)) (decB lo) (decB hi)
mutual
def Tree.text (S : (Nat → Bool) → ByteArray) : Tree → ByteArray
  | .node k m l lo hi => if k = 1 then S m else if k = 2 then joinB (pieces S k l) ⟨#[]⟩ else if k = 3 then joinB (pieces S k l) ⟨#[124]⟩ else if k = 4 then joinB (pieces S k l) ⟨#[]⟩ ++ timesOf lo hi else ⟨#[40, 41]⟩
def pieces (S : (Nat → Bool) → ByteArray) (k : Int) : List Tree → List ByteArray
  | [] => []
  | t :: r => wrapB k t.kind (t.text S) :: pieces S k r
end
theorem pieces_len (S : (Nat → Bool) → ByteArray) (k : Int) : ∀ l : List Tree, (pieces S k l).length = l.length
  | [] => by simp [pieces]
  | t :: r => by simp [pieces, pieces_len S k r]
theorem pieces_get (S : (Nat → Bool) → ByteArray) (k : Int) : ∀ (l : List Tree) (i : Nat) (h : i < l.length) (h' : i < (pieces S k l).length), (pieces S k l)[i] = wrapB k l[i].kind (l[i].text S)
  | t :: r, 0, _, _ => by simp [pieces]
  | t :: r, i + 1, h, h' => by
    simp only [pieces, List.getElem_cons_succ]
    exact pieces_get S k r i _ _
def sizes (ps : List ByteArray) : Nat := (ps.map (fun p => p.size + 1)).sum
theorem tail_len (sep : List UInt8) (h : sep.length ≤ 1) : ∀ r : List ByteArray, (Lib.joinTail sep (r.map (·.data.toList))).length ≤ sizes r
  | [] => by simp [Lib.joinTail, sizes]
  | p :: r => by
    have := tail_len sep h r
    simp only [Lib.joinTail, sizes, List.map_cons, List.flatten_cons, List.length_append, List.sum_cons] at this ⊢
    have e : p.data.toList.length = p.size := by rw [Array.length_toList]; rfl
    omega
theorem join_len (ps : List ByteArray) (sep : ByteArray) (h : sep.data.toList.length ≤ 1) : (Lib.join (ps.map (·.data.toList)) sep.data.toList).length ≤ sizes ps := by
  cases ps with
  | nil => simp [Lib.join_nil]
  | cons p r =>
    rw [List.map_cons, Lib.join_cons, List.length_append]
    have h1 := tail_len sep.data.toList h r
    have e : p.data.toList.length = p.size := by rw [Array.length_toList]; rfl
    simp only [sizes, List.map_cons, List.sum_cons] at h1 ⊢
    omega
theorem joinB_size (ps : List ByteArray) (sep : ByteArray) (h : sep.data.toList.length ≤ 1) : (joinB ps sep).size ≤ sizes ps := by
  have := join_len ps sep h
  unfold joinB
  simpa [ByteArray.size] using this
theorem wrap_size (k k' : Int) (s : ByteArray) : (wrapB k k' s).size ≤ s.size + 2 := by
  unfold wrapB
  split
  · rw [ByteArray.size_append, ByteArray.size_append]
    have e1 : (ByteArray.mk #[40]).size = 1 := rfl
    have e2 : (ByteArray.mk #[41]).size = 1 := rfl
    omega
  · omega

theorem dec_small : ∀ n : Fin 100, (Lib.decDigits n.val).length ≤ 2 := by decide +kernel
theorem decB_size {n : Int} (h : n < 100) : (decB n).size ≤ 2 := by
  have := dec_small ⟨n.toNat, by omega⟩
  unfold decB
  simpa [ByteArray.size] using this
theorem times_size {lo hi : Int} (h1 : lo < 100) (h2 : hi < 100) : (timesOf lo hi).size ≤ 8 := by
  have a := decB_size h1
  have b := decB_size h2
  have e1 : (ByteArray.mk #[123]).size = 1 := rfl
  have e2 : (ByteArray.mk #[125]).size = 1 := rfl
  have e3 : (ByteArray.mk #[44]).size = 1 := rfl
  have e4 : (ByteArray.mk #[42]).size = 1 := rfl
  have e5 : (ByteArray.mk #[43]).size = 1 := rfl
  have e6 : (ByteArray.mk #[63]).size = 1 := rfl
  unfold timesOf timesB
  split
  · omega
  · split
    · omega
    · split
      · omega
      · split
        · split <;> simp only [ByteArray.size_append] <;> omega
        · split <;> simp only [ByteArray.size_append] <;> omega
theorem ok_times {m : Nat → Bool} {l : List Tree} {lo hi : Int} (h : Tree.ok (.node 4 m l lo hi) = true) : 0 ≤ lo ∧ lo ≤ 64 ∧ hi ≤ 64 ∧ (hi = -1 ∨ lo ≤ hi) ∧ l.length = 1 := by
  have h2 := (ok_open h).2
  unfold okNode at h2
  split at h2
  · cases h2
  · rw [if_neg (by decide), if_neg (by decide), if_pos rfl] at h2
    have := of_decide_eq_true h2
    omega
mutual
theorem text_size (S : (Nat → Bool) → ByteArray) (hS : ∀ m, (S m).size ≤ 4000) : ∀ T : Tree, T.ok = true → (T.text S).size + 3 ≤ 4010 * T.nodes
  | .node k m l lo hi => fun h => by
    have hl := pieces_size S hS k l (by simp only [Tree.ok, Bool.and_eq_true] at h; exact h.1)
    unfold Tree.text
    simp only [Tree.nodes]
    have e0 : (ByteArray.mk #[40, 41]).size = 2 := rfl
    split
    · have := hS m; omega
    · split
      · have := joinB_size (pieces S k l) ⟨#[]⟩ (by simp); omega
      · split
        · have := joinB_size (pieces S k l) ⟨#[124]⟩ (by simp); omega
        · split
          · rename_i h4
            subst h4
            have h1 := joinB_size (pieces S 4 l) ⟨#[]⟩ (by simp)
            have h2 := ok_times h
            have h3 := times_size (lo := lo) (hi := hi) (by omega) (by omega)
            rw [ByteArray.size_append]; omega
          · omega
theorem pieces_size (S : (Nat → Bool) → ByteArray) (hS : ∀ m, (S m).size ≤ 4000) (k : Int) : ∀ l : List Tree, allOk l = true → sizes (pieces S k l) ≤ 4010 * nodesL l
  | [] => fun _ => by simp [pieces, sizes, nodesL]
  | t :: r => fun h => by
    simp only [allOk, Bool.and_eq_true] at h
    have h1 := text_size S hS t h.1
    have h2 := pieces_size S hS k r h.2
    have h3 := wrap_size k t.kind (t.text S)
    simp only [pieces, sizes, List.map_cons, List.sum_cons, nodesL] at h2 ⊢
    omega
end

/-- what written answers of a tree; what subsText answers of a node -/
def WrittenIs (S : (Nat → Bool) → ByteArray) (T : Tree) (v : Value) (w : World) : Prop := Calls Tryd.prog 30 #[v] w fun e w' => e = .returned (.string (T.text S)) ∧ Below w.heap.size w w'
def SubsIs (S : (Nat → Bool) → ByteArray) (k : Int) (l : List Tree) (sep : ByteArray) (v : Value) (w : World) : Prop := ∀ u, Below w.heap.size w u → Calls Tryd.prog 46 #[v, .string sep] u fun e u' => e = .returned (.string (joinB (pieces S k l) sep)) ∧ Below u.heap.size u u'

set_option maxRecDepth 20000 in
set_option maxHeartbeats 4000000 in
theorem written_cat (S : (Nat → Bool) → ByteArray) (m : Nat → Bool) (l : List Tree) (lo hi : Int) (v : Value) (w : World) (hat : Tree.At w (.node 2 m l lo hi) v) (HSUBS : SubsIs S 2 l ⟨#[]⟩ v w) : WrittenIs S (.node 2 m l lo hi) v w := by
  obtain ⟨A, n, c, rfl⟩ := hat.form
  unfold WrittenIs SubsIs at *
  unfold Tree.text
  rw [if_neg (by decide), if_pos rfl]
  have hb1 : Below w.heap.size w (w.alloc (.cells (reL 2 m A n c lo hi).toArray 27)) := (Below.refl _ _).alloc (Nat.le_refl _) _
  have HC := Lib.hid (HSUBS (w.alloc (.cells (reL 2 m A n c lo hi).toArray 27)) hb1)
  have HB := Lib.hid hb1
  clear hat HSUBS hb1
  simp only [Tree.kind, Tree.set, Tree.lo, Tree.hi] at *
  unfold reV reL at *
  generalize joinB (pieces S 2 l) ⟨#[]⟩ = z at *
  go_enter Tryd.func30, Tryd.ntmps30
  go_wp2_with (first | (go_at_call 46; go_must (refine HC.out.mono ?_); rintro e u ⟨rfl, hb2⟩; have HB2 := Lib.hid hb2; clear hb2))
  go_ret
  exact ⟨rfl, HB.out.trans (HB2.out.mono HB.out.size)⟩

set_option maxRecDepth 20000 in
set_option maxHeartbeats 4000000 in
theorem written_alt (S : (Nat → Bool) → ByteArray) (m : Nat → Bool) (l : List Tree) (lo hi : Int) (v : Value) (w : World) (hat : Tree.At w (.node 3 m l lo hi) v) (HSUBS : SubsIs S 3 l ⟨#[124]⟩ v w) : WrittenIs S (.node 3 m l lo hi) v w := by
  obtain ⟨A, n, c, rfl⟩ := hat.form
  unfold WrittenIs SubsIs at *
  unfold Tree.text
  rw [if_neg (by decide), if_neg (by decide), if_pos rfl]
  have hb1 : Below w.heap.size w (w.alloc (.cells (reL 3 m A n c lo hi).toArray 27)) := (Below.refl _ _).alloc (Nat.le_refl _) _
  have HC := Lib.hid (HSUBS (w.alloc (.cells (reL 3 m A n c lo hi).toArray 27)) hb1)
  have HB := Lib.hid hb1
  clear hat HSUBS hb1
  simp only [Tree.kind, Tree.set, Tree.lo, Tree.hi] at *
  unfold reV reL at *
  generalize joinB (pieces S 3 l) ⟨#[124]⟩ = z at *
  go_enter Tryd.func30, Tryd.ntmps30
  go_wp2_with (first | (go_at_call 46; go_must (refine HC.out.mono ?_); rintro e u ⟨rfl, hb2⟩; have HB2 := Lib.hid hb2; clear hb2))
  go_ret
  exact ⟨rfl, HB.out.trans (HB2.out.mono HB.out.size)⟩

set_option maxRecDepth 20000 in
set_option maxHeartbeats 4000000 in
theorem written_byte (S : (Nat → Bool) → ByteArray) (m : Nat → Bool) (l : List Tree) (lo hi : Int) (v : Value) (w : World) (hat : Tree.At w (.node 1 m l lo hi) v)
    (HS : ∀ u, Below w.heap.size w u → Calls Tryd.prog 45 #[setV m] u fun e u' => e = .returned (.string (S m)) ∧ Below u.heap.size u u') : WrittenIs S (.node 1 m l lo hi) v w := by
  obtain ⟨A, n, c, rfl⟩ := hat.form
  unfold WrittenIs
  unfold Tree.text
  rw [if_pos rfl]
  have hb1 : Below w.heap.size w (w.alloc (.cells (reL 1 m A n c lo hi).toArray 27)) := (Below.refl _ _).alloc (Nat.le_refl _) _
  have HC := Lib.hid (HS (w.alloc (.cells (reL 1 m A n c lo hi).toArray 27)) hb1)
  have HB := Lib.hid hb1
  clear hat HS hb1
  simp only [Tree.kind, Tree.set, Tree.lo, Tree.hi] at *
  unfold setV at HC
  unfold reV reL at *
  generalize S m = z at *
  go_enter Tryd.func30, Tryd.ntmps30
  go_wp2_with (first | (go_at_call 45; go_must (refine HC.out.mono ?_); rintro e u ⟨rfl, hb2⟩; have HB2 := Lib.hid hb2; clear hb2))
  go_ret
  exact ⟨rfl, HB.out.trans (HB2.out.mono HB.out.size)⟩

set_option maxRecDepth 20000 in
set_option maxHeartbeats 4000000 in
theorem written_empty (S : (Nat → Bool) → ByteArray) (m : Nat → Bool) (l : List Tree) (lo hi : Int) (v : Value) (w : World) (hat : Tree.At w (.node 0 m l lo hi) v) : WrittenIs S (.node 0 m l lo hi) v w := by
  obtain ⟨A, n, c, rfl⟩ := hat.form
  unfold WrittenIs
  unfold Tree.text
  rw [if_neg (by decide), if_neg (by decide), if_neg (by decide), if_neg (by decide)]
  have hb1 : Below w.heap.size w (w.alloc (.cells (reL 0 m A n c lo hi).toArray 27)) := (Below.refl _ _).alloc (Nat.le_refl _) _
  have HB := Lib.hid hb1
  clear hat hb1
  simp only [Tree.kind, Tree.set, Tree.lo, Tree.hi] at *
  unfold reV reL at *
  go_enter Tryd.func30, Tryd.ntmps30
  go_wp2
  go_ret
  exact ⟨rfl, HB.out⟩

set_option maxRecDepth 20000 in
set_option maxHeartbeats 4000000 in
theorem written_rep (S : (Nat → Bool) → ByteArray) (m : Nat → Bool) (l : List Tree) (lo hi : Int) (v : Value) (w : World) (hat : Tree.At w (.node 4 m l lo hi) v) (HSUBS : SubsIs S 4 l ⟨#[]⟩ v w)
    (ha : (joinB (pieces S 4 l) ⟨#[]⟩).size ≤ 1099511627776) (hb : (timesOf lo hi).size ≤ 8)
    (HT : ∀ u : World, Calls Tryd.prog 47 #[.int .i64 lo, .int .i64 hi] u fun e u' => e = .returned (.string (timesOf lo hi)) ∧ u' = u) : WrittenIs S (.node 4 m l lo hi) v w := by
  obtain ⟨A, n, c, rfl⟩ := hat.form
  unfold WrittenIs SubsIs at *
  unfold Tree.text
  rw [if_neg (by decide), if_neg (by decide), if_neg (by decide), if_pos rfl]
  have hb1 : Below w.heap.size w (w.alloc (.cells (reL 4 m A n c lo hi).toArray 27)) := (Below.refl _ _).alloc (Nat.le_refl _) _
  have HC := Lib.hid HSUBS
  have HTM := Lib.hid HT
  have HB := Lib.hid hb1
  have HBX := Lib.hid (BlkIs.new w 27 (reL 4 m A n c lo hi).toArray)
  clear hat HSUBS hb1 HT
  simp only [Tree.kind, Tree.set, Tree.lo, Tree.hi] at *
  unfold reV reL at *
  generalize joinB (pieces S 4 l) ⟨#[]⟩ = za at *
  generalize timesOf lo hi = zb at *
  have hsum : za.size + zb.size ≤ 9223372036854775807 := by omega
  have hsum2 : ¬ 9223372036854775807 < za.size + zb.size := by omega
  go_enter Tryd.func30, Tryd.ntmps30
  go_wp2_with fail
  refine wp_region_held_drew (S := fun u => Below w.heap.size w u ∧ BlkIs u w.heap.size 27 #[.int .i64 4, .int .u64 (wd m 0 : Nat), .int .u64 (wd m 1 : Nat), .int .u64 (wd m 2 : Nat), .int .u64 (wd m 3 : Nat), .slice A n c, .int .i64 lo, .int .i64 hi]) (by kernel_rfl) ⟨HB.out.trans ((Below.refl _ _).drew), HBX.out.drew⟩ ?_
  intro hS0
  refine wpAnyH_take (i := 0) (v := .agg #[.int .i64 4, .int .u64 (wd m 0 : Nat), .int .u64 (wd m 1 : Nat), .int .u64 (wd m 2 : Nat), .int .u64 (wd m 3 : Nat), .slice A n c, .int .i64 lo, .int .i64 hi]) rfl (by kernel_rfl) (by kernel_rfl) (by kernel_rfl) (fun _ _ _ h => h) (.inl ⟨rfl, fun u hu => by
    obtain ⟨e0, e1, e2, e3, e4, e5, e6, e7⟩ := hu.2.eight
    go_simp⟩) hS0 ?_
  refine wpAnyH_take (i := 2) (v := .pointer (some ⟨w.heap.size, 6, none⟩)) rfl (by kernel_rfl) (by kernel_rfl) (by kernel_rfl) (fun _ _ _ h => h) (.inl ⟨rfl, fun u hu => by
    go_simp⟩) hS0 ?_
  refine wpAnyH_take (i := 3) (v := .int .i64 lo) rfl (by kernel_rfl) (by kernel_rfl) (by kernel_rfl) (fun _ _ _ h => h) (.inl ⟨rfl, fun u hu => by
    have e5 := hu.2.cell 6
    simp at e5
    go_simp⟩) hS0 ?_
  refine wpAnyH_take (i := 4) (v := .pointer (some ⟨w.heap.size, 7, none⟩)) rfl (by kernel_rfl) (by kernel_rfl) (by kernel_rfl) (fun _ _ _ h => h) (.inl ⟨rfl, fun u hu => by
    go_simp⟩) hS0 ?_
  refine wpAnyH_take (i := 5) (v := .int .i64 hi) rfl (by kernel_rfl) (by kernel_rfl) (by kernel_rfl) (fun _ _ _ h => h) (.inl ⟨rfl, fun u hu => by
    have e5 := hu.2.cell 7
    simp at e5
    go_simp⟩) hS0 ?_
  generalize hU0 : World.drew _ = U0 at *
  clear hU0
  refine wpAnyH_ready (rs := [1]) (by kernel_rfl) (by simp) ?_
  refine AllReadyH.cons rfl (fun K hK => ?_) AllReadyH.nil
  go_simp
  go_at_call 46
  refine (HC.out _ hS0.1).mono ?_
  rintro e u1 ⟨rfl, hb1⟩
  refine hK.out _ _ ⟨hS0.1.trans (hb1.mono hS0.1.size), hS0.2.step hb1⟩ (fun hS1 => ?_)
  clear hK K hb1
  refine wpAnyH_ready (rs := [6]) (by kernel_rfl) (by simp) ?_
  refine AllReadyH.cons rfl (fun K hK => ?_) AllReadyH.nil
  go_simp
  go_at_call 47
  refine (HTM.out _).mono ?_
  rintro e u2 ⟨rfl, rfl⟩
  refine hK.out _ _ hS1 (fun hS2 => ?_)
  clear hK K
  refine wpAnyH_ready (rs := [7]) (by kernel_rfl) (by simp) ?_
  refine AllReadyH.cons rfl (fun K hK => ?_) AllReadyH.nil
  go_simp
  refine hK.out _ _ hS2 (fun hS3 => ?_)
  clear hK K
  refine wpAnyH_ready (rs := [8]) (by kernel_rfl) (by simp) ?_
  refine AllReadyH.cons rfl (fun K hK => ?_) AllReadyH.nil
  go_simp
  refine hK.out _ _ hS3 (fun hS4 => ?_)
  clear hK K
  refine wpAnyH_done (by kernel_rfl) ?_ _
  go_wp2
  go_ret
  exact ⟨rfl, hS4.1⟩

theorem itoa_at (n : Int) (h0 : 0 ≤ n) (h1 : n < 100) (u : World) : Calls Tryd.prog 68 #[.int .i64 n] u fun e u' => e = .returned (.string (decB n)) ∧ u' = u := by
  obtain ⟨k, rfl⟩ : ∃ k : Nat, n = (k : Int) := ⟨n.toNat, by omega⟩
  exact strconv_Itoa_small k (by omega) u
theorem subs_is (S : (Nat → Bool) → ByteArray) (hS : ∀ m, (S m).size ≤ 4000) (k : Int) (m : Nat → Bool) (l : List Tree) (lo hi : Int) (sep : ByteArray) (hsep : sep.data.toList.length ≤ 1) (v : Value) (w : World) (hat : Tree.At w (.node k m l lo hi) v) (hok : allOk l = true) (hn : nodesL l ≤ 1048576)
    (IH : ∀ t ∈ l, ∀ (v : Value) (u : World), Below w.heap.size w u → t.At u v → WrittenIs S t v u) : SubsIs S k l sep v w := by
  intro u hu
  have hlen := length_nodes l
  have hps := pieces_size S hS k l hok
  refine subs_any k m l lo hi v u sep (hat.step hu) (l.map (fun t => t.text S)) (by simp) (by omega) (fun s hs => ?_) (fun i h h' v' u' hu' ha => ?_) (pieces S k l) (pieces_len S k l) (fun i h h' h2 => ?_) ?_
  · obtain ⟨t, ht, rfl⟩ := List.mem_map.1 hs
    have h1 := text_size S hS t (allOk_iff.1 hok t ht)
    have h2 := mem_nodes ht
    omega
  · have := IH _ (List.getElem_mem h) v' u' (hu.trans (hu'.mono hu.size)) ha
    unfold WrittenIs at this
    rw [List.getElem_map]
    exact this
  · rw [List.getElem_map]
    exact pieces_get S k l i h h2
  · have := join_len (pieces S k l) sep hsep
    omega

theorem written_any (S : (Nat → Bool) → ByteArray) (hS : ∀ m, (S m).size ≤ 4000) (w0 : World) (HS : ∀ (m : Nat → Bool) (u : World), Below w0.heap.size w0 u → Calls Tryd.prog 45 #[setV m] u fun e u' => e = .returned (.string (S m)) ∧ Below u.heap.size u u') :
    ∀ (T : Tree) (v : Value) (w : World), Below w0.heap.size w0 w → T.At w v → T.ok = true → T.nodes ≤ 1048576 → WrittenIs S T v w := by
  refine Tree.ind ?_
  intro k m l lo hi IH v w hw hat hok hn
  have hok2 := hok
  simp only [Tree.ok, Bool.and_eq_true] at hok2
  have hnl : nodesL l ≤ 1048576 := by simp only [Tree.nodes] at hn; omega
  have hps := pieces_size S hS k l hok2.1
  have hsub : ∀ sep : ByteArray, sep.data.toList.length ≤ 1 → SubsIs S k l sep v w := fun sep hsep => subs_is S hS k m l lo hi sep hsep v w hat hok2.1 hnl fun t ht v' u hu ha =>
    IH t ht v' u (hw.trans (hu.mono hw.size)) ha (allOk_iff.1 hok2.1 t ht) (Nat.le_trans (mem_nodes ht) hnl)
  have hk := okNode_kind hok2.2
  by_cases h1 : k = 1
  · subst h1; exact written_byte S m l lo hi v w hat (fun u hu => HS m u (hw.trans (hu.mono hw.size)))
  by_cases h2 : k = 2
  · subst h2; exact written_cat S m l lo hi v w hat (hsub _ (by simp))
  by_cases h3 : k = 3
  · subst h3; exact written_alt S m l lo hi v w hat (hsub _ (by simp))
  by_cases h4 : k = 4
  · subst h4
    have ht := ok_times hok
    have hj := joinB_size (pieces S 4 l) ⟨#[]⟩ (by simp)
    refine written_rep S m l lo hi v w hat (hsub _ (by simp)) (by omega) (times_size (by omega) (by omega)) (fun u => ?_)
    have ha := decB_size (n := lo) (by omega)
    have hb := decB_size (n := hi) (by omega)
    exact times_any lo hi (decB lo) (decB hi) (by omega) (by omega) u (fun u => itoa_at lo (by omega) (by omega) u) (fun u hne hgt => itoa_at hi (by have := of_decide_eq_true hgt; omega) (by omega) u)
  · obtain rfl : k = 0 := by omega
    exact written_empty S m l lo hi v w hat

end Go.Proofs.YtkladjjeacjgpaaDoor

