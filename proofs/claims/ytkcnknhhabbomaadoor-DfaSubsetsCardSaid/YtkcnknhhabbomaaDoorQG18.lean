/-
  THE REFERENCE's SUBSETS AS THEY GROW: what lies where, what abides where one row is written. No condition.
-/
import Derived.Deep.RegionHeld
import Derived.Test.YtkcnknhhabbomaaDoorQG17
import Derived.Test.YtkcnknhhabbomaaDoorQG14
namespace Go.Proofs.YtkcnknhhabbomaaDoor
open Go.RowKit

theorem IntsV.keep {W W' : World} {l : List Int} {v : Value} (h : IntsV W l v) (hk : ∀ b, v.ownBlock = some b → l ≠ [] → W'.heap[b]? = W.heap[b]?) : IntsV W' l v := by
  obtain ⟨A, c, rfl, hc, hs⟩ := h
  refine ⟨A, c, rfl, hc, fun hne => ?_⟩
  obtain ⟨b, o, rfl, hlt, hg⟩ := hs hne
  have e := hk b rfl hne
  have hg' : ∀ (i : Nat) (h : i < l.length), W'.cell? ⟨b, o + i, none⟩ = some (.int .i64 l[i]) := fun i hi => (cell_heap e).trans (hg i hi)
  exact ⟨b, o, rfl, World.block_lt_of_cell? W' ⟨b, o + 0, none⟩ (hg' 0 (List.length_pos_iff.2 hne)), hg'⟩
def Rows0 (ρ : Nat → Nat) (W : World) (L : List (List Int)) (hs : List Value) : Prop :=
  hs.length = L.length ∧ ∀ (i : Nat) (h : i < L.length), ∃ v, hs[i]? = some v ∧ v.oneCell' = true ∧ IntsV W L[i] v ∧ ∀ b, v.ownBlock = some b → L[i] ≠ [] → ρ b = 0 ∧ b < W.heap.size
theorem Rows0.keep {ρ : Nat → Nat} {W W' : World} {L : List (List Int)} {hs : List Value} (h : Rows0 ρ W L hs) (hz : W.heap.size ≤ W'.heap.size) (hk : ∀ b, b < W.heap.size → ρ b = 0 → W'.heap[b]? = W.heap[b]?) : Rows0 ρ W' L hs :=
  ⟨h.1, fun i hi => by
    obtain ⟨v, h1, h2, h3, h4⟩ := h.2 i hi
    exact ⟨v, h1, h2, h3.keep fun b hb hne => hk b (h4 b hb hne).2 (h4 b hb hne).1, fun b hb hne => ⟨(h4 b hb hne).1, by have := (h4 b hb hne).2; omega⟩⟩⟩
theorem Rows0.role {ρ ρ' : Nat → Nat} {W : World} {L : List (List Int)} {hs : List Value} (h : Rows0 ρ W L hs) (hr : ∀ b, b < W.heap.size → ρ b = 0 → ρ' b = 0) : Rows0 ρ' W L hs :=
  ⟨h.1, fun i hi => by
    obtain ⟨v, h1, h2, h3, h4⟩ := h.2 i hi
    exact ⟨v, h1, h2, h3, fun b hb hne => ⟨hr b (h4 b hb hne).2 (h4 b hb hne).1, (h4 b hb hne).2⟩⟩⟩
theorem Rows0.push {ρ : Nat → Nat} {W : World} {L : List (List Int)} {hs : List Value} (h : Rows0 ρ W L hs) {x : List Int} {v : Value} (h1 : v.oneCell' = true) (h2 : IntsV W x v) (h3 : ∀ b, v.ownBlock = some b → x ≠ [] → ρ b = 0 ∧ b < W.heap.size) : Rows0 ρ W (L ++ [x]) (hs ++ [v]) := by
  refine ⟨by simp [h.1], fun i hi => ?_⟩
  by_cases e : i < L.length
  · rw [List.getElem_append_left e, List.getElem?_append_left (by rw [h.1]; exact e)]
    exact h.2 i e
  · have : i = L.length := by simp at hi; omega
    subst this
    rw [List.getElem_concat_length rfl]
    exact ⟨v, by rw [← h.1, List.getElem?_concat_length], h1, h2, h3⟩
structure RP where
  B : Nat
  W0 : World
  N : Nf
  cs : Array Value
  gd : Nat
structure RD where
  L : List (List Int)
  hl : List Value
  T : List Int
  R : List (List Int)
  hn : List Value
  r : List Int
structure RV where
  vl : Value
  vt : Value
  vn : Value
  vr : Value
structure RSx (h : Nat → Prop) (p : RP) (ρ : Nat → Nat) (S : RD) (V : RV) (W : World) : Prop where
  below : Below p.B p.W0 W
  low : p.W0.heap.size = p.B ∧ p.B + 2 ≤ p.gd
  na : NfaAt p.W0 p.N (.agg p.cs)
  nb : BlkIs W p.B 27 p.cs
  zb : BlkIs W (p.B + 1) 44 df0
  blk : ¬ h 1 → BlkIs W p.gd 44 (dfC (ofN p.N) (clN p.N : Nat) V.vn V.vt)
  l : ¬ h 2 → W.ownsRow p.B 23 1 V.vl S.L.length S.hl
  t : ¬ h 3 → RowI p.B W V.vt S.T
  n : ¬ h 4 → W.ownsRow p.B 23 1 V.vn S.R.length S.hn
  r : ¬ h 5 → RowI p.B W V.vr S.r
  rl : Rows0 ρ W S.L S.hl
  rn : Rows0 ρ W S.R S.hn
  r0 : ρ p.B = 6 ∧ ρ (p.B + 1) = 7 ∧ ρ p.gd = 1
  ro : (∀ k, V.vl.ownBlock = some k → ρ k = 2) ∧ (∀ k, V.vt.ownBlock = some k → ρ k = 3) ∧ (∀ k, V.vn.ownBlock = some k → ρ k = 4) ∧ (∀ k, V.vr.ownBlock = some k → ρ k = 5)
abbrev RS := RSx fun _ => False
section
variable {h h' : Nat → Prop} {p : RP} {ρ : Nat → Nat} {S : RD} {V : RV} {W W' : World}
theorem RSx.size (H : RSx h p ρ S V W) : p.B ≤ W.heap.size := by have := H.low; have := H.below.size; omega
theorem RSx.tn (H : RSx h p ρ S V W) (hh : ∀ q, h q → h' q) (h0 : ¬ h' 0 ∧ ¬ h' 6 ∧ ¬ h' 7) {o : Option Nat} (ht : Tn o W W') (ho : ∀ k, o = some k → p.B ≤ k ∧ (h' (ρ k) ∨ W.heap.size ≤ k)) : RSx h' p ρ S V W' := by
  have hB := H.size
  have key : ∀ k q, k < W.heap.size → ρ k = q → ¬ h' q → W'.heap[k]? = W.heap[k]? := fun k q hk hq hr => ht.2.1 k hk (fun e => by
    rcases (ho k e).2 with h1 | h1
    · rw [hq] at h1; exact hr h1
    · omega)
  have up : ∀ q, ¬ h' q → ¬ h q := fun q h1 h2 => h1 (hh q h2)
  refine ⟨ht.2.2 _ _ hB (fun k hk => (ho k hk).1) H.below, H.low, H.na, (key _ _ (BlkIs.lt H.nb) H.r0.1 h0.2.1).trans H.nb, (key _ _ (BlkIs.lt H.zb) H.r0.2.1 h0.2.2).trans H.zb, fun hr => ?_, fun hr => ?_, fun hr => ?_, fun hr => ?_, fun hr => ?_, ?_, ?_, H.r0, H.ro⟩
  · exact (key _ _ (BlkIs.lt (H.blk (up _ hr))) H.r0.2.2 hr).trans (H.blk (up _ hr))
  · exact ownD_heap (H.l (up _ hr)) fun k hk => key k _ (World.ownsRow.lt (H.l (up _ hr)) k hk).2 (H.ro.1 k hk) hr
  · exact ownI_heap (H.t (up _ hr)) fun k hk => key k _ (World.ownsRow.lt (H.t (up _ hr)) k hk).2 (H.ro.2.1 k hk) hr
  · exact ownD_heap (H.n (up _ hr)) fun k hk => key k _ (World.ownsRow.lt (H.n (up _ hr)) k hk).2 (H.ro.2.2.1 k hk) hr
  · exact ownI_heap (H.r (up _ hr)) fun k hk => key k _ (World.ownsRow.lt (H.r (up _ hr)) k hk).2 (H.ro.2.2.2 k hk) hr
  · exact H.rl.keep ht.1 fun b hb hb0 => key b 0 hb hb0 h0.1
  · exact H.rn.keep ht.1 fun b hb hb0 => key b 0 hb hb0 h0.1
theorem RSx.step (H : RS p ρ S V W) (hb : Below W.heap.size W W') : RS p ρ S V W' := RSx.tn (o := none) H (fun _ h => h) ⟨fun h => h, fun h => h, fun h => h⟩ (Tn.below hb) (fun k e => by cases e)
theorem RSx.role (H : RS p ρ S V W) (o : Option Nat) (q : Nat) (ho : ∀ k, o = some k → ρ k = q ∨ W.heap.size ≤ k) : RS p (fun k => if o = some k then q else ρ k) S V W := by
  have key : ∀ k q', k < W.heap.size → ρ k = q' → (if o = some k then q else ρ k) = q' := fun k q' hk hq' => by
    by_cases e : o = some k
    · rw [if_pos e]
      rcases ho k e with h1 | h1
      · exact h1.symm.trans hq'
      · omega
    · rw [if_neg e]; exact hq'
  have F : ¬ False := fun h => h
  exact ⟨H.below, H.low, H.na, H.nb, H.zb, H.blk, H.l, H.t, H.n, H.r, H.rl.role fun b hb h0 => key b 0 hb h0, H.rn.role fun b hb h0 => key b 0 hb h0,
    ⟨key _ _ (BlkIs.lt H.nb) H.r0.1, key _ _ (BlkIs.lt H.zb) H.r0.2.1, key _ _ (BlkIs.lt (H.blk F)) H.r0.2.2⟩,
    ⟨fun k hk => key _ _ (World.ownsRow.lt (H.l F) k hk).2 (H.ro.1 k hk), fun k hk => key _ _ (World.ownsRow.lt (H.t F) k hk).2 (H.ro.2.1 k hk), fun k hk => key _ _ (World.ownsRow.lt (H.n F) k hk).2 (H.ro.2.2.1 k hk), fun k hk => key _ _ (World.ownsRow.lt (H.r F) k hk).2 (H.ro.2.2.2 k hk)⟩⟩
theorem RSx.fresh (H : RS p ρ S V W) : RS p (fun k => if k < W.heap.size then ρ k else 0) S V W := by
  have key : ∀ k q', k < W.heap.size → ρ k = q' → (if k < W.heap.size then ρ k else 0) = q' := fun k q' hk hq' => by rw [if_pos hk]; exact hq'
  have F : ¬ False := fun h => h
  exact ⟨H.below, H.low, H.na, H.nb, H.zb, H.blk, H.l, H.t, H.n, H.r, H.rl.role fun b hb h0 => key b 0 hb h0, H.rn.role fun b hb h0 => key b 0 hb h0,
    ⟨key _ _ (BlkIs.lt H.nb) H.r0.1, key _ _ (BlkIs.lt H.zb) H.r0.2.1, key _ _ (BlkIs.lt (H.blk F)) H.r0.2.2⟩,
    ⟨fun k hk => key _ _ (World.ownsRow.lt (H.l F) k hk).2 (H.ro.1 k hk), fun k hk => key _ _ (World.ownsRow.lt (H.t F) k hk).2 (H.ro.2.1 k hk), fun k hk => key _ _ (World.ownsRow.lt (H.n F) k hk).2 (H.ro.2.2.1 k hk), fun k hk => key _ _ (World.ownsRow.lt (H.r F) k hk).2 (H.ro.2.2.2 k hk)⟩⟩
theorem RSx.pushR (H : RS p ρ S V W) {v' : Value} {x : Int} (ht : Tn V.vr.ownBlock W W') (hv : RowI p.B W' v' (S.r ++ [x])) (hb : v'.ownBlock = V.vr.ownBlock ∨ ∃ b, v'.ownBlock = some b ∧ W.heap.size ≤ b) : ∃ ρ', RS p ρ' { S with r := S.r ++ [x] } { V with vr := v' } W' := by
  have F : ¬ False := fun h => h
  have r5 := H.role v'.ownBlock 5 (fun k hk => by
    rcases hb with e | ⟨b, e1, e2⟩
    · exact .inl (H.ro.2.2.2 k (e ▸ hk))
    · rw [e1] at hk; injection hk with hk; exact .inr (by omega))
  have t5 := r5.tn (h' := fun k => k = 5) (fun _ h => h.elim) (by decide) ht (fun k hk => ⟨(World.ownsRow.lt (r5.r F) k hk).1, .inl (r5.ro.2.2.2 k hk)⟩)
  exact ⟨_, t5.below, t5.low, t5.na, t5.nb, t5.zb, fun _ => t5.blk (by decide), fun _ => t5.l (by decide), fun _ => t5.t (by decide), fun _ => t5.n (by decide), fun _ => hv, t5.rl, t5.rn, t5.r0, ⟨t5.ro.1, t5.ro.2.1, t5.ro.2.2.1, fun k hk => if_pos hk⟩⟩
theorem RSx.pushL (H : RS p ρ S V W) {v' vx : Value} {x : List Int} (ht : Tn V.vl.ownBlock W W') (hv : W'.ownsRow p.B 23 1 v' (S.L.length + 1) (S.hl ++ [vx])) (hb : v'.ownBlock = V.vl.ownBlock ∨ ∃ b, v'.ownBlock = some b ∧ W.heap.size ≤ b)
    (h1 : vx.oneCell' = true) (h2 : IntsV W x vx) (h3 : ∀ b, vx.ownBlock = some b → x ≠ [] → ρ b = 0 ∧ b < W.heap.size) : ∃ ρ', RS p ρ' { S with L := S.L ++ [x], hl := S.hl ++ [vx] } { V with vl := v' } W' ∧ IntsV W' x vx ∧ ∀ b, vx.ownBlock = some b → x ≠ [] → ρ' b = 0 ∧ b < W'.heap.size := by
  have F : ¬ False := fun h => h
  have r5 := H.role v'.ownBlock 2 (fun k hk => by
    rcases hb with e | ⟨b, e1, e2⟩
    · exact .inl (H.ro.1 k (e ▸ hk))
    · rw [e1] at hk; injection hk with hk; exact .inr (by omega))
  have h3' : ∀ b, vx.ownBlock = some b → x ≠ [] → (if v'.ownBlock = some b then 2 else ρ b) = 0 ∧ b < W.heap.size := fun b hbk hne => by
    obtain ⟨e0, elt⟩ := h3 b hbk hne
    refine ⟨?_, elt⟩
    rw [if_neg fun e => ?_]
    · exact e0
    · rcases hb with e1 | ⟨b', e1, e2⟩
      · have := H.ro.1 b (e1 ▸ e); omega
      · rw [e] at e1; injection e1 with e1; omega
  have t5 := r5.tn (h' := fun k => k = 2) (fun _ h => h.elim) (by decide) ht (fun k hk => ⟨(World.ownsRow.lt (r5.l F) k hk).1, .inl (r5.ro.1 k hk)⟩)
  have kx : IntsV W' x vx := h2.keep fun b hbk hne => ht.2.1 b (h3 b hbk hne).2 fun e => by have := H.ro.1 b e; have := (h3 b hbk hne).1; omega
  have h3'' : ∀ b, vx.ownBlock = some b → x ≠ [] → (if v'.ownBlock = some b then 2 else ρ b) = 0 ∧ b < W'.heap.size := fun b hbk hne => ⟨(h3' b hbk hne).1, by have := (h3' b hbk hne).2; have := ht.1; omega⟩
  refine ⟨_, ⟨t5.below, t5.low, t5.na, t5.nb, t5.zb, fun _ => t5.blk (by decide), fun _ => ?_, fun _ => t5.t (by decide), fun _ => t5.n (by decide), fun _ => t5.r (by decide), t5.rl.push h1 kx h3'', t5.rn, t5.r0, ⟨fun k hk => if_pos hk, t5.ro.2.1, t5.ro.2.2.1, t5.ro.2.2.2⟩⟩, kx, h3''⟩
  show W'.ownsRow p.B 23 1 v' (S.L ++ [x]).length (S.hl ++ [vx])
  rw [List.length_append]; exact hv
theorem RSx.pushT (H : RS p ρ S V W) {v' : Value} {x : Int} (ht : Tn V.vt.ownBlock W W') (hv : RowI p.B W' v' (S.T ++ [x])) (hb : v'.ownBlock = V.vt.ownBlock ∨ ∃ b, v'.ownBlock = some b ∧ W.heap.size ≤ b) :
    (∃ ρ', RS p ρ' { S with T := S.T ++ [x] } { V with vt := v' } (W'.setCell ⟨p.gd, 258, none⟩ v')) ∧ (∃ y, W'.cell? ⟨p.gd, 258, none⟩ = some y) ∧ W'.frozen? ⟨p.gd, 258, none⟩ = false := by
  have F : ¬ False := fun h => h
  have r5 := H.role v'.ownBlock 3 (fun k hk => by
    rcases hb with e | ⟨b, e1, e2⟩
    · exact .inl (H.ro.2.1 k (e ▸ hk))
    · rw [e1] at hk; injection hk with hk; exact .inr (by omega))
  have t5 := r5.tn (h' := fun k => k = 3) (fun _ h => h.elim) (by decide) ht (fun k hk => ⟨(World.ownsRow.lt (r5.t F) k hk).1, .inl (r5.ro.2.1 k hk)⟩)
  have bk := t5.blk (by decide)
  have t6 := t5.tn (h' := fun k => k = 3 ∨ k = 1) (fun _ h => .inl h) (by decide) (Tn.wrote (Wrote.cell W' p.gd 258 v')) (fun k hk => by
    obtain rfl : p.gd = k := Option.some.inj hk
    exact ⟨by have := H.low; omega, .inl (.inr t5.r0.2.2)⟩)
  refine ⟨⟨_, t6.below, t6.low, t6.na, t6.nb, t6.zb, fun _ => blk_dt bk v', fun _ => t6.l (by decide), fun _ => ?_, fun _ => t6.n (by decide), fun _ => t6.r (by decide), t6.rl, t6.rn, t6.r0, ⟨t6.ro.1, fun k hk => if_pos hk, t6.ro.2.2.1, t6.ro.2.2.2⟩⟩, ⟨_, (DfB.of bk) 258 (by decide)⟩, BlkIs.frozen bk 258⟩
  exact ownI_heap hv fun k hk => Below.heap_setCell W' ⟨p.gd, 258, none⟩ v' k (fun e => by
    have h1 : (if v'.ownBlock = some k then 3 else ρ k) = 3 := if_pos hk
    have h2 := t5.r0.2.2
    rw [show k = p.gd from e] at h1
    rw [h1] at h2; cases h2)
theorem RSx.pushN (H : RS p ρ S V W) {v' : Value} (ht : Tn V.vn.ownBlock W W') (hv : W'.ownsRow p.B 23 1 v' (S.R.length + 1) (S.hn ++ [V.vr])) (hb : v'.ownBlock = V.vn.ownBlock ∨ ∃ b, v'.ownBlock = some b ∧ W.heap.size ≤ b) :
    (∃ ρ', RS p ρ' { S with R := S.R ++ [S.r], hn := S.hn ++ [V.vr], r := [] } { V with vn := v', vr := .slice none 0 0 } (W'.setCell ⟨p.gd, 257, none⟩ v')) ∧ (∃ y, W'.cell? ⟨p.gd, 257, none⟩ = some y) ∧ W'.frozen? ⟨p.gd, 257, none⟩ = false := by
  have F : ¬ False := fun h => h
  have hvr := H.r F
  have h1 : V.vr.oneCell' = true := by obtain ⟨A, c, e, _⟩ := own_formD hvr; rw [e]; rfl
  have r5 := H.role v'.ownBlock 4 (fun k hk => by
    rcases hb with e | ⟨b, e1, e2⟩
    · exact .inl (H.ro.2.2.1 k (e ▸ hk))
    · rw [e1] at hk; injection hk with hk; exact .inr (by omega))
  have t5 := r5.tn (h' := fun k => k = 4) (fun _ h => h.elim) (by decide) ht (fun k hk => ⟨(World.ownsRow.lt (r5.n F) k hk).1, .inl (r5.ro.2.2.1 k hk)⟩)
  have bk := t5.blk (by decide)
  have t6 := t5.tn (h' := fun k => k = 4 ∨ k = 1) (fun _ h => .inl h) (by decide) (Tn.wrote (Wrote.cell W' p.gd 257 v')) (fun k hk => by
    obtain rfl : p.gd = k := Option.some.inj hk
    exact ⟨by have := H.low; omega, .inl (.inr t5.r0.2.2)⟩)
  refine ⟨?_, ⟨_, (DfB.of bk) 257 (by decide)⟩, BlkIs.frozen bk 257⟩
  -- the gathered row's block has no part any more
  obtain ⟨ρ6, hρ6⟩ : ∃ ρ6, (fun k => if v'.ownBlock = some k then 4 else ρ k) = ρ6 := ⟨_, rfl⟩
  rw [hρ6] at t6
  have k4 : ∀ k, v'.ownBlock = some k → ρ6 k = 4 := fun k hk => by rw [← hρ6]; exact if_pos hk
  have kr := t6.r (by decide)
  have down : ∀ k, ρ6 k ≠ 5 → (if V.vr.ownBlock = some k then 0 else ρ6 k) = ρ6 k := fun k hk => by
    rw [if_neg fun e => hk (t6.ro.2.2.2 k e)]
  refine ⟨fun k => if V.vr.ownBlock = some k then 0 else ρ6 k, t6.below, t6.low, t6.na, t6.nb, t6.zb, fun _ => blk_dx bk v', fun _ => t6.l (by decide), fun _ => t6.t (by decide), fun _ => ?_, fun _ => World.ownsRow_nil _ _ _ _, t6.rl.role fun b _ h0 => (down b (by omega)).trans h0, (t6.rn.role fun b _ h0 => (down b (by omega)).trans h0).push h1 (RowI.ints kr) (fun b hbk _ => ⟨if_pos hbk, (World.ownsRow.lt kr b hbk).2⟩),
    ⟨(down _ (by rw [t6.r0.1]; decide)).trans t6.r0.1, (down _ (by rw [t6.r0.2.1]; decide)).trans t6.r0.2.1, (down _ (by rw [t6.r0.2.2]; decide)).trans t6.r0.2.2⟩,
    ⟨fun k hk => (down k (by rw [t6.ro.1 k hk]; decide)).trans (t6.ro.1 k hk), fun k hk => (down k (by rw [t6.ro.2.1 k hk]; decide)).trans (t6.ro.2.1 k hk), fun k hk => (down k (by rw [k4 k hk]; decide)).trans (k4 k hk), fun k hk => by cases hk⟩⟩
  show (W'.setCell ⟨p.gd, 257, none⟩ v').ownsRow p.B 23 1 v' (S.R ++ [S.r]).length (S.hn ++ [V.vr])
  rw [List.length_append]
  exact ownD_heap hv fun k hk => Below.heap_setCell W' ⟨p.gd, 257, none⟩ v' k (fun e => by
    have h1 := k4 k hk
    have h2 := t6.r0.2.2
    rw [show k = p.gd from e] at h1
    rw [h1] at h2; cases h2)
end
theorem own_one9 {W : World} {B b : Nat} {t : TypeId} {x : Value} (h : BlkIs W b t #[x]) (hB : B ≤ b) : W.ownsRow B t 1 (.slice (some ⟨b, 0, none⟩) 1 1) 1 [x] :=
  ⟨rfl, .inr ⟨b, 1, #[x], rfl, hB, h, Nat.le_refl _, by unfold maxLen; decide, rfl, rfl⟩⟩
theorem rows_of9 {W : World} {B : Nat} {ρ : Nat → Nat} {v : Value} {L : List (List Int)} {hs : List Value} (h : W.ownsRow B 23 1 v L.length hs) (hr : Rows0 ρ W L hs) : RowsI W L v := by
  rcases h.2 with ⟨rfl, h0⟩ | ⟨g, cap, cur, rfl, h1, h2, h3, h4, _⟩
  · obtain rfl := List.eq_nil_of_length_eq_zero h0
    exact ⟨none, 0, rfl, ⟨by simp, by simp⟩, fun hne => absurd rfl hne⟩
  · refine ⟨_, cap, rfl, ⟨h3, by unfold maxLen at h4; omega⟩, fun _ => ⟨g, 0, rfl, (Array.getElem?_eq_some_iff.1 h2).1, fun i hi => ?_⟩⟩
    obtain ⟨v, e1, _, e3, _⟩ := hr.2 i hi
    refine ⟨v, ?_, e3⟩
    have := World.ownsRow.cells (g := g) h rfl i v e1
    rw [Addr.add_lit] at this
    exact this
theorem row_at9 {W : World} {B : Nat} {ρ : Nat → Nat} {v : Value} {L : List (List Int)} {hs : List Value} (h : W.ownsRow B 23 1 v L.length hs) (hr : Rows0 ρ W L hs) {i : Nat} (hi : i < L.length) : ∃ g c x, v = .slice (some ⟨g, 0, none⟩) L.length c ∧ g < W.heap.size ∧ W.cell? ⟨g, i, none⟩ = some x ∧ IntsV W L[i] x := by
  rcases h.2 with ⟨rfl, h0⟩ | ⟨g, cap, cur, rfl, h1, h2, h3, h4, _⟩
  · omega
  · obtain ⟨v, e1, _, e3, _⟩ := hr.2 i hi
    have := World.ownsRow.cells (g := g) h rfl i v e1
    rw [Addr.add_lit, Nat.zero_add] at this
    exact ⟨g, cap, v, rfl, (Array.getElem?_eq_some_iff.1 h2).1, this, e3⟩
theorem kept_form9 {N : Nf} {z : List Int} (hz : Kept N z) : z = ((List.range N.sets.length).filter (setOf z)).map fun (q : Nat) => (q : Int) := by
  rcases hz with rfl | ⟨f, b, rfl⟩
  · have : ((List.range N.sets.length).filter (setOf [])) = [] := List.filter_eq_nil_iff.2 fun q _ => by simp [setOf, hasI]
    rw [this]; rfl
  · conv => lhs; unfold keepTo
    congr 1
    apply List.filter_congr
    intro q hq
    unfold setOf
    rw [Bool.eq_iff_iff, hasI_mem]
    unfold keepTo
    constructor
    · intro e
      exact List.mem_map.2 ⟨q, List.mem_filter.2 ⟨hq, e⟩, rfl⟩
    · intro e
      obtain ⟨q', hq', e'⟩ := List.mem_map.1 e
      have : q' = q := by omega
      subst this
      exact (List.mem_filter.1 hq').2
theorem ref_tag9 {N : Nf} (hmi : MayIs N) {z : List Int} (hz : Kept N z) : firstR N z 40 0 = tagTo N (setOf z) N.rules.length := by
  rw [tag_same N hmi.ruleAt, hmi.rules, ← tagTo_list N (setOf z) N.sets.length, ← kept_form9 hz]
abbrev pR (w : World) (N : Nf) (cs : Array Value) (gd : Nat) : RP := ⟨w.heap.size, w, N, cs, gd⟩
theorem append_intK {B : Nat} {W : World} {v : Value} {l : List Int} (hown : RowI B W v l) {b c : Nat} {x : Int} (hnew : W.cell? ⟨b, 0, none⟩ = some (.int .i64 x)) (hl : l.length + 1 ≤ 1073741824) (hB : B ≤ W.heap.size) :
    ∃ v' W', (Builtin.append_ #[23, 23] 23 #[v, .slice (some ⟨b, 0, none⟩) 1 c]).run Tryd.prog W = .ok v' W' ∧ RowI B W' v' (l ++ [x]) ∧ W.grownBy W' v.ownBlock ∧ RowI B W' v l ∧ (v'.ownBlock = v.ownBlock ∨ v'.ownBlock = some W.heap.size) := by
  obtain ⟨i0, hi0, hz0, hz1, hz2⟩ := info_parts info_int
  have hnw : ∀ j u, [Value.int .i64 x][j]? = some u → W.cell? ((⟨b, 0, none⟩ : Addr).add j) = some u := fun j u hu => by
    cases j with
    | zero =>
      simp only [List.getElem?_cons_zero, Option.some.injEq] at hu
      subst hu
      rw [Addr.add_lit]; exact hnew
    | succ j => simp at hu
  have h1 : ∀ u ∈ [Value.int .i64 x], u.oneCell' = true := fun u hu => by rw [List.mem_singleton.1 hu]; rfl
  obtain ⟨v', W', hr, h2, h3, _, h4⟩ := run_append_own_at (P := Tryd.prog) (w := W) B 23 23 3 i0 _ 1 8 Tryd.underlying23 hi0 hz0 hz1 hz2 rfl (by decide) v l.length _ hown
    ⟨b, 0, none⟩ 1 c [.int .i64 x] rfl hnw h1 (by unfold maxLen; omega) (by omega) hB
  refine ⟨v', W', hr, ?_, h3, append_keepsD (P := Tryd.prog) Tryd.underlying23 hi0 hz0 hz1 hz2 hown rfl hnw h1 (by unfold maxLen; omega) (by omega) hr, h4⟩
  unfold RowI
  rw [List.map_append, List.length_append]
  exact h2
end Go.Proofs.YtkcnknhhabbomaaDoor

namespace Go.Proofs.YtkcnknhhabbomaaDoor
open Go.RowKit

section
variable {p : RP} {ρ : Nat → Nat} {S : RD} {V : RV} {W : World}
theorem RSx.gather (H : RS p ρ S V W) (k : Int) (hl : S.r.length + 1 ≤ 1073741824) :
    ∃ A c W', (Builtin.append_ #[23, 23] 23 #[V.vr, .slice (some ⟨W.heap.size, 0, none⟩) 1 1]).run Tryd.prog (W.alloc (.cells #[.int .i64 k] 3)) = .ok (.slice A (S.r.length + 1) c) W' ∧
      ∃ ρ', RS p ρ' { S with r := S.r ++ [k] } { V with vr := .slice A (S.r.length + 1) c } W' := by
  have F : ¬ False := fun h => h
  have hb : Below W.heap.size W (W.alloc (.cells #[.int .i64 k] 3)) := (Below.refl _ _).alloc (Nat.le_refl _) _
  have hn := BlkIs.new W 3 #[.int .i64 k]
  obtain ⟨v', W', hrun, k1, k2, k4⟩ := append_intD ((H.step hb).r F) (b := W.heap.size) (c := 1) ((hn.cell 0).trans rfl) hl (by have := H.size; have := hb.size; omega)
  obtain ⟨A, c, e, _⟩ := own_formD k1
  rw [show (S.r ++ [k]).length = S.r.length + 1 by simp] at e
  subst e
  exact ⟨A, c, W', hrun, H.pushR ((Tn.below hb).trans (Tn.grown k2)) k1 (k4.imp id fun e => ⟨_, e, hb.size⟩)⟩
theorem RSx.found (H : RS p ρ S V W) {x : List Int} {vx : Value} (h1 : vx.oneCell' = true) (h2 : IntsV W x vx) (h3 : ∀ b, vx.ownBlock = some b → x ≠ [] → ρ b = 0 ∧ b < W.heap.size) (hl : S.L.length + 1 ≤ 1073741824) :
    ∃ A c W', (Builtin.append_ #[24, 24] 24 #[V.vl, .slice (some ⟨W.heap.size, 0, none⟩) 1 1]).run Tryd.prog (W.alloc (.cells #[vx] 23)) = .ok (.slice A (S.L.length + 1) c) W' ∧
      ∃ ρ', RS p ρ' { S with L := S.L ++ [x], hl := S.hl ++ [vx] } { V with vl := .slice A (S.L.length + 1) c } W' ∧ IntsV W' x vx ∧ ∀ b, vx.ownBlock = some b → x ≠ [] → ρ' b = 0 ∧ b < W'.heap.size := by
  have F : ¬ False := fun h => h
  have hb : Below W.heap.size W (W.alloc (.cells #[vx] 23)) := (Below.refl _ _).alloc (Nat.le_refl _) _
  have hn := BlkIs.new W 23 #[vx]
  obtain ⟨v', W', hrun, k1, k2, k3, k4⟩ := append_hdr ((H.step hb).l F) (b := W.heap.size) (c := 1) ((hn.cell 0).trans rfl) h1 hl (by have := H.size; have := hb.size; omega)
  obtain ⟨A, c, e, _⟩ := own_formD k1
  subst e
  exact ⟨A, c, W', hrun, H.pushL ((Tn.below hb).trans (Tn.grown k2)) k1 (k4.imp id fun e => ⟨_, e, hb.size⟩) h1 h2 h3⟩
theorem RSx.rowed (H : RS p ρ S V W) (hl : S.R.length + 1 ≤ 1073741824) :
    ∃ A c W', (Builtin.append_ #[24, 24] 24 #[V.vn, .slice (some ⟨W.heap.size, 0, none⟩) 1 1]).run Tryd.prog (W.alloc (.cells #[V.vr] 23)) = .ok (.slice A (S.R.length + 1) c) W' ∧
      (∃ ρ', RS p ρ' { S with R := S.R ++ [S.r], hn := S.hn ++ [V.vr], r := [] } { V with vn := .slice A (S.R.length + 1) c, vr := .slice none 0 0 } (W'.setCell ⟨p.gd, 257, none⟩ (.slice A (S.R.length + 1) c))) ∧ (∃ y, W'.cell? ⟨p.gd, 257, none⟩ = some y) ∧ W'.frozen? ⟨p.gd, 257, none⟩ = false := by
  have F : ¬ False := fun h => h
  have hb : Below W.heap.size W (W.alloc (.cells #[V.vr] 23)) := (Below.refl _ _).alloc (Nat.le_refl _) _
  have hn := BlkIs.new W 23 #[V.vr]
  have h1 : V.vr.oneCell' = true := by obtain ⟨A, c, e, _⟩ := own_formD (H.r F); rw [e]; rfl
  obtain ⟨v', W', hrun, k1, k2, k3, k4⟩ := append_hdr ((H.step hb).n F) (b := W.heap.size) (c := 1) ((hn.cell 0).trans rfl) h1 hl (by have := H.size; have := hb.size; omega)
  obtain ⟨A, c, e, _⟩ := own_formD k1
  subst e
  exact ⟨A, c, W', hrun, H.pushN ((Tn.below hb).trans (Tn.grown k2)) k1 (k4.imp id fun e => ⟨_, e, hb.size⟩)⟩
end
end Go.Proofs.YtkcnknhhabbomaaDoor

namespace Go.Proofs.YtkcnknhhabbomaaDoor
open Go.RowKit

end Go.Proofs.YtkcnknhhabbomaaDoor

