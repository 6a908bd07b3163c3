/-
 WHAT dfa's renumbered AND first ANSWER: contracts. Condition: rows of at most 2^20 numbers.
-/
import Derived.RangeFuncWrites
import Derived.Test.YtgngaaemkmdfaaaGreatDoorQG20
import Derived.Test.YtgngaaemkmdfaaaGreatDoorQG11
import Derived.Test.YtgngaaemkmdfaaaGreatDoorQG21
namespace Go.Proofs.YtgngaaemkmdfaaaGreatDoor
section
open Go.RowKit

attribute [local irreducible] FreeW

theorem ne_m1 (x : Nat) : ((x : Int) != -1) = true := by rw [bne_iff_ne]; omega
def renI (nums : List Int) (x : Int) : Int := if x = -1 then -1 else nums.getD x.toNat 0
def renF (r nums : List Int) (k : Nat) : Nat → Value := fun i => if i < k then .int .i64 (renI nums (r.getD i 0)) else .int .i64 0
theorem xzsl (r nums : List Int) (k : Nat) (v : Value) (hv : v = .int .i64 (renI nums (r.getD k 0))) : putV (renF r nums k) k v = renF r nums (k + 1) := by
 subst hv
 funext i; unfold putV renF
 by_cases h : i = k
 · subst h; rw [if_pos rfl, if_pos (by omega)]
 · rw [if_neg h]
   by_cases h2 : i < k
   · rw [if_pos h2, if_pos (by omega)]
   · rw [if_neg h2, if_neg (by omega)]
theorem xzsm (F : Nat → Value) (k : Nat) (u v : Value) : putV (putV F k u) k v = putV F k v := by
 funext i; unfold putV; split <;> rfl
theorem xzwk (r nums : List Int) : (fun _ => Value.int .i64 0) = renF r nums 0 := by
 funext i; unfold renF; rw [if_neg (by omega)]
theorem yzao {W : World} {g : Nat} {t : TypeId} {r nums : List Int} (h : BlkF W g t r.length (renF r nums r.length)) : BlkF W g t r.length (intF (r.map (renI nums))) := by
 have e : cellsN r.length (renF r nums r.length) = cellsN r.length (intF (r.map (renI nums))) := xzak fun i hi => by
   unfold renF intF; rw [if_pos hi, List.getD_eq_getElem?_getD, List.getD_eq_getElem?_getD, List.getElem?_map, List.getElem?_eq_getElem hi]; rfl
 unfold BlkF at h ⊢; rw [← e]; exact h
set_option maxRecDepth 20000 in
set_option maxHeartbeats 8000000 in
theorem xziz (r nums : List Int) (v vn : Value) (w : World) (hv : IntsV w r v) (hn : IntsV w nums vn) (hr : ∀ x ∈ r, -1 ≤ x ∧ x < (nums.length : Int)) (hl : r.length ≤ 1048576) :
   Calls Tryz.prog 43 #[v, vn] w fun e w' => e = .returned (.slice (some ⟨w.heap.size, 0, none⟩) r.length r.length) ∧ BlkF w' w.heap.size 3 r.length (intF (r.map (renI nums))) ∧ Below w.heap.size w w' := by
 obtain ⟨A, c, rfl, hc, hs⟩ := hv; obtain ⟨An, cn, rfl, hcn, hsn⟩ := hn; obtain ⟨W1, hW1⟩ : ∃ W1, (w.alloc (.cells (cellsN r.length fun _ => .int .i64 0) 3)) = W1 := ⟨_, rfl⟩
 have hb1 : Below w.heap.size w W1 := by rw [← hW1]; exact (Below.refl _ _).alloc (Nat.le_refl _) _
 have hx1 : BlkF W1 w.heap.size 3 r.length (renF r nums 0) := by rw [← hW1, ← xzwk]; exact BlkIs.new w _ _
 have hmk := xzgl r.length (by omega) w; rw [hW1] at hmk; have HS := Lib.hid hs; have HSN := Lib.hid hsn; have HB := Lib.hid (And.intro hb1 hx1); have HR := Lib.hid hr; clear hs hsn hb1 hx1 hr hW1
 go_enter Tryz.func43, Tryz.ntmps43
 go_wp2
 go_loopw [6, 7, 13] (fun _ _ i wr => ∃ k : Nat, i = .int .i64 k ∧ k ≤ r.length ∧ Hid (Below w.heap.size w wr ∧ BlkF wr w.heap.size 3 r.length (renF r nums k))) (fun _ _ i _ => r.length - (intOf i).toNat)
 case atStart => exact ⟨0, rfl, Nat.zero_le _, HB⟩
 case round =>
   obtain ⟨k, rfl, hk, HH⟩ := hrel; obtain ⟨wz, rfl⟩ : ∃ wz, wz = wr := ⟨_, rfl⟩
   by_cases hp : k < r.length
   · have hk1 : IntKind.i64.wrap ((k : Int) + 1) = ((k + 1 : Nat) : Int) := by rw [IntKind.wrap_i64]; omega
     have hdl : decide ((k : Int) < (r.length : Int)) = true := by simp; omega
     obtain ⟨b, o, rfl, hlt, hg⟩ := HS.out (by intro e; subst e; simp at hp); have hcell := (HH.out.1.cell (p := ⟨b, o + k, none⟩) hlt).trans (hg k hp); have hc2 := BlkF.cell HH.out.2 hp; have hfz := BlkIs.frozen HH.out.2 k; have hrk := HR.out _ (List.getElem_mem hp)
     have hgd : r.getD k 0 = r[k] := by rw [List.getD_eq_getElem?_getD, List.getElem?_eq_getElem hp]; rfl
     obtain ⟨W2, hW2⟩ : ∃ W2, wz.setCell ⟨w.heap.size, k, none⟩ (.int .i64 (-1)) = W2 := ⟨_, rfl⟩
     have hb2 : Below w.heap.size w W2 := by rw [← hW2]; exact HH.out.1.setCell (p := ⟨w.heap.size, k, none⟩) (Nat.le_refl _) _
     have hx2 : BlkF W2 w.heap.size 3 r.length (putV (renF r nums k) k (.int .i64 (-1))) := by rw [← hW2]; exact HH.out.2.put _ _
     clear hg
     by_cases h1 : r[k] = -1
     · have HN := Lib.hid (show Below w.heap.size w W2 ∧ BlkF W2 w.heap.size 3 r.length (renF r nums (k + 1)) from ⟨hb2, by rw [← xzsl r nums k (.int .i64 (-1)) (by rw [hgd, h1]; rfl)]; exact hx2⟩)
       rw [h1] at hcell; clear h1 hrk hgd hb2 hx2; go_wp2; exact ⟨⟨k + 1, rfl, hp, HN⟩, by simp [intOf] <;> omega⟩
     · obtain ⟨x, hx⟩ : ∃ x : Nat, r[k] = (x : Nat) := ⟨r[k].toNat, by omega⟩
       have hxn : x < nums.length := by omega
       obtain ⟨bn, on, rfl, hltn, hgn⟩ := HSN.out (by intro e; subst e; simp at hxn); have hcelln := (hb2.cell (p := ⟨bn, on + x, none⟩) hltn).trans (hgn x hxn); have e1 := ne_m1 x
       have i1 : decide ((x : Int) < (nums.length : Int)) = true := by simp; omega
       have hc3 := BlkF.cell hx2 hp; have hfz3 := BlkIs.frozen hx2 k
       have HN := Lib.hid (show Below w.heap.size w (W2.setCell ⟨w.heap.size, k, none⟩ (.int .i64 nums[x])) ∧ BlkF (W2.setCell ⟨w.heap.size, k, none⟩ (.int .i64 nums[x])) w.heap.size 3 r.length (renF r nums (k + 1)) from
         ⟨hb2.setCell (p := ⟨w.heap.size, k, none⟩) (Nat.le_refl _) _, by
           have := hx2.put k (.int .i64 nums[x]); rw [xzsm, xzsl r nums k _ (by rw [hgd, hx]; unfold renI; rw [if_neg (by omega), Int.toNat_natCast, List.getD_eq_getElem?_getD, List.getElem?_eq_getElem hxn]; rfl)] at this
           exact this⟩)
       rw [hx] at hcell; clear h1 hrk hgd hb2 hx2 hx hgn; generalize nums[x] = nx at *; go_wp2; exact ⟨⟨k + 1, rfl, hp, HN⟩, by simp [intOf] <;> omega⟩
   · have hdl : decide ((k : Int) < (r.length : Int)) = false := by simp; omega
     obtain rfl : k = r.length := by omega
     have HF := Lib.hid (yzao HH.out.2); go_wp2; go_ret; exact ⟨rfl, HF.out, HH.out.1⟩
set_option maxRecDepth 20000 in
set_option maxHeartbeats 8000000 in
theorem xzsn (D : Df) (v : Value) (w : World) (h : DfAt w D v) :
   Calls Tryz.prog 42 #[v] w fun e w' => ∃ v', e = .returned v' ∧ RowI w.heap.size w' v' (firstL D) ∧ (firstL D = [] → v' = .slice none 0 0) ∧ Below w.heap.size w w' := by
 obtain ⟨vn, vt, rfl, hrn, hrt⟩ := h; obtain ⟨W1, hbx, hsz, hb1, hx1⟩ := xzbs D.of D.n vn vt w; have hd1 := DfB.of hx1; obtain ⟨c256, c257, c258⟩ := hd1.cells; obtain ⟨An, cn, rfl, hcn, _⟩ := hrn; have HB := Lib.hid hb1; obtain ⟨dc, hdc⟩ : ∃ dc, dfC D.of D.n (.slice An D.next.length cn) vt = dc := ⟨_, rfl⟩; rw [hdc] at hbx
 have hds : dc.size = 259 := by rw [← hdc]; exact xzad _ _ _ _
 rw [hdc]; clear hrt hb1 hx1 hd1 hdc
 by_cases hz : D.next.length = 0
 · have e1 : ((D.next.length : Int) == 0) = true := by simp [hz]
   have e1b : decide ((D.next.length : Int) = 0) = true := by simp [hz]
   have HN := Lib.hid (show firstL D = [] by unfold firstL; rw [if_pos hz]); clear hz
   go_enter Tryz.func42, Tryz.ntmps42
   go_wp2; go_ret; exact ⟨_, rfl, by rw [HN.out]; exact World.ownsRow_nil _ _ _ _, fun _ => rfl, HB.out⟩
 · have e1 : ((D.next.length : Int) == 0) = false := by simp; intro e; rw [e] at hz; exact hz rfl
   have e1b : decide ((D.next.length : Int) = 0) = false := by simp; intro e; rw [e] at hz; exact hz rfl
   have HN := Lib.hid (show firstL D = [0] by unfold firstL; rw [if_neg hz]); obtain ⟨W2, hW2⟩ : ∃ W2, W1.alloc (.cells #[.int .i64 0] 3) = W2 := ⟨_, rfl⟩
   have HB2 := Lib.hid (show Below w.heap.size w W2 ∧ RowI w.heap.size W2 (.slice (some ⟨W1.heap.size, 0, none⟩) 1 1) [0] by
     rw [← hW2]
     exact ⟨HB.out.alloc HB.out.size _, xzsg (BlkIs.new W1 _ _) HB.out.size⟩)
   rw [hsz] at HB2; clear hz
   go_enter Tryz.func42, Tryz.ntmps42
   go_wp2; go_ret; exact ⟨_, rfl, by rw [HN.out]; exact HB2.out.2, fun e => absurd (HN.out.symm.trans e) (by simp), HB2.out.1⟩
end

section
open Go.RowKit

attribute [local irreducible] FreeW

structure GrowR (B g n : Nat) (L : Nat → List Int) (F : Nat → Value) (W : World) : Prop where
 lt : g < B
 le : B ≤ W.heap.size
 blk : BlkF W g 26 n F
 row : ∀ i, i < n → RowI B W (F i) (L i)
 apart : ∀ i j, i < n → j < n → i ≠ j → ∀ k, (F i).ownBlock = some k → (F j).ownBlock ≠ some k
theorem GrowR.push {B g n : Nat} {L : Nat → List Int} {F : Nat → Value} {W : World} (h : GrowR B g n L F W) {i : Nat} (hi : i < n) (x : Int) (hl : (L i).length + 1 ≤ 1073741824) :
   ∃ v' W', (Builtin.append_ #[26, 26] 26 #[F i, .slice (some ⟨W.heap.size, 0, none⟩) 1 1]).run Tryz.prog (W.alloc (.cells #[.int .i64 x] 3)) = .ok v' W' ∧
     (∃ A m c, v' = .slice A m c) ∧ (∃ y, W'.cell? ⟨g, i, none⟩ = some y) ∧ W'.frozen? ⟨g, i, none⟩ = false ∧ GrowR B g n (fun j => if j = i then L i ++ [x] else L j) (putV F i v') (W'.setCell ⟨g, i, none⟩ v') ∧ (∀ B0 W0, B0 ≤ g → Below B0 W0 W → Below B0 W0 (W'.setCell ⟨g, i, none⟩ v')) := by
 obtain ⟨U, hU⟩ : ∃ U, W.alloc (.cells #[.int .i64 x] 3) = U := ⟨_, rfl⟩
 have hsz : U.heap.size = W.heap.size + 1 := by rw [← hU]; simp
 have hUB : Below W.heap.size W U := by rw [← hU]; exact (Below.refl _ _).alloc (Nat.le_refl _) _
 have hnew : U.cell? ⟨W.heap.size, 0, none⟩ = some (.int .i64 x) := by
   rw [← hU]; exact (BlkIs.new W 3 #[.int .i64 x]).cell 0
 have h1 := (h.row i hi).step hUB; have hle := h.le; obtain ⟨v', W', hr, hown, hgr, _, hob⟩ := xzca h1 hnew hl (by omega) (c := 1); rw [hU]
 -- block g is as it was
 have hng : ∀ j, j < n → (F j).ownBlock ≠ some g := fun j hj e => by have := (World.ownsRow.lt (h.row j hj) g e).1; have := h.lt; omega
 have hgW : W'.heap[g]? = W.heap[g]? := (hgr.block g (by have := h.lt; omega) (fun e => hng i hi e.symm)).trans (hUB.block g (by have := h.lt; omega)); have hb' : BlkF W' g 26 n F := hgW.trans h.blk
 have hown' : ∀ k, v'.ownBlock = some k → k ≠ g := fun k hk e => by
   subst e; have := (World.ownsRow.lt hown k hk).1; have := h.lt; omega
 refine ⟨v', W', hr, by obtain ⟨A, c, e, _⟩ := xzar hown; exact ⟨_, _, _, e⟩, ⟨_, BlkF.cell hb' hi⟩, BlkIs.frozen hb' i, ⟨h.lt, by rw [World.size_setCell]; have := hgr.size; omega, hb'.put i v', fun j hj => ?_, fun j k hj hk hne m => ?_⟩, fun B0 W0 h0 hb => ?_⟩
 · by_cases e : j = i
   · subst e
     unfold putV; rw [if_pos rfl]
     show RowI B _ v' (if j = j then L j ++ [x] else L j)
     rw [if_pos rfl]
     exact xzat hown fun k hk => Below.heap_setCell _ _ _ _ (hown' k hk)
   · unfold putV
     rw [if_neg e]
     show RowI B _ (F j) (if j = i then L i ++ [x] else L j)
     rw [if_neg e]; have h2 := (h.row j hj).step hUB
     have h3 : RowI B W' (F j) (L j) := World.ownsRow.kept h2 hgr (by
       cases hf : (F j).ownBlock with
       | none => exact .inl rfl
       | some k => exact .inr fun e2 => h.apart j i hj hi e k hf e2.symm)
     exact xzat h3 fun k hk => Below.heap_setCell _ _ _ _ (fun e2 => hng j hj (hk.trans (congrArg some e2)))
 · have key : ∀ j, j < n → j ≠ i → ∀ m, (F j).ownBlock = some m → v'.ownBlock ≠ some m := fun j hj hne m hm e => by
     rcases hob with e1 | e1
     · exact h.apart j i hj hi hne m hm (e1 ▸ e)
     · rw [e1] at e
       have := (World.ownsRow.lt (h.row j hj) m hm).2
       injection e with e
       omega
   unfold putV
   by_cases e1 : j = i
   · rw [if_pos e1, if_neg (fun e2 => hne (e1.trans e2.symm))]
     intro h1 h2; exact key k hk (fun e2 => hne (e1.trans e2.symm)) m h2 h1
   · rw [if_neg e1]
     by_cases e2 : k = i
     · rw [if_pos e2]
       exact fun h1 => key j hj e1 m h1
     · rw [if_neg e2]
       exact fun h1 => h.apart j k hj hk hne m h1
 · exact ((hb.trans (hUB.mono (by have := h.lt; omega))).grown hgr (by have := hUB.size; have := h.lt; omega) (fun k hk => by have := (World.ownsRow.lt h1 k hk).1; have := h.lt; omega)).setCell (p := ⟨g, i, none⟩) h0 _
theorem GrowR.rows {B g n : Nat} {L : Nat → List Int} {F : Nat → Value} {W : World} (h : GrowR B g n L F W) (hn : n ≤ 1048576) : RowsI W ((List.range n).map L) (.slice (some ⟨g, 0, none⟩) n n) := by
 have hl : ((List.range n).map L).length = n := by simp
 refine ⟨_, n, by rw [hl], by omega, fun _ => ⟨g, 0, rfl, by have := h.lt; have := h.le; omega, fun i hi => ?_⟩⟩; rw [hl] at hi; refine ⟨F i, by rw [Nat.zero_add]; exact BlkF.cell h.blk hi, ?_⟩; rw [List.getElem_map, List.getElem_range]; exact (h.row i hi).ints
theorem GrowR.begin {W : World} {g n : Nat} (hg : g < W.heap.size) (h : BlkF W g 26 n fun _ => .slice none 0 0) : GrowR W.heap.size g n (fun _ => []) (fun _ => .slice none 0 0) W :=
 ⟨hg, Nat.le_refl _, h, fun _ _ => RowI.nil _ _, fun _ _ _ _ _ k e => by cases e⟩
def EdgeTo (D : Df) (a c : Nat) (i : Nat) (x : Int) : Prop := ∃ p : Nat, x = (p : Int) ∧ ((p < a ∧ (i : Int) ∈ D.next.getD p []) ∨ (p = a ∧ (i : Int) ∈ (D.next.getD a []).take c))
theorem yzap (D : Df) (a : Nat) (i : Nat) (x : Int) : EdgeTo D a (D.next.getD a []).length i x ↔ EdgeTo D (a + 1) 0 i x := by
 unfold EdgeTo
 constructor
 · rintro ⟨p, rfl, h | ⟨rfl, h⟩⟩
   · exact ⟨p, rfl, .inl ⟨by omega, h.2⟩⟩
   · exact ⟨p, rfl, .inl ⟨by omega, by rwa [List.take_length] at h⟩⟩
 · rintro ⟨p, rfl, h | ⟨rfl, h⟩⟩
   · by_cases e : p = a
     · subst e; exact ⟨p, rfl, .inr ⟨rfl, by rw [List.take_length]; exact h.2⟩⟩
     · exact ⟨p, rfl, .inl ⟨by omega, h.2⟩⟩
   · simp at h
theorem xzwl (D : Df) (a c : Nat) (hc : c < (D.next.getD a []).length) (i : Nat) (x : Int) : EdgeTo D a (c + 1) i x ↔ EdgeTo D a c i x ∨ ((D.next.getD a [])[c] = (i : Int) ∧ x = (a : Int)) := by
 unfold EdgeTo; rw [List.take_succ_eq_append_getElem hc]
 constructor
 · rintro ⟨p, rfl, h | ⟨rfl, h⟩⟩
   · exact .inl ⟨p, rfl, .inl h⟩
   · rcases List.mem_append.1 h with h | h
     · exact .inl ⟨p, rfl, .inr ⟨rfl, h⟩⟩
     · rw [List.mem_singleton] at h; exact .inr ⟨h.symm, rfl⟩
 · rintro (⟨p, rfl, h | ⟨rfl, h⟩⟩ | ⟨h, rfl⟩)
   · exact ⟨p, rfl, .inl h⟩
   · exact ⟨p, rfl, .inr ⟨rfl, List.mem_append.2 (.inl h)⟩⟩
   · exact ⟨a, rfl, .inr ⟨rfl, List.mem_append.2 (.inr (by rw [h]; simp))⟩⟩
theorem xzso : (Tryz.prog.info? 26).map (fun i => (i.zero, i.size, i.bytes)) = some (some (.slice none 0 0), 1, 24) := by kernel_rfl
theorem xzsp (n : Nat) (h : n ≤ 1099511627776) (w : World) : (Instr.makeSlice 25 (.int .i64 (n : Nat)) (.int .i64 (n : Nat))).run Tryz.prog w = .ok (.slice (some ⟨w.heap.size, 0, none⟩) n n) (w.alloc (.cells (cellsN n fun _ => .slice none 0 0) 26)) := by
 have e : madeCells #[Value.slice none 0 0] n = cellsN n fun _ => .slice none 0 0 := by
   unfold madeCells cellsN
   apply Array.ext'
   simp [Nat.mod_one]
 rw [← e]; exact run_make_row' (P := Tryz.prog) 25 26 (.slice none 0 0) 24 Tryz.underlying25 xzso rfl .i64 .i64 n (by omega) (by omega) w
set_option maxRecDepth 20000 in
set_option maxHeartbeats 8000000 in
theorem yzaq (D : Df) (v : Value) (w : World) (h : DfAt w D v) (hn : D.next.length ≤ 600) (hrl : ∀ r ∈ D.next, r.length ≤ 256 ∧ ∀ x ∈ r, -1 ≤ x ∧ x < (D.next.length : Int)) :
   Calls Tryz.prog 57 #[v] w fun e w' => ∃ (L : Nat → List Int) (v' : Value), e = .returned v' ∧ RowsI w' ((List.range D.next.length).map L) v' ∧ (∀ i, i < D.next.length → ∀ x, x ∈ L i ↔ EdgeTo D D.next.length 0 i x) ∧ Below w.heap.size w w' := by
 obtain ⟨vn, vt, rfl, hrn, hrt⟩ := h; obtain ⟨W1, hbx, hsz, hb1, hx1⟩ := xzbs D.of D.n vn vt w; have hd1 := DfB.of hx1; obtain ⟨c256, c257, c258⟩ := hd1.cells; obtain ⟨An, cn, rfl, hcn, hgn⟩ := hrn; obtain ⟨W2, hW2⟩ : ∃ W2, W1.alloc (.cells (cellsN D.next.length fun _ => .slice none 0 0) 26) = W2 := ⟨_, rfl⟩
 have hs2 : W2.heap.size = w.heap.size + 2 := by rw [← hW2]; simp [hsz]
 have hmk := xzsp D.next.length (by omega) W1; rw [hW2, hsz] at hmk
 have hb2 : Below w.heap.size w W2 := by rw [← hW2]; exact hb1.alloc (by omega) _
 have c257' : W2.cell? ⟨w.heap.size, 257, none⟩ = some (.slice An D.next.length cn) := by
   rw [← hW2]; exact ((Below.refl W1.heap.size W1).alloc (Nat.le_refl _) _ |>.cell (p := ⟨w.heap.size, 257, none⟩) (by show w.heap.size < _; omega)).trans c257
 have hg2 : GrowR W2.heap.size (w.heap.size + 1) D.next.length (fun _ => []) (fun _ => .slice none 0 0) W2 := GrowR.begin (by omega) (by rw [← hW2, ← hsz]; exact BlkIs.new W1 _ _); have HB := Lib.hid (And.intro hb2 hg2); have HGN := Lib.hid hgn; have HRL := Lib.hid hrl; obtain ⟨dc, hdc⟩ : ∃ dc, dfC D.of D.n (.slice An D.next.length cn) vt = dc := ⟨_, rfl⟩; rw [hdc] at hbx
 have hds : dc.size = 259 := by rw [← hdc]; exact xzad _ _ _ _
 rw [hdc]; clear hrt hb1 hx1 hd1 hdc hb2 hg2 hgn hrl hW2
 go_enter Tryz.func57, Tryz.ntmps57
 go_wp2; have HC := Lib.hid c257'; have HSZ := Lib.hid hs2; clear hbx hds c256 c257 c258 c257' hmk
 go_loopw [4, 5, 7, 15, 22] (fun _ _ _ i _ wr => ∃ a : Nat, i = .int .i64 a ∧ a ≤ D.next.length ∧ Hid (Below w.heap.size w wr ∧ ∃ L F, GrowR W2.heap.size (w.heap.size + 1) D.next.length L F wr ∧ (∀ i, i < D.next.length → (L i).length ≤ a * 256) ∧ ∀ i, i < D.next.length → ∀ x, x ∈ L i ↔ EdgeTo D a 0 i x)) (fun _ _ _ i _ _ => D.next.length - (intOf i).toNat)
 case atStart => exact ⟨0, rfl, Nat.zero_le _, Lib.hid ⟨HB.out.1, _, _, HB.out.2, fun _ _ => by simp, fun i _ x => by unfold EdgeTo; simp⟩⟩
 case round =>
   obtain ⟨a, rfl, ha, HH⟩ := hrel; obtain ⟨wo, rfl⟩ : ∃ wo, wo = wr := ⟨_, rfl⟩
   by_cases hp : a < D.next.length
   · have hk1 : IntKind.i64.wrap ((a : Int) + 1) = ((a + 1 : Nat) : Int) := by rw [IntKind.wrap_i64]; omega
     have hdl : decide ((a : Int) < (D.next.length : Int)) = true := by simp; omega
     obtain ⟨b, o, rfl, hlt, hg⟩ := HGN.out (by intro e; rw [e] at hp; simp at hp); obtain ⟨vr, hcell, hvr⟩ := hg a hp; have hcell' := (HH.out.1.cell (p := ⟨b, o + a, none⟩) hlt).trans hcell; obtain ⟨Ar, cr, rfl, hcr, hgr⟩ := hvr; have hrow := HRL.out _ (List.getElem_mem hp)
     have hgd : D.next.getD a [] = D.next[a] := by rw [List.getD_eq_getElem?_getD, List.getElem?_eq_getElem hp]; rfl
     have HER := Lib.hid (yzap D a); have HES := Lib.hid (xzwl D a); rw [hgd] at HER HES; generalize D.next[a] = r at *; have HGR := Lib.hid hgr; have HROW := Lib.hid hrow; clear hg hcell hgr hrow hgd; go_wp2
     go_loopw [7, 22] (fun _ i wr => ∃ c : Nat, i = .int .i64 c ∧ c ≤ r.length ∧ Hid (Below w.heap.size w wr ∧ ∃ L F, GrowR W2.heap.size (w.heap.size + 1) D.next.length L F wr ∧ (∀ i, i < D.next.length → (L i).length ≤ a * 256 + c) ∧ ∀ i, i < D.next.length → ∀ x, x ∈ L i ↔ EdgeTo D a c i x)) (fun _ i _ => r.length - (intOf i).toNat)
     case atStart => exact ⟨0, rfl, Nat.zero_le _, HH⟩
     case round =>
       obtain ⟨c, rfl, hc, HI⟩ := hrel; obtain ⟨wi, rfl⟩ : ∃ wi, wi = wr := ⟨_, rfl⟩; clear hcell'
       by_cases hq : c < r.length
       · have hk2 : IntKind.i64.wrap ((c : Int) + 1) = ((c + 1 : Nat) : Int) := by rw [IntKind.wrap_i64]; have := HROW.out.1; omega
         have hdl2 : decide ((c : Int) < (r.length : Int)) = true := by simp; omega
         obtain ⟨br, or, rfl, hltr, hgr⟩ := HGR.out (by intro e; rw [e] at hq; simp at hq); have hcr := (HI.out.1.cell (p := ⟨br, or + c, none⟩) hltr).trans (hgr c hq); have hin := HROW.out.2 _ (List.getElem_mem hq); have HES2 := Lib.hid (HES.out c hq); generalize r[c] = y at *; clear hgr
         by_cases hy : y = -1
         · subst hy
           have HN := Lib.hid (show Below w.heap.size w wi ∧ ∃ L F, GrowR W2.heap.size (w.heap.size + 1) D.next.length L F wi ∧ (∀ i, i < D.next.length → (L i).length ≤ a * 256 + (c + 1)) ∧ ∀ i, i < D.next.length → ∀ x, x ∈ L i ↔ EdgeTo D a (c + 1) i x by
             obtain ⟨h1, L, F, h2, h3, h4⟩ := HI.out; refine ⟨h1, L, F, h2, fun i hi => by have := h3 i hi; omega, fun i hi x => ?_⟩; rw [h4 i hi x, HES2.out]
             constructor
             · exact .inl
             · rintro (h | ⟨h, _⟩)
               · exact h
               · omega)
           clear HI hin; go_wp2; exact ⟨⟨c + 1, rfl, hq, HN⟩, by simp [intOf]; omega⟩
         · obtain ⟨t, rfl⟩ : ∃ t : Nat, y = (t : Nat) := ⟨y.toNat, by omega⟩
           have ht : t < D.next.length := by omega
           have e1 := ne_m1 t
           have i1 : decide ((t : Int) < (D.next.length : Int)) = true := by simp; omega
           obtain ⟨h1, L, F, h2, h3, h4⟩ := HI.out; have hcF := BlkF.cell h2.blk ht; obtain ⟨v', W', hrun, ⟨A5, n5, c5, rfl⟩, ⟨yc, hyc⟩, hyf, hgrow, hbel⟩ := h2.push ht (a : Nat) (by have := h3 t ht; have := HROW.out.1; omega)
           have HN := Lib.hid (show Below w.heap.size w (W'.setCell ⟨w.heap.size + 1, t, none⟩ (.slice A5 n5 c5)) ∧ ∃ L F, GrowR W2.heap.size (w.heap.size + 1) D.next.length L F (W'.setCell ⟨w.heap.size + 1, t, none⟩ (.slice A5 n5 c5)) ∧ (∀ i, i < D.next.length → (L i).length ≤ a * 256 + (c + 1)) ∧ ∀ i, i < D.next.length → ∀ x, x ∈ L i ↔ EdgeTo D a (c + 1) i x by
             refine ⟨hbel _ _ (by omega) h1, _, _, hgrow, fun i hi => ?_, fun i hi x => ?_⟩
             · have g3 := h3 i hi
               have g4 := h3 t ht
               split
               · rw [List.length_append, List.length_singleton]; omega
               · omega
             · rw [HES2.out]
               by_cases e : i = t
               · subst e
                 rw [if_pos rfl, List.mem_append, List.mem_singleton, h4 i hi x]
                 constructor
                 · rintro (h | h)
                   · exact .inl h
                   · exact .inr ⟨rfl, h⟩
                 · rintro (h | ⟨_, h⟩)
                   · exact .inl h
                   · exact .inr h
               · rw [if_neg e, h4 i hi x]
                 constructor
                 · exact .inl
                 · rintro (h | ⟨h, _⟩)
                   · exact h
                   · exact absurd (by omega) e)
           have hF : (F t).oneCell' = true ∨ True := .inr trivial; clear HI h1 h2 h3 h4 hgrow hbel hy hin hF; generalize F t = ft at *
           go_wp2_with (refine xzaj rfl _ _ 26 26 rfl rfl rfl hrun ?_)
           exact ⟨⟨c + 1, rfl, hq, HN⟩, by simp [intOf]; omega⟩
       · have hdl2 : decide ((c : Int) < (r.length : Int)) = false := by simp; omega
         obtain rfl : c = r.length := by omega
         have HN := Lib.hid (show Below w.heap.size w wi ∧ ∃ L F, GrowR W2.heap.size (w.heap.size + 1) D.next.length L F wi ∧ (∀ i, i < D.next.length → (L i).length ≤ (a + 1) * 256) ∧ ∀ i, i < D.next.length → ∀ x, x ∈ L i ↔ EdgeTo D (a + 1) 0 i x by
           obtain ⟨h1, L, F, h2, h3, h4⟩ := HI.out
           exact ⟨h1, L, F, h2, fun i hi => by have := h3 i hi; have := HROW.out.1; omega, fun i hi x => by rw [h4 i hi x, HER.out]⟩)
         clear HI; go_wp2; exact ⟨⟨a + 1, rfl, hp, HN⟩, by simp [intOf]; omega⟩
   · have hdl : decide ((a : Int) < (D.next.length : Int)) = false := by simp; omega
     obtain rfl : a = D.next.length := by omega
     go_wp2; go_ret; obtain ⟨h1, L, F, h2, h3, h4⟩ := HH.out; exact ⟨L, _, rfl, h2.rows (by omega), h4, h1⟩
end

section
open Go.RowKit

variable {F : Fence} {n : Nat} {P : Program}

def roundEnds {σ : Type} (B : Nat) (Kp : World → World → Prop) (Iy : σ → World → Prop) (Ix : Code → World → Prop) (s : σ) (W : World) : Exit → Act → World → Prop
 | .normal, _, W' => KeepsFrom B W W' ∧ Kp W W' ∧ Iy s W'
 | .ret, _, W' => KeepsFrom B W W' ∧ Ix .ret W'
 | .exit id, _, W' => KeepsFrom B W W' ∧ Ix (.exit id) W'
 | .goto t, _, W' => KeepsFrom B W W' ∧ Ix (.goto t) W'
 | .panic _, _, _ => False
 | .outgrown, _, _ => False

def Bides (B : Nat) (I : World → Prop) : Prop := ∀ (W : World) (l : Nat) (o o' : Obj), I W → B ≤ l → W.heap[l]? = some o → o.isCells = false → I (W.putObj l o')
theorem xzwm {σ : Type} {g : Operand} {ps : Array Tmp} {assign body : Code} {Q : Exit → Act → World → Prop} {a : Act} {w : World}
   (hro : F.round = none) (h1 : 1 ≤ n) {gf : Nat} {bd lb : Array Value} (hg : a.eval g = .func (.func gf) bd lb) (hFg : F.fn gf) (eg : ∀ args w, (callFunc gf args).run P w = .ok (.enter gf args) w)
   (encs : σ → Array Value) (hps : ∀ s, (encs s).size = ps.size) (Kp : World → World → Prop)
   (hKt : ∀ {A B C : World}, Kp A B → Kp B C → Kp A C) (hKb : ∀ (W : World) (l : Nat) (o o' : Obj), w.heap.size ≤ l → W.heap[l]? = some o → o.isCells = false → Kp W (W.putObj l o'))
   (I Iy : σ → World → Prop) (Ix : Code → World → Prop) (Fin : World → Prop)
   (hI : ∀ s, Bides w.heap.size (I s)) (hIy : ∀ s, Bides w.heap.size (Iy s)) (hIx : ∀ c, Bides w.heap.size (Ix c)) (hFin : Bides w.heap.size Fin)
   (hcall : ∀ (l : Nat) (G X : World → Prop), (∀ W W', G W → KeepsOthers W W' → G W') →
     (∀ s W, I s W → G W → YieldAt F (n - 1 - 1) P l (encs s) W fun e W' => (e = .returned (.bool true) ∧ Iy s W' ∧ Kp W W' ∧ G W') ∨ (e = .returned (.bool false) ∧ X W')) →
     ∀ W, Below w.heap.size w W → KeepsOthers w W → G W → CallsIn F (n - 1) P gf (bd ++ #[.func (.yield l) #[] #[]] ++ lb) W fun e W' => (∃ v, e = .returned v) ∧ ((Fin W' ∧ G W') ∨ X W'))
   (a₁ : σ → Act)
   (hassign : ∀ (l : Nat) (s : σ) (W : World) (K : Act → World → Prop), K (a₁ s) W →
     assign.wpIn (F.inRound l) (n - 1 - 1) P (Exit.then K (fun _ _ _ => False)) { tmps := (ps.zip (encs s)).foldl (fun t (p, v) => t.setIfInBounds p v) a.tmps, defers := [] } W)
   (hbody : ∀ (l : Nat) (s : σ) (W : World), w.heap.size ≤ W.heap.size → I s W → body.wpIn (F.inRound l) (n - 1 - 1) P (roundEnds w.heap.size Kp Iy Ix s W) (a₁ s) W)
   (hdone : ∀ (D : Nat) (W : World), w.heap.size ≤ D → Fin W → W.heap[D]? = some (.deferred (some [])) → Q .normal { a with defers := { target := .collected D, args := #[] } :: a.defers } W)
   (hstop : ∀ (D : Nat) (c : Code) (W : World), w.heap.size ≤ D → Ix c W → W.heap[D]? = some (.deferred (some [])) → c.wpIn F n P Q { a with defers := { target := .collected D, args := #[] } :: a.defers } W) :
   (Code.rangeFunc g ps assign body).wpIn F n P Q a w := by
 refine wpIn_rangeFunc fun fn hfn => ?_
 rw [hro]
 -- the record of the loop in its two free states
 let rd : LoopState → Option Code → Obj := fun st pe => .loop { state := st, pending := pe, fn, tmps := a.tmps, params := ps, assign, body, defers := w.heap.size }
 let G : World → Prop := fun W => W.heap[w.heap.size + 1]? = some (rd .ready none) ∧ W.heap[w.heap.size]? = some (.deferred (some []))
 let X : World → Prop := fun W => ∃ c, Ix c W ∧ W.heap[w.heap.size + 1]? = some (rd .done (some c)) ∧ W.heap[w.heap.size]? = some (.deferred (some []))
 let W1 := (w.alloc (.deferred (some []))).alloc (rd .ready none)
 have hG1 : G W1 := by
   refine ⟨?_, (Below.heap_alloc _ _ _ (by simp)).trans (World.alloc_heap_new w _)⟩; have := World.alloc_heap_new (w.alloc (.deferred (some []))) (rd .ready none)
   rwa [World.size_alloc] at this
 have hB1 : Below w.heap.size w W1 := ((Below.refl _ w).alloc (Nat.le_refl _) _).alloc (by simp) _; have hK1 : KeepsOthers w W1 := (KeepsOthers.alloc w _).trans (KeepsOthers.alloc _ _)
 refine ⟨w.heap.size + 1, [{ target := .collected w.heap.size, args := #[] }], W1, { target := .fn (.func gf) lb, args := bd ++ #[.func (.yield (w.heap.size + 1)) #[] #[]] }, W1, gf,
   bd ++ #[.func (.yield (w.heap.size + 1)) #[] #[]] ++ lb, W1, run_enterLoop_outer _ _ _ _ _, ?_, ?_, ?_, fun _ => h1, ?_⟩
 · simp only [resolve, hg]
   simp [go_sem]
 · intro f' hf'
   simp [Target.leads] at hf'
   subst hf'; exact hFg
 · simp [invoke, go_sem, eg]
 refine (hcall (w.heap.size + 1) G X (fun W W' h hk => ⟨hk.same _ _ h.1 rfl, hk.same _ _ h.2 rfl⟩) ?_ W1 hB1 hK1 hG1).mono ?_
 · rintro s W hi ⟨hl, hd⟩
   have hlt : w.heap.size + 1 < W.heap.size := (Array.getElem?_eq_some_iff.1 hl).1; refine ⟨fn, _, assign, body, run_yield (P := P) (args := encs s) hl (hps s), roundIn_of_wpIn hfn (hassign _ s W _ ⟨_, run_beginRound hl rfl, ?_⟩)⟩
   let Wb := W.putObj (w.heap.size + 1) (rd .busy none)
   have hlb : Wb.heap[w.heap.size + 1]? = some (rd .busy none) := World.putObj_heap_same hlt; have hdb : Wb.heap[w.heap.size]? = some (.deferred (some [])) := (World.putObj_heap_other (by omega)).trans hd; have hib : I s Wb := hI s _ _ _ _ hi (by omega) hl rfl; have hkb : Kp W Wb := hKb _ _ _ _ (by omega) hl rfl
   have ends : ∀ (j : Option Code) (W3 : World), KeepsFrom w.heap.size Wb W3 →
       W3.heap[w.heap.size + 1]? = some (rd .busy none) ∧ (Instr.endRound (w.heap.size + 1) j).run P W3 = .ok (.bool j.isNone) (W3.putObj (w.heap.size + 1) (rd (if j.isNone then .ready else .done) j)) ∧
       (W3.putObj (w.heap.size + 1) (rd (if j.isNone then .ready else .done) j)).heap[w.heap.size + 1]? = some (rd (if j.isNone then .ready else .done) j) ∧
       (W3.putObj (w.heap.size + 1) (rd (if j.isNone then .ready else .done) j)).heap[w.heap.size]? = some (.deferred (some [])) := fun j W3 hk => by
     have hl3 := hk.same _ _ (by omega) hlb rfl; exact ⟨hl3, run_endRound (P := P) j hl3, World.putObj_heap_same (Array.getElem?_eq_some_iff.1 hl3).1, (World.putObj_heap_other (by omega)).trans (hk.same _ _ (Nat.le_refl _) hdb rfl)⟩
   refine wpIn_mono (hbody _ s Wb (by show _ ≤ (W.putObj _ _).heap.size; rw [World.putObj_size]; omega) hib) ?_; rintro e a3 W3 hp
   cases e with
   | normal =>
     obtain ⟨hk, hkp, hy⟩ := hp; obtain ⟨hl3, hr, hl4, hd4⟩ := ends none W3 hk; exact ⟨_, _, hr, .inl ⟨rfl, hIy s _ _ _ _ hy (by omega) hl3 rfl, hKt (hKt hkb hkp) (hKb _ _ _ _ (by omega) hl3 rfl), hl4, hd4⟩⟩
   | ret =>
     obtain ⟨hl3, hr, hl4, hd4⟩ := ends (some .ret) W3 hp.1; exact ⟨_, _, hr, .inr ⟨rfl, _, hIx _ _ _ _ _ hp.2 (by omega) hl3 rfl, hl4, hd4⟩⟩
   | exit id =>
     obtain ⟨hl3, hr, hl4, hd4⟩ := ends (some (.exit id)) W3 hp.1; exact ⟨_, _, hr, .inr ⟨rfl, _, hIx _ _ _ _ _ hp.2 (by omega) hl3 rfl, hl4, hd4⟩⟩
   | goto t =>
     obtain ⟨hl3, hr, hl4, hd4⟩ := ends (some (.goto t)) W3 hp.1; exact ⟨_, _, hr, .inr ⟨rfl, _, hIx _ _ _ _ _ hp.2 (by omega) hl3 rfl, hl4, hd4⟩⟩
   | panic ch => exact hp.elim
   | outgrown => exact hp.elim
 · rintro e W2 ⟨⟨v, rfl⟩, (⟨hf, hl, hd⟩ | ⟨c, hx, hl, hd⟩)⟩
   · exact ⟨none, _, run_endLoop (P := P) hl (by simp), hdone _ _ (Nat.le_refl _) (hFin _ _ _ _ hf (by omega) hl rfl) ((World.putObj_heap_other (by omega)).trans hd)⟩
   · exact ⟨some c, _, run_endLoop (P := P) hl (by simp), hstop _ c _ (Nat.le_refl _) (hIx c _ _ _ _ hx (by omega) hl rfl) ((World.putObj_heap_other (by omega)).trans hd)⟩

end
end Go.Proofs.YtgngaaemkmdfaaaGreatDoor
