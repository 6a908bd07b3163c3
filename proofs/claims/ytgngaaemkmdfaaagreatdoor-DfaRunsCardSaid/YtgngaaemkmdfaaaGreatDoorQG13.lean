/-
 WHERE A STATE LEADS TO, BY ROWS OF PLACES: what the maker's reach and takes have in common is the step; rows compared. No condition but those of each theorem.
-/
import Derived.Test.YtgngaaemkmdfaaaGreatDoorQG12
import Derived.Test.YtgngaaemkmdfaaaGreatDoorQG06
import Derived.Test.YtgngaaemkmdfaaaGreatDoorQG07
namespace Go.Proofs.YtgngaaemkmdfaaaGreatDoor
section
open Go.RowKit

theorem xzht (fol : List (Nat → Bool)) (f r : Nat → Bool) (q : Nat) : ∀ n, behindTo fol f r n q = (r q || (List.range n).any fun p => f p && (fol.getD p fun _ => false) q)
 | 0 => by simp [behindTo]
 | n + 1 => by
   rw [List.range_succ, List.any_append, ← Bool.or_assoc, ← xzht fol f r q n]; simp only [behindTo, List.any_cons, List.any_nil, Bool.or_false]
   cases h : f n
   · simp
   · simp [sOr]
theorem xzka (N : Nf) (hin : ∀ p ∈ N.first, 0 ≤ p) (q : Nat) : ∀ k, k ≤ N.first.length → firstTo N k q = hasI (N.first.take k) q
 | 0, _ => by simp [firstTo, hasI]
 | k + 1, h => by
   have hk : k < N.first.length := h; obtain ⟨x, hx⟩ := Int.eq_ofNat_of_zero_le (hin _ (List.getElem_mem hk)); rw [xznr _ _ hk, ← xzka N hin q k (by omega)]
   have hg : N.first.getD k 0 = (x : Int) := by rw [List.getD_eq_getElem?_getD, List.getElem?_eq_getElem hk]; exact hx
   simp only [firstTo, plus, hg, hx]
   congr 1
   rw [Bool.eq_iff_iff]; simp only [beq_iff_eq, decide_eq_true_eq]; omega
theorem xzrv (N : Nf) (hmi : MayIs N) (x : List Int) (hx : ∀ p ∈ x, 0 ≤ p ∧ p < (N.sets.length : Int)) (q : Nat) : ((List.range N.follow.length).any fun p => setOf x p && ((N.follow.map setOf).getD p fun _ => false) q) = markF N x q := by
 rw [Bool.eq_iff_iff, List.any_eq_true]; unfold markF; rw [List.any_eq_true]
 constructor
 · rintro ⟨p, hp, h⟩
   rw [Bool.and_eq_true] at h; have hp' := List.mem_range.1 hp; refine ⟨(p : Int), hasI_mem.1 h.1, ?_⟩
   have e : (N.follow.map setOf).getD p (fun _ => false) = setOf (N.followAt (p : Int)) := by
     unfold Nf.followAt; rw [List.getD_eq_getElem?_getD, List.getElem?_map, List.getElem?_eq_getElem hp', Int.toNat_natCast, List.getD_eq_getElem?_getD, List.getElem?_eq_getElem hp']; rfl
   rw [e] at h; exact h.2
 · rintro ⟨p, hp, h⟩
   obtain ⟨pn, rfl⟩ := Int.eq_ofNat_of_zero_le (hx p hp).1
   have hlt : pn < N.follow.length := by have := (hx _ hp).2; rw [hmi.follow]; omega
   refine ⟨pn, List.mem_range.2 hlt, ?_⟩
   have e : (N.follow.map setOf).getD pn (fun _ => false) = setOf (N.followAt (pn : Int)) := by
     unfold Nf.followAt; rw [List.getD_eq_getElem?_getD, List.getElem?_map, List.getElem?_eq_getElem hlt, Int.toNat_natCast, List.getD_eq_getElem?_getD, List.getElem?_eq_getElem hlt]; rfl
   rw [e, Bool.and_eq_true]; exact ⟨hasI_mem.2 hp, h⟩
theorem xzvn (n : Nat) (f : Nat → Bool) (N : Nf) (b q : Nat) : hasI (keepTo n f N b) q = (decide (q < n) && (f q && N.setAt q b)) := by
 rw [Bool.eq_iff_iff, hasI_mem]; unfold keepTo
 constructor
 · intro h
   obtain ⟨q', hq, e⟩ := List.mem_map.1 h
   have : q' = q := by omega
   subst this; have := List.mem_filter.1 hq; rw [decide_eq_true (List.mem_range.1 this.1), this.2]; rfl
 · intro h
   simp only [Bool.and_eq_true, decide_eq_true_eq] at h; exact List.mem_map.2 ⟨q, List.mem_filter.2 ⟨List.mem_range.2 h.1, by simp [h.2]⟩, rfl⟩
def reachOf (N : Nf) (L : List (List Int)) (at' : Nat) : Nat → Bool := behindTo (N.follow.map setOf) (setOf (L.getD at' [])) (if at' = 0 then firstTo N N.first.length else fun _ => false) (N.follow.map setOf).length
theorem xzzl (N : Nf) (hmi : MayIs N) (L : List (List Int)) (at' b : Nat) (hx : ∀ p ∈ L.getD at' [], 0 ≤ p ∧ p < (N.sets.length : Int)) (q : Nat) :
   sAnd (reachOf N L at') (takesTo N b N.sets.length) q = setOf (stepX N L at' b) q := by
 unfold sAnd reachOf stepX; unfold setOf at *
 show (_ && takesTo N b N.sets.length q) = hasI _ q
 rw [xzvn]; rw [show ((N.follow.map fun (x : List Int) (p : Nat) => hasI x p).length) = N.follow.length by simp]; rw [xzht]; have hm := xzrv N hmi (L.getD at' []) hx q; unfold setOf at hm; rw [hm]; unfold marksS marks0 takesTo
 by_cases h0 : at' = 0
 · rw [if_pos h0, decide_eq_true h0, xzka N (fun p hp => (hmi.firsts.1 p hp).1) q _ (Nat.le_refl _), List.take_length]
   cases hasI N.first q <;> cases markF N (L.getD at' []) q <;> cases decide (q < N.sets.length) <;> cases N.setAt (q : Int) b <;> rfl
 · rw [if_neg h0, decide_eq_false h0]
   cases markF N (L.getD at' []) q <;> cases decide (q < N.sets.length) <;> cases N.setAt (q : Int) b <;> rfl
theorem eqItemsW (d : Nat) (xs ys : Array Value) (F G : Nat → Nat) (w : World) : ∀ js : List Nat, (∀ j ∈ js, xs[j]? = some (.int .u64 (F j)) ∧ ys[j]? = some (.int .u64 (G j))) →
   (Op.eqItems (d + 1) 53 1 xs ys js).run Tryz.prog w = .ok (js.all fun j => decide (F j = G j)) w
 | [], _ => by simp [Op.eqItems]
 | j :: js, h => by
   have h5 := run_equalIn_int (P := Tryz.prog) w d 53 .u64 .u64 (F j) (G j) Tryz.underlying53
   have ih := eqItemsW d xs ys F G w js fun k hk => h k (by simp [hk])
   have h1 := part59 (off := j * 1) (by rw [Nat.mul_one]; exact (h j (by simp)).1) w; have h2 := part59 (off := j * 1) (by rw [Nat.mul_one]; exact (h j (by simp)).2) w; simp only [Op.eqItems, Sem.run_bind, h1, h2, h5, Result.andThen_ok]
   by_cases e : F j = G j
   · simp [e, ih]
   · have e2 : (((F j : Nat) : Int) == ((G j : Nat) : Int)) = false := by simp; omega
     simp [e, e2]
theorem xzlr {d : Nat} {xs ys : Array Value} {fs : List Field} {ta o0 : Nat} (h : fs.map (fun f => (decide (f.name ≠ "_"), f.type, f.offset)) = [(true, ta, o0)])
   {w : World} {a b : Value} {r : Bool} (h1 : (part ta xs o0).run Tryz.prog w = .ok a w) (h2 : (part ta ys o0).run Tryz.prog w = .ok b w) (h3 : (Op.equalIn d ta a b).run Tryz.prog w = .ok r w) :
   (Op.eqFields d xs ys fs).run Tryz.prog w = .ok r w := by
 rcases fs with _ | ⟨f0, _ | ⟨f1, fs⟩⟩
 · simp at h
 · simp only [List.map_cons, List.map_nil, List.cons.injEq, Prod.mk.injEq, and_true] at h
   obtain ⟨g1, g2, g3⟩ := h; have g1' : f0.name ≠ "_" := of_decide_eq_true g1; simp only [Op.eqFields, if_pos g1', g2, g3, Sem.run_bind, h1, h2, h3, Result.andThen_ok]
   cases r <;> simp
 · simp at h
theorem partRw (f : Nat → Bool) (w : World) : (part 81 (rowA f) 0).run Tryz.prog w = .ok (.agg (rowA f)) w := by
 kernel_rfl
def emptyW (f : Nat → Bool) : Bool := (List.range 32).all fun k => decide (wd f k = wd (fun _ => false) k)
theorem xzyb (f : Nat → Bool) (w : World) : (binOp .eql 83 (.agg (rowA f)) (.agg (rowA fun _ => false))).run Tryz.prog w = .ok (.bool (emptyW f)) w := by
 have h : (Op.equalIn 10000 83 (.agg (rowA f)) (.agg (rowA fun _ => false))).run Tryz.prog w = .ok (emptyW f) w := by
   rw [run_equalIn_struct (P := Tryz.prog) w 9999 83 _ _ (by kernel_rfl) (by kernel_rfl)]; obtain ⟨i, hi⟩ : ∃ i, Tryz.prog.info? 53 = some i := Option.isSome_iff_exists.1 (by kernel_rfl)
   have hc : Tryz.prog.cellsOf 53 = 1 := by kernel_rfl
   have harr := run_equalIn_array (P := Tryz.prog) w 9998 (rowA f) (rowA fun _ => false) Tryz.underlying81 hi; rw [hc, eqItemsW 9997 (rowA f) (rowA fun _ => false) (wd f) (wd fun _ => false) w (List.range 32) (fun j hj => ⟨xzeq f (List.mem_range.1 hj), xzeq _ (List.mem_range.1 hj)⟩)] at harr; exact xzlr (by kernel_rfl) (partRw f w) (partRw _ w) harr
 rw [run_eql_struct, h]; rfl
theorem xzkb (N : Nf) (hn : N.sets.length ≤ 2000) (x : List Int) (hx : Kept N x) : emptyW (setOf x) = decide (x = []) := by
 rw [Bool.eq_iff_iff, decide_eq_true_eq]; unfold emptyW; rw [List.all_eq_true]
 constructor
 · intro h
   rcases hx with e | ⟨f, b, e⟩
   · exact e
   · cases hxx : x with
     | nil => rfl
     | cons a r =>
       exfalso
       have hm : a ∈ x := by rw [hxx]; simp
       rw [e] at hm; have hin := xzxz a hm; obtain ⟨p, rfl⟩ := Int.eq_ofNat_of_zero_le hin.1; have h1 := h (p / 64) (List.mem_range.2 (by omega)); simp only [decide_eq_true_eq] at h1; have h2 := xzoz h1 (j := p % 64) (by omega); rw [show 64 * (p / 64) + p % 64 = p by omega] at h2; have h3 : setOf x p = true := hasI_mem.2 (by rw [e]; exact hm); rw [h3] at h2; cases h2
 · rintro rfl k _
   simp only [decide_eq_true_eq]
   exact xzbh fun j _ => rfl
end

section
open Go.RowKit

theorem xzaz {ops : Array Oper} {rest : List Oper} {o : Oper} {a : Act} {w : World} {Q : Exit → Act → World → Prop} (hg : o.guard = none) (t : TypeId) (parts : Array (Nat × Operand)) (ho : o.op = .build t parts) {cells : Array Value}
   (hc : Tryz.prog.built t (parts.map fun (i, x) => (i, a.eval x)).toList = some cells) (h : wpList Tryz.prog ops Q rest (a.put o.dst (.agg cells)) w) : wpList Tryz.prog ops Q (o :: rest) a w :=
 wpList_plain hg fun _ hK => wp_build t parts ho (by rw [hc]; rfl) (by rw [hc]; exact hK _ _ h)

section
variable {w : World} {g : Nat} {t : TypeId} {f : Nat → Nat} {n : Int}
theorem loadVarC (h : BlkIs w g t (clsC f n)) : (loadVar 31 ⟨g, 0, none⟩).run Tryz.prog w = .ok (.agg (clsC f n)) w := by
 have := run_loadVar_mid (P := Tryz.prog) w g 0 31 (clsC f n).toList _ h.range Tryz.underlying31 rfl (by rw [infoC, Array.length_toList, xzag])
 rwa [Array.toArray_toList] at this
end

def memC (f : Nat → Nat) (n k : Int) (b : Nat) : Bool := mayB f n && decide (((f b : Nat) : Int) = k)

theorem clsBy {w : World} {g k : Nat} {t : TypeId} {f : Nat → Nat} {n : Int} (h : BlkIs w g t (clsC f n)) (hk : k < 256) : w.cell? ⟨g, k, none⟩ = some (.int .u8 (f k)) := (h.cell k).trans (xzho f n hk)

end

section
open Go.RowKit

theorem xzyc {m : Nat → Bool} {t x : Nat} (h : x ∈ mems m t) : x < t := by
 unfold mems at h; exact List.mem_range.1 (List.mem_filter.1 h).1
theorem xzzm (m : Nat → Bool) {b : Nat} (hb : b < 256) : sOf (mems m 256) b = m b := by
 unfold sOf mems; rw [Bool.eq_iff_iff, decide_eq_true_iff, List.mem_filter, List.mem_range]; exact ⟨fun h => h.2, fun h => ⟨hb, h⟩⟩
theorem xzgm {w w' : World} {g : Nat} {t : TypeId} {cs : Array Value} {row : Option Nat} (h : BlkIs w g t cs) (hg : w.grownBy w' row) (hne : some g ≠ row) : BlkIs w' g t cs := (hg.block g h.lt hne).trans h
theorem own_low {w : World} {base : Nat} {e : TypeId} {size : Nat} {v : Value} {n : Nat} {xs : List Value} (h : w.ownsRow base e size v n xs) {b : Nat} (hb : b < base) : some b ≠ v.ownBlock := fun e1 => by
 have := (h.lt b e1.symm).1; omega
theorem xzvo {m : Nat → Bool} {b : Nat} (h : m b = false) : mems m (b + 1) = mems m b := xzqo (Nat.le_succ b) fun c h1 h2 => by
 obtain rfl : c = b := by omega
 exact h
theorem xznz {m : Nat → Bool} {b : Nat} (h : m b = true) : mems m (b + 1) = mems m b ++ [b] := xznd (Nat.le_refl b) (fun c h1 h2 => absurd h2 (by omega)) h

set_option maxRecDepth 100000 in
set_option maxHeartbeats 2000000 in
theorem xzph (f : Nat → Nat) (n k : Int) (hf : ∀ b, b < 256 → f b < 256) (w : World) :
   Calls Tryz.prog 73 #[.agg (clsC f n), .int .i64 k] w fun e w' => e = .returned (setV (memC f n k)) ∧ Below w.heap.size w w' := by
 obtain ⟨i0, hi, hz0, hz1, hz2⟩ := info_parts info5; have HM := Lib.hid (xzjv f n hf); have HF := Lib.hid hf; have HI := Lib.hid hi; clear hf hi; have hb := (BlkIs.new w 31 (clsC f n)).alloc (.cells #[.int .u64 0, .int .u64 0, .int .u64 0, .int .u64 0] 55); have hr := BlkIs.new (w.alloc (.cells (clsC f n) 31)) 55 #[.int .u64 0, .int .u64 0, .int .u64 0, .int .u64 0]; rw [World.size_alloc] at hr; have hB := ((Below.refl w.heap.size w).alloc (Nat.le_refl _) (.cells (clsC f n) 31)).alloc (by simp) (.cells #[.int .u64 0, .int .u64 0, .int .u64 0, .int .u64 0] 55); have HB := Lib.hid hb; have HR := Lib.hid hr; have HBe := Lib.hid hB; clear hb hr hB
 cases hm : mayB f n
 · have hnone : ∀ b, b < 256 → memC f n k b = (fun _ => false) b := fun b _ => by unfold memC; rw [hm]; rfl
   have hset := xzfu hnone
   have h0 : setV (fun _ => false) = .agg #[.int .u64 0, .int .u64 0, .int .u64 0, .int .u64 0] := by
     have := xzna; rw [sOf_nil] at this; unfold setV; rw [this 0, this 1, this 2, this 3]; rfl
   rw [hset, h0]; rw [hm] at HM; clear hset h0 hnone
   go_enter Tryz.func73, Tryz.ntmps73
   go_wp2_with (first
     | refine xzbn rfl (.tmp 2) rfl rfl HB.out ?_
     | (go_at_call 24; refine (HM.out _).mono ?_; rintro e w2 ⟨rfl, hb2⟩; have hbx := HR.out.step hb2; obtain ⟨c0, c1, c2, c3, f0, f1, f2, f3⟩ := hbx.four))
   have hB := HBe.out.trans (hb2.mono HBe.out.size); refine bodyPost_ret (v := .agg #[.int .u64 0, .int .u64 0, .int .u64 0, .int .u64 0]) (by simp [results, Tryz.results73, go_sem, c0, c1, c2, c3]) rfl ⟨rfl, ?_⟩; exact (((hB.setCell (p := ⟨w.heap.size + 1, 0, none⟩) (Nat.le_succ _) _).setCell (p := ⟨w.heap.size + 1, 1, none⟩) (Nat.le_succ _) _).setCell (p := ⟨w.heap.size + 1, 2, none⟩) (Nat.le_succ _) _).setCell (p := ⟨w.heap.size + 1, 3, none⟩) (Nat.le_succ _) _
 · have hmem : ∀ b, memC f n k b = (((f b : Nat) : Int) == k) := fun b => by unfold memC; rw [hm, Bool.true_and, Bool.eq_iff_iff]; simp
   rw [hm] at HM; have HE := Lib.hid hmem; clear hmem
   go_enter Tryz.func73, Tryz.ntmps73
   go_wp2_with (first
     | refine xzbn rfl (.tmp 2) rfl rfl HB.out ?_
     | (go_at_call 24; refine (HM.out _).mono ?_; rintro e w2 ⟨rfl, hb2⟩; have HB2 := Lib.hid (And.intro (HB.out.step hb2) (And.intro (HR.out.step hb2) (HBe.out.trans (hb2.mono HBe.out.size))));
         have HZ2 := Lib.hid (Nat.le_trans (Nat.le_of_eq (World.size_alloc _ _).symm) hb2.size); clear hb2 HB HR HBe))
   have hsz : w.heap.size + 2 ≤ w2.heap.size := HB2.out.2.1.lt
   go_loopw [5, 11] (fun v i wr => ∃ b : Nat, b ≤ 256 ∧ i = .int .i64 b ∧ Hid (wr.ownsRow (w.heap.size + 2) 5 1 v (mems (memC f n k) b).length ((mems (memC f n k) b).map fun (x : Nat) => Value.int .u8 (x : Int)) ∧
       BlkIs wr w.heap.size 31 (clsC f n) ∧ BlkIs wr (w.heap.size + 1) 55 #[.int .u64 0, .int .u64 0, .int .u64 0, .int .u64 0] ∧ Below w.heap.size w wr ∧ w.heap.size + 2 ≤ wr.heap.size)) (fun _ i _ => 256 - (intOf i).toNat)
   case atStart =>
     exact ⟨0, by omega, rfl, Lib.hid ⟨World.ownsRow_nil _ _ _ _, HB2.out.1, HB2.out.2.1, HB2.out.2.2, hsz⟩⟩
   case round =>
     obtain ⟨b, hb, rfl, HH⟩ := hrel
     by_cases hlt : b < 256
     · have hcell := clsBy HH.out.2.1 hlt
       have hfk := HF.out b hlt
       have hw : IntKind.i64.wrap ((f b : Nat) : Int) = (f b : Nat) := by rw [IntKind.wrap_i64]; omega
       have hwb : IntKind.u8.wrap ((b : Nat) : Int) = (b : Nat) := by rw [IntKind.wrap_u8]; omega
       have hlen := xzll (memC f n k) b
       cases hkb : memC f n k b
       · have hd : (((f b : Nat) : Int) == k) = false := by rw [← HE.out]; exact hkb
         go_wp2; exact ⟨⟨b + 1, by omega, by go_num, by rw [xzvo hkb]; exact HH⟩, by simp [intOf]; omega⟩
       · have hd : (((f b : Nat) : Int) == k) = true := by rw [← HE.out]; exact hkb
         have hrow := HH.out.1; have hws := HH.out.2.2.2.2; have hi := HI.out
         go_wp2_with (at_builtin; refine wpList_append_own _ rfl _ _ 163 rfl (w.heap.size + 2) 5 i0 (.int .u8 0) 1 1 Tryz.underlying163 hi hz0 hz1 hz2 rfl (by decide) _ _ _ rfl (hrow.alloc _) ⟨wr.heap.size, 0, none⟩ 1 1 [.int .u8 (b : Nat)] rfl rfl (cell_one_new _ _ _) (by simp [Value.oneCell']) (by unfold maxLen; omega) (by omega) (by simp; omega) ?_; intro v' w3 hown' hgrow _)
         have hne := fun g (hg : g < w.heap.size + 2) => own_low hrow hg
         have hb1 := xzgm (HH.out.2.1.alloc _) hgrow (hne _ (by omega)); have hb2 := xzgm (HH.out.2.2.1.alloc _) hgrow (hne _ (by omega))
         have hB3 : Below w.heap.size w w3 := (HH.out.2.2.2.1.alloc (by omega) _).grown hgrow (by simp; omega) (fun r e => by
           rcases Nat.lt_or_ge r w.heap.size with h | h
           · exact absurd e.symm (hne r (by omega))
           · exact h)
         have hsz3 := hgrow.size; rw [World.size_alloc] at hsz3; refine ⟨⟨b + 1, by omega, by go_num, ?_⟩, by simp [intOf]; omega⟩; rw [xznz hkb, List.length_append, List.map_append]; exact Lib.hid ⟨hown', hb1, hb2, hB3, by omega⟩
     · obtain rfl : b = 256 := by omega
       obtain ⟨hrow, hb1, hb2, hB3, _⟩ := HH.out; obtain ⟨A, c, rfl, hbr⟩ := xzhp hrow
       have hset : setV (sOf (mems (memC f n k) 256)) = setV (memC f n k) := xzfu fun i hi => xzzm _ hi
       have hl : ∀ x ∈ mems (memC f n k) 256, x < 256 := fun x hx => xzyc hx
       have hlen := xzll (memC f n k) 256; have HO := Lib.hid (of_any A c (mems (memC f n k) 256) wr hbr hl (by omega)); rw [hset] at HO; have H2 := Lib.hid hb2; have H4 := Lib.hid hB3; clear hrow hbr hb1 hb2 hB3 HH hl hset
       go_wp2_with (first
         | (go_at_call 89; refine HO.out.mono ?_; rintro e w4 ⟨rfl, hb4⟩; have hbx := H2.out.step hb4; obtain ⟨c0, c1, c2, c3, f0, f1, f2, f3⟩ := hbx.four))
       have hB := H4.out.trans (hb4.mono H4.out.size); refine bodyPost_ret (v := setV (memC f n k)) (by simp [results, Tryz.results73, go_sem, c0, c1, c2, c3]) rfl ⟨rfl, ?_⟩; exact (((hB.setCell (p := ⟨w.heap.size + 1, 0, none⟩) (Nat.le_succ _) _).setCell (p := ⟨w.heap.size + 1, 1, none⟩) (Nat.le_succ _) _).setCell (p := ⟨w.heap.size + 1, 2, none⟩) (Nat.le_succ _) _).setCell (p := ⟨w.heap.size + 1, 3, none⟩) (Nat.le_succ _) _

set_option maxRecDepth 100000 in
set_option maxHeartbeats 1000000 in
theorem xzls (f : Nat → Nat) (n k : Int) (hf : ∀ b, b < 256 → f b < 256) (w : World) (hT : Tab w) :
   Calls Tryz.prog 52 #[.agg (clsC f n), .int .i64 k] w fun e w' => e = .returned (.int .i64 (nextS (memC f n k) 0)) ∧ Below w.heap.size w w' := by
 have HM := Lib.hid (xzph f n k hf); have HB := Lib.hid (BlkIs.new w 31 (clsC f n)); have HBe := Lib.hid ((Below.refl w.heap.size w).alloc (Nat.le_refl _) (.cells (clsC f n) 31)); have HT := Lib.hid hT; have HN := Lib.hid (xzzc (memC f n k) 0 (by omega)); clear hT hf; generalize memC f n k = m at *
 go_enter Tryz.func52, Tryz.ntmps52
 go_wp2_with (first
   | refine xzbn rfl (.tmp 2) rfl rfl HB.out ?_
   | (go_at_call 73; refine (HM.out _).mono ?_; rintro e w2 ⟨rfl, hb2⟩)
   | (go_at_call 72; refine (HN.out _ (HT.out.step (HBe.out.trans (hb2.mono HBe.out.size)))).mono ?_; rintro e w3 ⟨rfl, hb3⟩))
 go_ret; have hB := HBe.out.trans (hb2.mono HBe.out.size); exact ⟨rfl, hB.trans (hb3.mono hB.size)⟩

end

section
open Go.RowKit

def setL (m : Nat → Bool) : List Value := [.int .u64 (wd m 0 : Nat), .int .u64 (wd m 1 : Nat), .int .u64 (wd m 2 : Nat), .int .u64 (wd m 3 : Nat)]
def SetRow (w : World) (B : Nat) (A : Option Addr) (ms : List (Nat → Bool)) : Prop :=
 ms ≠ [] → ∃ b off, A = some ⟨b, off, none⟩ ∧ b < B ∧ ∀ (k : Nat) (m : Nat → Bool), ms[k]? = some m → w.rangeAt b (off + k * 4) (setL m)
theorem xzfe {B : Nat} {w w' : World} (hb : Below B w w') {b o : Nat} {l : List Value} (h : b < B) (hr : w.rangeAt b o l) : w'.rangeAt b o l := fun j v hv => by
 rw [hb.cell (p := ⟨b, o + j, none⟩) h]; exact hr j v hv
theorem SetRow.below {w w' : World} {B : Nat} {A : Option Addr} {ms : List (Nat → Bool)} (h : SetRow w B A ms) (hb : Below B w w') : SetRow w' B A ms := fun hne => by
 obtain ⟨b, off, rfl, hlt, hc⟩ := h hne; exact ⟨b, off, rfl, hlt, fun k m hk => xzfe hb hlt (hc k m hk)⟩
theorem SetRow.wide {w : World} {B B' : Nat} {A : Option Addr} {ms : List (Nat → Bool)} (h : SetRow w B A ms) (hB : B ≤ B') : SetRow w B' A ms := fun hne => by
 obtain ⟨b, off, rfl, hlt, hc⟩ := h hne; exact ⟨b, off, rfl, by omega, hc⟩
theorem infoS : (Tryz.prog.info? 55).map (·.size) = some 4 := by kernel_rfl
theorem xzlt {ops : Array Oper} {rest : List Oper} {op : Oper} {a : Act} {w : World} {Q : Exit → Act → World → Prop} {b o : Nat} {m : Nat → Bool} (hgd : op.guard = none) (x : Operand) (ho : op.op = .load 55 x)
   (hx : a.eval x = .pointer (some ⟨b, o, none⟩)) (h : w.rangeAt b o (setL m)) (hK : wpList Tryz.prog ops Q rest (a.put op.dst (setV m)) w) : wpList Tryz.prog ops Q (op :: rest) a w :=
 wpList_load_mid hgd 55 x ho b o hx (setL m) _ h Tryz.underlying55 rfl (by rw [infoS]; rfl) hK

def rowR (f : Nat → Nat) (P : Nat → Nat → Bool) (i : Nat) : Nat := if i % 2 = 0 then f (i / 2) else wd (fun j => P j (i / 2)) 0
def rowK (f : Nat → Nat) (k i : Nat) : Nat := if i % 2 = 0 ∧ i / 2 < k then f (i / 2) else 0
def partBr (ms : List (Nat → Bool)) (i : Nat) (l : List Nat) (j b : Nat) : Bool := if j < i then (ms.getD j fun _ => false) b else if j = i then decide (b ∈ l) else false
def allP (ms : List (Nat → Bool)) (j b : Nat) : Bool := (ms.getD j fun _ => false) b

theorem xzzn (f : Nat → Nat) {k : Nat} : (rowC (rowK f k)).setIfInBounds (k * 2) (.int .u64 (f k : Nat)) = rowC (rowK f (k + 1)) := by
 rw [xzqw]
 refine xzcq fun i _ => ?_
 unfold updN rowK
 by_cases e : i = k * 2
 · subst e; simp
 · rw [if_neg e]
   by_cases h : i % 2 = 0 ∧ i / 2 < k
   · rw [if_pos h, if_pos (by omega)]
   · rw [if_neg h, if_neg (by omega)]
theorem xzzo (f : Nat → Nat) (ms : List (Nat → Bool)) : rowC (rowK f 256) = rowC (rowR f (partBr ms 0 [])) := xzcq fun i hi => by
 unfold rowK rowR
 by_cases h : i % 2 = 0
 · rw [if_pos ⟨h, by omega⟩, if_pos h]
 · rw [if_neg (by omega), if_neg h]
   have e : (fun j => partBr ms 0 [] j (i / 2)) = sOf [] := by
     funext j
     simp [partBr, sOf]
   rw [e, xzna]
theorem xzzp (f : Nat → Nat) (ms : List (Nat → Bool)) (i : Nat) (l : List Nat) (x : Nat) :
   (rowC (rowR f (partBr ms i l))).setIfInBounds (x * 2 + 1) (.int .u64 (wd (fun j => partBr ms i (l ++ [x]) j x) 0 : Nat)) = rowC (rowR f (partBr ms i (l ++ [x]))) := by
 rw [xzqw]
 refine xzcq fun q _ => ?_
 unfold updN rowR
 by_cases e : q = x * 2 + 1
 · subst e
   have h2 : (x * 2 + 1) / 2 = x := by omega
   simp [h2]
 · rw [if_neg e]
   by_cases h : q % 2 = 0
   · rw [if_pos h, if_pos h]
   · rw [if_neg h, if_neg h]
     have hx : q / 2 ≠ x := by omega
     refine xzbh fun j _ => ?_
     unfold partBr
     simp [hx]
theorem xzvp (ms : List (Nat → Bool)) (i : Nat) (l : List Nat) (x j : Nat) : partBr ms i (l ++ [x]) j x = (partBr ms i l j x || decide (j = i)) := by
 unfold partBr
 by_cases h1 : j < i
 · have : ¬ j = i := by omega
   simp [h1, this]
 · by_cases h2 : j = i <;> simp [h2]
theorem xzrw (f : Nat → Nat) {ms : List (Nat → Bool)} {i : Nat} {m : Nat → Bool} (h : ms[i]? = some m) : rowC (rowR f (partBr ms i (mems m 256))) = rowC (rowR f (partBr ms (i + 1) [])) := xzcq fun q hq => by
 unfold rowR
 split
 · rfl
 · refine xzbh fun j _ => ?_
   unfold partBr
   by_cases h1 : 64 * 0 + j < i
   · rw [if_pos h1, if_pos (by omega)]
   · rw [if_neg h1]
     by_cases h2 : 64 * 0 + j = i
     · rw [if_pos h2, if_pos (by omega), h2, List.getD_eq_getElem?_getD, h]
       unfold mems; rw [Bool.eq_iff_iff, decide_eq_true_iff, List.mem_filter, List.mem_range]; exact ⟨fun h => h.2, fun h => ⟨by omega, h⟩⟩
     · rw [if_neg h2, if_neg (by omega)]
       simp
theorem xzvq (f : Nat → Nat) (ms : List (Nat → Bool)) : rowC (rowR f (partBr ms ms.length [])) = rowC (rowR f (allP ms)) := xzcq fun q _ => by
 unfold rowR
 split
 · rfl
 · refine xzbh fun j _ => ?_
   unfold partBr allP
   by_cases h1 : 64 * 0 + j < ms.length
   · rw [if_pos h1]
   · rw [if_neg h1, List.getD_eq_getElem?_getD, List.getElem?_eq_none (by omega)]
     simp

theorem ByteRow.farRow {w : World} {B g i : Nat} {t : TypeId} {R : Nat → Nat} {A : Option Addr} {l : List Nat} (h : ByteRow w B A l) (hb : BlkIs w g t (rowC R)) (v : Value) : ByteRow (w.setCell ⟨g, i, none⟩ v) B A l := fun hl => by
 obtain ⟨b, off, rfl, hlt, hc⟩ := h hl
 have hne : b ≠ g := fun e => by
   obtain ⟨x, hx⟩ : ∃ x, l[0]? = some x := by
     cases l with
     | nil => exact absurd rfl hl
     | cons x r => exact ⟨x, rfl⟩
   have h0 := hc 0 x hx; rw [e, hb.cell] at h0
   rcases Nat.lt_or_ge (off + 0) 512 with h1 | h1
   · rw [xzis R h1] at h0
     simp at h0
   · rw [Array.getElem?_eq_none (by rw [xzcw]; exact h1)] at h0
     cases h0
 refine ⟨b, off, rfl, hlt, fun k x hk => ?_⟩; have := hc k x hk; unfold World.cell? at this ⊢; rw [Below.heap_setCell w ⟨g, i, none⟩ v b hne]; exact this

theorem loadVarW {w : World} {g : Nat} {t : TypeId} {R : Nat → Nat} (h : BlkIs w g t (rowC R)) : (loadVar 155 ⟨g, 0, none⟩).run Tryz.prog w = .ok (.agg (rowC R)) w := by
 have := run_loadVar_mid (P := Tryz.prog) w g 0 155 (rowC R).toList _ h.range Tryz.underlying155 rfl (by rw [infoW, Array.length_toList, xzcw])
 rwa [Array.toArray_toList] at this

set_option maxRecDepth 100000 in
set_option maxHeartbeats 2000000 in
theorem xzzq (f : Nat → Nat) (n : Int) (hf : ∀ b, b < 256 → f b < 256) (ms : List (Nat → Bool)) (hms : ms.length ≤ 64) (A : Option Addr) (c : Nat) (w : World) (hT : Tab w) (hr : SetRow w w.heap.size A ms) :
   Calls Tryz.prog 87 #[.agg (clsC f n), .slice A ms.length c] w fun e w' => e = .returned (.agg (rowC (rowR f (allP ms)))) ∧ Below w.heap.size w w' := by
 have z := zeroW; have HF := Lib.hid hf; have HT := Lib.hid hT; have HR := Lib.hid hr; have hb := ((BlkIs.new w 31 (clsC f n)).alloc (.cells (rowC fun _ => 0) 155)).alloc (.cells (rowC fun _ => 0) 155); have hr0 := (BlkIs.new (w.alloc (.cells (clsC f n) 31)) 155 (rowC fun _ => 0)).alloc (.cells (rowC fun _ => 0) 155); have hk0 := BlkIs.new ((w.alloc (.cells (clsC f n) 31)).alloc (.cells (rowC fun _ => 0) 155)) 155 (rowC fun _ => 0); rw [World.size_alloc] at hr0; rw [World.size_alloc, World.size_alloc] at hk0; have hB := (((Below.refl w.heap.size w).alloc (Nat.le_refl _) (.cells (clsC f n) 31)).alloc (by simp) (.cells (rowC fun _ => 0) 155)).alloc (by simp; omega) (.cells (rowC fun _ => 0) 155); have HB := Lib.hid hb; have HS := Lib.hid (And.intro hr0 (And.intro hk0 hB)); clear hf hT hr hb hr0 hk0 hB
 go_enter Tryz.func87, Tryz.ntmps87
 go_wp2_with (refine xzgc rfl (.tmp 12) rfl rfl HB.out ?_)
 go_loopw [14] (fun s wr => ∃ k : Nat, k ≤ 256 ∧ s = .int .i64 k ∧ Hid (BlkIs wr (w.heap.size + 1) 155 (rowC fun _ => 0) ∧ BlkIs wr (w.heap.size + 2) 155 (rowC (rowK f k)) ∧ Below w.heap.size w wr)) (fun s _ => 256 - (intOf s).toNat)
 case atStart =>
   refine ⟨0, by omega, rfl, Lib.hid ⟨HS.out.1, ?_, HS.out.2.2⟩⟩
   have e : rowC (rowK f 0) = rowC (fun _ => 0) := xzcq fun i _ => by
     unfold rowK; rw [if_neg (by omega)]
   rw [e]; exact HS.out.2.1
 case round =>
   obtain ⟨k, hk, rfl, HH⟩ := hrel
   by_cases hlt : k < 256
   · have hix := idxO f hlt wr
     have hfk := HF.out k hlt
     have hw : IntKind.u64.wrap ((f k : Nat) : Int) = (f k : Nat) := by rw [IntKind.wrap_u64]; omega
     have hc := (HH.out.2.1.cell (k * 2)).trans (xzis _ (by omega)); have hfz := HH.out.2.1.frozen (k * 2)
     have hfin : BlkIs (wr.setCell ⟨w.heap.size + 2, k * 2, none⟩ (.int .u64 (f k : Nat))) (w.heap.size + 1) 155 (rowC fun _ => 0) ∧ BlkIs (wr.setCell ⟨w.heap.size + 2, k * 2, none⟩ (.int .u64 (f k : Nat))) (w.heap.size + 2) 155 (rowC (rowK f (k + 1))) ∧ Below w.heap.size w (wr.setCell ⟨w.heap.size + 2, k * 2, none⟩ (.int .u64 (f k : Nat))) := by
       refine ⟨HH.out.1.far (by simp) _, ?_, HH.out.2.2.setCell (by simp) _⟩; have h := HH.out.2.1.put (k * 2) (.int .u64 (f k : Nat))
       rwa [xzzn] at h
     have HFI := Lib.hid hfin; clear hfin; go_wp2; exact ⟨⟨k + 1, by omega, by go_num, HFI⟩, by simp [intOf]; omega⟩
   · obtain rfl : k = 256 := by omega
     have HH1 := HH.out; rw [xzzo f ms] at HH1; have H1 := Lib.hid HH1; clear HH1 HH HS; go_wp2
     go_loopw [26] (fun s wr => ∃ i : Nat, i ≤ ms.length ∧ s = .int .i64 i ∧ Hid (BlkIs wr (w.heap.size + 1) 155 (rowC fun _ => 0) ∧ BlkIs wr (w.heap.size + 2) 155 (rowC (rowR f (partBr ms i []))) ∧ Below w.heap.size w wr)) (fun s _ => ms.length - (intOf s).toNat)
     case atStart => exact ⟨0, by omega, rfl, H1⟩
     case round =>
       clear H1; obtain ⟨i, hi, rfl, HH⟩ := hrel
       by_cases hlt : i < ms.length
       · obtain ⟨m, hm⟩ : ∃ m, ms[i]? = some m := ⟨ms[i], List.getElem?_eq_getElem hlt⟩
         obtain ⟨b, off, hA, hbl, hcell⟩ := HR.out (fun e => by rw [e] at hlt; simp at hlt); have hrng := xzfe HH.out.2.2 hbl (hcell i m hm); subst hA; have HRG := Lib.hid hrng; have HBM := Lib.hid (xzuu m); clear hrng hcell
         go_wp2_with (refine xzlt rfl (.tmp 29) rfl rfl HRG.out ?_)
         refine (HBM.out _ (HT.out.step (HH.out.2.2.alloc HH.out.2.2.size _))).mono ?_; rintro e w2 ⟨A', c', rfl, hbr, hb2⟩; have hs2 : Below wr.heap.size wr w2 := ((Below.refl _ _).alloc (Nat.le_refl _) _).trans (hb2.mono (by simp)); have H2 := Lib.hid (And.intro (HH.out.1.step hs2) (And.intro (HH.out.2.1.step hs2) (And.intro (HH.out.2.2.trans (hs2.mono HH.out.2.2.size)) hbr))); have HL := Lib.hid (fun x (hx : x ∈ mems m 256) => xzyc hx); have HNX := Lib.hid (xzrw f hm); have hlen := xzll m 256; clear hb2 hs2 hbr HBM HRG HH hm hbl; generalize mems m 256 = l at *; go_wp2
         go_loopw [34] (fun s wr => ∃ p : Nat, p ≤ l.length ∧ s = .int .i64 p ∧ Hid (BlkIs wr (w.heap.size + 1) 155 (rowC fun _ => 0) ∧ BlkIs wr (w.heap.size + 2) 155 (rowC (rowR f (partBr ms i (l.take p)))) ∧ Below w.heap.size w wr ∧ ByteRow wr w2.heap.size A' l)) (fun s _ => l.length - (intOf s).toNat)
         case atStart => exact ⟨0, by omega, rfl, Lib.hid H2.out⟩
         case round =>
           clear H2; obtain ⟨p, hp, rfl, HI⟩ := hrel
           by_cases hlp : p < l.length
           · obtain ⟨x, hx⟩ : ∃ x, l[p]? = some x := ⟨l[p], List.getElem?_eq_getElem hlp⟩
             have hx256 := HL.out x (List.mem_of_getElem? hx); obtain ⟨b', off', hA', hbl', hcell'⟩ := HI.out.2.2.2 (fun e => by rw [e] at hlp; simp at hlp); have g1 := hcell' p x hx; have g2 := (HI.out.2.1.cell (x * 2 + 1)).trans (xzis _ (by omega))
             have e2 : rowR f (partBr ms i (l.take p)) (x * 2 + 1) = wd (fun j => partBr ms i (l.take p) j x) 0 := by
               unfold rowR; rw [if_neg (by omega), show (x * 2 + 1) / 2 = x by omega]
             rw [e2] at g2; have g3 := HI.out.2.1.frozen (x * 2 + 1)
             have hor : bits .or .u64 (wd (fun j => partBr ms i (l.take p) j x) 0 : Nat) (IntKind.u64.wrap (2 ^ i)) = (wd (fun j => partBr ms i (l.take p ++ [x]) j x) 0 : Int) := by
               have := xzpb (x := i) (i := 0) (fun j => xzvp ms i (l.take p) x j) (Nat.div_eq_of_lt (by omega))
               rwa [Nat.mod_eq_of_lt (by omega)] at this
             have htk : l.take (p + 1) = l.take p ++ [x] := by rw [List.take_add_one, hx]; rfl
             have HFI := Lib.hid (show BlkIs (wr.setCell ⟨w.heap.size + 2, x * 2 + 1, none⟩ (.int .u64 (wd (fun j => partBr ms i (l.take p ++ [x]) j x) 0 : Nat))) (w.heap.size + 1) 155 (rowC fun _ => 0) ∧
                 BlkIs (wr.setCell ⟨w.heap.size + 2, x * 2 + 1, none⟩ (.int .u64 (wd (fun j => partBr ms i (l.take p ++ [x]) j x) 0 : Nat))) (w.heap.size + 2) 155 (rowC (rowR f (partBr ms i (l.take (p + 1))))) ∧
                 Below w.heap.size w (wr.setCell ⟨w.heap.size + 2, x * 2 + 1, none⟩ (.int .u64 (wd (fun j => partBr ms i (l.take p ++ [x]) j x) 0 : Nat))) ∧
                 ByteRow (wr.setCell ⟨w.heap.size + 2, x * 2 + 1, none⟩ (.int .u64 (wd (fun j => partBr ms i (l.take p ++ [x]) j x) 0 : Nat))) w2.heap.size A' l from by
               refine ⟨HI.out.1.far (by simp) _, ?_, HI.out.2.2.1.setCell (by simp) _, HI.out.2.2.2.farRow HI.out.2.1 _⟩; have h := HI.out.2.1.put (x * 2 + 1) (.int .u64 (wd (fun j => partBr ms i (l.take p ++ [x]) j x) 0 : Nat)); rw [xzzp] at h; rw [htk]
               exact h)
             subst hA'; generalize wd (fun j => partBr ms i (l.take p) j x) 0 = y0 at *; generalize wd (fun j => partBr ms i (l.take p ++ [x]) j x) 0 = y1 at *; clear hcell' HI htk e2 HL HNX hx; go_wp2
             go_region
             go_wp2; exact ⟨⟨p + 1, by omega, by go_num, Lib.hid ⟨HFI.out.1.drew, HFI.out.2.1.drew, HFI.out.2.2.1.drew, HFI.out.2.2.2⟩⟩, by simp [intOf]; omega⟩
           · obtain rfl : p = l.length := by omega
             have hi2 := HI.out; rw [List.take_length, HNX.out] at hi2; have HI2 := Lib.hid (And.intro hi2.1 (And.intro hi2.2.1 hi2.2.2.1)); clear hi2 HI HNX HL; go_wp2
             go_roundw
             case rel => exact ⟨_, _, _, _, _, _, _, _, _, _, _, _, _, _, _, _, _, _, _, _, _, _, _, _, _, _, ⟨i + 1, by omega, by go_num, HI2⟩, rfl⟩
             case measure => simp [intOf]; omega
       · obtain rfl : i = ms.length := by omega
         have hh := HH.out; rw [xzvq] at hh; have H3 := Lib.hid hh; clear hh HH
         go_wp2_with (first
           | refine xzlm rfl (.tmp 5) rfl rfl H3.out.2.1 ?_
           | (refine xzal rfl 155 (.tmp 4) (.tmp 49) rfl rfl (new := rowC (rowR f (allP ms))) rfl H3.out.1 (by rw [xzcw, xzcw]) (by rw [xzcw]; exact infoW) (xzyz _) ?_; intro w1 hw1 hwr))
         exact bodyPost_ret (xzab rfl (by simp [Act.put]) (loadVarW hw1)) rfl ⟨rfl, hwr.2.1 _ _ (Nat.le_succ _) H3.out.2.2⟩

end
end Go.Proofs.YtgngaaemkmdfaaaGreatDoor
