/-
 WHAT THE CLOSURE OF split ANSWERS: the number of a row, new or met before; the map of the rows that came: a contract. Condition: the rows are words.
-/
import Derived.Maps.OwnSet
import Derived.RangeFuncBox
import Derived.Test.YtgngaaemkmdfaaaGreatDoorQG06
import Derived.Test.YtgngaaemkmdfaaaGreatDoorQG13
namespace Go.Proofs.YtgngaaemkmdfaaaGreatDoor
section
open Go.RowKit

def SeenIs (w : World) (M : Nat) (g : Nat → Nat × Nat) (t : Nat) : Prop :=
 ∃ D : DataW Unit, w.ownsMap Tryz.prog 152 (plainElem Tryz.prog 5) M t D ∧ Maps.size D = cnt g t ∧
   (∀ x y, x < 18446744073709551616 → y < 18446744073709551616 → Maps.has D (keyL x y) = (List.range t).any fun a => decide (g a = (x, y))) ∧
   (∀ a, a < t → D.atKey (keyL (g a).1 (g a).2) (.lit (.int .u8 0)) = .lit (.int .u8 (num g a : Nat)))

theorem SeenIs.kept {w w' : World} {M : Nat} {g : Nat → Nat × Nat} {t : Nat} {row : Option Nat} (h : SeenIs w M g t) (hg : w.grownBy w' row) (hne : some M ≠ row) : SeenIs w' M g t := by
 obtain ⟨D, h1, h2⟩ := h; exact ⟨D, h1.kept hg hne, h2⟩
theorem SeenIs.lt {w : World} {M : Nat} {g : Nat → Nat × Nat} {t : Nat} (h : SeenIs w M g t) : M < w.heap.size := by
 obtain ⟨D, h1, _⟩ := h; exact h1.lt
theorem SeenIs.start (w : World) (g : Nat → Nat × Nat) : SeenIs (w.alloc (.map #[] 0)) w.heap.size g 0 :=
 ⟨.map [], World.ownsMap_made _ _ _ _, rfl, fun _ _ _ _ => rfl, fun a h => absurd h (by omega)⟩

theorem zero5 (w : World) : (zeroValue 5).run Tryz.prog w = .ok (.int .u8 0) w := by kernel_rfl

theorem xzzr {w : World} {M t : Nat} {g : Nat → Nat × Nat} {D : DataW Unit} (hg : ∀ b, b ≤ t → (g b).1 < 18446744073709551616 ∧ (g b).2 < 18446744073709551616) (ho : old g t = true)
   (h1 : w.ownsMap Tryz.prog 152 (plainElem Tryz.prog 5) M t D) (h2 : Maps.size D = cnt g t)
   (h3 : ∀ x y, x < 18446744073709551616 → y < 18446744073709551616 → Maps.has D (keyL x y) = (List.range t).any fun a => decide (g a = (x, y)))
   (h4 : ∀ a, a < t → D.atKey (keyL (g a).1 (g a).2) (.lit (.int .u8 0)) = .lit (.int .u8 (num g a : Nat))) :
   SeenIs w M g (t + 1) ∧ Maps.has D (keyL (g t).1 (g t).2) = true ∧ D.atKey (keyL (g t).1 (g t).2) (.lit (.int .u8 0)) = .lit (.int .u8 (num g t : Nat)) := by
 obtain ⟨a, ha, e⟩ := old_iff.1 ho
 have hat : D.atKey (keyL (g t).1 (g t).2) (.lit (.int .u8 0)) = .lit (.int .u8 (num g t : Nat)) := by rw [← e, h4 a ha, xziq e]
 refine ⟨⟨D, h1.mono (Nat.le_succ t), by rw [xzbr, ho]; exact h2, fun x y hx hy => ?_, fun b hb => ?_⟩, ?_, hat⟩
 · rw [h3 x y hx hy, List.range_succ, List.any_append, Bool.eq_iff_iff]
   simp only [List.any_cons, List.any_nil, Bool.or_false, Bool.or_eq_true, List.any_eq_true, List.mem_range, decide_eq_true_eq]; exact ⟨fun h => .inl h, fun h => h.elim id fun h => ⟨a, ha, e.trans h⟩⟩
 · rcases Nat.lt_or_ge b t with hlt | hge
   · exact h4 b hlt
   · obtain rfl : b = t := by omega
     exact hat
 · rw [h3 _ _ (hg t (Nat.le_refl _)).1 (hg t (Nat.le_refl _)).2]
   exact ho

theorem xzzs {w w' : World} {M t : Nat} {g : Nat → Nat × Nat} {D : DataW Unit} (hg : ∀ b, b ≤ t → (g b).1 < 18446744073709551616 ∧ (g b).2 < 18446744073709551616) (ho : old g t = false)
   (h1 : w.ownsMap Tryz.prog 152 (plainElem Tryz.prog 5) M t D) (h2 : Maps.size D = cnt g t)
   (h3 : ∀ x y, x < 18446744073709551616 → y < 18446744073709551616 → Maps.has D (keyL x y) = (List.range t).any fun a => decide (g a = (x, y)))
   (h4 : ∀ a, a < t → D.atKey (keyL (g a).1 (g a).2) (.lit (.int .u8 0)) = .lit (.int .u8 (num g a : Nat)))
   (h1' : w'.ownsMap Tryz.prog 152 (plainElem Tryz.prog 5) M (t + 1) (D.put (keyL (g t).1 (g t).2) (.lit (.int .u8 (num g t : Nat))))) :
   SeenIs w' M g (t + 1) := by
 have hT := h1.tidy keyLaw; have hM := h1.isMap; have hgt := hg t (Nat.le_refl _)
 have hno : Maps.has D (keyL (g t).1 (g t).2) = false := by rw [h3 _ _ hgt.1 hgt.2]; exact ho
 refine ⟨_, h1', ?_, fun x y hx hy => ?_, fun b hb => ?_⟩
 · rw [Maps.size_put hT, hno, xzbr, ho, h2]; rfl
 · rw [List.range_succ, List.any_append]
   by_cases e : (x, y) = g t
   · have e1 : x = (g t).1 := congrArg Prod.fst e
     have e2 : y = (g t).2 := congrArg Prod.snd e; subst e1; subst e2; rw [Maps.has_put_same hM (xzxy _ _)]
     simp
   · have hne : keyL x y ≠ keyL (g t).1 (g t).2 := fun h => by
       obtain ⟨e1, e2⟩ := xzxx hx hy hgt.1 hgt.2 h; exact e (by rw [e1, e2])
     rw [Maps.has_put_other hne, h3 x y hx hy]
     have e' : ¬ g t = (x, y) := fun h => e h.symm
     simp [e']
 · rcases Nat.lt_or_ge b t with hlt | hge
   · have hne : keyL (g b).1 (g b).2 ≠ keyL (g t).1 (g t).2 := fun h => by
       obtain ⟨e1, e2⟩ := xzxx (hg b (by omega)).1 (hg b (by omega)).2 hgt.1 hgt.2 h; exact (old_not.1 ho) b hlt (Prod.ext e1 e2)
     rw [Maps.atKey_put_other hne, h4 b hlt]
   · obtain rfl : b = t := by omega
     rw [Maps.atKey_put_same hM (xzxy _ _)]

set_option maxRecDepth 100000 in
set_option maxHeartbeats 1000000 in
theorem xzrx (g : Nat → Nat × Nat) (t : Nat) (ht : t < 256) (hg : ∀ b, b ≤ t → (g b).1 < 18446744073709551616 ∧ (g b).2 < 18446744073709551616) (M B : Nat) (w : World)
   (hbox : BlkIs w B 150 #[.map (some M)]) (hs : SeenIs w M g t) :
   Calls Tryz.prog 86 #[keyV (g t).1 (g t).2, .pointer (some ⟨B, 0, none⟩)] w fun e w' => e = .returned (.int .u8 (num g t : Nat)) ∧ SeenIs w' M g (t + 1) ∧ w.grownBy w' (some M) := by
 obtain ⟨D, h1, h2, h3, h4⟩ := hs; have hkey := xzza (hg t (Nat.le_refl _)).1 (hg t (Nat.le_refl _)).2; have hc := xzqq g t
 have hMB : M ≠ B := fun e => by
   obtain ⟨es, clock, hb, _⟩ := h1; unfold BlkIs at hbox; rw [e, hbox] at hb
   cases hb
 have hgrow0 := World.grownBy_alloc w (.cells #[.int .u64 (g t).1, .int .u64 (g t).2] 152) none; have hcell := hbox.cell 0; have hcell1 := (hbox.alloc (.cells #[.int .u64 (g t).1, .int .u64 (g t).2] 152)).cell 0; simp only [zqa, zqb] at hcell hcell1
 have hwrap : IntKind.u8.wrap ((cnt g t : Nat) : Int) = (cnt g t : Nat) := by rw [IntKind.wrap_u8]; omega
 cases ho : old g t
 · have hno : Maps.has D (keyL (g t).1 (g t).2) = false := by rw [h3 _ _ (hg t (Nat.le_refl _)).1 (hg t (Nat.le_refl _)).2]; exact ho
   have hnum := xzqr ho; have HN := Lib.hid (fun w' => xzzs (w' := w') hg ho h1 h2 h3 h4); rw [hnum] at HN ⊢; have H1 := Lib.hid h1; have HG := Lib.hid hgrow0; clear h1 h3 h4 hbox hg hgrow0; generalize (g t).1 = x at *; generalize (g t).2 = y at *
   go_enter Tryz.func86, Tryz.ntmps86
   go_wp2_with (first
     | (at_lookup; refine wpList_lookup_own_ok_int _ rfl _ _ 150 rfl 152 5 .u8 keyLaw Tryz.underlying150 Tryz.underlying5 (zero5 _) M t _ rfl (H1.out.alloc _) _ _ rfl hkey ?_; rw [hno]; intro c hat hwc)
     | (at_len; refine wpList_len_own _ rfl _ 150 rfl 152 5 Tryz.underlying150 _ M t _ rfl (H1.out.alloc _) ?_; rw [h2])
     | (at_mapUpdate; refine wpList_mapUpdate_own _ rfl _ _ _ 150 rfl 152 5 keyLaw Tryz.underlying150 _ M t _ rfl (H1.out.alloc _) (by unfold maxLen; omega) _ _ _ rfl rfl hkey _ [] (plainElem_int Tryz.underlying5 (WalkArith.wf_u8 (by omega))) ?_; intro w1 hown1 hgrow1))
   go_ret; exact ⟨rfl, HN.out w1 hown1, (HG.out.but _).trans hgrow1⟩
 · obtain ⟨k1, k2, k3⟩ := xzzr hg ho h1 h2 h3 h4
   have H1 := Lib.hid h1; have HG := Lib.hid hgrow0; have HK := Lib.hid k1; clear h1 h3 h4 hbox hg hgrow0 k1; generalize hx : (g t).1 = x at *; generalize hy : (g t).2 = y at *
   go_enter Tryz.func86, Tryz.ntmps86
   go_wp2_with (first
     | (at_lookup; refine wpList_lookup_own_ok_int _ rfl _ _ 150 rfl 152 5 .u8 keyLaw Tryz.underlying150 Tryz.underlying5 (zero5 _) M t _ rfl (H1.out.alloc _) _ _ rfl hkey ?_; rw [k2]; intro c hat hwc))
   go_ret
   have hc : c = (num g t : Nat) := by
     rw [k3] at hat
     simpa using hat.symm
   exact ⟨by rw [hc]; rfl, HK.out.kept HG.out (by simp), (HG.out.but _)⟩

end

section
open Go.RowKit

def keyG (f : Nat → Nat) (ms : List (Nat → Bool)) (b : Nat) : Nat × Nat := (rowR f (allP ms) (2 * b), rowR f (allP ms) (2 * b + 1))
theorem xzlu (f : Nat → Nat) (ms : List (Nat → Bool)) (b : Nat) : (keyG f ms b).1 = f b := by
 show rowR f (allP ms) (2 * b) = f b
 unfold rowR; rw [if_pos (by omega), show 2 * b / 2 = b by omega]
theorem xzlv (f : Nat → Nat) (ms : List (Nat → Bool)) (b : Nat) : (keyG f ms b).2 = wd (fun j => allP ms j b) 0 := by
 show rowR f (allP ms) (2 * b + 1) = _
 unfold rowR; rw [if_neg (by omega), show (2 * b + 1) / 2 = b by omega]
theorem keyG_lt (f : Nat → Nat) (hf : ∀ b, b < 256 → f b < 256) (ms : List (Nat → Bool)) (b : Nat) (hb : b < 256) : (keyG f ms b).1 < 18446744073709551616 ∧ (keyG f ms b).2 < 18446744073709551616 := by
 rw [xzlu, xzlv]; exact ⟨Nat.lt_trans (hf b hb) (by decide), xzhj _ _⟩
theorem keyG_eq (f : Nat → Nat) {ms : List (Nat → Bool)} (hms : ms.length ≤ 64) (a b : Nat) : keyG f ms a = keyG f ms b ↔ f a = f b ∧ ∀ m ∈ ms, m a = m b := by
 have hp : keyG f ms a = keyG f ms b ↔ f a = f b ∧ wd (fun j => allP ms j a) 0 = wd (fun j => allP ms j b) 0 := by
   rw [← xzlu f ms a, ← xzlu f ms b, ← xzlv f ms a, ← xzlv f ms b]; exact Prod.ext_iff
 rw [hp]; refine and_congr Iff.rfl ⟨fun h m hm => ?_, fun h => xzbh fun j _ => ?_⟩
 · obtain ⟨j, hj, e⟩ := List.mem_iff_getElem.1 hm
   have := xzoz h (j := j) (by omega); unfold allP at this; rw [Nat.mul_zero, Nat.zero_add, List.getD_eq_getElem?_getD, List.getElem?_eq_getElem hj, e] at this; exact this
 · unfold allP
   rw [Nat.mul_zero, Nat.zero_add, List.getD_eq_getElem?_getD]
   rcases Nat.lt_or_ge j ms.length with hj | hj
   · rw [List.getElem?_eq_getElem hj]
     exact h _ (List.getElem_mem hj)
   · rw [List.getElem?_eq_none hj]; rfl

theorem xzkc (W : World) (b o : Nat) (v : Value) : W.grownBy (W.setCell ⟨b, o, none⟩ v) (some b) :=
 ⟨rfl, rfl, rfl, Nat.le_of_eq (World.size_setCell _ _ _).symm, fun i _ hi => Below.heap_setCell W ⟨b, o, none⟩ v i (fun e => hi (by rw [e]))⟩
def numTo (g : Nat → Nat × Nat) (f : Nat → Nat) (t i : Nat) : Nat := if i < t then num g i else f i
theorem xzvr (g : Nat → Nat × Nat) (f : Nat → Nat) (n : Int) {t : Nat} (ht : t < 256) : (clsC (numTo g f t) n).setIfInBounds t (.int .u8 (num g t : Nat)) = clsC (numTo g f (t + 1)) n := by
 rw [xzyy _ _ ht]
 refine xzdn n fun i _ => ?_
 unfold updN numTo
 by_cases e : i = t
 · subst e; simp
 · rw [if_neg e]
   by_cases h : i < t
   · rw [if_pos h, if_pos (by omega)]
   · rw [if_neg h, if_neg (by omega)]

set_option maxRecDepth 100000 in
set_option maxHeartbeats 2000000 in
theorem xzvs (f : Nat → Nat) (n : Int) (hf : ∀ b, b < 256 → f b < 256) (ms : List (Nat → Bool)) (hms : ms.length ≤ 64) (A : Option Addr) (c : Nat) (w : World) (hT : Tab w) (hr : SetRow w w.heap.size A ms) :
   Calls Tryz.prog 69 #[.agg (clsC f n), .slice A ms.length c] w fun e w' => e = .returned (.agg (clsC (num (keyG f ms)) (cnt (keyG f ms) 256 : Nat))) ∧ Below w.heap.size w w' := by
 have z := zeroC; have hmm := @run_makeMap Tryz.prog; have HRW := Lib.hid (xzzq f n hf ms hms A c); have HK := Lib.hid (keyG_lt f hf ms); have HT := Lib.hid hT; have HR := Lib.hid hr; obtain ⟨W0, hW0⟩ : ∃ W0, W0 = (((w.alloc (.cells (clsC f n) 31)).alloc (.cells (clsC (fun _ => 0) 0) 31)).alloc (.map #[] 0)).alloc (.cells #[.map (some (w.heap.size + 1 + 1))] 150) := ⟨_, rfl⟩
 have hb : BlkIs W0 w.heap.size 31 (clsC f n) := by rw [hW0]; exact (((BlkIs.new w _ _).alloc _).alloc _).alloc _
 have hz0 : BlkIs W0 (w.heap.size + 1) 31 (clsC (fun _ => 0) 0) := by
   have := (((BlkIs.new (w.alloc (.cells (clsC f n) 31)) 31 (clsC (fun _ => 0) 0)).alloc (.map #[] 0)).alloc (.cells #[.map (some (w.heap.size + 1 + 1))] 150)); rw [World.size_alloc] at this; rw [hW0]; exact this
 have hbx : BlkIs W0 (w.heap.size + 3) 150 #[.map (some (w.heap.size + 2))] := by
   have := BlkIs.new (((w.alloc (.cells (clsC f n) 31)).alloc (.cells (clsC (fun _ => 0) 0) 31)).alloc (.map #[] 0)) 150 #[.map (some (w.heap.size + 2))]; rw [World.size_alloc, World.size_alloc, World.size_alloc] at this; rw [hW0]; exact this
 have hsn : SeenIs W0 (w.heap.size + 2) (keyG f ms) 0 := by
   have := SeenIs.start ((w.alloc (.cells (clsC f n) 31)).alloc (.cells (clsC (fun _ => 0) 0) 31)) (keyG f ms); rw [World.size_alloc, World.size_alloc] at this; rw [hW0]; exact this.kept (World.grownBy_alloc _ _ none) (by simp)
 have hBe : Below w.heap.size w W0 := by
   rw [hW0]; exact ((((Below.refl w.heap.size w).alloc (Nat.le_refl _) _).alloc (by simp) _).alloc (by simp; omega) _).alloc (by simp; omega) _
 have HB := Lib.hid hb; have HS := Lib.hid (And.intro hz0 (And.intro hbx (And.intro hsn hBe))); clear hf hT hr hb hz0 hbx hsn hBe; subst hW0
 go_enter Tryz.func69, Tryz.ntmps69
 go_wp2_with (first
   | refine xzbn rfl (.tmp 2) rfl rfl HB.out ?_
   | (go_at_call 87; refine (HRW.out _ (HT.out.step HS.out.2.2.2) ((HR.out.below HS.out.2.2.2).wide HS.out.2.2.2.size)).mono ?_; rintro e w2 ⟨rfl, hb2⟩))
 have hs2 := HS.out; have H2 := Lib.hid (And.intro (HB.out.step hb2) (And.intro (hs2.1.step hb2) (And.intro (hs2.2.1.step hb2) (And.intro (hs2.2.2.1.kept (row := none) ⟨hb2.os, hb2.tape, hb2.output, hb2.size, fun i hi _ => hb2.block i hi⟩ (by simp)) (hs2.2.2.2.trans (hb2.mono hs2.2.2.2.size)))))); clear hs2 HB HS hb2 HRW; generalize hR : rowR f (allP ms) = R at *
 have hkg : ∀ b, keyG f ms b = (R (2 * b), R (2 * b + 1)) := fun b => by unfold keyG; rw [hR]
 generalize hgk : keyG f ms = g at *; go_wp2
 go_loopw [14] (fun s wr => ∃ t : Nat, t ≤ 256 ∧ s = .int .i64 t ∧ Hid (BlkIs wr w.heap.size 31 (clsC (numTo g f t) n) ∧ BlkIs wr (w.heap.size + 1) 31 (clsC (fun _ => 0) 0) ∧
     BlkIs wr (w.heap.size + 3) 150 #[.map (some (w.heap.size + 2))] ∧ SeenIs wr (w.heap.size + 2) g t ∧ Below w.heap.size w wr)) (fun s _ => 256 - (intOf s).toNat)
 case atStart =>
   refine ⟨0, by omega, rfl, Lib.hid ⟨?_, H2.out.2⟩⟩; rw [xzdn (f' := f) n (fun b _ => by unfold numTo; rw [if_neg (by omega)])]; exact H2.out.1
 case round =>
   obtain ⟨t, ht, rfl, HH⟩ := hrel
   by_cases hlt : t < 256
   · have hix := idxW R hlt wr
     have HNA := Lib.hid (xzrx g t hlt (fun b hb => HK.out b (by omega)) (w.heap.size + 2) (w.heap.size + 3) (wr.alloc (.cells #[.int .u64 (R (2 * t)), .int .u64 (R (2 * t + 1))] 152)) (HH.out.2.2.1.alloc _) (HH.out.2.2.2.1.kept (World.grownBy_alloc _ _ none) (by simp))); rw [hkg t] at HNA; generalize R (2 * t) = x at *; generalize R (2 * t + 1) = y at *
     go_wp2_with (first
       | (go_at_call 86; refine HNA.out.mono ?_; rintro e w3 ⟨rfl, hs3, hg3⟩; have hc3 := xzgm (HH.out.1.alloc _) hg3 (by simp); have hcc := clsBy hc3 hlt; have hcf := hc3.frozen t))
     have h2 := (xzgm (HH.out.2.1.alloc _) hg3 (by simp)).far (p := ⟨w.heap.size, t, none⟩) (by simp) (.int .u8 (num g t : Nat)); have h3 := (xzgm (HH.out.2.2.1.alloc _) hg3 (by simp)).far (p := ⟨w.heap.size, t, none⟩) (by simp) (.int .u8 (num g t : Nat)); have h1 := hc3.put t (.int .u8 (num g t : Nat)); rw [xzvr g f n hlt] at h1; have h4 := hs3.kept (xzkc w3 w.heap.size t (.int .u8 (num g t : Nat))) (by simp); have hsz := HH.out.2.2.2.2.size; have h5 := (((HH.out.2.2.2.2.alloc hsz _).grown hg3 (by simp; omega) (fun k e => by cases e; omega)).setCell (p := ⟨w.heap.size, t, none⟩) (Nat.le_refl _) (.int .u8 (num g t : Nat))); exact ⟨⟨t + 1, by omega, by go_num, Lib.hid ⟨h1, h2, h3, h4, h5⟩⟩, by simp [intOf]; omega⟩
   · obtain rfl : t = 256 := by omega
     obtain ⟨h1, h2, h3, h4, h5⟩ := HH.out; obtain ⟨D, d1, d2, _, _⟩ := h4; have hc0 := h3.cell 0; simp only [zqa, zqb] at hc0; have hcn := (h1.cell 256).trans (xzlj _ n); have hfn := h1.frozen 256; have k1 := h1.put 256 (.int .i64 (cnt g 256 : Nat)); rw [xzus, xzdn (f' := num g) _ (fun b hb => by unfold numTo; rw [if_pos hb])] at k1; have k2 := h2.far (p := ⟨w.heap.size, 256, none⟩) (by simp) (.int .i64 (cnt g 256 : Nat)); have k5 := h5.setCell (p := ⟨w.heap.size, 256, none⟩) (Nat.le_refl _) (.int .i64 (cnt g 256 : Nat)); have HD := Lib.hid d1; have H9 := Lib.hid (And.intro k1 (And.intro k2 k5)); clear h1 h2 h3 h5 d1 k1 k2 k5 HH H2 HK
     go_wp2_with (first
       | (at_len; refine wpList_len_own _ rfl _ 150 rfl 152 5 Tryz.underlying150 _ (w.heap.size + 2) 256 _ rfl HD.out ?_; rw [d2])
       | refine xzbn rfl (.tmp 2) rfl rfl H9.out.1 ?_
       | (refine xzal rfl 31 (.tmp 4) (.tmp 28) rfl rfl (new := clsC (num g) (cnt g 256 : Nat)) rfl H9.out.2.1 (by rw [xzag, xzag]) (by rw [xzag]; exact infoC) (xzeb _ _) ?_; intro w4 hw4 hwr))
     exact bodyPost_ret (xzab rfl (by simp [Act.put]) (loadVarC hw4)) rfl ⟨by rw [hgk], hwr.2.1 _ _ (Nat.le_succ _) H9.out.2.2⟩

end

section
open Go.RowKit

def KeepsBut (g : Nat) (W W' : World) : Prop := ∀ (k : Nat) (t : TypeId) (cs : Array Value), k ≠ g → BlkIs W k t cs → BlkIs W' k t cs
theorem KeepsBut.trans {g : Nat} {A B C : World} (h : KeepsBut g A B) (k : KeepsBut g B C) : KeepsBut g A C := fun i t cs hi hb => k i t cs hi (h i t cs hi hb)
theorem xzgn (g : Nat) (W : World) (l : Nat) (o o' : Obj) (hl : W.heap[l]? = some o) (ho : o.isCells = false) : KeepsBut g W (W.putObj l o') := fun k t cs _ hb => by
 have hne : k ≠ l := fun e => by
   subst e; unfold BlkIs at hb; rw [hb] at hl
   cases hl
   cases ho
 exact (World.putObj_heap_other hne).trans hb

theorem xzry (W : World) (row : Option Nat) : W.grownBy W.drew row := ⟨rfl, rfl, rfl, Nat.le_refl _, fun _ _ _ => rfl⟩

attribute [local go_sem] Oper.semAt_some

set_option maxRecDepth 100000 in
set_option maxHeartbeats 1000000 in
theorem xzvt (n : Nat) (hn : 1 ≤ n) (l G B1 B2 b off len cap : Nat) (hG1 : B1 ≠ G) (hG2 : B2 ≠ G) (h0 : 0 < len) (h64 : len ≤ 64) (hcap : len ≤ cap) (J Jx : List Unit → World → Prop) (hJd : ∀ s W, J s W → J s W.drew)
   (hY : ∀ pre (x : Unit) W, J pre W → pre.length < 1 → YieldAt Fence.wide (n - 1) Tryz.prog l #[.slice (some ⟨b, off, none⟩) len len] W fun e W' =>
     (e = .returned (.bool true) ∧ J (pre ++ [x]) W' ∧ KeepsBut G W W') ∨ (e = .returned (.bool false) ∧ Jx (pre ++ [x]) W'))
   (W : World) (hb1 : BlkIs W B1 46 #[.slice (some ⟨b, off, none⟩) len cap]) (hb2 : BlkIs W B2 3 #[.int .i64 64]) (hJ : J [] W) :
   CallsIn Fence.wide n Tryz.prog 85 #[.func (.yield l) #[] #[], .pointer (some ⟨B1, 0, none⟩), .pointer (some ⟨B2, 0, none⟩)] W fun e W' => (∃ v, e = .returned v) ∧
     ((∃ xs : List Unit, xs.length = 1 ∧ J xs W') ∨ (∃ pre : List Unit, pre.length = 1 ∧ Jx pre W')) := by
 have HY := Lib.hid hY; have HB := Lib.hid (And.intro hb1 hb2); have HJ := Lib.hid hJ; have HD := Lib.hid hJd; clear hY hJ hJd hb1 hb2; refine callsIn_of_wp Tryz.func85 rfl trivial ?_ rfl; simp only [Tryz.ntmps85, List.size_toArray, List.length_cons, List.length_nil, Nat.reduceAdd, Nat.reduceSub, Array.replicate_succ, Array.replicate_zero, List.push_toArray, List.append_toArray, List.nil_append, List.cons_append]
 gi_wp2
 gi_loopw [4] (fun s wr => (s = .int .i64 0 ∧ Hid (J [] wr ∧ BlkIs wr B1 46 #[.slice (some ⟨b, off, none⟩) len cap] ∧ BlkIs wr B2 3 #[.int .i64 64])) ∨
     (s = .int .i64 64 ∧ Hid (J [()] wr ∧ BlkIs wr B1 46 #[.slice (some ⟨b, off, none⟩) len cap] ∧ BlkIs wr B2 3 #[.int .i64 64]))) (fun s _ => 64 - (intOf s).toNat)
 case atStart => exact .inl ⟨rfl, Lib.hid ⟨HJ.out, HB.out⟩⟩
 case round =>
   rcases hrel with ⟨rfl, HH⟩ | ⟨rfl, HH⟩
   · have c1 := HH.out.2.1.cell 0
     have c2 := HH.out.2.2.cell 0; simp only [zqa, zqb] at c1 c2; obtain ⟨fn, tmps, assign, body, hy2, hR⟩ := HY.out [] () wr.drew (HD.out _ _ HH.out.1) (by simp); have HR := Lib.hid hR; clear hR; have d0 : decide ((0 : Int) < (len : Nat)) = true := decide_eq_true (by omega)
     have hmin : (if ((len : Nat) : Int) < 64 then ((len : Nat) : Int) else 64) = (len : Nat) := by split <;> omega
     gi_wp2
     gi_region
     gi_wp2
     refine HR.out.mono ?_; rintro e W3 (⟨rfl, hJ3, hk3⟩ | ⟨rfl, hJx3⟩)
     · have k1 := hk3 _ _ _ hG1 HH.out.2.1.drew
       have k2 := hk3 _ _ _ hG2 HH.out.2.2.drew; have c3 := k2.cell 0; simp only [zqa, zqb] at c3; have H3 := Lib.hid (And.intro hJ3 (And.intro k1 k2)); clear hJ3 hk3 k1 k2
       gi_wp2
       exact ⟨.inr ⟨rfl, H3⟩, by simp [intOf]⟩
     · gi_wp2
       refine bodyPost_ret (results_none rfl _ _ _) rfl ?_; exact ⟨⟨_, rfl⟩, .inr ⟨_, rfl, hJx3⟩⟩
   · have c1 := HH.out.2.1.cell 0
     simp only [zqa, zqb] at c1; have d0 : decide ((64 : Int) < (len : Nat)) = false := decide_eq_false (by omega)
     gi_wp2
     go_end0
     exact ⟨⟨_, rfl⟩, .inl ⟨_, rfl, HH.out.1⟩⟩

def ChunkIs (v : Value) (k : Int) (w : World) : Ending → World → Prop := fun e w' =>
 ∃ B1 B2, e = .returned (.func (.func 85) #[] #[.pointer (some ⟨B1, 0, none⟩), .pointer (some ⟨B2, 0, none⟩)]) ∧ BlkIs w' B1 46 #[v] ∧ BlkIs w' B2 3 #[.int .i64 k] ∧ w.heap.size ≤ B1 ∧ w.heap.size ≤ B2 ∧ Below w.heap.size w w'

set_option maxHeartbeats 400000 in
theorem xzoa (A : Option Addr) (len cap : Nat) (w : World) : Calls Tryz.prog 68 #[.slice A len cap, .int .i64 64] w (ChunkIs (.slice A len cap) 64 w) := by
 go_enter Tryz.func68, Tryz.ntmps68
 go_wp2; go_ret; have h2 := BlkIs.new (w.alloc (.cells #[.slice A len cap] 46)) 3 #[.int .i64 64]; rw [World.size_alloc] at h2; exact ⟨w.heap.size, w.heap.size + 1, rfl, (BlkIs.new _ _ _).alloc _, h2, Nat.le_refl _, Nat.le_succ _, ((Below.refl _ _).alloc (Nat.le_refl _) _).alloc (by simp) _⟩

theorem xzpi (n : Nat) (l B1 B2 c : Nat) (A : Option Addr) (J : World → Prop)
   (W : World) (hb1 : BlkIs W B1 46 #[.slice A 0 c]) (hJ : J W) :
   CallsIn Fence.wide n Tryz.prog 85 #[.func (.yield l) #[] #[], .pointer (some ⟨B1, 0, none⟩), .pointer (some ⟨B2, 0, none⟩)] W fun e W' => (∃ v, e = .returned v) ∧ J W' := by
 have c1 := hb1.cell 0; simp only [zqa, zqb] at c1; refine callsIn_of_wp Tryz.func85 rfl trivial ?_ rfl; simp only [Tryz.ntmps85, List.size_toArray, List.length_cons, List.length_nil, Nat.reduceAdd, Nat.reduceSub, Array.replicate_succ, Array.replicate_zero, List.push_toArray, List.append_toArray, List.nil_append, List.cons_append]
 gi_wp2
 gi_loopw [4] (fun s wr => s = .int .i64 0 ∧ wr = W) (fun _ _ => 0)
 case atStart => exact ⟨rfl, rfl⟩
 case round =>
   obtain ⟨rfl, rfl⟩ := hrel
   gi_wp2
   go_end0
   exact ⟨⟨_, rfl⟩, hJ⟩

end

section
open Go.RowKit

def saysG (ms : List (Nat → Bool)) (b : Nat) : List Bool := ms.map fun m => m b
theorem says_eq (ms : List (Nat → Bool)) (a b : Nat) : saysG ms a = saysG ms b ↔ ∀ m ∈ ms, m a = m b := by
 unfold saysG; exact List.map_inj_left
theorem xzrz {ms : List (Nat → Bool)} (hms : ms.length ≤ 64) (k : Nat) (a b : Nat) : keyG (fun _ => k) ms a = keyG (fun _ => k) ms b ↔ saysG ms a = saysG ms b := by
 rw [keyG_eq _ hms, says_eq]; exact ⟨fun h => h.2, fun h => ⟨rfl, h⟩⟩
theorem xzzt {ms : List (Nat → Bool)} (hms : ms.length ≤ 64) (k : Nat) : clsC (num (keyG (fun _ => k) ms)) (cnt (keyG (fun _ => k) ms) 256 : Nat) = clsC (num (saysG ms)) (cnt (saysG ms) 256 : Nat) := by
 rw [xzfl (g' := saysG ms) (n := 256) (fun a b _ _ => xzrz hms k a b) 256 (Nat.le_refl _)]
 exact xzdn _ fun b hb => xznj (n := 256) (fun a b _ _ => xzrz hms k a b) hb
theorem xzsa : ∀ b, cnt (saysG []) (b + 1) = 1
 | 0 => by decide
 | b + 1 => by
   have h : old (saysG []) (b + 1) = true := old_iff.2 ⟨0, by omega, rfl⟩; rw [xzbr, xzsa b, h]
   rfl
theorem xzzu (b : Nat) : num (saysG []) b = 0 := by
 have h : fst' (saysG []) b = 0 := xzip rfl (fun j hj => absurd hj (by omega)); unfold num; rw [h]
 rfl
theorem xzzv : clsC (fun _ => 0) 1 = clsC (num (saysG [])) (cnt (saysG []) 256 : Nat) := by
 rw [xzsa 255]
 exact xzdn _ fun b _ => (xzzu b).symm

section
variable {F : Fence} {nF : Nat} {P : Program} {ops : Array Oper} {rest : List Oper} {o : Oper} {a : Act} {w : World} {Q : Exit → Act → World → Prop}
theorem xzfj (hg : o.guard = none) (ty : TypeId) (x : Operand) (hop : o.op = Op.load ty x) {p v : Value} (hx : a.eval x = p) (hrun : (Instr.loadAt ty p).run P w = .ok v w) (h : wpListIn F nF P ops Q rest (a.put o.dst v) w) : wpListIn F nF P ops Q (o :: rest) a w := by
 refine wpListIn_plain hg fun K' hK' => ?_
 unfold Oper.wpIn; refine ⟨by simp [Oper.about, hop], ?_⟩; rw [Oper.semAt_plain F _ _ (by rw [hop]; intro c hc'; cases hc')]; simp only [execOp, hop, hx, Sem.run_bind, Sem.run_pure, hrun, Result.andThen_ok]; exact hK' _ _ h
theorem xzet (hg : o.guard = none) (ty : TypeId) (x y : Operand) (hop : o.op = Op.store ty x y) {p v : Value} {w' : World} (hx : a.eval x = p) (hy : a.eval y = v) (hrun : (Instr.storeAt ty p v).run P w = .ok () w') (h : wpListIn F nF P ops Q rest (a.put o.dst undef) w') : wpListIn F nF P ops Q (o :: rest) a w := by
 refine wpListIn_plain hg fun K' hK' => ?_
 unfold Oper.wpIn; refine ⟨by simp [Oper.about, hop], ?_⟩; rw [Oper.semAt_plain F _ _ (by rw [hop]; intro c hc'; cases hc')]; simp only [execOp, hop, hx, hy, Sem.run_bind, Sem.run_pure, hrun, Result.andThen_ok]; exact hK' _ _ h
end

theorem xzpj (n : Nat) (hn : 1 ≤ n) (G B1 B2 b off len cap : Nat) (hG1 : B1 ≠ G) (hG2 : B2 ≠ G) (h0 : 0 < len) (h64 : len ≤ 64) (hcap : len ≤ cap) (w : World) (hb1 : BlkIs w B1 46 #[.slice (some ⟨b, off, none⟩) len cap]) (hb2 : BlkIs w B2 3 #[.int .i64 64]) :
   SeqStopsK Fence.wide n Tryz.prog 85 #[.pointer (some ⟨B1, 0, none⟩), .pointer (some ⟨B2, 0, none⟩)] (fun _ : Unit => #[.slice (some ⟨b, off, none⟩) len len]) (KeepsBut G) (fun xs : List Unit => xs.length = 1) (fun pre : List Unit => pre.length = 1) 1 w :=
 fun l J Jx W hW hJ _ hY h0' => xzvt n hn l G B1 B2 b off len cap hG1 hG2 h0 h64 hcap J Jx (fun s W hs => hJ s W _ none hs (xzry W none) (fun r e => by cases e)) hY W (hb1.step hW) (hb2.step hW) h0'
theorem xzlw (n : Nat) (G B1 B2 c : Nat) (A : Option Addr) (w : World) (hb1 : BlkIs w B1 46 #[.slice A 0 c]) :
   SeqStopsK Fence.wide n Tryz.prog 85 #[.pointer (some ⟨B1, 0, none⟩), .pointer (some ⟨B2, 0, none⟩)] (fun _ : Unit => #[.slice A 0 0]) (KeepsBut G) (fun xs : List Unit => xs.length = 0) (fun pre : List Unit => pre.length = 0) 0 w :=
 fun l J _ W hW _ _ _ h0' => (xzpi n l B1 B2 c A (fun W' => J [] W') W (hb1.step hW) h0').mono fun _ _ h => ⟨h.1, .inl ⟨[], rfl, h.2⟩⟩

attribute [local go_sem] Oper.semAt_some

set_option maxRecDepth 100000 in
set_option maxHeartbeats 2000000 in
theorem xzvu (ms : List (Nat → Bool)) (h0 : 0 < ms.length) (hms : ms.length ≤ 64) (A : Option Addr) (c : Nat) (hcap : ms.length ≤ c) (w : World) (hT : Tab w) (hr : SetRow w w.heap.size A ms) :
   Calls Tryz.prog 49 #[.slice A ms.length c] w fun e w' => e = .returned (.agg (clsC (num (saysG ms)) (cnt (saysG ms) 256 : Nat))) ∧ Below w.heap.size w w' := by
 rw [← xzzt hms 0]; have HSP := Lib.hid (xzvs (fun _ => 0) 1 (fun _ _ => by decide) ms hms A ms.length); obtain ⟨b, off, hA, _⟩ := hr (fun e => by rw [e] at h0; simp at h0); have z := zeroC; have HT := Lib.hid hT; have HR := Lib.hid hr; have hz0 := (BlkIs.new w 31 (clsC (fun _ => 0) 0)).alloc (.cells (clsC (fun _ => 0) 0) 31); have hg0 := BlkIs.new (w.alloc (.cells (clsC (fun _ => 0) 0) 31)) 31 (clsC (fun _ => 0) 0); rw [World.size_alloc] at hg0; have hB0 := ((Below.refl w.heap.size w).alloc (Nat.le_refl _) (.cells (clsC (fun _ => 0) 0) 31)).alloc (by simp) (.cells (clsC (fun _ => 0) 0) 31); have H0 := Lib.hid (And.intro hz0 (And.intro hg0 hB0)); clear hT hr hz0 hg0 hB0; subst hA; generalize num (keyG (fun _ => 0) ms) = fN at *; generalize ((cnt (keyG (fun _ => 0) ms) 256 : Nat) : Int) = nN at *; refine (callsIn_wide (n := 5)).1 ?_; refine callsIn_of_wp_marks Tryz.func49 rfl trivial ?_ rfl; simp only [Tryz.ntmps49, List.size_toArray, List.length_cons, List.length_nil, Nat.reduceAdd, Nat.reduceSub, Array.replicate_succ, Array.replicate_zero, List.push_toArray, List.append_toArray, List.nil_append, List.cons_append]; refine wpIn_wide.2 ?_
 go_wp2_with (first
   | refine xzaz rfl 31 _ rfl (cells := clsC (fun _ => 0) 1) (by simpa [Act.eval] using xznn) ?_
   | (refine xzal rfl 31 (.tmp 3) (.tmp 5) rfl rfl (new := clsC (fun _ => 0) 1) rfl H0.out.2.1 (by rw [xzag, xzag]) (by rw [xzag]; exact infoC) (xzeb _ _) ?_; intro w1 hw1 hwr)
   | (go_at_call 68; go_must (refine (xzoa _ _ _ _).mono ?_); rintro e w2 ⟨B1, B2, rfl, hx1, hx2, hl1, hl2, hb2⟩))
 have hBw1 : Below w.heap.size w w1 := hwr.2.1 _ _ (Nat.le_succ _) H0.out.2.2
 have hlw : w1.heap.size = w.heap.size + 2 := by rw [hwr.2.2]; simp
 have hBw2 := hBw1.trans (hb2.mono hBw1.size); have H2 := Lib.hid (And.intro ((hwr.blk (by omega) H0.out.1).step hb2) (And.intro (hw1.step hb2) hBw2))
 have hGw2 : w.heap.size + 2 ≤ w2.heap.size := by have := hb2.size; omega
 have HX := Lib.hid (And.intro hx1 hx2)
 have hne1 : B1 ≠ w.heap.size + 1 := by omega
 have hne2 : B2 ≠ w.heap.size + 1 := by omega
 have hcs := HX.out; clear hBw1 hBw2 hw1 hwr hx1 hx2 hb2 H0 hl1 hl2 hlw; refine (wpIn_wide (n := 5)).1 ?_
 refine wpIn_rangeFunc_ownG rfl (by omega) (gf := 85) (lb := #[.pointer (some ⟨B1, 0, none⟩), .pointer (some ⟨B2, 0, none⟩)]) rfl trivial
   (enters_of Tryz.func85 (by kernel_rfl) rfl)
   (xzpj _ (by omega) (w.heap.size + 1) B1 B2 b off ms.length c hne1 hne2 h0 hms hcap w2 hcs.1 hcs.2) KeepsBut.trans (fun W l o o' _ hl ho _ => xzgn _ W l o o' hl ho) (Below.refl _ _) (fun _ => rfl)
   (fun pre W => BlkIs W w.heap.size 31 (clsC (fun _ => 0) 0) ∧ (pre.length = 0 ∧ BlkIs W (w.heap.size + 1) 31 (clsC (fun _ => 0) 1) ∨ pre.length = 1 ∧ BlkIs W (w.heap.size + 1) 31 (clsC fN nN)) ∧ Below w.heap.size w W)
   (fun _ _ _ => False) ?hI (fun _ _ _ _ _ h _ _ => h) ⟨H2.out.1, .inl ⟨rfl, H2.out.2.1⟩, H2.out.2.2⟩
   (fun _ => { tmps := #[.slice (some ⟨b, off, none⟩) ms.length c, undef, .pointer (some ⟨w.heap.size, 0, none⟩), .pointer (some ⟨w.heap.size + 1, 0, none⟩), .slice (some ⟨b, off, none⟩) ms.length ms.length, .agg (clsC (fun _ => 0) 1),
     .slice (some ⟨b, off, none⟩) ms.length c, .func (.func 85) #[] #[.pointer (some ⟨B1, 0, none⟩), .pointer (some ⟨B2, 0, none⟩)], .slice (some ⟨b, off, none⟩) ms.length ms.length, undef, undef, undef, undef], defers := [] }) ?assign ?body ?done ?stop
 case hI =>
   rintro s A A' row ⟨h1, h2, h3⟩ hg hro
   have hr' : ∀ r, row = some r → ∃ o : Obj, A.heap[r]? = some o ∧ o.isCells = false := fun r e => (hro r e).2
   exact ⟨xzeh h1 hg hr', h2.imp (fun h => ⟨h.1, xzeh h.2 hg hr'⟩) (fun h => ⟨h.1, xzeh h.2 hg hr'⟩), ownFrom_below (β := Unit) (Nat.le_refl _) (by omega) () A A' row h3 hg hro⟩
 case assign =>
   intro l x W K hK
   gi_wp2
   exact hK
 case body =>
   rintro l pre x W ⟨h1, h2, h3⟩ hlt
   rcases h2 with ⟨hp, h2⟩ | ⟨hp, _⟩
   · have HSW := Lib.hid (HSP.out W (HT.out.step h3) ((HR.out.below h3).wide h3.size))
     have hl0 := loadC h2; have H1 := Lib.hid (And.intro h1 (And.intro h2 h3)); clear h1 h2 h3
     gi_wp2_with (first
       | refine xzfj rfl 31 (.tmp 3) rfl rfl hl0 ?_
       | (refine ⟨trivial, ?_⟩; gi_at_call 69; refine (CallsIn.inRound l (callsIn_wide.2 HSW.out)).mono ?_; rintro e w3 ⟨rfl, hb3⟩)
       | (refine xzet rfl 31 (.tmp 3) (.tmp 11) rfl rfl rfl (run_storeAt_mid w3 (w.heap.size + 1) 0 31 (clsC fN nN) (by rw [xzag]; have := (H1.out.2.1.step hb3).there; rwa [xzag] at this) (by rw [xzag]; exact infoC) (xzeb _ _)) ?_))
     have hw := Wrote.cells (w.heap.size + 1) (clsC fN nN).toList 0 w3; have hnew := (H1.out.2.1.step hb3).fill (new := clsC fN nN) (by rw [xzag, xzag]); generalize w3.setCells (w.heap.size + 1) 0 (clsC fN nN).toList = w4 at *; have hb3' := H1.out.2.2.trans (hb3.mono H1.out.2.2.size); refine ⟨⟨by rw [hw.2.2]; exact hb3.size, fun k o hk ho _ => ?_⟩, fun k t cs hk hb => hw.blk hk (hb.step hb3), hw.blk (by omega) (H1.out.1.step hb3), .inr ⟨by simp [hp], hnew⟩, hw.2.1 _ _ (Nat.le_succ _) hb3'⟩; rw [hw.1 k (by omega), hb3.block k (Array.getElem?_eq_some_iff.1 ho).1]; exact ho
   · omega
 case done =>
   rintro D xs W hD hS ⟨h1, h2, h3⟩ hK
   have h2' : BlkIs W (w.heap.size + 1) 31 (clsC fN nN) := by
     rcases h2 with ⟨h, _⟩ | ⟨_, h⟩
     · omega
     · exact h
   have H1 := Lib.hid (And.intro h1 (And.intro h2' h3)); clear h1 h2 h2' h3
   go_wp2_with (first
     | refine xzbn rfl (.tmp 3) rfl rfl H1.out.2.1 ?_
     | (refine xzal rfl 31 (.tmp 2) (.tmp 12) rfl rfl (new := clsC fN nN) rfl H1.out.1 (by rw [xzag, xzag]) (by rw [xzag]; exact infoC) (xzeb _ _) ?_; intro w5 hw5 hwr5))
   have hK5 := (hwr5.1 D (by omega)).trans hK; have hfin : BlkIs (w5.putObj D (.deferred none)) w.heap.size 31 (clsC fN nN) := (World.putObj_heap_other (by omega)).trans hw5; have hBe := (hwr5.2.1 _ _ (Nat.le_refl _) H1.out.2.2).trans (belowK_b (w := w) (Nat.le_refl _) w5 D _ (.deferred none) (by omega) hK5 rfl rfl); refine ⟨by simp, .inl ⟨_, _, rfl, run_takeDeferred hK5, ?_⟩⟩; exact ⟨_, xzab rfl (by simp) (loadVarC hfin), rfl, hBe⟩
 case stop =>
   rintro D c pre W _ _ h _; exact h.elim

set_option maxRecDepth 100000 in
set_option maxHeartbeats 2000000 in
theorem xzvv (A : Option Addr) (c : Nat) (w : World) :
   Calls Tryz.prog 49 #[.slice A 0 c] w fun e w' => e = .returned (.agg (clsC (num (saysG [])) (cnt (saysG []) 256 : Nat))) ∧ Below w.heap.size w w' := by
 rw [← xzzv]; have z := zeroC; have hz0 := (BlkIs.new w 31 (clsC (fun _ => 0) 0)).alloc (.cells (clsC (fun _ => 0) 0) 31); have hg0 := BlkIs.new (w.alloc (.cells (clsC (fun _ => 0) 0) 31)) 31 (clsC (fun _ => 0) 0); rw [World.size_alloc] at hg0; have hB0 := ((Below.refl w.heap.size w).alloc (Nat.le_refl _) (.cells (clsC (fun _ => 0) 0) 31)).alloc (by simp) (.cells (clsC (fun _ => 0) 0) 31); have H0 := Lib.hid (And.intro hz0 (And.intro hg0 hB0)); clear hz0 hg0 hB0; refine (callsIn_wide (n := 5)).1 ?_; refine callsIn_of_wp_marks Tryz.func49 rfl trivial ?_ rfl; simp only [Tryz.ntmps49, List.size_toArray, List.length_cons, List.length_nil, Nat.reduceAdd, Nat.reduceSub, Array.replicate_succ, Array.replicate_zero, List.push_toArray, List.append_toArray, List.nil_append, List.cons_append]; refine wpIn_wide.2 ?_
 go_wp2_with (first
   | refine xzaz rfl 31 _ rfl (cells := clsC (fun _ => 0) 1) (by simpa [Act.eval] using xznn) ?_
   | (refine xzal rfl 31 (.tmp 3) (.tmp 5) rfl rfl (new := clsC (fun _ => 0) 1) rfl H0.out.2.1 (by rw [xzag, xzag]) (by rw [xzag]; exact infoC) (xzeb _ _) ?_; intro w1 hw1 hwr)
   | (go_at_call 68; go_must (refine (xzoa _ _ _ _).mono ?_); rintro e w2 ⟨B1, B2, rfl, hx1, hx2, hl1, hl2, hb2⟩))
 have hBw1 : Below w.heap.size w w1 := hwr.2.1 _ _ (Nat.le_succ _) H0.out.2.2
 have hlw : w1.heap.size = w.heap.size + 2 := by rw [hwr.2.2]; simp
 have hBw2 := hBw1.trans (hb2.mono hBw1.size); have H2 := Lib.hid (And.intro ((hwr.blk (by omega) H0.out.1).step hb2) (And.intro (hw1.step hb2) hBw2))
 have hGw2 : w.heap.size + 2 ≤ w2.heap.size := by have := hb2.size; omega
 have HX := Lib.hid (And.intro hx1 hx2); have hcs := HX.out; clear hBw1 hBw2 hw1 hwr hx1 hx2 hb2 H0 hl1 hl2 hlw; refine (wpIn_wide (n := 5)).1 ?_
 refine wpIn_rangeFunc_ownG rfl (by omega) (gf := 85) (lb := #[.pointer (some ⟨B1, 0, none⟩), .pointer (some ⟨B2, 0, none⟩)]) rfl trivial
   (enters_of Tryz.func85 (by kernel_rfl) rfl)
   (xzlw _ (w.heap.size + 1) B1 B2 c A w2 hcs.1) KeepsBut.trans (fun W l o o' _ hl ho _ => xzgn _ W l o o' hl ho) (Below.refl _ _) (fun _ => rfl)
   (fun _ W => BlkIs W w.heap.size 31 (clsC (fun _ => 0) 0) ∧ BlkIs W (w.heap.size + 1) 31 (clsC (fun _ => 0) 1) ∧ Below w.heap.size w W)
   (fun _ _ _ => False) ?hI (fun _ _ _ _ _ h _ _ => h) ⟨H2.out.1, H2.out.2.1, H2.out.2.2⟩
   (fun _ => { tmps := #[.slice A 0 c, undef, .pointer (some ⟨w.heap.size, 0, none⟩), .pointer (some ⟨w.heap.size + 1, 0, none⟩), .slice A 0 0, .agg (clsC (fun _ => 0) 1),
     .slice A 0 c, .func (.func 85) #[] #[.pointer (some ⟨B1, 0, none⟩), .pointer (some ⟨B2, 0, none⟩)], .slice A 0 0, undef, undef, undef, undef], defers := [] }) ?assign ?body ?done ?stop
 case hI =>
   rintro s A A' row ⟨h1, h2, h3⟩ hg hro
   have hr' : ∀ r, row = some r → ∃ o : Obj, A.heap[r]? = some o ∧ o.isCells = false := fun r e => (hro r e).2
   exact ⟨xzeh h1 hg hr', xzeh h2 hg hr', ownFrom_below (β := Unit) (Nat.le_refl _) (by omega) () A A' row h3 hg hro⟩
 case assign =>
   intro l x W K hK
   gi_wp2
   exact hK
 case body =>
   rintro l pre x W _ hlt; exact absurd hlt (by omega)
 case done =>
   rintro D xs W hD hS ⟨h1, h2, h3⟩ hK; have H1 := Lib.hid (And.intro h1 (And.intro h2 h3)); clear h1 h2 h3
   go_wp2_with (first
     | refine xzbn rfl (.tmp 3) rfl rfl H1.out.2.1 ?_
     | (refine xzal rfl 31 (.tmp 2) (.tmp 12) rfl rfl (new := clsC (fun _ => 0) 1) rfl H1.out.1 (by rw [xzag, xzag]) (by rw [xzag]; exact infoC) (xzeb _ _) ?_; intro w5 hw5 hwr5))
   have hK5 := (hwr5.1 D (by omega)).trans hK; have hfin : BlkIs (w5.putObj D (.deferred none)) w.heap.size 31 (clsC (fun _ => 0) 1) := (World.putObj_heap_other (by omega)).trans hw5; have hBe := (hwr5.2.1 _ _ (Nat.le_refl _) H1.out.2.2).trans (belowK_b (w := w) (Nat.le_refl _) w5 D _ (.deferred none) (by omega) hK5 rfl rfl); refine ⟨by simp, .inl ⟨_, _, rfl, run_takeDeferred hK5, ?_⟩⟩; exact ⟨_, xzab rfl (by simp) (loadVarC hfin), rfl, hBe⟩
 case stop =>
   rintro D c pre W _ _ h _; exact h.elim

theorem xzzw (ms : List (Nat → Bool)) (hms : ms.length ≤ 64) (A : Option Addr) (c : Nat) (hcap : ms.length ≤ c) (w : World) (hT : Tab w) (hr : SetRow w w.heap.size A ms) :
   Calls Tryz.prog 49 #[.slice A ms.length c] w fun e w' => e = .returned (.agg (clsC (num (saysG ms)) (cnt (saysG ms) 256 : Nat))) ∧ Below w.heap.size w w' := by
 cases ms with
 | nil => exact xzvv A c w
 | cons m r => exact xzvu (m :: r) (by simp) hms A c hcap w hT hr

end
end Go.Proofs.YtgngaaemkmdfaaaGreatDoor
