/-
  ROWS OF PLACES: 32 words, within a block of cells; what add of a row does. No condition but that the place is below 2048.
-/
import Derived.Maps.AppendAt
import Derived.Laws.CopyOwn
import Derived.Deep.OwnRows
import Derived.Lib.ItoaWalk
import Derived.Test.YtkcnknhhabbomaaDoorQG05
import Derived.Test.YtkcnknhhabbomaaDoorQG06
import Derived.Test.YtkcnknhhabbomaaDoorQG02
import Derived.Test.YtkcnknhhabbomaaDoorQG04
namespace Go.Proofs.YtkcnknhhabbomaaDoor
open Go.RowKit

def rowP (f : Nat → Bool) (k : Nat) : Value := .int .u64 (wd f k : Nat)
def BlkF (W : World) (g : Nat) (t : TypeId) (N : Nat) (F : Nat → Value) : Prop := BlkIs W g t (cellsN N F)
def HasRow (N : Nat) (F : Nat → Value) (o : Nat) (f : Nat → Bool) : Prop := o + 32 ≤ N ∧ ∀ k, k < 32 → F (o + k) = rowP f k
def putV (F : Nat → Value) (i : Nat) (v : Value) : Nat → Value := fun j => if j = i then v else F j
theorem BlkF.cell {W : World} {g : Nat} {t : TypeId} {N : Nat} {F : Nat → Value} (h : BlkF W g t N F) {i : Nat} (hi : i < N) : W.cell? ⟨g, i, none⟩ = some (F i) := by
  rw [BlkIs.cell h, cellsN_get _ hi]
theorem BlkF.put {W : World} {g : Nat} {t : TypeId} {N : Nat} {F : Nat → Value} (h : BlkF W g t N F) (i : Nat) (v : Value) : BlkF (W.setCell ⟨g, i, none⟩ v) g t N (putV F i v) := by
  have := BlkIs.put h i v
  rw [cellsN_set] at this
  exact this
def plus (f : Nat → Bool) (p : Nat) : Nat → Bool := fun q => f q || decide (q = p)
theorem wd_plus_far (f : Nat → Bool) {p k : Nat} (h : k ≠ p / 64) : wd (plus f p) k = wd f k := by
  apply wd_congr
  intro j hj
  unfold plus
  have : decide (64 * k + j = p) = false := decide_eq_false (by omega)
  rw [this, Bool.or_false]
theorem Wrote.drew {g : Nat} {w w' : World} (h : Wrote g w w') : Wrote g w w'.drew := ⟨h.1, fun B W0 hB hb => (h.2.1 B W0 hB hb).drew, h.2.2⟩
def RowAt (W : World) (g o : Nat) (f : Nat → Bool) : Prop := ∀ k, k < 32 → W.cell? ⟨g, o + k, none⟩ = some (rowP f k)
def rowA (f : Nat → Bool) : Array Value := cellsN 32 (rowP f)
theorem rowA_size (f : Nat → Bool) : (rowA f).size = 32 := cellsN_size _ _
theorem rowA_get (f : Nat → Bool) {k : Nat} (h : k < 32) : (rowA f)[k]? = some (rowP f k) := cellsN_get _ h
theorem rowA_one (f : Nat → Bool) : (rowA f).all (·.oneCell') = true := cellsN_one fun _ => rfl
theorem rowA_congr {f f' : Nat → Bool} (h : ∀ p, p < 2048 → f p = f' p) : rowA f = rowA f' := cellsN_congr fun i hi => by
  unfold rowP
  rw [wd_congr fun j hj => h _ (by omega)]
theorem infoRw : (Tryd.prog.info? 75).map (·.size) = some 32 := by kernel_rfl
theorem infoWs : (Tryd.prog.info? 73).map (·.size) = some 32 := by kernel_rfl
theorem RowAt.range {W : World} {g o : Nat} {f : Nat → Bool} (h : RowAt W g o f) : W.rangeAt g o (rowA f).toList := fun j v hv => by
  have hj : j < 32 := by have := (List.getElem?_eq_some_iff.1 hv).1; rw [Array.length_toList, rowA_size] at this; exact this
  rw [h j hj]
  rw [Array.getElem?_toList, rowA_get f hj] at hv
  exact hv
theorem BlkF.row {W : World} {g : Nat} {t : TypeId} {N o : Nat} {F : Nat → Value} {f : Nat → Bool} (h : BlkF W g t N F) (hr : HasRow N F o f) : RowAt W g o f := fun k hk => by
  rw [h.cell (by have := hr.1; omega), hr.2 k hk]
theorem RowAt.heap {W W' : World} {g o : Nat} {f : Nat → Bool} (h : RowAt W g o f) (e : W'.heap[g]? = W.heap[g]?) : RowAt W' g o f := fun k hk => by
  rw [← h k hk]
  unfold World.cell?
  simp only [e]
theorem RowAt.step {W W' : World} {g o : Nat} {f : Nat → Bool} (h : RowAt W g o f) (hb : Below W.heap.size W W') : RowAt W' g o f := fun k hk => by
  have hlt : g < W.heap.size := World.block_lt_of_cell? W ⟨g, o + k, none⟩ (h k hk)
  exact (hb.cell (p := ⟨g, o + k, none⟩) hlt).trans (h k hk)
section
variable {ops : Array Oper} {rest : List Oper} {op : Oper} {a : Act} {w : World} {Q : Exit → Act → World → Prop} {g o : Nat} {f : Nat → Bool}
theorem wpList_loadWs (hgd : op.guard = none) (x : Operand) (ho : op.op = .load 73 x) (hx : a.eval x = .pointer (some ⟨g, o, none⟩)) (h : RowAt w g o f)
    (hK : wpList Tryd.prog ops Q rest (a.put op.dst (.agg (rowA f))) w) : wpList Tryd.prog ops Q (op :: rest) a w :=
  wpList_load_mid hgd 73 x ho g o hx (rowA f).toList _ h.range Tryd.underlying73 rfl (by rw [infoWs, Array.length_toList, rowA_size]) (by rw [Array.toArray_toList]; exact hK)
theorem wpList_loadRw (hgd : op.guard = none) (x : Operand) (ho : op.op = .load 75 x) (hx : a.eval x = .pointer (some ⟨g, o, none⟩)) (h : RowAt w g o f)
    (hK : wpList Tryd.prog ops Q rest (a.put op.dst (.agg (rowA f))) w) : wpList Tryd.prog ops Q (op :: rest) a w :=
  wpList_load_mid hgd 75 x ho g o hx (rowA f).toList _ h.range Tryd.underlying75 rfl (by rw [infoRw, Array.length_toList, rowA_size]) (by rw [Array.toArray_toList]; exact hK)
theorem loadRw (h : RowAt w g o f) : (Instr.loadAt 75 (.pointer (some ⟨g, o, none⟩))).run Tryd.prog w = .ok (.agg (rowA f)) w := by
  have := run_loadAt_mid (P := Tryd.prog) w g o 75 (rowA f).toList _ h.range Tryd.underlying75 rfl (by rw [infoRw, Array.length_toList, rowA_size])
  rw [this]
theorem loadVarRw (h : RowAt w g o f) : (loadVar 75 ⟨g, o, none⟩).run Tryd.prog w = .ok (.agg (rowA f)) w := by
  have := run_loadVar_mid (P := Tryd.prog) w g o 75 (rowA f).toList _ h.range Tryd.underlying75 rfl (by rw [infoRw, Array.length_toList, rowA_size])
  rw [this]
end
theorem part59 {xs : Array Value} {off : Nat} {v : Value} (hx : xs[off]? = some v) (w : World) : (part 59 xs off).run Tryd.prog w = .ok v w := run_part_plain w (by kernel_rfl) hx
theorem idxRw (f : Nat → Bool) {k : Nat} (hk : k < 32) (w : World) : (Instr.index 73 (.agg (rowA f)) (.int .i64 k)).run Tryd.prog w = .ok (rowP f k) w := by
  have hs : (sizeOf 59).run Tryd.prog w = .ok 1 w := by kernel_rfl
  have hp := part59 (rowA_get f hk) w
  simp [Instr.index, run_underlying Tryd.underlying73, asIntOf, hs, hp, hk]

set_option maxRecDepth 20000 in
set_option maxHeartbeats 2000000 in
theorem rowAdd_any (g o N : Nat) (t : TypeId) (F : Nat → Value) (f : Nat → Bool) (p : Nat) (w : World) (hb : BlkF w g t N F) (hr : HasRow N F o f) (hp : p < 2048) :
    Calls Tryd.prog 69 #[.pointer (some ⟨g, o, none⟩), .int .i64 p] w fun e w' => e = .returned (.tuple #[]) ∧ BlkF w' g t N (putV F (o + p / 64) (rowP (plus f p) (p / 64))) ∧ Wrote g w w' := by
  have hc := hb.cell (i := o + p / 64) (by have := hr.1; omega)
  rw [hr.2 (p / 64) (by omega)] at hc
  unfold rowP at hc
  have hfz := BlkIs.frozen hb (o + p / 64)
  go_enter Tryd.func69, Tryd.ntmps69
  go_wp2_with fail
  go_region
  go_wp2
  rw [or_bit (m := f) (m' := plus f p) (x := p) (i := p / 64) (fun b => rfl) rfl]
  go_end0
  exact ⟨rfl, (BlkF.put hb _ _), Wrote.drew (Wrote.cell w g _ _)⟩
theorem and_bit (f : Nat → Bool) (p : Nat) : (wd f (p / 64) >>> (p % 64)) % 2 = (if f p then 1 else 0) := by
  have h := wd_testBit f (p / 64) (p % 64)
  rw [show 64 * (p / 64) + p % 64 = p by omega, decide_eq_true (show p % 64 < 64 by omega), Bool.true_and] at h
  rw [Nat.testBit, Nat.one_and_eq_mod_two] at h
  cases hf : f p
  · rw [hf] at h; simp only [bne_eq_false_iff_eq] at h; rw [h]; rfl
  · rw [hf] at h; simp only [bne_iff_ne, ne_eq] at h
    simp only [if_true]
    omega
theorem has_word (f : Nat → Bool) (p : Nat) : (bits .and .u64 (((wd f (p / 64) : Nat) : Int) / 2 ^ (p % 64)) 1 == 1) = f p := by
  have e : (((wd f (p / 64) : Nat) : Int) / 2 ^ (p % 64)) = ((wd f (p / 64) >>> (p % 64) : Nat) : Int) := by
    rw [Nat.shiftRight_eq_div_pow, Int.natCast_ediv, Int.natCast_pow]; rfl
  have hl := wd_lt f (p / 64)
  have hle : wd f (p / 64) >>> (p % 64) < 18446744073709551616 := by
    rw [Nat.shiftRight_eq_div_pow]
    exact Nat.lt_of_le_of_lt (Nat.div_le_self _ _) hl
  have h := u64_and_nat (wd f (p / 64) >>> (p % 64)) 1 hle (by decide)
  rw [e, show (1 : Int) = ((1 : Nat) : Int) from rfl, h, Nat.and_one_is_mod, and_bit]
  cases f p <;> rfl
set_option maxRecDepth 20000 in
set_option maxHeartbeats 2000000 in
theorem rowHas_any (g o : Nat) (f : Nat → Bool) (p : Nat) (w : World) (hr : RowAt w g o f) (hp : p < 2048) :
    Calls Tryd.prog 73 #[.pointer (some ⟨g, o, none⟩), .int .i64 p] w fun e w' => e = .returned (.bool (f p)) ∧ w' = w := by
  have hc := hr (p / 64) (by omega)
  unfold rowP at hc
  clear hr
  go_enter Tryd.func73, Tryd.ntmps73
  go_wp2
  rw [has_word]
  go_ret
  exact ⟨rfl, rfl⟩
def joinF (F : Nat → Value) (o : Nat) (f : Nat → Bool) (k : Nat) : Nat → Value := fun i => if o ≤ i ∧ i < o + k then rowP f (i - o) else F i
theorem joinF_put (F : Nat → Value) (o : Nat) (f : Nat → Bool) (k : Nat) : putV (joinF F o f k) (o + k) (rowP f k) = joinF F o f (k + 1) := by
  funext i; unfold putV joinF
  by_cases h : i = o + k
  · subst h; rw [if_pos rfl, if_pos (by omega), show o + k - o = k by omega]
  · rw [if_neg h]
    by_cases h2 : o ≤ i ∧ i < o + k
    · rw [if_pos h2, if_pos (by omega)]
    · rw [if_neg h2, if_neg (by omega)]
theorem joinF_none (F : Nat → Value) (o : Nat) (f : Nat → Bool) : joinF F o f 0 = F := by
  funext i; unfold joinF; rw [if_neg (by omega)]
theorem joinF_at (F : Nat → Value) (o : Nat) (f : Nat → Bool) (k : Nat) : joinF F o f k (o + k) = F (o + k) := by
  unfold joinF; rw [if_neg (by omega)]
set_option maxRecDepth 20000 in
set_option maxHeartbeats 2000000 in
theorem rowJoin_any (g o N : Nat) (t : TypeId) (F : Nat → Value) (f f2 : Nat → Bool) (g2 o2 : Nat) (w : World) (hb : BlkF w g t N F) (hr : HasRow N F o f) (h2 : RowAt w g2 o2 f2) :
    Calls Tryd.prog 74 #[.pointer (some ⟨g, o, none⟩), .pointer (some ⟨g2, o2, none⟩)] w fun e w' => e = .returned (.tuple #[]) ∧ BlkF w' g t N (joinF F o (sOr f f2) 32) ∧ Wrote g w w' := by
  have HR2 := Lib.hid h2
  have HB := Lib.hid (And.intro hb hr)
  clear hb hr h2
  go_enter Tryd.func74, Tryd.ntmps74
  go_wp2_with (refine wpList_loadWs rfl _ rfl rfl HR2.out ?_)
  go_loopw [4, 5, 10] (fun _ _ i wr => ∃ k : Nat, i = .int .i64 k ∧ k ≤ 32 ∧ Hid (BlkF wr g t N (joinF F o (sOr f f2) k) ∧ Wrote g w wr)) (fun _ _ i _ => 32 - (intOf i).toNat)
  case atStart => exact ⟨0, rfl, by decide, Lib.hid ⟨by rw [joinF_none]; exact HB.out.1, Wrote.refl g w⟩⟩
  case round =>
    obtain ⟨k, rfl, hk, HH⟩ := hrel
    by_cases hp : k < 32
    · have hk1 : IntKind.i64.wrap ((k : Int) + 1) = ((k + 1 : Nat) : Int) := by rw [IntKind.wrap_i64]; omega
      have hdl : decide ((k : Int) < 32) = true := by simp; omega
      have hix := fun u => idxRw f2 hp u
      have hc := BlkF.cell HH.out.1 (i := o + k) (by have := HB.out.2.1; omega)
      rw [joinF_at, HB.out.2.2 k hp] at hc
      have hfz := BlkIs.frozen HH.out.1 (o + k)
      unfold rowP at hc hix
      have hor := bits_or_wd f f2 k
      go_wp2_with fail
      go_region
      have HN := Lib.hid (show BlkF (wr.setCell ⟨g, o + k, none⟩ (.int .u64 (wd (sOr f f2) k : Nat))).drew g t N (joinF F o (sOr f f2) (k + 1)) ∧ Wrote g w (wr.setCell ⟨g, o + k, none⟩ (.int .u64 (wd (sOr f f2) k : Nat))).drew from ⟨by rw [← joinF_put]; exact HH.out.1.put _ _, HH.out.2.trans (Wrote.drew (Wrote.cell _ _ _ _))⟩)
      go_wp2
      exact ⟨⟨k + 1, rfl, by omega, HN⟩, by simp [intOf]; omega⟩
    · have hdl : decide ((k : Int) < 32) = false := by simp; omega
      obtain rfl : k = 32 := by omega
      go_wp2
      go_end0
      exact ⟨rfl, HH.out⟩
end Go.Proofs.YtkcnknhhabbomaaDoor

namespace Go.Proofs.YtkcnknhhabbomaaDoor
open Go.RowKit

structure MkV where
  of : Nat → Nat
  n : Nat
  next : Value
  tag : Value
  v0 : Value
  v1 : Value
  v2 : Value
  v3 : Value
  v4 : Value
  em : Int
  fol : Value
  tak : Value
  sts : Value
  nums : Value
  reach : Nat → Bool
def mkF (D : MkV) (i : Nat) : Value :=
  if i < 256 then .int .u8 (D.of i) else
  if i = 256 then .int .i64 (D.n : Nat) else
  if i = 257 then D.next else
  if i = 258 then D.tag else
  if i = 259 then D.v0 else
  if i = 260 then D.v1 else
  if i = 261 then D.v2 else
  if i = 262 then D.v3 else
  if i = 263 then D.v4 else
  if i = 264 then .int .i64 D.em else
  if i = 265 then D.fol else
  if i = 266 then D.tak else
  if i = 267 then D.sts else
  if i = 268 then D.nums else rowP D.reach (i - 269)
theorem mk_row (D : MkV) : HasRow 301 (mkF D) 269 D.reach := by
  refine ⟨by decide, fun k hk => ?_⟩
  unfold mkF
  repeat rw [if_neg (by omega)]
  rw [show 269 + k - 269 = k by omega]
theorem put_nx (D : MkV) (v : Value) : putV (mkF D) 257 v = mkF { D with next := v } := by
  funext i; unfold putV; by_cases h : i = 257
  · subst h; rfl
  · rw [if_neg h]; unfold mkF; simp only [if_neg h]
theorem put_tg (D : MkV) (v : Value) : putV (mkF D) 258 v = mkF { D with tag := v } := by
  funext i; unfold putV; by_cases h : i = 258
  · subst h; rfl
  · rw [if_neg h]; unfold mkF; simp only [if_neg h]
theorem put_fo (D : MkV) (v : Value) : putV (mkF D) 265 v = mkF { D with fol := v } := by
  funext i; unfold putV; by_cases h : i = 265
  · subst h; rfl
  · rw [if_neg h]; unfold mkF; simp only [if_neg h]
theorem put_ta (D : MkV) (v : Value) : putV (mkF D) 266 v = mkF { D with tak := v } := by
  funext i; unfold putV; by_cases h : i = 266
  · subst h; rfl
  · rw [if_neg h]; unfold mkF; simp only [if_neg h]
theorem put_st (D : MkV) (v : Value) : putV (mkF D) 267 v = mkF { D with sts := v } := by
  funext i; unfold putV; by_cases h : i = 267
  · subst h; rfl
  · rw [if_neg h]; unfold mkF; simp only [if_neg h]
theorem put_reach (D : MkV) (p : Nat) (hp : p < 2048) : putV (mkF D) (269 + p / 64) (rowP (plus D.reach p) (p / 64)) = mkF { D with reach := plus D.reach p } := by
  funext i; unfold putV; by_cases h : i = 269 + p / 64
  · subst h
    rw [if_pos rfl]
    unfold mkF
    repeat rw [if_neg (by omega)]
    rw [show 269 + p / 64 - 269 = p / 64 by omega]
  · rw [if_neg h]; unfold mkF
    by_cases h2 : i < 269
    · have : i < 256 ∨ i = 256 ∨ i = 257 ∨ i = 258 ∨ i = 259 ∨ i = 260 ∨ i = 261 ∨ i = 262 ∨ i = 263 ∨ i = 264 ∨ i = 265 ∨ i = 266 ∨ i = 267 ∨ i = 268 := by omega
      rcases this with h | rfl | rfl | rfl | rfl | rfl | rfl | rfl | rfl | rfl | rfl | rfl | rfl | rfl
      · simp only [if_pos h]
      all_goals rfl
    · repeat rw [if_neg (by omega)]
      unfold rowP
      rw [wd_plus_far _ (by omega)]
theorem mk_cells {W : World} {g : Nat} {t : TypeId} {D : MkV} (h : BlkF W g t 301 (mkF D)) :
    W.cell? ⟨g, 256, none⟩ = some (.int .i64 (D.n : Nat)) ∧ W.cell? ⟨g, 257, none⟩ = some D.next ∧ W.cell? ⟨g, 258, none⟩ = some D.tag ∧
    W.cell? ⟨g, 259, none⟩ = some D.v0 ∧ W.cell? ⟨g, 260, none⟩ = some D.v1 ∧ W.cell? ⟨g, 261, none⟩ = some D.v2 ∧ W.cell? ⟨g, 262, none⟩ = some D.v3 ∧ W.cell? ⟨g, 263, none⟩ = some D.v4 ∧ W.cell? ⟨g, 264, none⟩ = some (.int .i64 D.em) ∧
    W.cell? ⟨g, 265, none⟩ = some D.fol ∧ W.cell? ⟨g, 266, none⟩ = some D.tak ∧ W.cell? ⟨g, 267, none⟩ = some D.sts ∧ W.cell? ⟨g, 268, none⟩ = some D.nums :=
  ⟨h.cell (by decide), h.cell (by decide), h.cell (by decide), h.cell (by decide), h.cell (by decide), h.cell (by decide), h.cell (by decide), h.cell (by decide), h.cell (by decide), h.cell (by decide), h.cell (by decide), h.cell (by decide), h.cell (by decide)⟩
end Go.Proofs.YtkcnknhhabbomaaDoor

namespace Go.Proofs.YtkcnknhhabbomaaDoor
open Go.RowKit

attribute [local irreducible] FreeW

def Nf.ruleAt (N : Nf) (p : Int) : Int := N.rules.getD p.toNat 0
def Nf.endAt (N : Nf) (p : Int) : Bool := N.ends.getD p.toNat false
def tagStep (N : Nf) (least p : Int) : Int := if N.endAt p && (decide (least < 0) || decide (N.ruleAt p < least)) then N.ruleAt p else least
def tagL (N : Nf) (at' : List Int) : Int := at'.foldl (tagStep N) (-1)
def hitR (N : Nf) (at' : List Int) (r : Int) : Bool := at'.any fun p => (N.ruleAt p == r) && N.endAt p
def firstR (N : Nf) (at' : List Int) : Nat → Int → Int
  | 0, _ => -1
  | k + 1, r => if hitR N at' r then r else firstR N at' k (r + 1)
theorem tag_snoc (N : Nf) (l : List Int) (p : Int) : tagL N (l ++ [p]) = tagStep N (tagL N l) p := by unfold tagL; rw [List.foldl_append]; rfl
theorem tag_least (N : Nf) (hR : ∀ p, 0 ≤ N.ruleAt p ∧ N.ruleAt p < 40) : ∀ l : List Int, (tagL N l = -1 ∧ ∀ r, hitR N l r = false) ∨ (0 ≤ tagL N l ∧ tagL N l < 40 ∧ hitR N l (tagL N l) = true ∧ ∀ r, hitR N l r = true → tagL N l ≤ r) := by
  intro l
  have hsn : ∀ (l : List Int) (p r : Int), hitR N (l ++ [p]) r = (hitR N l r || ((N.ruleAt p == r) && N.endAt p)) := fun l p r => by unfold hitR; rw [List.any_append]; simp
  have hrec : ∀ n, n ≤ l.length → ((tagL N (l.take n) = -1 ∧ ∀ r, hitR N (l.take n) r = false) ∨ (0 ≤ tagL N (l.take n) ∧ tagL N (l.take n) < 40 ∧ hitR N (l.take n) (tagL N (l.take n)) = true ∧ ∀ r, hitR N (l.take n) r = true → tagL N (l.take n) ≤ r)) := by
    intro n
    induction n with
    | zero => intro _; exact .inl ⟨rfl, fun r => rfl⟩
    | succ n ih =>
      intro hn
      have ih := ih (by omega)
      rw [List.take_succ_eq_append_getElem (by omega)]
      generalize l.take n = t at *
      generalize l[n] = p at *
      rw [tag_snoc]
      simp only [hsn]
      have hp := hR p
      unfold tagStep
      cases he : N.endAt p with
      | false => simpa using ih
      | true =>
        rcases ih with ⟨i1, i2⟩ | ⟨i1, i2, i3, i4⟩
        · rw [i1]
          refine .inr ?_
          simp only [i2, Bool.true_and, Bool.false_or, Bool.and_true]
          simp
          exact ⟨hp.1, hp.2⟩
        · refine .inr ?_
          by_cases hl : N.ruleAt p < tagL N t
          · simp only [hl, decide_true, Bool.or_true, Bool.and_true, if_true]
            refine ⟨hp.1, hp.2, by simp, fun r hr => ?_⟩
            rw [Bool.or_eq_true] at hr
            rcases hr with hr | hr
            · have := i4 r hr; omega
            · have : N.ruleAt p = r := by simpa using hr
              omega
          · have h0 : decide (tagL N t < 0) = false := by simp; omega
            simp only [h0, hl, decide_false, Bool.or_false, Bool.and_false, Bool.false_eq_true, if_false]
            refine ⟨i1, i2, by rw [i3]; rfl, fun r hr => ?_⟩
            rw [Bool.or_eq_true] at hr
            rcases hr with hr | hr
            · exact i4 r hr
            · have : N.ruleAt p = r := by simpa using hr
              omega
  have := hrec l.length (Nat.le_refl _)
  rwa [List.take_length] at this
theorem first_is (N : Nf) (l : List Int) : ∀ (k : Nat) (r t : Int), r ≤ t → t < r + k → hitR N l t = true → (∀ s, hitR N l s = true → t ≤ s) → firstR N l k r = t
  | 0, r, t, h1, h2, _, _ => by omega
  | k + 1, r, t, h1, h2, h3, h4 => by
    unfold firstR
    by_cases e : hitR N l r = true
    · rw [if_pos e]
      have := h4 r e; omega
    · rw [if_neg e]
      have hne : r ≠ t := by intro h; subst h; exact e h3
      exact first_is N l k (r + 1) t (by omega) (by omega) h3 h4
theorem first_none (N : Nf) (l : List Int) (h : ∀ r, hitR N l r = false) : ∀ (k : Nat) (r : Int), firstR N l k r = -1
  | 0, _ => rfl
  | k + 1, r => by unfold firstR; rw [h, if_neg (by simp)]; exact first_none N l h k (r + 1)
theorem tag_same (N : Nf) (hR : ∀ p, 0 ≤ N.ruleAt p ∧ N.ruleAt p < 40) (l : List Int) : firstR N l 40 0 = tagL N l := by
  rcases tag_least N hR l with ⟨h1, h2⟩ | ⟨h1, h2, h3, h4⟩
  · rw [h1]; exact first_none N l h2 40 0
  · exact first_is N l 40 0 _ h1 (by omega) h3 h4

end Go.Proofs.YtkcnknhhabbomaaDoor

namespace Go.Proofs.YtkcnknhhabbomaaDoor
open Go.RowKit

attribute [local irreducible] FreeW

theorem ownI_heap {W W' : World} {B : Nat} {t : TypeId} {z n : Nat} {v : Value} {xs : List Value} (h : W.ownsRow B t z v n xs) (hk : ∀ k, v.ownBlock = some k → W'.heap[k]? = W.heap[k]?) : W'.ownsRow B t z v n xs := by
  refine ⟨h.1, h.2.imp id ?_⟩
  rintro ⟨g, cap, cur, rfl, h1, h2, h3⟩
  exact ⟨g, cap, cur, rfl, h1, (hk g rfl).trans h2, h3⟩
def RowI (B : Nat) (W : World) (v : Value) (l : List Int) : Prop := W.ownsRow B 3 1 v l.length (l.map (Value.int .i64))
theorem RowI.nil (B : Nat) (W : World) : RowI B W (.slice none 0 0) [] := World.ownsRow_nil _ _ _ _
theorem RowI.step {B : Nat} {W W' : World} {v : Value} {l : List Int} (h : RowI B W v l) (hb : Below W.heap.size W W') : RowI B W' v l := ownI_heap h fun k hk => hb.block k (World.ownsRow.lt h k hk).2
theorem RowI.ints {B : Nat} {W : World} {v : Value} {l : List Int} (h : RowI B W v l) : IntsV W l v := by
  rcases h.2 with ⟨rfl, h1⟩ | ⟨g, cap, cur, rfl, h2, h3, h4, h5, h6, h7⟩
  · obtain rfl := List.eq_nil_of_length_eq_zero h1
    exact IntsV.nil W
  · refine ⟨_, cap, rfl, ⟨h4, by unfold maxLen at h5; omega⟩, fun _ => ⟨g, 0, rfl, (Array.getElem?_eq_some_iff.1 h3).1, fun i hi => ?_⟩⟩
    have := World.ownsRow.cells h (g := g) rfl i (.int .i64 l[i]) (by simp [hi])
    rwa [Addr.add_lit] at this
theorem info_int : (Tryd.prog.info? 3).map (fun i => (i.zero, i.size, i.bytes)) = some (some (.int .i64 0), 1, 8) := by kernel_rfl
theorem RowI.push {B : Nat} {W : World} {v : Value} {l : List Int} (h : RowI B W v l) (hB : B ≤ W.heap.size) (p : Int) (hl : l.length + 1 ≤ 1099511627776) :
    ∃ v' W', (Builtin.append_ #[23, 23] 23 #[v, .slice (some ⟨W.heap.size, 0, none⟩) 1 1]).run Tryd.prog (W.alloc (.cells #[.int .i64 p] 3)) = .ok v' W' ∧ RowI B W' v' (l ++ [p]) ∧ Below B W W' := by
  obtain ⟨i0, hi0, hz0, hz1, hz2⟩ := info_parts info_int
  have hUB : Below W.heap.size W (W.alloc (.cells #[.int .i64 p] 3)) := (Below.refl _ _).alloc (Nat.le_refl _) _
  have h1 := h.step hUB
  have hnew := BlkIs.new W 3 #[.int .i64 p]
  obtain ⟨v', W', hr, hown, hgr, _, _⟩ := run_append_own_at (P := Tryd.prog) (w := W.alloc (.cells #[.int .i64 p] 3)) B 23 23 3 i0 (.int .i64 0) 1 8 Tryd.underlying23 hi0 hz0 hz1 hz2 rfl (by decide) v l.length _ h1
    ⟨W.heap.size, 0, none⟩ 1 1 [.int .i64 p] rfl (fun j u hu => by
      rw [Addr.add_lit, Nat.zero_add]
      have := hnew.range j u (by simpa using hu)
      simpa using this) (by simp [Value.oneCell']) (by unfold maxLen; omega) (by omega) (by have := hUB.size; omega)
  refine ⟨v', W', hr, ?_, (hUB.mono hB).grown hgr (by have := hUB.size; omega) (fun q hq => (World.ownsRow.lt h1 q hq).1)⟩
  unfold RowI
  rw [List.map_append, List.length_append]
  exact hown
theorem oper_app8 {P : Program} {op : Oper} {a : Act} {w : World} {K : Act → World → Prop} {Q : Exit → Act → World → Prop} (s x : Operand) (t t2 : TypeId) (hop : op.op = Op.call { callee := Callee.builtin Builtin.append, args := #[s, x], argTypes := #[t, t2] }) {v xv v' : Value} {w' : World} (hs : a.eval s = v) (hx : a.eval x = xv)
    (hrun : (Builtin.append_ #[t, t2] op.type #[v, xv]).run P w = .ok v' w') (h : K (a.put op.dst v') w') : op.wp P a w K Q := by
  unfold Oper.wp execOp
  simp only [hop, resolve, invoke, builtin, Sem.run_bind, Sem.run_pure, Result.andThen_ok, List.map_toArray, List.map_cons, List.map_nil, hs, hx, hrun]
  exact h

section
variable {P : Program} {op : Oper} {ops : Array Oper} {rest : List Oper} {a : Act} {w : World} {Q : Exit → Act → World → Prop}
theorem wpList_app8 (hg : op.guard = none) (s x : Operand) (t t2 : TypeId) (hop : op.op = Op.call { callee := Callee.builtin Builtin.append, args := #[s, x], argTypes := #[t, t2] }) {v xv v' : Value} {w' : World} (hs : a.eval s = v) (hx : a.eval x = xv)
    (hrun : (Builtin.append_ #[t, t2] op.type #[v, xv]).run P w = .ok v' w') (h : wpList P ops Q rest (a.put op.dst v') w') : wpList P ops Q (op :: rest) a w :=
  wpList_plain hg fun _ hK => oper_app8 s x t t2 hop hs hx hrun (hK _ _ h)
end

def Nf.setAt (N : Nf) (p : Int) : Nat → Bool := N.sets.getD p.toNat fun _ => false
end Go.Proofs.YtkcnknhhabbomaaDoor

namespace Go.Proofs.YtkcnknhhabbomaaDoor
open Go.RowKit

attribute [local irreducible] FreeW

set_option maxRecDepth 20000 in
set_option maxHeartbeats 2000000 in
theorem ints_any (l r : List Int) (v v' : Value) (w : World) (hl : IntsV w l v) (hr : IntsV w r v') : Calls Tryd.prog 24 #[v, v'] w fun e w' => e = .returned (.bool (decide (l = r))) ∧ Below w.heap.size w w' := by
  obtain ⟨A, c, rfl, hc, hs⟩ := hl
  obtain ⟨A', c', rfl, hc', hs'⟩ := hr
  have HS := Lib.hid hs
  have HS' := Lib.hid hs'
  clear hs hs'
  by_cases hlen : l.length = r.length
  case neg =>
    have e0 : ((l.length : Int) != (r.length : Int)) = true := by simp; omega
    have HF := Lib.hid (show decide (l = r) = false by simp; intro e; exact hlen (by rw [e]))
    clear hlen
    go_enter Tryd.func24, Tryd.ntmps24
    go_wp2
    go_ret
    exact ⟨by rw [HF.out]; rfl, Below.refl _ _⟩
  have e0 : ((l.length : Int) != (r.length : Int)) = false := by simp; omega
  have HL := Lib.hid hlen
  obtain ⟨R, hR⟩ : ∃ R, R = decide (l = r) := ⟨_, rfl⟩
  rw [← hR]
  have HR := Lib.hid hR
  clear hlen hR
  go_enter Tryd.func24, Tryd.ntmps24
  go_wp2
  go_loopw [5] (fun i wr => ∃ j : Nat, i = .int .i64 j ∧ j ≤ l.length ∧ Hid (Below w.heap.size w wr ∧ l.take j = r.take j)) (fun i _ => l.length - (intOf i).toNat)
  case atStart => exact ⟨0, rfl, Nat.zero_le _, Lib.hid ⟨Below.refl _ _, rfl⟩⟩
  case round =>
    obtain ⟨j, rfl, hj, HH⟩ := hrel
    by_cases hp : j < l.length
    · have hk1 : IntKind.i64.wrap ((j : Int) + 1) = ((j + 1 : Nat) : Int) := by rw [IntKind.wrap_i64]; omega
      have hdl : decide ((j : Int) < (l.length : Int)) = true := by simp; omega
      have hp' : j < r.length := by rw [← HL.out]; exact hp
      have hi1 : (j : Int) < (l.length : Int) := by omega
      have hi2 : (j : Int) < (r.length : Int) := by omega
      obtain ⟨b, o, rfl, hlt, hg⟩ := HS.out (by intro e; rw [e] at hp; simp at hp)
      obtain ⟨b', o', rfl, hlt', hg'⟩ := HS'.out (by intro e; rw [e] at hp'; simp at hp')
      have HX := Lib.hid (fun (u : World) (hu : Below w.heap.size w u) => (hu.cell (p := ⟨b, o + j, none⟩) hlt).trans (hg j hp))
      have HY := Lib.hid (fun (u : World) (hu : Below w.heap.size w u) => (hu.cell (p := ⟨b', o' + j, none⟩) hlt').trans (hg' j hp'))
      have ht1 := List.take_succ_eq_append_getElem hp
      have ht2 := List.take_succ_eq_append_getElem hp'
      have hne : l[j] ≠ r[j] → l ≠ r := fun h e => h (by subst e; rfl)
      clear hg hg'
      generalize l[j] = x at *
      generalize r[j] = y at *
      have HT := Lib.hid (And.intro ht1 (And.intro ht2 hne))
      clear ht1 ht2 hne hp'
      by_cases hxy : x = y
      · have e1 : (x != y) = false := by simp [hxy]
        have HN := Lib.hid (show l.take (j + 1) = r.take (j + 1) by rw [HT.out.1, HT.out.2.1, HH.out.2, hxy])
        clear hxy
        go_wp2_with fail
        refine wp_region_reads 26 (fun u => Hid (Below w.heap.size w u)) (by kernel_rfl) (by kernel_rfl) rfl (Lib.hid HH.out.1.drew) (fun u u' h hb => Lib.hid (h.out.trans (hb.mono h.out.size))) ?_
        repeat
          refine freeW_step fun K hK => ?_
          (first
            | skip)
          go_simp
          apply Exists.intro
          refine ⟨fun u h1 => ?_, hK _ ?_⟩
          · have y0 := HX.out u h1.out
            have y1 := HY.out u h1.out
            unfold freeAt
            go_simp
            first
              | exact free_val
              | (apply free_call
                 first
                   | fail
                 )
          clear hK K
        refine freeW_nil ?_
        intro u hC hb2
        have HC := Lib.hid hC.out
        clear hC hb2
        go_wp2
        exact ⟨⟨j + 1, rfl, hp, Lib.hid ⟨HC.out, HN.out⟩⟩, by simp [intOf]; omega⟩
      · have e1 : (x != y) = true := by simp [hxy]
        have HN := Lib.hid (show R = false by rw [HR.out]; simp; exact HT.out.2.2 hxy)
        clear hxy
        go_wp2_with fail
        refine wp_region_reads 26 (fun u => Hid (Below w.heap.size w u)) (by kernel_rfl) (by kernel_rfl) rfl (Lib.hid HH.out.1.drew) (fun u u' h hb => Lib.hid (h.out.trans (hb.mono h.out.size))) ?_
        repeat
          refine freeW_step fun K hK => ?_
          (first
            | skip)
          go_simp
          apply Exists.intro
          refine ⟨fun u h1 => ?_, hK _ ?_⟩
          · have y0 := HX.out u h1.out
            have y1 := HY.out u h1.out
            unfold freeAt
            go_simp
            first
              | exact free_val
              | (apply free_call
                 first
                   | fail
                 )
          clear hK K
        refine freeW_nil ?_
        intro u hC hb2
        have HC := Lib.hid hC.out
        clear hC hb2
        go_wp2
        go_ret
        exact ⟨by rw [HN.out]; rfl, HC.out⟩
    · have hdl : decide ((j : Int) < (l.length : Int)) = false := by simp; omega
      have HN := Lib.hid (show R = true by
        have := HH.out.2
        rw [List.take_of_length_le (by omega), List.take_of_length_le (by rw [← HL.out]; omega)] at this
        rw [HR.out, this]; simp)
      go_wp2
      go_ret
      exact ⟨by rw [HN.out]; rfl, HH.out.1⟩

def listB (bs : List Bool) : List Int := ((List.range bs.length).filter fun i => bs.getD i false).map fun (i : Nat) => (i : Int)
def listTo (bs : List Bool) (j : Nat) : List Int := ((List.range j).filter fun i => bs.getD i false).map fun (i : Nat) => (i : Int)
theorem listTo_succ (bs : List Bool) (j : Nat) : listTo bs (j + 1) = if bs.getD j false then listTo bs j ++ [(j : Int)] else listTo bs j := by
  unfold listTo
  rw [List.range_succ, List.filter_append, List.map_append]
  by_cases e : bs.getD j false = true
  · rw [if_pos e]; simp only [List.filter_cons, List.filter_nil, e, if_true, List.map_cons, List.map_nil]
  · rw [if_neg e]; simp only [List.filter_cons, List.filter_nil, e]; simp
theorem listTo_len (bs : List Bool) (j : Nat) : (listTo bs j).length ≤ j := by
  unfold listTo
  rw [List.length_map]
  refine Nat.le_trans (List.length_filter_le _ _) ?_
  rw [List.length_range]; exact Nat.le_refl _

set_option maxRecDepth 20000 in
set_option maxHeartbeats 2000000 in
theorem list_any (bs : List Bool) (v : Value) (w : World) (h : BoolsV w bs v) (hn : bs.length ≤ 1073741824) :
    Calls Tryd.prog 56 #[v] w fun e w' => ∃ v', e = .returned v' ∧ RowI w.heap.size w' v' (listB bs) ∧ Below w.heap.size w w' := by
  obtain ⟨A, c, rfl, hc, hs⟩ := h
  have HS := Lib.hid hs
  clear hs
  go_enter Tryd.func56, Tryd.ntmps56
  go_wp2
  go_loopw [3, 4] (fun s i wr => ∃ (j : Nat), i = .int .i64 j ∧ j ≤ bs.length ∧ Hid (RowI w.heap.size wr s (listTo bs j) ∧ Below w.heap.size w wr)) (fun _ i _ => bs.length - (intOf i).toNat)
  case atStart => exact ⟨0, rfl, Nat.zero_le _, Lib.hid ⟨RowI.nil _ _, Below.refl _ _⟩⟩
  case round =>
    obtain ⟨j, rfl, hj, HH⟩ := hrel
    by_cases hp : j < bs.length
    · have hk1 : IntKind.i64.wrap ((j : Int) + 1) = ((j + 1 : Nat) : Int) := by rw [IntKind.wrap_i64]; omega
      have hdl : decide ((j : Int) < (bs.length : Int)) = true := by simp; omega
      obtain ⟨b, o, rfl, hlt, hg⟩ := HS.out (by intro e; rw [e] at hp; simp at hp)
      have hcell := (HH.out.2.cell (p := ⟨b, o + j, none⟩) hlt).trans (hg j hp)
      have hl := listTo_succ bs j
      have hln := listTo_len bs j
      have eg : bs.getD j false = bs[j] := by simp [hp]
      rw [eg] at hl
      clear hg hlt eg
      generalize bs[j] = x at *
      have HL := Lib.hid hl
      clear hl
      cases x with
      | true =>
        obtain ⟨v', W', hrun, hri, hbw⟩ := HH.out.1.push HH.out.2.size (j : Int) (by omega)
        have HU := Lib.hid (And.intro hri (HH.out.2.trans hbw))
        clear hri hbw hln
        go_wp2_with (refine wpList_app8 rfl _ _ 23 23 rfl rfl rfl hrun ?_)
        exact ⟨⟨j + 1, rfl, hp, Lib.hid ⟨by rw [HL.out]; exact HU.out.1, HU.out.2⟩⟩, by simp [intOf]; omega⟩
      | false =>
        go_wp2
        exact ⟨⟨j + 1, rfl, hp, Lib.hid ⟨by rw [HL.out]; exact HH.out.1, HH.out.2⟩⟩, by simp [intOf]; omega⟩
    · have hdl : decide ((j : Int) < (bs.length : Int)) = false := by simp; omega
      obtain rfl : j = bs.length := by omega
      go_wp2
      go_ret
      exact ⟨_, rfl, HH.out.1, HH.out.2⟩
end Go.Proofs.YtkcnknhhabbomaaDoor

namespace Go.Proofs.YtkcnknhhabbomaaDoor
open Go.RowKit

theorem okNode_kind {k : Int} {m : Nat → Bool} {n : Nat} {lo hi : Int} (h : okNode k m n lo hi = true) :
    (k = 0 ∧ n = 0) ∨ (k = 1 ∧ n = 0) ∨ (k = 2 ∧ 2 ≤ n) ∨ (k = 3 ∧ 2 ≤ n) ∨ (k = 4 ∧ n = 1 ∧ 0 ≤ lo ∧ lo ≤ 64 ∧ (hi = -1 ∨ lo ≤ hi ∧ hi ≤ 64)) := by
  unfold okNode at h
  split at h
  · cases h
  · split at h
    · rename_i h2; have := of_decide_eq_true h; omega
    · split at h
      · rename_i h2; have := of_decide_eq_true h; omega
      · split at h
        · have := of_decide_eq_true h; omega
        · cases h
theorem ok_open {k : Int} {m : Nat → Bool} {l : List Tree} {lo hi : Int} (h : Tree.ok (.node k m l lo hi) = true) : (∀ t ∈ l, t.ok = true) ∧ okNode k m l.length lo hi = true := by
  unfold Tree.ok at h
  rw [Bool.and_eq_true, allOk_iff] at h
  exact h

mutual
def Tree.void : Tree → Bool
  | .node k m l lo _ => if k = 0 then false else if k = 1 then setEq m (fun _ => false) else if k = 2 then anyVoid l else if k = 3 then allVoid l else (decide (0 < lo) && headVoid l)
def anyVoid : List Tree → Bool
  | [] => false
  | t :: r => t.void || anyVoid r
def allVoid : List Tree → Bool
  | [] => true
  | t :: r => t.void && allVoid r
def headVoid : List Tree → Bool
  | [] => false
  | t :: _ => t.void
end
end Go.Proofs.YtkcnknhhabbomaaDoor

namespace Go.Proofs.YtkcnknhhabbomaaDoor
open Go.RowKit

def bl (n : Nat) (f : Nat → Bool) : Array Value := ((List.range n).map fun i => Value.bool (f i)).toArray
theorem bl_size (n : Nat) (f : Nat → Bool) : (bl n f).size = n := by simp [bl]
theorem bl_get {n : Nat} (f : Nat → Bool) {i : Nat} (h : i < n) : (bl n f)[i]? = some (.bool (f i)) := by
  unfold bl
  rw [List.getElem?_toArray, List.getElem?_map, List.getElem?_range h]; rfl
theorem bl_congr {n : Nat} {f g : Nat → Bool} (h : ∀ i, i < n → f i = g i) : bl n f = bl n g := by
  unfold bl
  rw [List.map_congr_left (fun i hi => by rw [h i (List.mem_range.1 hi)])]
theorem bl_set (n : Nat) (f : Nat → Bool) (i : Nat) (v : Bool) : (bl n f).setIfInBounds i (.bool v) = bl n (updS f i v) := by
  apply Array.ext_getElem?
  intro j
  by_cases hj : j < n
  · rw [Array.getElem?_setIfInBounds, bl_get _ hj, bl_get _ hj, bl_size]
    unfold updS
    by_cases e : i = j
    · subst e; simp [hj]
    · have e' : ¬ j = i := fun h => e h.symm
      simp [e, e']
  · rw [Array.getElem?_eq_none (by rw [Array.size_setIfInBounds, bl_size]; omega), Array.getElem?_eq_none (by rw [bl_size]; omega)]
theorem bl_made (n : Nat) : madeCells #[Value.bool false] n = bl n (fun _ => false) := by
  unfold madeCells bl
  apply Array.ext'
  simp [Nat.mod_one]
theorem info_bool : (Tryd.prog.info? 4).map (fun i => (i.zero, i.size, i.bytes)) = some (some (.bool false), 1, 1) := by kernel_rfl
theorem make_bools (n : Nat) (h : n ≤ 1099511627776) (w : World) : (Instr.makeSlice 25 (.int .i64 (n : Nat)) (.int .i64 (n : Nat))).run Tryd.prog w = .ok (.slice (some ⟨w.heap.size, 0, none⟩) n n) (w.alloc (.cells (bl n (fun _ => false)) 4)) := by
  have := run_make_row' (P := Tryd.prog) 25 4 (.bool false) 1 Tryd.underlying25 info_bool rfl .i64 .i64 n (by omega) (by omega) w
  rw [bl_made] at this
  exact this

theorem bl_range {w : World} {g n : Nat} {t : TypeId} {f : Nat → Bool} (h : BlkIs w g t (bl n f)) {i : Nat} (hi : i < n) : w.cell? ⟨g, i, none⟩ = some (.bool (f i)) := by
  rw [h.cell i, bl_get f hi]
theorem idx_byte {P : Program} (t : TypeId) (ht : P.underlying t = some .string) (s : ByteArray) (i : Nat) (hi : i < s.size) (w : World) :
    (Instr.index t (.string s) (.int .i64 (i : Nat))).run P w = .ok (.int .u8 ((s[i]'hi).toNat : Nat)) w := by
  rw [run_index_string w t s .i64 _ ht, dif_pos ⟨by omega, by omega⟩]
  have e : ((i : Int)).toNat = i := by omega
  simp only [e]

def stepB (m : Nat → Bool) (s : List UInt8) (f : Nat → Bool) : Nat → Bool
  | 0 => false
  | i + 1 => f i && (match s[i]? with | some c => m c.toNat | none => false)
def orB (f g : Nat → Bool) : Nat → Bool := fun i => f i || g i
def mostOf (s : List UInt8) (lo hi : Int) : Nat := if hi < 0 then lo.toNat + s.length + 1 else hi.toNat
def iterE (E : (Nat → Bool) → Nat → Bool) : Nat → (Nat → Bool) → Nat → Bool
  | 0, f => f
  | n + 1, f => E (iterE E n f)
def repTo (E : (Nat → Bool) → Nat → Bool) (lo most : Nat) (f : Nat → Bool) : Nat → Bool := fun i => (List.range most).any fun n => decide (lo ≤ n) && iterE E n f i

mutual
def Tree.ends (s : List UInt8) : Tree → (Nat → Bool) → Nat → Bool
  | .node k m l lo hi => fun f => if k = 0 then f else if k = 1 then stepB m s f else if k = 2 then endsCat s l f else if k = 3 then endsAlt s l f else repTo (headEnds s l) lo.toNat (mostOf s lo hi + 1) f
def endsCat (s : List UInt8) : List Tree → (Nat → Bool) → Nat → Bool
  | [] => fun f => f
  | t :: r => fun f => endsCat s r (t.ends s f)
def endsAlt (s : List UInt8) : List Tree → (Nat → Bool) → Nat → Bool
  | [] => fun _ _ => false
  | t :: r => fun f => orB (t.ends s f) (endsAlt s r f)
def headEnds (s : List UInt8) : List Tree → (Nat → Bool) → Nat → Bool
  | [] => fun f => f
  | t :: _ => t.ends s
end

end Go.Proofs.YtkcnknhhabbomaaDoor

namespace Go.Proofs.YtkcnknhhabbomaaDoor
open Go.RowKit

def Nf.followAt (N : Nf) (p : Int) : List Int := N.follow.getD p.toNat []
def hasI (l : List Int) (q : Nat) : Bool := l.any fun x => x == (q : Int)
def markF (N : Nf) (at' : List Int) (q : Nat) : Bool := at'.any fun p => hasI (N.followAt p) q
def keepTo (k : Nat) (f : Nat → Bool) (N : Nf) (c : Nat) : List Int := ((List.range k).filter fun q => f q && N.setAt q c).map fun (i : Nat) => (i : Int)
theorem hasI_succ (l : List Int) (j : Nat) (h : j < l.length) (q : Nat) : hasI (l.take (j + 1)) q = (hasI (l.take j) q || (l[j] == (q : Int))) := by
  unfold hasI
  rw [List.take_succ_eq_append_getElem h, List.any_append]; simp
theorem mark_succ (N : Nf) (l : List Int) (j : Nat) (h : j < l.length) (q : Nat) : markF N (l.take (j + 1)) q = (markF N (l.take j) q || hasI (N.followAt l[j]) q) := by
  unfold markF
  rw [List.take_succ_eq_append_getElem h, List.any_append]; simp
theorem upd_mark {k : Nat} {f : Nat → Bool} {l : List Int} {j : Nat} (h : j < l.length) {x : Nat} (hx : l[j] = (x : Int)) :
    bl k (updS (fun q => f q || hasI (l.take j) q) x true) = bl k (fun q => f q || hasI (l.take (j + 1)) q) := by
  apply bl_congr
  intro i _
  unfold updS
  rw [hasI_succ l j h i, hx]
  by_cases e : i = x
  · subst e; simp
  · have : ((x : Int) == (i : Int)) = false := by simp; omega
    rw [if_neg e, this]; simp

end Go.Proofs.YtkcnknhhabbomaaDoor

