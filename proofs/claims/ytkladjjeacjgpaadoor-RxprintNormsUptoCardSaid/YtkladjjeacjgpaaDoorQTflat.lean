/-
  WHAT flat TELLS: the trees of a row, in the place of one of a kind its Subs. No condition.
-/
import Derived.Shelf.Abstract
import Derived.Shelf.RegionOpen
import Derived.WalkKit
import Derived.OwnWalkIn
import Derived.TacticsInMore
import Derived.LoopNIn
import Derived.LoopIn
import Derived.RangeFuncBox
import Derived.Test.YtkladjjeacjgpaaDoorQG06
import Derived.Test.YtkladjjeacjgpaaDoorQSame
namespace Go.Proofs.YtkladjjeacjgpaaDoor
open Go.RowKit

def seg (kind : Int) (t : Tree) : List Tree := if t.kind = kind then t.sub else [t]
def flatT (kind : Int) (l : List Tree) : List Tree := l.flatMap (seg kind)
theorem flatT_step {kind : Int} {l : List Tree} {i : Nat} (h : i < l.length) : flatT kind (l.take (i + 1)) = flatT kind (l.take i) ++ seg kind l[i] := by
  have := congrArg (List.flatMap (seg kind)) (List.take_succ_eq_append_getElem h)
  rw [List.flatMap_append, List.flatMap_cons, List.flatMap_nil, List.append_nil] at this
  exact this
theorem flatT_get {kind : Int} {l : List Tree} {i j : Nat} (h : i < l.length) (hj : j < (seg kind l[i]).length) :
    ∃ h' : (flatT kind (l.take i)).length + j < (flatT kind l).length, (flatT kind l)[(flatT kind (l.take i)).length + j] = (seg kind l[i])[j] := by
  have e : flatT kind l = flatT kind (l.take i) ++ (seg kind l[i] ++ flatT kind (l.drop (i + 1))) := by
    have : l = l.take i ++ (l[i] :: l.drop (i + 1)) := by rw [List.getElem_cons_drop, List.take_append_drop]
    have := congrArg (List.flatMap (seg kind)) this
    rw [List.flatMap_append, List.flatMap_cons] at this
    exact this
  have hlt : (flatT kind (l.take i)).length + j < (flatT kind l).length := by
    rw [e]; simp only [List.length_append]; omega
  refine ⟨hlt, ?_⟩
  simp only [e]
  rw [List.getElem_append_right (by omega)]
  rw [List.getElem_append_left (by omega)]
  congr 1
  omega

attribute [local go_sem] Oper.semAt_some

set_option maxRecDepth 100000 in
set_option maxHeartbeats 4000000 in
theorem flat_tells (V : World) (bl bk : Nat) (l : List Tree) (A : Option Addr) (c : Nat) (kind : Int) (hbl : V.cell? ⟨bl, 0, none⟩ = some (.slice A l.length c)) (hbk : V.cell? ⟨bk, 0, none⟩ = some (.int .i64 kind))
    (hc : l.length ≤ c ∧ c ≤ 9223372036854775807) (hl : l ≠ [] → ∃ b o, A = some ⟨b, o, none⟩ ∧ AllAt V l b o) :
    Tells 73 #[.pointer (some ⟨bl, 0, none⟩), .pointer (some ⟨bk, 0, none⟩)] (flatT kind l) V := by
  intro lr J X O W hJ hX hs hcl h0 hY
  have HJ := Lib.hid hJ
  have HX := Lib.hid hX
  have HY := Lib.hid hY
  have HS := Lib.hid (And.intro hs hcl)
  have HV := Lib.hid (And.intro hbl hbk)
  have HL := Lib.hid hl
  have H0 := Lib.hid h0
  have c1 := hs _ _ hbl
  have c2 := hs _ _ hbk
  clear hJ hX hY hs hcl hbl hbk hl h0
  refine callsIn_of_wp Tryd.func73 rfl trivial ?_ rfl
  simp only [Tryd.ntmps73, List.size_toArray, List.length_cons, List.length_nil, Nat.reduceAdd, Nat.reduceSub, Array.replicate_succ, Array.replicate_zero, List.push_toArray, List.append_toArray, List.nil_append, List.cons_append]
  gi_wp2
  clear c1 c2
  gi_loopw [11] (fun s wr => ∃ i : Nat, i ≤ l.length ∧ s = .int .i64 i ∧ Hid (NextIs O W (J (flatT kind (l.take i)).length) wr)) (fun s _ => l.length - (intOf s).toNat)
  case atStart =>
    exact ⟨0, Nat.zero_le _, rfl, Lib.hid (NextIs.refl H0.out)⟩
  case round =>
    obtain ⟨i, hi, rfl, HH⟩ := hrel
    by_cases hlt : i < l.length
    · have hdi : decide ((i : Int) < (l.length : Int)) = true := by simp; omega
      obtain ⟨b, o, rfl, hall⟩ := HL.out (by intro e; subst e; simp at hlt)
      obtain ⟨O1, hj1, hi1, hf1⟩ := HH.out
      have hs1 : Sub V wr := HS.out.1.far HS.out.2 hf1
      have hcl1 : Clear V O1 := HS.out.2.next HS.out.1 hi1
      have c1 := hs1 _ _ HV.out.1
      have c2 := hs1 _ _ HV.out.2
      obtain ⟨cs, hat, hcs, hrow⟩ := hall.get l b o i hlt
      obtain ⟨A', c', rfl, hc', hsub⟩ := at_sub hat
      have hr1 : wr.rangeAt b (o + i * 8) _ := fun j v hv => hs1 _ _ (hrow j v hv)
      obtain ⟨k0, k1, k2, k3, k4, k5, k6, k7⟩ := row_eight hr1 (Below.refl _ _)
      have hfr1 := Lib.hid (And.intro hj1 (And.intro hi1 (And.intro hf1 (And.intro hs1 hcl1))))
      have HAT := Lib.hid (And.intro hat (And.intro hsub hrow))
      have hblt : bl < wr.heap.size := World.block_lt_of_cell? wr _ c1
      have hbkt : bk < wr.heap.size := World.block_lt_of_cell? wr _ c2
      have hbne : ¬ bl = wr.heap.size := by omega
      have hkne : ¬ bk = wr.heap.size := by omega
      have hw : IntKind.i64.wrap ((i : Int) + 1) = ((i + 1 : Nat) : Int) := by rw [IntKind.wrap_i64]; omega
      clear hj1 hi1 hf1 hs1 hcl1 hat hsub hrow hr1 hall
      obtain ⟨wo, rfl⟩ : ∃ wo : World, wo = wr := ⟨_, rfl⟩
      by_cases hkind : l[i].kind = kind
      · have hkk : (l[i].kind == kind) = true := by simpa using hkind
        gi_wp2
        have hseg : seg kind l[i] = l[i].sub := by unfold seg; rw [if_pos hkind]
        have HSG := Lib.hid hseg
        clear hseg
        gi_loopw [29] (fun s wq => ∃ j : Nat, j ≤ l[i].sub.length ∧ s = .int .i64 j ∧ Hid (NextIs O W (J ((flatT kind (l.take i)).length + j)) wq)) (fun s _ => l[i].sub.length - (intOf s).toNat)
        case atStart =>
          obtain ⟨hj1, hi1, hf1, hs1, hcl1⟩ := hfr1
          exact ⟨0, Nat.zero_le _, rfl, Lib.hid ⟨O1, (HJ.out _).keep _ _ _ hj1 (near_alloc _ ((HJ.out _).lt _ _ hj1)), hi1, hf1.alloc _⟩⟩
        case round =>
          obtain ⟨j, hj, rfl, HQ⟩ := hrel
          by_cases hjl : j < l[i].sub.length
          · have hdj : decide ((j : Int) < (l[i].sub.length : Int)) = true := by simp; omega
            obtain ⟨O2, hj2, hi2, hf2⟩ := HQ.out
            have hs2 : Sub V wr := HS.out.1.far HS.out.2 hf2
            have hcl2 : Clear V O2 := HS.out.2.next HS.out.1 hi2
            obtain ⟨b2, o2, rfl, hall2⟩ := HAT.out.2.1 (by intro e; rw [e] at hjl; simp at hjl)
            obtain ⟨cs, hat2, hcs2, hrow2⟩ := hall2.get _ b2 o2 j hjl
            obtain ⟨A2, c2, rfl, hc2, _⟩ := at_sub hat2
            have hr2 : wr.rangeAt b2 (o2 + j * 8) _ := fun x v hv => hs2 _ _ (hrow2 x v hv)
            obtain ⟨k0, k1, k2, k3, k4, k5, k6, k7⟩ := row_eight hr2 (Below.refl _ _)
            obtain ⟨hlt2, heq2⟩ := flatT_get (kind := kind) hlt (j := j) (by rw [HSG.out]; exact hjl)
            have hkeep := near_alloc (O := O2) (W := wr) (.cells (reL (l[i].sub[j]).kind (l[i].sub[j]).set A2 (l[i].sub[j]).sub.length c2 (l[i].sub[j]).lo (l[i].sub[j]).hi).toArray 27) ((HJ.out _).lt _ _ hj2)
            obtain ⟨fn, tmps, assign, body, hy, hR⟩ := HY.out _ hlt2 O2 (wr.alloc (.cells (reL (l[i].sub[j]).kind (l[i].sub[j]).set A2 (l[i].sub[j]).sub.length c2 (l[i].sub[j]).lo (l[i].sub[j]).hi).toArray 27)) (reL (l[i].sub[j]).kind (l[i].sub[j]).set A2 (l[i].sub[j]).sub.length c2 (l[i].sub[j]).lo (l[i].sub[j]).hi)
              ((HJ.out _).keep _ _ _ hj2 hkeep) (hs2.trans (sub_below ((Below.refl _ _).alloc (Nat.le_refl _) _))) hcl2 (by rw [heq2]; have := HSG.out; simp only [this]; exact hat2) rfl
            have HR := Lib.hid (hR.mono fun e W3 h => (show (e = .returned (.bool true) ∧ NextIs O W (J ((flatT kind (l.take i)).length + (j + 1))) W3) ∨ (e = .returned (.bool false) ∧ NextIs O W X W3) from
              h.imp (fun h => ⟨h.1, NextIs.trans (O := O) (A := W) (B := wr.alloc (.cells (reL (l[i].sub[j]).kind (l[i].sub[j]).set A2 (l[i].sub[j]).sub.length c2 (l[i].sub[j]).lo (l[i].sub[j]).hi).toArray 27)) (J := fun O' _ => O' = O2) ⟨O2, rfl, hi2, hf2.alloc _⟩ (fun O' e => e ▸ h.2)⟩)
                (fun h => ⟨h.1, NextIs.trans (O := O) (A := W) (B := wr.alloc (.cells (reL (l[i].sub[j]).kind (l[i].sub[j]).set A2 (l[i].sub[j]).sub.length c2 (l[i].sub[j]).lo (l[i].sub[j]).hi).toArray 27)) (J := fun O' _ => O' = O2) ⟨O2, rfl, hi2, hf2.alloc _⟩ (fun O' e => e ▸ h.2)⟩)))
            clear hR hkeep hlt2 heq2 hr2 hrow2 hat2 hcl2 hs2 hj2 hi2 hf2
            unfold reL at hy HR
            gi_wp2
            refine HR.out.mono ?_
            rintro e W3 (⟨rfl, hn⟩ | ⟨rfl, hx⟩)
            · have HN := Lib.hid hn
              clear hn hy HR
              gi_wp2
              exact ⟨⟨j + 1, by omega, by go_num, HN⟩, by simp [intOf]; try omega⟩
            · have HN := Lib.hid hx
              clear hx hy HR
              gi_wp2
              refine bodyPost_ret (results_none rfl _ _ _) rfl ?_
              exact ⟨⟨_, rfl⟩, .inr HN.out⟩
          · have hdj : decide ((j : Int) < (l[i].sub.length : Int)) = false := by simp; omega
            obtain rfl : j = l[i].sub.length := by omega
            gi_wp2
            refine ⟨⟨i + 1, by omega, by go_num, ?_⟩, by simp [intOf]; omega⟩
            have := HQ.out
            rw [← HSG.out, ← List.length_append, ← flatT_step hlt] at this
            exact Lib.hid this
      · have hkk : (l[i].kind == kind) = false := by simpa using hkind
        gi_wp2
        have hseg : seg kind l[i] = [l[i]] := by unfold seg; rw [if_neg hkind]
        have HSG := Lib.hid hseg
        clear hseg
        gi_loopw [29] (fun s wq => ∃ j : Nat, j ≤ [l[i]].length ∧ s = .int .i64 j ∧ Hid (NextIs O W (J ((flatT kind (l.take i)).length + j)) wq)) (fun s _ => [l[i]].length - (intOf s).toNat)
        case atStart =>
          obtain ⟨hj1, hi1, hf1, hs1, hcl1⟩ := hfr1
          exact ⟨0, Nat.zero_le _, rfl, Lib.hid ⟨O1, (HJ.out _).keep _ _ _ hj1 (near_alloc _ ((HJ.out _).lt _ _ hj1)), hi1, hf1.alloc _⟩⟩
        case round =>
          obtain ⟨j, hj, rfl, HQ⟩ := hrel
          by_cases hjl : j < [l[i]].length
          · have hdj : decide ((j : Int) < 1) = true := by simp at hjl ⊢; omega
            obtain ⟨O2, hj2, hi2, hf2⟩ := HQ.out
            have hs2 : Sub V wr := HS.out.1.far HS.out.2 hf2
            have hcl2 : Clear V O2 := HS.out.2.next HS.out.1 hi2
            have hj0 : j = 0 := by simpa using hjl
            subst hj0
            have hat2 := HAT.out.1
            have hrow2 := HAT.out.2.2
            have hr2 : wr.rangeAt b (o + i * 8) _ := fun x v hv => hs2 _ _ (hrow2 x v hv)
            obtain ⟨k0, k1, k2, k3, k4, k5, k6, k7⟩ := row_eight hr2 (Below.refl _ _)
            obtain ⟨hlt2, heq2⟩ := flatT_get (kind := kind) hlt (j := 0) (by rw [HSG.out]; exact hjl)
            have hkeep := near_alloc (O := O2) (W := wr) (.cells (reL (l[i]).kind (l[i]).set A' (l[i]).sub.length c' (l[i]).lo (l[i]).hi).toArray 27) ((HJ.out _).lt _ _ hj2)
            obtain ⟨fn, tmps, assign, body, hy, hR⟩ := HY.out _ hlt2 O2 (wr.alloc (.cells (reL (l[i]).kind (l[i]).set A' (l[i]).sub.length c' (l[i]).lo (l[i]).hi).toArray 27)) (reL (l[i]).kind (l[i]).set A' (l[i]).sub.length c' (l[i]).lo (l[i]).hi)
              ((HJ.out _).keep _ _ _ hj2 hkeep) (hs2.trans (sub_below ((Below.refl _ _).alloc (Nat.le_refl _) _))) hcl2 (by rw [heq2]; have := HSG.out; simp only [this]; exact hat2) rfl
            have HR := Lib.hid (hR.mono fun e W3 h => (show (e = .returned (.bool true) ∧ NextIs O W (J ((flatT kind (l.take i)).length + (0 + 1))) W3) ∨ (e = .returned (.bool false) ∧ NextIs O W X W3) from
              h.imp (fun h => ⟨h.1, NextIs.trans (O := O) (A := W) (B := wr.alloc (.cells (reL (l[i]).kind (l[i]).set A' (l[i]).sub.length c' (l[i]).lo (l[i]).hi).toArray 27)) (J := fun O' _ => O' = O2) ⟨O2, rfl, hi2, hf2.alloc _⟩ (fun O' e => e ▸ h.2)⟩)
                (fun h => ⟨h.1, NextIs.trans (O := O) (A := W) (B := wr.alloc (.cells (reL (l[i]).kind (l[i]).set A' (l[i]).sub.length c' (l[i]).lo (l[i]).hi).toArray 27)) (J := fun O' _ => O' = O2) ⟨O2, rfl, hi2, hf2.alloc _⟩ (fun O' e => e ▸ h.2)⟩)))
            clear hR hkeep hlt2 heq2 hr2 hrow2 hat2 hcl2 hs2 hj2 hi2 hf2
            unfold reL at hy HR
            gi_wp2
            refine HR.out.mono ?_
            rintro e W3 (⟨rfl, hn⟩ | ⟨rfl, hx⟩)
            · have HN := Lib.hid hn
              clear hn hy HR
              gi_wp2
              exact ⟨⟨0 + 1, by omega, by go_num, HN⟩, by simp [intOf]; try omega⟩
            · have HN := Lib.hid hx
              clear hx hy HR
              gi_wp2
              refine bodyPost_ret (results_none rfl _ _ _) rfl ?_
              exact ⟨⟨_, rfl⟩, .inr HN.out⟩
          · have hdj : decide ((j : Int) < 1) = false := by simp at hjl ⊢; omega
            obtain rfl : j = [l[i]].length := by omega
            gi_wp2
            refine ⟨⟨i + 1, by omega, by go_num, ?_⟩, by simp [intOf]; omega⟩
            have := HQ.out
            rw [← HSG.out, ← List.length_append, ← flatT_step hlt] at this
            exact Lib.hid this
    · have hdi : decide ((i : Int) < (l.length : Int)) = false := by simp; omega
      obtain rfl : i = l.length := by omega
      gi_wp2
      go_end0
      refine ⟨⟨_, rfl⟩, .inl ?_⟩
      have := HH.out
      rwa [List.take_length] at this

end Go.Proofs.YtkladjjeacjgpaaDoor

