/-
  WHAT slices.Chunk's ITERATOR TELLS OF 1 TO 64 SETS: all at once: its contract. No condition but those that it names.
-/
import Derived.Test.YtebhnfdgjbhhfaaDoorSplit
namespace Go.Proofs.YtebhnfdgjbhhfaaDoor
open Go.RowKit

/-- the blocks of cells, but block g, lie as they lay -/
def KeepsBut (g : Nat) (W W' : World) : Prop := ∀ (k : Nat) (t : TypeId) (cs : Array Value), k ≠ g → BlkIs W k t cs → BlkIs W' k t cs
theorem KeepsBut.trans {g : Nat} {A B C : World} (h : KeepsBut g A B) (k : KeepsBut g B C) : KeepsBut g A C := fun i t cs hi hb => k i t cs hi (h i t cs hi hb)
theorem keepsBut_obj (g : Nat) (W : World) (l : Nat) (o o' : Obj) (hl : W.heap[l]? = some o) (ho : o.isCells = false) : KeepsBut g W (W.putObj l o') := fun k t cs _ hb => by
  have hne : k ≠ l := fun e => by
    subst e
    unfold BlkIs at hb
    rw [hb] at hl
    cases hl
    cases ho
  exact (World.putObj_heap_other hne).trans hb

theorem grown_drew (W : World) (row : Option Nat) : W.grownBy W.drew row := ⟨rfl, rfl, rfl, Nat.le_refl _, fun _ _ _ => rfl⟩

attribute [local go_sem] Oper.semAt_some

set_option maxRecDepth 100000 in
set_option maxHeartbeats 1000000 in
theorem chunk1_in (n : Nat) (hn : 1 ≤ n) (l G B1 B2 b off len cap : Nat) (hG1 : B1 ≠ G) (hG2 : B2 ≠ G) (h0 : 0 < len) (h64 : len ≤ 64) (hcap : len ≤ cap) (J Jx : List Unit → World → Prop) (hJd : ∀ s W, J s W → J s W.drew)
    (hY : ∀ pre (x : Unit) W, J pre W → pre.length < 1 → YieldAt Fence.wide (n - 1) Tryd.prog l #[.slice (some ⟨b, off, none⟩) len len] W fun e W' =>
      (e = .returned (.bool true) ∧ J (pre ++ [x]) W' ∧ KeepsBut G W W') ∨ (e = .returned (.bool false) ∧ Jx (pre ++ [x]) W'))
    (W : World) (hb1 : BlkIs W B1 22 #[.slice (some ⟨b, off, none⟩) len cap]) (hb2 : BlkIs W B2 3 #[.int .i64 64]) (hJ : J [] W) :
    CallsIn Fence.wide n Tryd.prog 26 #[.func (.yield l) #[] #[], .pointer (some ⟨B1, 0, none⟩), .pointer (some ⟨B2, 0, none⟩)] W fun e W' => (∃ v, e = .returned v) ∧
      ((∃ xs : List Unit, xs.length = 1 ∧ J xs W') ∨ (∃ pre : List Unit, pre.length = 1 ∧ Jx pre W')) := by
  have HY := Lib.hid hY
  have HB := Lib.hid (And.intro hb1 hb2)
  have HJ := Lib.hid hJ
  have HD := Lib.hid hJd
  clear hY hJ hJd hb1 hb2
  refine callsIn_of_wp Tryd.func26 rfl trivial ?_ rfl
  simp only [Tryd.ntmps26, List.size_toArray, List.length_cons, List.length_nil, Nat.reduceAdd, Nat.reduceSub, Array.replicate_succ, Array.replicate_zero, List.push_toArray, List.append_toArray, List.nil_append, List.cons_append]
  gi_wp2
  gi_loopw [4] (fun s wr => (s = .int .i64 0 ∧ Hid (J [] wr ∧ BlkIs wr B1 22 #[.slice (some ⟨b, off, none⟩) len cap] ∧ BlkIs wr B2 3 #[.int .i64 64])) ∨
      (s = .int .i64 64 ∧ Hid (J [()] wr ∧ BlkIs wr B1 22 #[.slice (some ⟨b, off, none⟩) len cap] ∧ BlkIs wr B2 3 #[.int .i64 64]))) (fun s _ => 64 - (intOf s).toNat)
  case atStart => exact .inl ⟨rfl, Lib.hid ⟨HJ.out, HB.out⟩⟩
  case round =>
    rcases hrel with ⟨rfl, HH⟩ | ⟨rfl, HH⟩
    · have c1 := HH.out.2.1.cell 0
      have c2 := HH.out.2.2.cell 0
      simp only [List.getElem?_toArray, List.getElem?_cons_zero] at c1 c2
      obtain ⟨fn, tmps, assign, body, hy2, hR⟩ := HY.out [] () wr.drew (HD.out _ _ HH.out.1) (by simp)
      have HR := Lib.hid hR
      clear hR
      have d0 : decide ((0 : Int) < (len : Nat)) = true := decide_eq_true (by omega)
      have hmin : (if ((len : Nat) : Int) < 64 then ((len : Nat) : Int) else 64) = (len : Nat) := by split <;> omega
      gi_wp2
      gi_region
      gi_wp2
      refine HR.out.mono ?_
      rintro e W3 (⟨rfl, hJ3, hk3⟩ | ⟨rfl, hJx3⟩)
      · have k1 := hk3 _ _ _ hG1 HH.out.2.1.drew
        have k2 := hk3 _ _ _ hG2 HH.out.2.2.drew
        have c3 := k2.cell 0
        simp only [List.getElem?_toArray, List.getElem?_cons_zero] at c3
        have H3 := Lib.hid (And.intro hJ3 (And.intro k1 k2))
        clear hJ3 hk3 k1 k2
        gi_wp2
        exact ⟨.inr ⟨rfl, H3⟩, by simp [intOf]⟩
      · gi_wp2
        refine bodyPost_ret (results_none rfl _ _ _) rfl ?_
        exact ⟨⟨_, rfl⟩, .inr ⟨_, rfl, hJx3⟩⟩
    · have c1 := HH.out.2.1.cell 0
      simp only [List.getElem?_toArray, List.getElem?_cons_zero] at c1
      have d0 : decide ((64 : Int) < (len : Nat)) = false := decide_eq_false (by omega)
      gi_wp2
      go_end0
      exact ⟨⟨_, rfl⟩, .inl ⟨_, rfl, HH.out.1⟩⟩

/-- a closure over the boxes of the sets and of their number in a chunk -/
def ChunkIs (v : Value) (k : Int) (w : World) : Ending → World → Prop := fun e w' =>
  ∃ B1 B2, e = .returned (.func (.func 26) #[] #[.pointer (some ⟨B1, 0, none⟩), .pointer (some ⟨B2, 0, none⟩)]) ∧ BlkIs w' B1 22 #[v] ∧ BlkIs w' B2 3 #[.int .i64 k] ∧ w.heap.size ≤ B1 ∧ w.heap.size ≤ B2 ∧ Below w.heap.size w w'

set_option maxHeartbeats 400000 in
theorem chunk_any (A : Option Addr) (len cap : Nat) (w : World) : Calls Tryd.prog 20 #[.slice A len cap, .int .i64 64] w (ChunkIs (.slice A len cap) 64 w) := by
  go_enter Tryd.func20, Tryd.ntmps20
  go_wp2
  go_ret
  have h2 := BlkIs.new (w.alloc (.cells #[.slice A len cap] 22)) 3 #[.int .i64 64]
  rw [World.size_alloc] at h2
  exact ⟨w.heap.size, w.heap.size + 1, rfl, (BlkIs.new _ _ _).alloc _, h2, Nat.le_refl _, Nat.le_succ _, ((Below.refl _ _).alloc (Nat.le_refl _) _).alloc (by simp) _⟩

/-- no set: nothing is told -/
theorem chunk1_none (n : Nat) (l B1 B2 c : Nat) (A : Option Addr) (J : World → Prop)
    (W : World) (hb1 : BlkIs W B1 22 #[.slice A 0 c]) (hJ : J W) :
    CallsIn Fence.wide n Tryd.prog 26 #[.func (.yield l) #[] #[], .pointer (some ⟨B1, 0, none⟩), .pointer (some ⟨B2, 0, none⟩)] W fun e W' => (∃ v, e = .returned v) ∧ J W' := by
  have c1 := hb1.cell 0
  simp only [List.getElem?_toArray, List.getElem?_cons_zero] at c1
  refine callsIn_of_wp Tryd.func26 rfl trivial ?_ rfl
  simp only [Tryd.ntmps26, List.size_toArray, List.length_cons, List.length_nil, Nat.reduceAdd, Nat.reduceSub, Array.replicate_succ, Array.replicate_zero, List.push_toArray, List.append_toArray, List.nil_append, List.cons_append]
  gi_wp2
  gi_loopw [4] (fun s wr => s = .int .i64 0 ∧ wr = W) (fun _ _ => 0)
  case atStart => exact ⟨rfl, rfl⟩
  case round =>
    obtain ⟨rfl, rfl⟩ := hrel
    gi_wp2
    go_end0
    exact ⟨⟨_, rfl⟩, hJ⟩

end Go.Proofs.YtebhnfdgjbhhfaaDoor
