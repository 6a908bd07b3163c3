/-
  WHAT hacklelaw01's OctsMakes ANSWERS: true. Condition: the table of math/bits lies as it is laid; the bytes lie in memory.
-/
import Derived.Test.YtjhdacckodoohaaDoorLaw1a
namespace Go.Proofs.YtjhdacckodoohaaDoor
open Go.RowKit

theorem ByteRow.keep {w w' : World} {B : Nat} {A : Option Addr} {l : List Nat} (h : ByteRow w B A l) (hB : B ≤ w.heap.size) (hb : Below w.heap.size w w') : ByteRow w' B A l := fun hl => by
  obtain ⟨b, off, rfl, hlt, hc⟩ := h hl
  refine ⟨b, off, rfl, hlt, fun k x hk => ?_⟩
  rw [hb.cell (by show b < w.heap.size; omega)]
  exact hc k x hk
theorem ByteRow.far {w : World} {B : Nat} {A : Option Addr} {l : List Nat} (h : ByteRow w B A l) {p : Addr} (hp : B ≤ p.block) (v : Value) : ByteRow (w.setCell p v) B A l := fun hl => by
  obtain ⟨b, off, rfl, hlt, hc⟩ := h hl
  refine ⟨b, off, rfl, hlt, fun k x hk => ?_⟩
  rw [(Below.refl B w).setCell hp v |>.cell (by exact hlt)]
  exact hc k x hk
theorem ByteRow.wide {w : World} {B B' : Nat} {A : Option Addr} {l : List Nat} (h : ByteRow w B A l) (hB : B ≤ B') : ByteRow w B' A l := fun hl => by
  obtain ⟨b, off, rfl, hlt, hc⟩ := h hl
  exact ⟨b, off, rfl, by omega, hc⟩

theorem free_load {P : Program} {o : Oper} {a : Act} {w : World} {v : Value} (t : TypeId) (x : Operand) (p : Value) (ho : o.op = .load t x) (hx : a.eval x = p) (h : (Instr.loadAt t p).run P w = .ok v w) : freeAt P o a w v := by
  unfold freeAt execOp
  simp only [ho, hx, Sem.run_bind, Sem.run_pure, h, Result.andThen_ok]
  exact free_val

set_option maxRecDepth 100000 in
set_option maxHeartbeats 1000000 in
theorem octsMakes_any (A : Option Addr) (c : Nat) (l : List Nat) (lo hi : Nat) (hlo : lo < 256) (hhi : hi < 256) (w : World) (hT : Tab w)
    (hr : ByteRow w w.heap.size A l) (hl : ∀ x ∈ l, x < 256) (hn : l.length ≤ 9223372036854775807) :
    Calls Tryd.prog 3 #[.slice A l.length c, .int .u8 lo, .int .u8 hi] w (TrueIs w) := by
  have z24 := zero24
  have q0 := eql_true (m := sOf l) (n := sOf l) (fun _ _ => rfl)
  have q1 := eql_true (m := sRange lo hi) (n := sRange lo hi) (fun _ _ => rfl)
  have w1 : IntKind.i64.wrap (lo : Int) = (lo : Int) := by rw [IntKind.wrap_i64]; omega
  have w2 : IntKind.i64.wrap (hi : Int) = (hi : Int) := by rw [IntKind.wrap_i64]; omega
  have hal := alive_any
  have HT := Lib.hid hT
  have HA := Lib.hid hal
  have HL := Lib.hid (And.intro hl (And.intro hlo hhi))
  have HR := Lib.hid hr
  clear hT hal hl hr hlo hhi
  by_cases hlen : 1000 < l.length
  · have hd : decide ((1000 : Int) < (l.length : Nat)) = true := decide_eq_true (by omega)
    go_enter Tryd.func3, Tryd.ntmps3
    go_wp2_with fail
    refine (HA.out _ HT.out).mono ?_
    rintro e w2 ⟨rfl, hb2⟩
    go_wp2
    go_ret
    exact ⟨rfl, hb2⟩
  · have hd : decide ((1000 : Int) < (l.length : Nat)) = false := decide_eq_false (by omega)
    have hlen' : l.length ≤ 1000 := by omega
    clear hlen
    go_enter Tryd.func3, Tryd.ntmps3
    go_wp2_with fail
    refine (HA.out _ HT.out).mono ?_
    rintro e w2 ⟨rfl, hb2⟩
    have HR2 := Lib.hid ((HR.out.keep (Nat.le_refl _) hb2).wide hb2.size)
    have HB2 := Lib.hid hb2
    clear HR HT HA hb2
    go_wp2_with fail
    go_loopw [8] (fun s wr => ∃ k : Nat, k ≤ l.length ∧ s = .int .i64 k ∧ Hid (BlkIs wr w2.heap.size 24 (bools (sOf (l.take k))) ∧ ByteRow wr w2.heap.size A l ∧ Below w.heap.size w wr)) (fun s _ => l.length - (intOf s).toNat)
    case atStart =>
      refine ⟨0, by omega, rfl, Lib.hid ⟨?_, HR2.out.keep (Nat.le_refl _) ((Below.refl _ _).alloc (Nat.le_refl _) _), HB2.out.alloc HB2.out.size _⟩⟩
      rw [List.take_zero, sOf_nil]
      exact BlkIs.new _ _ _
    case round =>
      obtain ⟨k, hk, rfl, HH⟩ := hrel
      by_cases hlt : k < l.length
      · obtain ⟨x, hx⟩ : ∃ x, l[k]? = some x := ⟨l[k], List.getElem?_eq_getElem hlt⟩
        have hne : l ≠ [] := fun e => by subst e; simp at hlt
        have hx256 := HL.out.1 x (List.mem_of_getElem? hx)
        obtain ⟨b, off, hA, hbl, hcell⟩ := HH.out.2.1 hne
        have g1 := hcell k x hx
        have g2 := (HH.out.1.cell x).trans (bools_get _ hx256)
        have g3 := HH.out.1.frozen x
        have hfin : BlkIs (wr.setCell ⟨w2.heap.size, x, none⟩ (.bool true)) w2.heap.size 24 (bools (sOf (l.take (k + 1)))) ∧ ByteRow (wr.setCell ⟨w2.heap.size, x, none⟩ (.bool true)) w2.heap.size A l ∧ Below w.heap.size w (wr.setCell ⟨w2.heap.size, x, none⟩ (.bool true)) := by
          refine ⟨?_, HH.out.2.1.far (Nat.le_refl _) _, HH.out.2.2.setCell HB2.out.size _⟩
          have h := HH.out.1.put x (.bool true)
          rw [bools_set, bools_congr (f := updS (sOf (l.take k)) x true) (g := sOf (l.take (k + 1))) (fun i _ => by
            rw [sOf_take hx i]
            unfold updS
            by_cases e : i = x
            · subst e; simp
            · simp [e])] at h
          exact h
        have HF := Lib.hid hfin
        subst hA
        clear hfin hcell HH hbl hne hx
        go_wp2
        exact ⟨⟨k + 1, by omega, by go_num, HF⟩, by simp [intOf]; omega⟩
      · have hk' : k = l.length := by omega
        subst hk'
        rw [List.take_length] at HH
        have HF := HH
        clear HH
        go_wp2_with fail
        refine wp_region_reads 41 (fun u => BlkIs u w2.heap.size 24 (bools (sOf l)) ∧ ByteRow u w2.heap.size A l)
          (by kernel_rfl) (by kernel_rfl) rfl ⟨HF.out.1.drew, HF.out.2.1⟩ (fun u u' h hb => ⟨h.1.step hb, h.2.keep (Nat.le_of_lt h.1.lt) hb⟩) ?_
        repeat
          refine freeW_step fun K hK => ?_
          go_simp
          first
            | (refine hK _ ?_; clear hK K)
            | (apply Exists.intro
               refine ⟨fun v g1 g2 => ?_, hK _ ?_⟩
               first
                 | exact free_load 24 (.tmp 7) _ rfl rfl (load24 g1)
                 | (unfold freeAt
                    go_simp
                    first
                    | exact free_val
                    | (apply free_call
                       first
                      | (go_at_call 8; exact of_any A c l _ (ByteRow.wide g2 (Nat.le_of_lt (BlkIs.lt g1))) HL.out.1 hn)
                      | (go_at_call 9; exact made_any _ _)
                      | (go_at_call 10; exact range_any lo hi HL.out.2.1 HL.out.2.2 _)
                      | (go_at_call 11; exact refRange_any lo hi HL.out.2.2 _)))
               clear hK K)
        refine freeW_nil ?_
        intro u _ hb
        have hE := Lib.hid (HF.out.2.2.trans (hb.mono HF.out.2.2.size))
        clear hb
        go_wp2
        go_ret
        exact ⟨rfl, hE.out⟩
end Go.Proofs.YtjhdacckodoohaaDoor
