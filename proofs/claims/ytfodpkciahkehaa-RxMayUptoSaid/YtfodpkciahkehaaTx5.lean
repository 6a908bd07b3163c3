/-
  WHAT texts OF PACKAGE rx ANSWERS: a contract. Condition: each node of the tree may be; it has at most 2^40 nodes.
-/
import Derived.Test.YtfodpkciahkehaaTx4
import Derived.Maps.AppendAt
namespace Go.Proofs.Ytfodpkciahkehaa
open Go.RowKit

theorem kinds_of {k : Int} {m : Nat → Bool} {n : Nat} {lo hi : Int} (h : okNode k m n lo hi = true) :
    ∃ f, ((k = 0 ∧ f = 49) ∨ (k = 1 ∧ f = 50) ∨ (k = 2 ∧ f = 51) ∨ (k = 3 ∧ f = 52) ∨ (k = 4 ∧ f = 53)) ∧ (k = 4 → n = 1) := by
  rcases okNode_kind h with ⟨rfl, hl⟩ | ⟨rfl, hl⟩ | ⟨rfl, hl⟩ | ⟨rfl, hl⟩ | ⟨rfl, hl, hlo⟩
  · exact ⟨_, .inl ⟨rfl, rfl⟩, fun h => by omega⟩
  · exact ⟨_, .inr (.inl ⟨rfl, rfl⟩), fun h => by omega⟩
  · exact ⟨_, .inr (.inr (.inl ⟨rfl, rfl⟩)), fun h => by omega⟩
  · exact ⟨_, .inr (.inr (.inr (.inl ⟨rfl, rfl⟩))), fun h => by omega⟩
  · exact ⟨_, .inr (.inr (.inr (.inr ⟨rfl, rfl⟩))), fun _ => hl⟩
theorem new_cell {w : World} {cs : List Value} {t : TypeId} {q : Nat} {u : Value} (h : cs[q]? = some u) : (w.alloc (.cells cs.toArray t)).cell? ((⟨w.heap.size, 0, none⟩ : Addr).add q) = some u := by
  rw [Addr.add_lit, Nat.zero_add]
  exact ((BlkIs.new w t cs.toArray).cell q).trans (by simpa using h)
theorem txs_len (l : List Tree) : (txs l).length = l.length := by rw [txs_map, List.length_map]
theorem txs_take {l : List Tree} {j : Nat} (h : j < l.length) : txs (l.take (j + 1)) = txs (l.take j) ++ [l[j].tx] := by
  rw [← List.take_append_getElem h, txs_map, txs_map, List.map_append]; rfl

set_option maxRecDepth 20000 in
set_option maxHeartbeats 8000000 in
theorem texts_any : ∀ (T : Tree) (v : Value) (w : World), T.ok = true → T.nodes ≤ 1099511627776 → T.At w v → Calls Try.prog 43 #[v] w fun e w' => e = .returned T.tx.V ∧ Below w.heap.size w w' := by
  intro T
  induction T using Tree.ind with
  | h k m l lo hi ih =>
    intro v w hok hnodes hat
    obtain ⟨hoks, hnode⟩ := ok_open hok
    obtain ⟨A, c, rfl, hc, hs⟩ := hat.open
    obtain ⟨i0, z, hi0, hz, hs10, hby, hzs⟩ := info_tx'
    have hll : l.length ≤ 1099511627776 := by have := length_nodes l; simp only [Tree.nodes] at hnodes; omega
    have hsubs : ∀ t ∈ l, t.nodes ≤ 1099511627776 := fun t ht => by have := mem_nodes ht; simp only [Tree.nodes] at hnodes; omega
    have HS := Lib.hid hs
    have IH := Lib.hid (fun t ht v w => ih t ht v w (hoks t ht) (hsubs t ht))
    have HNODE := Lib.hid hnode
    clear hat hs ih hok hoks hsubs hnode hnodes
    rw [tx_kind]
    obtain ⟨W2, hW2⟩ : ∃ W2, W2 = (w.alloc (.cells (reL k m A l.length c lo hi).toArray 50)).alloc (.cells zeroT.toArray 56) := ⟨_, rfl⟩
    have h0 := two_boxes w (reL k m A l.length c lo hi).toArray
    rw [← hW2] at h0
    have hsz : W2.heap.size = w.heap.size + 1 + 1 := by rw [hW2]; simp
    have H0 := Lib.hid (show TextsIs w (reL k m A l.length c lo hi) [] (.slice none 0 0) W2 from ⟨h0.1, h0.2.1, h0.2.2, World.ownsRow_nil _ _ _ _, by omega⟩)
    have hc0 := h0.1
    unfold reL at hc0
    obtain ⟨c0, c1, c2, c3, c4, c5, c6, c7⟩ := hc0.eight
    clear h0 hc0
    unfold reV zeroT at *
    unfold reL at hW2
    go_enter Try.func43, Try.ntmps43
    unfold reL
    go_wp2_with (first | rw [← hW2])
    clear c0 c1 c2 c3 c4 c5 c6 c7
    go_loopw [3, 9] (fun v i wr => ∃ j : Nat, i = .int .i64 j ∧ j ≤ l.length ∧ Hid (TextsIs w (reL k m A l.length c lo hi) (txs (l.take j)) v wr)) (fun _ i _ => l.length - (intOf i).toNat)
    case atStart => exact ⟨0, rfl, Nat.zero_le _, H0⟩
    case round =>
      obtain ⟨j, rfl, hj, HH⟩ := hrel
      by_cases hp : j < l.length
      · have hdl : decide ((j : Int) < (l.length : Int)) = true := by simp; omega
        obtain ⟨b, o, rfl, hbw, hg⟩ := HS.out (by intro e; subst e; simp at hp)
        obtain ⟨cs, hcat, hlen, hrow⟩ := hg j hp
        obtain ⟨A', n', c', rfl⟩ := hcat.eight
        obtain ⟨r0, r1, r2, r3, r4, r5, r6, r7⟩ := row_eight hrow HH.out.2.2.1
        have hk1 : IntKind.i64.wrap ((j : Int) + 1) = ((j + 1 : Nat) : Int) := by rw [IntKind.wrap_i64]; omega
        have hcall : ∀ u, Below w.heap.size w u → Calls Try.prog 43 #[.agg (reL (l[j]).kind (l[j]).set A' n' c' (l[j]).lo (l[j]).hi).toArray] u fun e w' => e = .returned (l[j]).tx.V ∧ Below u.heap.size u w' := fun u hu => IH.out _ (List.getElem_mem hp) _ u (hcat.step hu)
        unfold reL at hcall
        have HC := Lib.hid hcall
        have HTK := Lib.hid (txs_take hp)
        have hlj : (txs (l.take j)).length = j := by rw [txs_len, List.length_take]; omega
        clear hrow hcat hcall hg
        generalize txs (l.take j) = ys at *
        generalize (l[j]).tx = x at *
        obtain ⟨xv, xe, xf, xl⟩ := x
        unfold Tx.V Tx.L txL at HC
        dsimp only at HC
        go_wp2_with (first
          | (go_at_call 43
             go_must (refine (HC.out _ (HH.out.2.2.1.alloc HH.out.2.2.1.size _)).mono ?_)
             rintro e w3 ⟨rfl, hb3⟩
             have H3 := Lib.hid (HH.out.step (((Below.refl _ _).alloc (Nat.le_refl _) _).trans (hb3.mono (by simp))))
             clear hb3)
          | (at_builtin; go_must (refine wpList_append_own _ rfl _ _ 70 rfl (w.heap.size + 1 + 1) 56 i0 z 10 72 Try.underlying70 hi0 hz hs10 hby hzs (by decide) _ _ _ rfl (H3.out.2.2.2.1.alloc _) ⟨w3.heap.size, 0, none⟩ 1 1 (txL xv xe xf xl) rfl rfl (fun q u hq => new_cell (cs := txL xv xe xf xl) hq) (tx_one ⟨xv, xe, xf, xl⟩) (by unfold maxLen; omega) (by omega) (by have := H3.out.2.2.2.2; simp; omega) ?_); intro v' w4 hown' hgrow _))
        refine ⟨⟨j + 1, by go_num, by omega, Lib.hid ?_⟩, by simp [intOf]; omega⟩
        rw [HTK.out]
        exact (H3.out.step ((Below.refl _ _).alloc (Nat.le_refl _) _)).more hown' hgrow
      · have hdl : decide ((j : Int) < (l.length : Int)) = false := by simp; omega
        obtain rfl : j = l.length := by omega
        have HH2 := HH
        rw [List.take_length] at HH2
        clear HH
        have hxl := txs_len l
        obtain ⟨f, hf, h4⟩ := kinds_of HNODE.out
        generalize hxs : txs l = xs at *
        have HXS := Lib.hid hxs
        clear hxs
        obtain ⟨A1, d, rfl, hx, hd⟩ := own_texts HH2.out.2.2.2.1
        have HX := Lib.hid hx
        have hcell : ∀ u, BlkIs u w.heap.size 50 (reL k m A l.length c lo hi).toArray → u.cell? ⟨w.heap.size, 0, none⟩ = some (.int .i64 k) ∧ u.cell? ⟨w.heap.size, 1, none⟩ = some (.int .u64 (wd m 0 : Nat)) ∧ u.cell? ⟨w.heap.size, 2, none⟩ = some (.int .u64 (wd m 1 : Nat)) ∧ u.cell? ⟨w.heap.size, 3, none⟩ = some (.int .u64 (wd m 2 : Nat)) ∧
            u.cell? ⟨w.heap.size, 4, none⟩ = some (.int .u64 (wd m 3 : Nat)) ∧ u.cell? ⟨w.heap.size, 5, none⟩ = some (.slice A l.length c) ∧ u.cell? ⟨w.heap.size, 6, none⟩ = some (.int .i64 lo) ∧ u.cell? ⟨w.heap.size, 7, none⟩ = some (.int .i64 hi) := fun u h => h.eight
        have HCELL := Lib.hid hcell
        have HKC := Lib.hid (fun u (hu : TxRow u A1 xs) => kind_any k f hf m A l.length c lo hi A1 xs d (by omega) (fun h => by rw [hxl]; exact h4 h) u hu hd)
        have HIX := Lib.hid (idx_tellers k f hf)
        have HRES := Lib.hid (fun (u : World) (h1 : BlkIs u (w.heap.size + 1) 56 zeroT.toArray) (h2 : Below w.heap.size w u) => res_tx (w := w) (kindTx k m lo hi xs) h1 rfl h2 (Nat.le_succ _))
        unfold reV reL at HKC
        generalize hy : kindTx k m lo hi xs = y at *
        have HY := Lib.hid hy
        clear hy
        clear hx hcell hd hxl h4 HS IH
        go_wp2_with fail
        rcases hf with ⟨rfl, rfl⟩ | ⟨rfl, rfl⟩ | ⟨rfl, rfl⟩ | ⟨rfl, rfl⟩ | ⟨rfl, rfl⟩
        all_goals
          refine wp_region_free 7 7 26 (fun u => BlkIs u w.heap.size 50 (reL _ m A l.length c lo hi).toArray ∧ Below w.heap.size w u ∧ BlkIs u (w.heap.size + 1) 56 zeroT.toArray ∧ TxRow u A1 xs)
            (fun _ => #[]) (fun _ => 0) (by kernel_rfl) (by kernel_rfl) rfl ⟨HH2.out.1.drew, HH2.out.2.2.1.drew, HH2.out.2.1.drew, HX.out⟩ (fun u u' h hb => ⟨h.1.step hb, h.2.1.trans (hb.mono h.2.1.size), h.2.2.1.step hb, h.2.2.2.step hb⟩) (fun i o h1 h2 => absurd h1 (by omega)) ?_
          simp only [List.take_succ_cons, List.take_zero, List.drop_succ_cons, List.drop_zero]
          have hix := HIX.out
          repeat
            refine freeW_step fun K hK => ?_
            go_simp
            apply Exists.intro
            refine ⟨fun u h1 _ _ h4 => ?_, hK _ ?_⟩
            obtain ⟨c0, c1, c2, c3, c4, c5, c6, c7⟩ := HCELL.out u h1
            have h4' := Lib.hid h4
            clear h4 h1
            unfold freeAt
            go_simp
            first
              | exact free_val
              | (apply free_call; first | (go_at_call 48; exact tellers_any _) | exact HKC.out _ h4'.out)
            clear hK K
          refine freeW_nil ?_
          rintro g u ⟨_, k3, k4, _⟩ hb - -
          clear hb
          have HU := Lib.hid (And.intro k3 k4)
          clear k3 k4
          rw [Nat.sub_self, List.take_zero]
          unfold putNews
          go_wp2_with (first | refine wpList_store_mid rfl 56 (.tmp 2) (.tmp 25) rfl (w.heap.size + 1) 0 y.L.toArray rfl rfl HU.out.2.there info_tx (tx_all y) ?_)
          obtain ⟨f1, f2⟩ := HRES.out u HU.out.2 HU.out.1
          exact bodyPost_ret (results_cell1 rfl rfl f1) rfl ⟨by rw [HXS.out, HY.out], f2⟩

end Go.Proofs.Ytfodpkciahkehaa

