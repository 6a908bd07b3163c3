/-
  WHAT hackleref04's Begins ANSWERS, at every tree each node of which may be. Condition: that, and the text has at most 2^30 bytes.
-/
import Derived.Test.YtfodpkciahkehaaBegins1
import Derived.Test.YtfodpkciahkehaaBegins3
namespace Go.Proofs.Ytfodpkciahkehaa
open Go.RowKit

theorem refBegins_any (s : ByteArray) (hs30 : s.size ≤ 1073741824) (n : Nat) (hn : n = s.size + 1) : ∀ (T : Tree) (v : Value) (w : World) (g0 : Nat) (f : Nat → Bool), T.ok = true → Tree.At w T v → BlkIs w g0 4 (bl n f) →
    Calls Try.prog 19 #[v, .string s, .slice (some ⟨g0, 0, none⟩) n n] w (BoolIs (T.begins s.data.toList f) w) := by
  intro T
  induction T using Tree.ind with
  | h k m l lo hi ih =>
    intro v w g0 f hok hat hf
    have hvoid := fun u (hu : Below w.heap.size w u) => refVoid_any (.node k m l lo hi) v u hok (hat.step hu)
    obtain ⟨A, c, rfl, hc, hs⟩ := hat.open
    obtain ⟨hoks, hn'⟩ := ok_open hok
    have hkind := okNode_kind hn'
    have ih' := fun t ht v w g0 f => ih t ht v w g0 f (hoks t ht)
    have ie := fun t ht v w g0 f => refEnds_any s hs30 n hn t v w g0 f (hoks t ht)
    unfold Tree.begins
    rcases hkind with ⟨rfl, hl⟩ | ⟨rfl, hl⟩ | ⟨rfl, hl⟩ | ⟨rfl, hl⟩ | ⟨rfl, hl, hlo⟩
    · rw [if_pos rfl]
      exact begins_k0 s n hn m l lo hi A c w g0 f hf
    · rw [if_neg (by decide), if_pos rfl]
      exact begins_k1 s n hs30 hn m l lo hi A c w g0 f hf
    · rw [if_neg (by decide), if_neg (by decide), if_pos rfl]
      rw [void_2] at hvoid
      exact begins_k2 s n hn m l lo hi A c hc _ w g0 f hf hs ih' ie hvoid
    · rw [if_neg (by decide), if_neg (by decide), if_neg (by decide), if_pos rfl]
      exact begins_k3 s n hn m l lo hi A c hc w g0 f hf hs ih'
    · rw [if_neg (by decide), if_neg (by decide), if_neg (by decide), if_neg (by decide)]
      rw [void_4] at hvoid
      obtain ⟨t, rfl⟩ : ∃ t, l = [t] := by
        match l, hl with
        | [t], _ => exact ⟨t, rfl⟩
      obtain ⟨b, o, rfl, hbw, hg⟩ := hs (by simp)
      obtain ⟨cs, hcat, hlen, hrow⟩ := hg 0 (by simp)
      rw [show o + 0 * 8 = o by omega] at hrow
      exact begins_k4 s n hn m t lo hi b o c _ w g0 f hf cs hcat hrow (ih' t (by simp)) (ie t (by simp)) hvoid hs30 hlo

end Go.Proofs.Ytfodpkciahkehaa
