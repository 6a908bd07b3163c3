/-
 WHAT hackleref09.Live ANSWERS: a contract. Condition: an automaton that may be.
-/
import Derived.Test.YtdjpphjpnkfeiaaGreatDoorQG32
namespace Go.Proofs.YtdjpphjpnkfeiaaGreatDoor
open Go.RowKit
attribute [local irreducible] FreeW textFrame
def Cm (D:Df):Nat->Int->Prop
 |0,_=>False
 |k+1,i=>0<=i/\i<(D.next.length:Int)/\(D.tag.getD i.toNat (-1)≠ -1\/Cm D k i\/ ∃ x∈D.next.getD i.toNat [],Cm D k x)
theorem Cm.in {D:Df}:∀ {k:Nat} {i:Int},Cm D k i->0<=i/\i<(D.next.length:Int)
 |_+1,_,h=>⟨h.1,h.2.1⟩
theorem Cm.up {D:Df}{k:Nat}{i:Int}(h:Cm D k i):Cm D (k+1) i:=⟨h.in.1,h.in.2,.inr (.inl h)⟩
theorem Cm.upTo {D:Df}{k m:Nat}(hkm:k<=m){i:Int}(h:Cm D k i):Cm D m i:=by
 induction hkm with
 |refl=>exact h
 |step _ ih=>exact ih.up
theorem lv_cm {D:Df}{i:Int}(h:Lv D i):∃ k,Cm D k i:=by
 induction h with
 |tag h1 h2 h3=>exact⟨1,h1,h2,.inl h3⟩
 |step h1 h2 h3 _ ih=>
  obtain⟨k,hk⟩:=ih;exact⟨k+1,h1,h2,.inr (.inr ⟨_,h3,hk⟩)⟩
noncomputable def cmB (D:Df)(k:Nat)(i:Nat):Bool:= @decide (Cm D k (i:Int)) (Classical.propDecidable _)
theorem cmB_iff {D:Df}{k i:Nat}:cmB D k i=true↔Cm D k (i:Int):=by unfold cmB;simp
noncomputable def cmL (D:Df)(k:Nat):List Nat:=(List.range D.next.length).filter (cmB D k)
theorem cm_next {D:Df}{j:Nat}(hs:∀ i,Cm D (j+1) i->Cm D j i):∀ m i,Cm D m i->Cm D j i:=by
 intro m
 induction m with
 |zero=>intro i h;exact h.elim
 |succ m ih=>
  intro i h
  apply hs
  obtain⟨h1,h2,h3⟩:=h;refine⟨h1,h2,?_⟩
  rcases h3 with h3|h3|⟨x,hx,h3⟩
  ·exact .inl h3
  ·exact .inr (.inl (ih i h3))
  ·exact .inr (.inr ⟨x,hx,ih x h3⟩)
theorem xzfv {p q:Nat->Bool}(hpq:∀ i,p i=true->q i=true):∀ (l:List Nat),(l.filter q).length<=(l.filter p).length->∀ i∈l,q i=true->p i=true
 |[],_,i,h,_=>by cases h
 |a::l,hl,i,hi,hq=>by
  have hle:(l.filter p).length<=(l.filter q).length:=by
   rw [<-List.countP_eq_length_filter,<-List.countP_eq_length_filter]
   exact List.countP_mono_left fun x _ h=>hpq x h
  rw [List.filter_cons,List.filter_cons]at hl
  by_cases hp:p a=true
  ·rw [if_pos hp,if_pos (hpq a hp)]at hl
   simp only [List.length_cons]at hl
   rcases List.mem_cons.1 hi with rfl|hi
   ·exact hp
   ·exact xzfv hpq l (by omega) i hi hq
  ·rw [if_neg hp]at hl
   by_cases hqa:q a=true
   ·rw [if_pos hqa]at hl
    simp only [List.length_cons]at hl;omega
   ·rw [if_neg hqa]at hl
    rcases List.mem_cons.1 hi with rfl|hi
    ·exact absurd hq hqa
    ·exact xzfv hpq l hl i hi hq
theorem cm_or (D:Df):∀ k,k<=(cmL D k).length\/ ∃ j,j<k/\∀ i,Cm D (j+1) i->Cm D j i
 |0=>.inl (Nat.zero_le _)
 |k+1=>by
  rcases cm_or D k with h|⟨j,hj,hs⟩
  ·by_cases h2:k+1<=(cmL D (k+1)).length
   ·exact .inl h2
   ·refine .inr ⟨k,Nat.lt_succ_self _,fun i hi=>?_⟩
    have hin:=hi.in;have:=xzfv (p:=cmB D k) (q:=cmB D (k+1)) (fun i h=>cmB_iff.2 (cmB_iff.1 h).up) (List.range D.next.length) (by unfold cmL at h h2;omega) i.toNat (List.mem_range.2 (by omega)) (cmB_iff.2 (by rw [Int.toNat_of_nonneg hin.1];exact hi));have:=cmB_iff.1 this
    rwa [Int.toNat_of_nonneg hin.1]at this
  ·exact .inr ⟨j,by omega,hs⟩
theorem lv_all {D:Df}{i:Int}(h:Lv D i):Cm D (D.next.length+1) i:=by
 obtain⟨m,hm⟩:=lv_cm h
 rcases cm_or D (D.next.length+1)with h1|⟨j,hj,hs⟩
 ·have:(cmL D (D.next.length+1)).length<=D.next.length:=by
   have:=List.length_filter_le (cmB D (D.next.length+1)) (List.range D.next.length);rw [List.length_range]at this;exact this
  omega
 ·exact(cm_next hs m i hm).upTo (by omega)
structure SwM (D:Df)(k i c:Nat)(tg:Bool)(m:Nat->Bool):Prop where
 sound:∀ q,q<D.next.length->m q=true->Lv D q
 old:∀ q:Nat,q<D.next.length->Cm D k q->m q=true
 new:∀ q:Nat,q<i->q<D.next.length->Cm D (k+1) q->m q=true
 here:i<D.next.length->tg=true->(D.tag.getD i (-1)≠ -1->m i=true)/\∀ x∈(D.next.getD i []).take c,Cm D k x->m i=true
def mSet (m:Nat->Bool)(i:Nat)(b:Bool):Nat->Bool:=fun q=>if q=i then b else m q
theorem SwM.tag {D:Df}{k i:Nat}{m:Nat->Bool}(h:SwM D k i 0 false m)(hi:i<D.next.length):SwM D k i 0 true (mSet m i (m i||decide (D.tag.getD i (-1)≠ -1))):=by
 have up:∀ q,m q=true->mSet m i (m i||decide (D.tag.getD i (-1)≠ -1)) q=true:=fun q hq=>by
  unfold mSet;split
  ·rename_i e;subst e;rw [hq];rfl
  ·exact hq
 refine⟨fun q hq hm=>?_,fun q hq hc=>up q (h.old q hq hc),fun q h1 h2 h3=>up q (h.new q h1 h2 h3),fun _ _=>⟨fun ht=>?_,fun x hx=>by simp at hx⟩⟩
 ·unfold mSet at hm
  split at hm
  ·rename_i e
   subst e
   rcases Bool.or_eq_true_iff.1 hm with h1|h1
   ·exact h.sound q hq h1
   ·exact .tag (by omega) (by omega) (by rw [Int.toNat_natCast];exact of_decide_eq_true h1)
  ·exact h.sound q hq hm
 ·unfold mSet;rw [if_pos rfl,decide_eq_true ht,Bool.or_true]
theorem SwM.one {D:Df}{k i c:Nat}{m:Nat->Bool}(h:SwM D k i c true m)(hi:i<D.next.length)(hc:c<(D.next.getD i []).length)(hin:∀ x∈D.next.getD i [], -1<=x/\x<(D.next.length:Int)):
 SwM D k i (c+1) true (mSet m i (m i||(decide (0<=(D.next.getD i [])[c])&&m ((D.next.getD i [])[c]).toNat))):=by
 have hxm:(D.next.getD i [])[c]∈D.next.getD i []:=List.getElem_mem hc;have hxi:=hin _ hxm;obtain⟨x,hx⟩:∃ x,(D.next.getD i [])[c]=x:=⟨_,rfl⟩;rw [hx]at hxm hxi ⊢
 have up:∀ q,m q=true->mSet m i (m i||(decide (0<=x)&&m x.toNat)) q=true:=fun q hq=>by
  unfold mSet;split
  ·rename_i e;subst e;rw [hq];rfl
  ·exact hq
 refine⟨fun q hq hm=>?_,fun q hq hcm=>up q (h.old q hq hcm),fun q h1 h2 h3=>up q (h.new q h1 h2 h3),fun _ _=>⟨fun ht=>up i ((h.here hi rfl).1 ht),fun y hy hcm=>?_⟩⟩
 ·unfold mSet at hm
  split at hm
  ·rename_i e
   subst e
   rcases Bool.or_eq_true_iff.1 hm with h1|h1
   ·exact h.sound q hq h1
   ·obtain⟨h2,h3⟩:=Bool.and_eq_true_iff.1 h1
    have h2':=of_decide_eq_true h2;have h4:=h.sound x.toNat (by omega) h3;rw [Int.toNat_of_nonneg h2']at h4;exact .step (by omega) (by omega) (by rw [Int.toNat_natCast];exact hxm) h4
  ·exact h.sound q hq hm
 ·rw [List.take_succ_eq_append_getElem hc,hx]at hy
  rcases List.mem_append.1 hy with hy|hy
  ·exact up i ((h.here hi rfl).2 y hy hcm)
  ·rw [List.mem_singleton]at hy
   subst hy;have h0:=hcm.in;have:=h.old y.toNat (by omega) (by rw [Int.toNat_of_nonneg h0.1];exact hcm);unfold mSet;rw [if_pos rfl,this,decide_eq_true h0.1];simp
theorem SwM.row {D:Df}{k i:Nat}{m:Nat->Bool}(h:SwM D k i (D.next.getD i []).length true m)(hi:i<D.next.length):SwM D k (i+1) 0 false m:=by
 refine⟨h.sound,h.old,fun q h1 h2 h3=>?_,fun _ e=>by cases e⟩
 by_cases e:q=i
 ·subst e
  obtain⟨_,_,h4⟩:=h3;rw [Int.toNat_natCast]at h4
  rcases h4 with h4|h4|⟨x,hx,h4⟩
  ·exact(h.here hi rfl).1 h4
  ·exact h.old q h2 h4
  ·exact(h.here hi rfl).2 x (by rw [List.take_length];exact hx) h4
 ·exact h.new q (by omega) h2 h3
theorem SwM.begin (D:Df):SwM D 0 0 0 false (fun _=>false):=⟨fun _ _ e=>absurd e (by decide),fun _ _ h=>False.elim h,fun q h=>absurd h (Nat.not_lt_zero q),fun _ e=>absurd e (by decide)⟩
theorem SwM.all {D:Df}{m:Nat->Bool}(h:SwM D (D.next.length+1) 0 0 false m)(q:Nat)(hq:q<D.next.length):m q=lvB D q:=by
 rw [Bool.eq_iff_iff,lvB_iff];exact⟨h.sound q hq,fun hl=>h.old q hq (lv_all hl)⟩
end Go.Proofs.YtdjpphjpnkfeiaaGreatDoor
