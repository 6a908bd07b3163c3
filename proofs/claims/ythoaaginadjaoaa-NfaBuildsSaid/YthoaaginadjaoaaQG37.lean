/-
 EVERY TREE WRITTEN OUT IS ITS PART, its sets, too (pure). Condition: each node of the tree may be.
-/
import Derived.Deep.QuietTactic
import Derived.BigQuiet
import Derived.Test.YthoaaginadjaoaaQG36
import Derived.Test.YthoaaginadjaoaaQG28
import Derived.Test.YthoaaginadjaoaaQG06
import Derived.Test.YthoaaginadjaoaaQG14
namespace Go.Proofs.Ythoaaginadjaoaa
open Go.RowKit
structure RefT (T:Tree)(S:Mk):Prop where
 rel:RelN (partP T S).1.follow S.sets.length (partP T S).1.sets.length (outT T S.sets.length).1 (partP T S).2
 old:∀ x q,x<S.sets.length->hasI ((partP T S).1.follow.getD x []) q=hasI (S.follow.getD x []) q
theorem ag_old {st st':List (Nat->Bool)}{F F':List (List Int)}{n:Nat}(h:Ag (grF st F) (grF st' F') 0 n):∀ x q,x<n->hasI (F'.getD x []) q=hasI (F.getD x []) q:=fun x q hx=>by
 have:=(h x (Nat.zero_le _) hx).2;exact congrFun this q
theorem xzpr (T:Tree)(hok:T.ok=true)(S:Mk)(hS:S.Ok):∀ x q,x<S.sets.length->hasI ((partP T S).1.follow.getD x []) q=hasI (S.follow.getD x []) q:=ag_old (xzek T hok S hS).ag
theorem xzlm:∀ T:Tree,T.ok=true->T.plN=0->∀ (s:List UInt8) (f:Nat->Bool) (k:Nat),f k=true->T.ends s f k=true:=by
 intro T
 induction T using Tree.ind with
 |h k m l lo hi ih=>
  intro hok h0 s f p hf;have hop:=xzcb hok
  have hpl:(Tree.node k m l lo hi).plN=((if k=1 then 1 else 0)+sumN l)*(if k=4 then(copiesI lo hi).toNat else 1):=by unfold Tree.plN;rfl
  rw [hpl]at h0
  have hsub:sumN l=0->∀ t∈l,t.plN=0:=by
   intro hs;clear h0 hpl ih hop hok
   induction l with
   |nil=>intro t ht;cases ht
   |cons a r ihr=>
    simp only [sumN]at hs;intro t ht
    rcases List.mem_cons.1 ht with rfl|ht
    ·omega
    ·exact ihr (by omega) t ht
  unfold Tree.ends
  rcases xzas hop.2 with⟨rfl,hl⟩|⟨rfl,hl⟩|⟨rfl,hl⟩|⟨rfl,hl⟩|⟨rfl,hl,hlo,_,hhi⟩
  ·rw [if_pos rfl];exact hf
  ·simp at h0
  ·rw [if_neg (by decide),if_neg (by decide),if_pos rfl]
   have hs:=hsub (by simpa using h0)
   have:∀ (l:List Tree) (f:Nat->Bool),(∀ t∈l,∀ (f:Nat->Bool),f p=true->t.ends s f p=true)->f p=true->endsCat s l f p=true:=by
    intro l
    induction l with
    |nil=>intro f _ hf;exact hf
    |cons a r ihr=>intro f h hf;unfold endsCat;exact ihr _ (fun t ht=>h t (by simp [ht])) (h a (by simp) f hf)
   exact this l f (fun t ht f hf=>ih t ht (hop.1 t ht) (hs t ht) s f p hf) hf
  ·rw [if_neg (by decide),if_neg (by decide),if_neg (by decide),if_pos rfl]
   have hs:=hsub (by simpa using h0)
   match l,hl with
   |t::r,_=>
    unfold endsAlt orB;rw [ih t (by simp) (hop.1 t (by simp)) (hs t (by simp)) s f p hf];rfl
  ·rw [if_neg (by decide),if_neg (by decide),if_neg (by decide),if_neg (by decide)]
   obtain⟨t,rfl⟩:∃ t,l=[t]:=List.length_eq_one_iff.1 hl
   have hE:headEnds s [t]=t.ends s:=by unfold headEnds;rfl
   rw [hE];unfold repTo;rw [List.any_eq_true]
   have hlm:lo.toNat<=mostOf s lo hi:=by unfold mostOf;split<;>omega
   refine⟨lo.toNat,List.mem_range.2 (by omega),?_⟩;rw [Bool.and_eq_true,decide_eq_true_eq];refine⟨Nat.le_refl _,?_⟩;rw [if_neg (by decide),if_pos rfl]at h0
   rcases Nat.mul_eq_zero.1 h0 with h|h
   ·have ht0:=hsub (by omega) t (by simp)
    have:∀ n,iterE (t.ends s) n f p=true:=by
     intro n
     induction n with
     |zero=>exact hf
     |succ n ihn=>unfold iterE;exact ih t (by simp) (hop.1 t (by simp)) ht0 s _ p ihn
    exact this _
   ·have:lo.toNat=0:=by unfold copiesI at h;split at h<;>omega
    rw [this];exact hf
theorem xzuz (T:Tree)(hok:T.ok=true)(S:Mk)(hS:S.Ok)(h0:T.plN=0):RefT T S:=by
 obtain⟨a1,a2,a3,a4⟩:=xzek T hok S hS;obtain⟨o1,o2,o3⟩:=xzbj T S (xzcw T hok) hS
 have hl:(partP T S).1.sets.length=S.sets.length:=by omega
 have e:(outT T S.sets.length).1=.e:=by
  cases T with
  |node k m l lo hi=>unfold outT;rw [if_pos h0]
 refine⟨?_,xzpr T hok S hS⟩;rw [e]
 have hnf:∀ q,hasI (partP T S).2.first q=false:=fun q=>by
  rw [Bool.eq_false_iff];intro h;have:=a2.1 q h;omega
 have hne:∀ q,hasI (partP T S).2.ends q=false:=fun q=>by
  rw [Bool.eq_false_iff];intro h;have:=a2.2 q h;omega
 refine⟨?_,fun q=>(hnf q).symm,fun q=>(hne q).symm,a2,fun x q h1 h2=>by omega,fun x q h=>by cases h⟩;have hz:=xzlm;have h1:=(a4 [] (atP 0) 0).1 (hz T hok h0 [] (atP 0) 0 (atP_refl 0));obtain⟨j,_,(⟨h2,_⟩|⟨a,b,k',h2,_⟩)⟩:=h1
 ·rw [h2];rfl
 ·rw [hnf]at h2;cases h2
where
 atP_refl (p:Nat):atP p p=true:=by unfold atP updS;simp
theorem xzln:∀ (l:List Tree),(∀ t∈l,t.ok=true/\∀ S:Mk,S.Ok->RefT t S)->∀ S:Mk,S.Ok->RelR (partsP l S).1.follow S.sets.length (outs l S.sets.length).1 (partsP l S).2 (partsP l S).1.sets.length
 |[],_,S,_=>rfl
 |t::r,h,S,hS=>by
  have ht:=(h t (by simp)).1;obtain⟨r1,r2⟩:=(h t (by simp)).2 S hS;obtain⟨o1,o2,o3⟩:=xzbj t S (xzcw t ht) hS;have ih:=xzln r (fun x hx=>h x (by simp [hx])) (partP t S).1 o1;have hag:=(xzej r (fun x hx=>⟨(h x (by simp [hx])).1,xzek x (h x (by simp [hx])).1⟩) (partP t S).1 o1).ag
  have e:partsP (t::r) S=((partsP r (partP t S).1).1,(partP t S).2::(partsP r (partP t S).1).2):=by rw [partsP]
  have e2:(outT t S.sets.length).2=(partP t S).1.sets.length:=by rw [xzhu t _ (xzcw t ht),o3]
  rw [e];simp only [outs];rw [e2];exact⟨_,by omega,r1.ag fun x q _ hx=>ag_old hag x q hx,ih⟩
theorem xzps (F:List (List Int)):∀ (Ns:List Bud) (ps:List Prt) (X:Bud) (a:Prt) (lo mid hi:Nat),lo<=mid->RelN F lo mid X a->RelR F mid Ns ps hi->RelN F lo hi (Ns.foldl .alt X) (eitherP a ps)
 |[],[],X,a,lo,mid,hi,_,h,h2=>by obtain rfl:mid=hi:=h2;exact h
 |N::Ns,p::ps,X,a,lo,mid,hi,hm,h,⟨m,h1,h2,h3⟩=>by
  simp only [List.foldl_cons,eitherP];refine xzps F Ns ps _ _ lo m hi (by omega) ⟨?_,fun q=>?_,fun q=>?_,or_in h.inp h2.inp hm h1,fun x q hx1 hx2=>?_,fun x q hx=>?_⟩ h3
  ·simp only [Bud.em,orP,h.em,h2.em]
  ·simp only [Bud.fi,orP,h.fi,h2.fi,xzba]
  ·simp only [Bud.la,orP,h.la,h2.la,xzba]
  ·simp only [Bud.pr]
   by_cases hx:x<mid
   ·have:N.pr x q=false:=by
     rw [Bool.eq_false_iff];intro hh;have:=h2.out x q hh;omega
    rw [this,Bool.or_false,h.pr x q hx1 hx]
   ·have:X.pr x q=false:=by
     rw [Bool.eq_false_iff];intro hh;have:=h.out x q hh;omega
    rw [this,Bool.false_or,h2.pr x q (by omega) hx2]
  ·simp only [Bud.pr,Bool.or_eq_true]at hx
   have:=h3.le
   rcases hx with hx|hx
   ·have:=h.out x q hx;omega
   ·have:=h2.out x q hx;omega
 |[],_::_,_,_,_,_,_,_,_,h=>h.elim
 |_::_,[],_,_,_,_,_,_,_,h=>h.elim
theorem xzpt {F:List (List Int)}{z:Prt}{hi:Nat}:∀ {Ns:List Bud} {ps:List Prt} {lo:Nat},hi<=F.length->(∀ x∈z.ends,0<=x/\x<(F.length:Int))->RelR F lo Ns (ps++[z]) hi->RelR (linkF F z.ends z.first) lo (plsLast Ns) (ps++[z]) hi
 |[N],[],lo,hF,hz,⟨m,h1,h2,h3⟩=>by
  obtain rfl:m=hi:=h3;have hl:=xzef z.ends F z.first hz;refine⟨m,h1,⟨h2.em,h2.fi,h2.la,h2.inp,fun x q hx1 hx2=>?_,fun x q hx=>?_⟩,rfl⟩
  ·simp only [Bud.pr]
   rw [hl,h2.pr x q hx1 hx2,h2.la,h2.fi]
  ·simp only [Bud.pr,Bool.or_eq_true,Bool.and_eq_true]at hx
   rcases hx with hx|hx
   ·exact h2.out x q hx
   ·exact h2.inp.2 x (by rw [<-h2.la];exact hx.1)
 |N::N'::Ns,p::ps,lo,hF,hz,⟨m,h1,h2,h3⟩=>by
  have hl:=xzef z.ends F z.first hz
  have hzin:∀ x,hasI z.ends x=true->m<=x:=fun x hx=>by
   have:∀ (Ns:List Bud) (ps:List Prt) (lo:Nat),RelR F lo Ns (ps++[z]) hi->lo<=x:=by
    intro Ns ps
    induction ps generalizing Ns with
    |nil=>
     intro lo h
     match Ns,h with
     |N::Ns,⟨m,g1,g2,_⟩=>have:=g2.inp.2 x hx;omega
     |[],h=>exact h.elim
    |cons p ps ih=>
     intro lo h
     match Ns,h with
     |N::Ns,⟨m,g1,g2,g3⟩=>have:=ih Ns m g3;omega
     |[],h=>exact h.elim
   exact this _ _ _ h3
  refine⟨m,h1,h2.ag fun x q _ hx=>?_,xzpt hF hz h3⟩;rw [hl]
  have:hasI z.ends x=false:=by
   rw [Bool.eq_false_iff];intro hh;have:=hzin x hh;omega
  rw [this,Bool.false_and,Bool.or_false]
 |[N],p::ps,lo,hF,hz,⟨m,h1,h2,h3⟩=>by
  cases ps with
  |nil=>exact h3.elim
  |cons a b=>exact h3.elim
 |N::N'::Ns,[],lo,hF,hz,⟨m,h1,h2,h3⟩=>h3.elim
 |[],[],_,_,_,h=>h.elim
 |[],_::_,_,_,_,h=>h.elim
theorem RelR.len {F:List (List Int)}:∀ {Ns:List Bud} {ps:List Prt} {lo hi:Nat},RelR F lo Ns ps hi->Ns.length=ps.length
 |[],[],_,_,_=>rfl
 |_::_,_::_,_,_,⟨_,_,_,h⟩=>by simp [h.len]
 |[],_::_,_,_,h=>h.elim
 |_::_,[],_,_,h=>h.elim
theorem xzhn:∀ l:List Bud,(plsLast l).length=l.length
 |[]=>rfl
 |[_]=>rfl
 |a::b::r=>by simp only [plsLast,List.length_cons];rw [xzhn (b::r)];rfl
theorem ref_rel (T:Tree)(hok:T.ok=true):∀ S:Mk,S.Ok->RefT T S:=by
 induction T using Tree.ind with
 |h k m l lo hi ih=>
  intro S hS
  by_cases h0:(Tree.node k m l lo hi).plN=0
  ·exact xzuz _ hok S hS h0
  have hop:=xzcb hok;have hokT:=xzlh hop.1;have hps:=xzln l (fun t ht=>⟨hop.1 t ht,ih t ht (hop.1 t ht)⟩) S hS;obtain⟨o1,o2,o3,o4⟩:=partsP_ok l S hokT hS;have hold:=xzpr _ hok S hS;have hinp:=(xzek _ hok S hS).inp;refine⟨?_,hold⟩
  have hpl:(Tree.node k m l lo hi).plN=((if k=1 then 1 else 0)+sumN l)*(if k=4 then(copiesI lo hi).toNat else 1):=by unfold Tree.plN;rfl
  rcases xzas hop.2 with⟨rfl,hl⟩|⟨rfl,hl⟩|⟨rfl,hl⟩|⟨rfl,hl⟩|⟨rfl,hl,hlo,_,hhi⟩
  ·obtain rfl:=List.eq_nil_of_length_eq_zero hl
   rw [hpl]at h0;simp [sumN]at h0
  ·have e:partP (.node 1 m l lo hi) S=(placeS S m,⟨[(S.sets.length:Int)],[(S.sets.length:Int)],false⟩):=by unfold partP;rw [if_pos rfl]
   have e2:(outT (.node 1 m l lo hi) S.sets.length).1=.pl S.sets.length m:=by unfold outT;rw [if_neg h0,if_pos rfl]
   rw [e]at hinp ⊢;rw [e2]
   have hone:∀ q,hasI [(S.sets.length:Int)] q=decide (q=S.sets.length):=fun q=>by
    unfold hasI;simp only [List.any_cons,List.any_nil,Bool.or_false];rw [Bool.eq_iff_iff];simp;omega
   refine⟨rfl,fun q=>(hone q).symm,fun q=>(hone q).symm,hinp,fun x q h1 h2=>?_,fun x q h=>by cases h⟩
   have hx:x=S.sets.length:=by simp [placeS]at h2;omega
   subst hx
   show false=hasI ((placeS S m).follow.getD S.sets.length []) q
   have:(placeS S m).follow.getD S.sets.length []=[]:=by
    unfold placeS;rw [List.getD_eq_getElem?_getD,<-hS.1];simp
   rw [this];rfl
  ·have e:partP (.node 2 m l lo hi) S=(⟨(partsP l S).1.sets,(inRowP l.length 0 (partsP l S).2 (partsP l S).1.follow).1⟩,(inRowP l.length 0 (partsP l S).2 (partsP l S).1.follow).2):=by
    unfold partP;rw [if_neg (by decide),if_pos rfl]
   have e2:(outT (.node 2 m l lo hi) S.sets.length).1=catL (outs l S.sets.length).1:=by unfold outT;rw [if_neg h0,if_neg (by decide),if_pos rfl]
   obtain⟨k1,k2,k3,k4,k5,k6,k7⟩:=xzht l.length _ _ 0 _ _ _ (by rw [o1.1];exact Nat.le_refl _) (fun p hp=>by rw [o1.1];exact o2 p hp) hps;have hlen:=(outs_n l S.sets.length hokT).2;rw [e,e2];generalize(outs l S.sets.length).1=Ns at*
   match Ns,hlen with
   |[],hlen=>simp at hlen;omega
   |a::r,hlen=>
    simp only [List.length_cons]at hlen;obtain⟨c1,c2,c3,c4⟩:=xzpo l.length r 1 a (by omega);have hm:decide ((l.length:Int)<=0)=false:=decide_eq_false (by omega);simp only [emR,fiR,laR,prR,hm,Bool.or_false,Int.zero_add]at k1 k2 k3 k5 k6;exact⟨by rw [k1];exact c1,fun q=>by rw [k2];exact c2 q,fun q=>by rw [k3];exact c3 q,k4,fun x q h1 h2=>by rw [k5 x q h1 h2];exact c4 x q,fun x q h=>k6 x q (by rw [<-c4 x q];exact h)⟩
  ·have e:partP (.node 3 m l lo hi) S=((partsP l S).1,eitherP ⟨[],[],false⟩ (partsP l S).2):=by
    unfold partP;rw [if_neg (by decide),if_neg (by decide),if_pos rfl]
   have e2:(outT (.node 3 m l lo hi) S.sets.length).1=altL (outs l S.sets.length).1:=by unfold outT;rw [if_neg h0,if_neg (by decide),if_neg (by decide),if_pos rfl]
   rw [e,e2];generalize(outs l S.sets.length).1=Ns at*;generalize(partsP l S).2=ps at*
   match Ns,ps,hps,o4 with
   |a::r,p::ps,⟨mid,h1,h2,h3⟩,_=>
    have hx:RelN (partsP l S).1.follow S.sets.length mid a (orP ⟨[],[],false⟩ p):=by
     have hn:∀ (x:List Int),mergedL [] x=x:=fun x=>by unfold mergedL;rw [if_pos rfl]
     have:orP ⟨[],[],false⟩ p=p:=by unfold orP;simp only [hn,Bool.false_or]
     rw [this];exact h2
    exact xzps _ r ps a _ _ mid _ h1 hx h3
   |[],[],_,h4=>simp at h4;omega
   |[],_::_,h,_=>exact h.elim
   |_::_,[],h,_=>exact h.elim
  ·obtain⟨t,rfl⟩:∃ t,l=[t]:=List.length_eq_one_iff.1 hl
   have hz:(copiesI lo hi).toNat≠0:=fun h=>h0 (by rw [hpl,if_neg (by decide),if_pos rfl,h,Nat.mul_zero])
   have hot:=hop.1 t (by simp);obtain⟨q1,q2,q3⟩:=xzbj t S (xzcw t hot) hS;obtain⟨b1,b2⟩:=ih t (by simp) hot S hS
   have ep:partsP [t] S=((partP t S).1,[(partP t S).2]):=by rw [partsP,partsP]
   have hout:=fun n=>xzhu t n (xzcw t hot)
   have e2:(outT (.node 4 m [t] lo hi) S.sets.length).1=repN lo.toNat (if hi<0 then plsLast (cpN (outT t) (copiesI lo hi).toNat S.sets.length).1 else(cpN (outT t) (copiesI lo hi).toNat S.sets.length).1):=by
    have hh:headOut [t]=outT t:=by funext n;simp only [headOut]
    unfold outT;rw [if_neg h0,if_neg (by decide),if_neg (by decide),if_neg (by decide),hh]
   have hcl:(cpN (outT t) (copiesI lo hi).toNat S.sets.length).1.length=(copiesI lo hi).toNat:=(cpN_n (outT t) t.plN hout _ _).2;obtain⟨X,hX⟩:∃ X,partP t S=X:=⟨_,rfl⟩;rw [hX]at q1 q2 q3 b1 b2 ep
   have e:partP (.node 4 m [t] lo hi) S=(let c:=copyN X.2 S.sets.length X.1.sets.length ((copiesI lo hi).toNat - 1) X.1 [X.2]
    let z:=c.2.getLastD ⟨[],[],true⟩
    let F:=if hi= -1 then linkF c.1.follow z.ends z.first else c.1.follow
    let y:=inRowP lo 0 c.2 F
    (⟨c.1.sets,y.1⟩,y.2)):=by
    unfold partP;rw [if_neg (by decide),if_neg (by decide),if_neg (by decide),if_pos rfl,if_neg hz,ep];rfl
   have hlt:S.sets.length<=X.1.sets.length:=by omega
   obtain⟨cc,hcc⟩:∃ cc,(copiesI lo hi).toNat=cc+1:=⟨(copiesI lo hi).toNat - 1,by omega⟩;have hcp:=xzpq t S.sets.length X.1.sets.length hlt q2 (fun n=>by rw [hout];omega) cc X.1 [X.2] [(outT t S.sets.length).1] q1 (Nat.le_refl _) (fun r hr=>q1.2 r (List.mem_of_mem_drop (List.mem_of_mem_take hr))) b1 ⟨_,hlt,b1,rfl⟩
   have hNs:[(outT t S.sets.length).1]++(cpN (outT t) cc X.1.sets.length).1=(cpN (outT t) (copiesI lo hi).toNat S.sets.length).1:=by
    rw [hcc];simp only [cpN];rw [hout,<-q3];rfl
   rw [hNs]at hcp;obtain⟨w1,w2,w3,w4⟩:=xzdq (p:=X.2) (i:=S.sets.length) (j:=X.1.sets.length) hlt q2 cc X.1 [X.2] q1 (Nat.le_refl _) (fun r hr=>q1.2 r (List.mem_of_mem_drop (List.mem_of_mem_take hr))) (fun q hq=>by obtain rfl:=List.mem_singleton.1 hq;exact q2);rw [hcc,Nat.add_sub_cancel]at e;rw [e2];generalize(cpN (outT t) (copiesI lo hi).toNat S.sets.length).1=Ns at*;generalize copyN X.2 S.sets.length X.1.sets.length cc X.1 [X.2]=c at*
   dsimp only at e
   obtain⟨init,z,hiz⟩:∃ init z,c.2=init++[z]:=by
    have:c.2≠[]:=fun h=>by rw [h]at w3;simp at w3;omega
    exact⟨c.2.dropLast,c.2.getLast this,(List.dropLast_concat_getLast this).symm⟩
   have hzl:c.2.getLastD ⟨[],[],true⟩=z:=by rw [hiz];simp
   rw [hzl]at e
   have hrel:RelR (if hi= -1 then linkF c.1.follow z.ends z.first else c.1.follow) S.sets.length (if hi<0 then plsLast Ns else Ns) c.2 c.1.sets.length:=by
    by_cases hh:hi= -1
    ·rw [if_pos hh,if_pos (by omega)]
     rw [hiz]at hcp ⊢
     exact xzpt (by rw [w1.1];exact Nat.le_refl _) (fun x hx=>by
      have:=xzfe (w4 z (by rw [hiz];simp)) x hx
      rw [w1.1];exact this) hcp
    ·rw [if_neg hh,if_neg (by omega)];exact hcp
   have hFl:(if hi= -1 then linkF c.1.follow z.ends z.first else c.1.follow).length=c.1.sets.length:=by
    split
    ·rw [xzbl,w1.1]
    ·exact w1.1
   have hNl:(if hi<0 then plsLast Ns else Ns).length=(copiesI lo hi).toNat:=by
    split
    ·rw [xzhn,hcl]
    ·exact hcl
   rw [e]at hinp ⊢
   dsimp only at hinp ⊢
   generalize(if hi= -1 then linkF c.1.follow z.ends z.first else c.1.follow)=F at*;generalize(if hi<0 then plsLast Ns else Ns)=Ms at*;obtain⟨k1,k2,k3,k4,k5,k6,k7⟩:=xzht lo _ _ 0 _ _ _ (by rw [hFl];exact Nat.le_refl _) (fun p hp=>by rw [hFl];exact w4 p hp) hrel;have hlo2:(lo.toNat:Int)=lo:=Int.toNat_of_nonneg hlo;obtain⟨r1,r2,r3,r4⟩:=xzte lo.toNat Ms 0 .e (by rw [hNl];unfold copiesI;split<;>omega);rw [Int.zero_add,hlo2]at r1 r2 r3 r4
   have s1:(repN lo.toNat Ms).em=emR lo 0 Ms:=by unfold repN;rw [r1];rfl
   have s2:∀ q,(repN lo.toNat Ms).fi q=fiR lo 0 Ms q:=fun q=>by unfold repN;rw [r2];rfl
   have s3:∀ q,(repN lo.toNat Ms).la q=laR lo 0 Ms q:=fun q=>by unfold repN;rw [r3];simp [Bud.la]
   have s4:∀ x q,(repN lo.toNat Ms).pr x q=prR lo 0 Ms x q:=fun x q=>by unfold repN;rw [r4];simp [Bud.la,Bud.pr]
   exact⟨s1.trans k1.symm,fun q=>(s2 q).trans (k2 q).symm,fun q=>(s3 q).trans (k3 q).symm,hinp,fun x q h1 h2=>(s4 x q).trans (k5 x q h1 h2).symm,fun x q h=>k6 x q (by rw [<-s4];exact h)⟩
end Go.Proofs.Ythoaaginadjaoaa
namespace Go.Proofs.Ythoaaginadjaoaa
open Go.RowKit
attribute [local irreducible] FreeW
def ndC (what n:Nat)(m:Nat->Bool)(x y:Value):Array Value:=#[.int .i64 (what:Nat),.int .i64 (n:Nat),.int .u64 (wd m 0:Nat),.int .u64 (wd m 1:Nat),.int .u64 (wd m 2:Nat),.int .u64 (wd m 3:Nat),x,y]
def no8:Nat->Bool:=fun _=>false
def BudAt (W:World):Bud->Value->Prop
 | .nil,v=>v=.pointer none
 | .e,v=>∃ k,v=.pointer (some ⟨k,0,none⟩)/\BlkIs W k 81 (ndC 0 0 no8 (.pointer none) (.pointer none))
 | .pl n m,v=>∃ k,v=.pointer (some ⟨k,0,none⟩)/\BlkIs W k 81 (ndC 1 n m (.pointer none) (.pointer none))
 | .cat a b,v=>∃ k x y,v=.pointer (some ⟨k,0,none⟩)/\BlkIs W k 81 (ndC 2 0 no8 x y)/\BudAt W a x/\BudAt W b y
 | .alt a b,v=>∃ k x y,v=.pointer (some ⟨k,0,none⟩)/\BlkIs W k 81 (ndC 3 0 no8 x y)/\BudAt W a x/\BudAt W b y
 | .pls a,v=>∃ k x,v=.pointer (some ⟨k,0,none⟩)/\BlkIs W k 81 (ndC 4 0 no8 x (.pointer none))/\BudAt W a x
theorem BudAt.kept {W W':World}(h:∀ k cs,BlkIs W k 81 cs->BlkIs W' k 81 cs):∀ {N:Bud} {v:Value},BudAt W N v->BudAt W' N v
 | .nil,_,hv=>hv
 | .e,_,⟨k,e,hb⟩=>⟨k,e,h _ _ hb⟩
 | .pl _ _,_,⟨k,e,hb⟩=>⟨k,e,h _ _ hb⟩
 | .cat _ _,_,⟨k,x,y,e,hb,h1,h2⟩=>⟨k,x,y,e,h _ _ hb,h1.kept h,h2.kept h⟩
 | .alt _ _,_,⟨k,x,y,e,hb,h1,h2⟩=>⟨k,x,y,e,h _ _ hb,h1.kept h,h2.kept h⟩
 | .pls _,_,⟨k,x,e,hb,h1⟩=>⟨k,x,e,h _ _ hb,h1.kept h⟩
theorem BudAt.step {W W':World}{N:Bud}{v:Value}(h:BudAt W N v)(hb:Below W.heap.size W W'):BudAt W' N v:=h.kept fun _ _ hk=>hk.step hb
theorem BudAt.form {W:World}{N:Bud}{v:Value}(h:BudAt W N v):∃ A,v=.pointer A:=by
 cases N with
 |nil=>exact⟨_,h⟩
 |e=>obtain⟨k,e,_⟩:=h;exact⟨_,e⟩
 |pl n m=>obtain⟨k,e,_⟩:=h;exact⟨_,e⟩
 |cat a b=>obtain⟨k,x,y,e,_⟩:=h;exact⟨_,e⟩
 |alt a b=>obtain⟨k,x,y,e,_⟩:=h;exact⟨_,e⟩
 |pls a=>obtain⟨k,x,e,_⟩:=h;exact⟨_,e⟩
set_option maxRecDepth 20000 in
set_option maxHeartbeats 8000000 in
theorem xzdi:∀ (N:Bud) (v:Value) (w:World),BudAt w N v->Calls Try.prog 28 #[v] w fun e w'=>e=.returned (.bool N.em)/\w'=w:=by
 intro N
 induction N with
 |nil=>
  intro v w hv;obtain rfl:=hv;unfold Bud.em
  go_enter Try.func28,Try.ntmps28
  go_wp2;go_ret;exact⟨rfl,rfl⟩
 |e=>
  intro v w hv;obtain⟨k,rfl,hb⟩:=hv;unfold Bud.em;unfold ndC at hb;obtain⟨c0,c1,c2,c3,c4,c5,c6,c7⟩:=hb.eight;clear hb
  go_enter Try.func28,Try.ntmps28
  go_wp2;go_ret;exact⟨rfl,rfl⟩
 |pl n m=>
  intro v w hv;obtain⟨k,rfl,hb⟩:=hv;unfold Bud.em;unfold ndC at hb;obtain⟨c0,c1,c2,c3,c4,c5,c6,c7⟩:=hb.eight;clear hb
  go_enter Try.func28,Try.ntmps28
  go_wp2;go_ret;exact⟨rfl,rfl⟩
 |cat a b iha ihb=>
  intro v w hv;obtain⟨k,x,y,rfl,hb,h1,h2⟩:=hv;have HA:=zd (iha x w h1);have HB:=zd (ihb y w h2);unfold Bud.em;unfold ndC at hb;obtain⟨A,rfl⟩:=h1.form;obtain⟨B,rfl⟩:=h2.form;obtain⟨c0,c1,c2,c3,c4,c5,c6,c7⟩:=hb.eight;clear hb h1 h2 iha ihb;generalize a.em=p at*;generalize b.em=q at*
  cases p with
  |true=>
   go_enter Try.func28,Try.ntmps28
   go_wp2_with(go_at_call 28;first|((with_reducible refine HA.out.mono ?_);rintro e u ⟨rfl,rfl⟩)|((with_reducible refine HB.out.mono ?_);rintro e u ⟨rfl,rfl⟩))
   go_ret;exact⟨by simp,rfl⟩
  |false=>
   go_enter Try.func28,Try.ntmps28
   go_wp2_with(go_at_call 28;(with_reducible refine HA.out.mono ?_);rintro e u ⟨rfl,rfl⟩)
   go_ret;exact⟨by simp,rfl⟩
 |alt a b iha ihb=>
  intro v w hv;obtain⟨k,x,y,rfl,hb,h1,h2⟩:=hv;have HA:=zd (iha x w h1);have HB:=zd (ihb y w h2);unfold Bud.em;unfold ndC at hb;obtain⟨A,rfl⟩:=h1.form;obtain⟨B,rfl⟩:=h2.form;obtain⟨c0,c1,c2,c3,c4,c5,c6,c7⟩:=hb.eight;clear hb h1 h2 iha ihb;generalize a.em=p at*;generalize b.em=q at*
  cases p with
  |true=>
   go_enter Try.func28,Try.ntmps28
   go_wp2_with(go_at_call 28;(with_reducible refine HA.out.mono ?_);rintro e u ⟨rfl,rfl⟩)
   go_ret;exact⟨by simp,rfl⟩
  |false=>
   go_enter Try.func28,Try.ntmps28
   go_wp2_with(go_at_call 28;first|((with_reducible refine HA.out.mono ?_);rintro e u ⟨rfl,rfl⟩)|((with_reducible refine HB.out.mono ?_);rintro e u ⟨rfl,rfl⟩))
   go_ret;exact⟨by simp,rfl⟩
 |pls a iha=>
  intro v w hv;obtain⟨k,x,rfl,hb,h1⟩:=hv;have HA:=zd (iha x w h1);unfold Bud.em;unfold ndC at hb;obtain⟨A,rfl⟩:=h1.form;obtain⟨c0,c1,c2,c3,c4,c5,c6,c7⟩:=hb.eight;clear hb h1 iha;generalize a.em=p at*
  go_enter Try.func28,Try.ntmps28
  go_wp2_with(go_at_call 28;(with_reducible refine HA.out.mono ?_);rintro e u ⟨rfl,rfl⟩)
  go_ret;exact⟨rfl,rfl⟩
end Go.Proofs.Ythoaaginadjaoaa
namespace Go.Proofs.Ythoaaginadjaoaa
open Go.RowKit
attribute [local irreducible] FreeW
structure On (g:Nat)(u u':World):Prop where
 os:u'.os=u.os
 tape:u'.tape=u.tape
 output:u'.output=u.output
 size:u.heap.size<=u'.heap.size
 block:∀ k,k<u.heap.size->k≠g->u'.heap[k]? =u.heap[k]?
theorem On.refl (g:Nat)(u:World):On g u u:=⟨rfl,rfl,rfl,Nat.le_refl _,fun _ _ _=>rfl⟩
theorem On.trans {g:Nat}{u v w:World}(h:On g u v)(h':On g v w):On g u w:=
 ⟨h'.os.trans h.os,h'.tape.trans h.tape,h'.output.trans h.output,Nat.le_trans h.size h'.size,fun k hk hg=>(h'.block k (Nat.lt_of_lt_of_le hk h.size) hg).trans (h.block k hk hg)⟩
theorem On.of {g:Nat}{u u':World}(h:Below u.heap.size u u'):On g u u':=⟨h.os,h.tape,h.output,h.size,fun k hk _=>h.block k hk⟩
theorem On.below {g B:Nat}{W0 u u':World}(h:On g u u')(hb:Below B W0 u)(hB:B<=W0.heap.size)(hg:B<=g):Below B W0 u':=
 ⟨h.os.trans hb.os,h.tape.trans hb.tape,h.output.trans hb.output,Nat.le_trans hb.size h.size,fun k hk=>(h.block k (by have:=hb.size;omega) (by omega)).trans (hb.block k hk)⟩
theorem On.put {g o:Nat}{u:World}(v:Value):On g u (u.setCell ⟨g,o,none⟩ v):=
 ⟨rfl,rfl,rfl,by rw [World.size_setCell];exact Nat.le_refl _,fun k _ hk=>Below.heap_setCell _ _ _ _ hk⟩
theorem On.blk {g k:Nat}{u u':World}{t:TypeId}{cs:Array Value}(h:On g u u')(hk:k≠g)(hb:BlkIs u k t cs):BlkIs u' k t cs:=(h.block k hb.lt hk).trans hb
theorem xzdj {u:World}{k g:Nat}{t t':TypeId}{cs cs':Array Value}(h:BlkIs u k t cs)(h':BlkIs u g t' cs')(ht:t≠t'):k≠g:=fun e=>by
 subst e;unfold BlkIs at h h';rw [h]at h'
 simp at h'
 exact ht h'.2
theorem BudAt.on {g:Nat}{u u':World}{t:TypeId}{cs:Array Value}(h:On g u u')(hg:BlkIs u g t cs)(ht:81≠t){N:Bud}{v:Value}(hv:BudAt u N v):BudAt u' N v:=
 hv.kept fun _ _ hk=>h.blk (xzdj hk hg ht) hk
namespace Bud
def inN (n:Nat):Bud->Prop
 | .nil=>True
 | .e=>True
 | .pl p _=>p<n
 | .cat a b=>a.inN n/\b.inN n
 | .alt a b=>a.inN n/\b.inN n
 | .pls a=>a.inN n
def rm (ends:Bool)(N:Bud)(q:Nat):Bool:=if ends then N.la q else N.fi q
end Bud
def RimIs (g n:Nat)(f:Nat->Bool)(w:World):Ending->World->Prop:=fun e w'=>(∃ x,e=.returned x)/\On g w w'/\BlkIs w' g 4 (bl n f)
theorem RimIs.of {g n:Nat}{f f':Nat->Bool}{w:World}{e:Ending}{w':World}(h:RimIs g n f w e w')(hf:∀ q,f q=f' q):RimIs g n f' w e w':=by
 obtain rfl:f=f':=funext hf;exact h
set_option maxRecDepth 20000 in
set_option maxHeartbeats 16000000 in
theorem xzev (n:Nat)(ends:Bool):∀ (N:Bud) (v:Value) (w:World) (g:Nat) (f:Nat->Bool),BudAt w N v->N.inN n->BlkIs w g 4 (bl n f)->
 Calls Try.prog 30 #[v,.slice (some ⟨g,0,none⟩) n n,.bool ends] w (RimIs g n (fun q=>f q||N.rm ends q) w):=by
 have hne:81≠4:=by decide
 intro N
 induction N with
 |nil=>
  intro v w g f hv hi hg;obtain rfl:=hv;have HG:=zd hg;clear hg
  have hf:(fun q=>f q||Bud.nil.rm ends q)=f:=by funext q;unfold Bud.rm;cases ends<;>simp [Bud.la,Bud.fi]
  rw [hf]
  go_enter Try.func30,Try.ntmps30
  go_wp2
  go_end0
  exact⟨⟨_,rfl⟩,On.refl _ _,HG.out⟩
 |e=>
  intro v w g f hv hi hg;obtain⟨k,rfl,hb⟩:=hv;have HG:=zd hg;clear hg
  have hf:(fun q=>f q||Bud.e.rm ends q)=f:=by funext q;unfold Bud.rm;cases ends<;>simp [Bud.la,Bud.fi]
  rw [hf];unfold ndC at hb;obtain⟨c0,c1,c2,c3,c4,c5,c6,c7⟩:=hb.eight;clear hb
  go_enter Try.func30,Try.ntmps30
  go_wp2
  go_end0
  exact⟨⟨_,rfl⟩,On.refl _ _,HG.out⟩
 |pl p m=>
  intro v w g f hv hi hg;obtain⟨k,rfl,hb⟩:=hv
  have hf:(fun q=>f q||(Bud.pl p m).rm ends q)=updS f p true:=by
   funext q
   unfold Bud.rm updS;have:(Bud.pl p m).la q=decide (q=p)/\(Bud.pl p m).fi q=decide (q=p):=⟨rfl,rfl⟩;rw [this.1,this.2]
   by_cases hq:q=p<;>simp [hq]
  rw [hf];have hi:p<n:=hi
  have hii:((p:Nat):Int)<(n:Nat):=by omega
  have c9:=xzao hg hi;have f9:=hg.frozen p;have hs9:=hg.put p (.bool true);rw [xzgq]at hs9;have HG:=zd hs9;clear hg hs9;unfold ndC at hb;obtain⟨c0,c1,c2,c3,c4,c5,c6,c7⟩:=hb.eight;clear hb
  go_enter Try.func30,Try.ntmps30
  go_wp2
  go_end0
  exact⟨⟨_,rfl⟩,On.put _,HG.out⟩
 |cat a b iha ihb=>
  intro v w g f hv hi hg;obtain⟨k,x,y,rfl,hb,h1,h2⟩:=hv;obtain⟨A,hA⟩:=h1.form;obtain⟨B,hB⟩:=h2.form;subst hA;subst hB;have HE:=zd (fun(u:World) (hu:On g w u)=>And.intro (xzdi a _ u (BudAt.on hu hg hne h1)) (xzdi b _ u (BudAt.on hu hg hne h2)));have HA:=zd (fun(u:World) (f':Nat->Bool) (hu:On g w u) (hg':BlkIs u g 4 (bl n f'))=>iha _ u g f' (BudAt.on hu hg hne h1) hi.1 hg');have HB:=zd (fun(u:World) (f':Nat->Bool) (hu:On g w u) (hg':BlkIs u g 4 (bl n f'))=>ihb _ u g f' (BudAt.on hu hg hne h2) hi.2 hg');unfold RimIs at HA HB;have HG:=zd hg;have HK:=zd (fun(u:World) (hu:On g w u)=>hu.blk (xzdj hb hg hne) hb);clear iha ihb h1 h2 hg;unfold ndC at hb HK;obtain⟨c0,c1,c2,c3,c4,c5,c6,c7⟩:=hb.eight;clear hb
  cases ends with
  |false=>
   go_enter Try.func30,Try.ntmps30
   go_wp2_with fail
   go_quiet (fail)
   have hod:On g w (w.drewN nq):=On.of (xzbb (Below.refl _ _) _);have hbd:BlkIs (w.drewN nq) g 4 (bl n f):=HG.out;obtain⟨wd,hwd⟩:∃ wd,w.drewN nq=wd:=⟨_,rfl⟩;rw [hwd]at hod hbd;rw [hwd];have HD:=zd (And.intro hod hbd);clear hod hbd hwd c0 c1 c2 c3 c4 c5 c6 c7;obtain⟨c0,c1,c2,c3,c4,c5,c6,c7⟩:=(HK.out wd HD.out.1).eight
   go_wp2_with fail
   go_at_call 30
   refine(HA.out wd f HD.out.1 HD.out.2).mono ?_;rintro e u1 ⟨⟨x1,rfl⟩,ho1,hb1⟩;have HU:=zd (And.intro (HD.out.1.trans ho1) hb1);clear ho1 hb1 c0 c1 c2 c3 c4 c5 c6 c7;obtain⟨c0,c1,c2,c3,c4,c5,c6,c7⟩:=(HK.out u1 HU.out.1).eight
   cases hem:a.em with
   |false=>
    have HM:=zd hem;have HE1:=zd (HE.out u1 HU.out.1).1;rw [hem]at HE1;clear hem
    go_wp2_with(go_at_call 28;refine HE1.out.mono ?_;rintro e u2 ⟨rfl,rfl⟩)
    go_end0
    exact RimIs.of ⟨⟨_,rfl⟩,HU.out.1,HU.out.2⟩ fun q=>by simp [Bud.rm,Bud.fi,HM.out]
   |true=>
    have HM:=zd hem;have HE1:=zd (HE.out u1 HU.out.1).1;rw [hem]at HE1;clear hem
    go_wp2_with(first
     |(go_at_call 28;refine HE1.out.mono ?_;rintro e u2 ⟨rfl,rfl⟩)
     |(go_at_call 30;refine(HB.out _ _ HU.out.1 HU.out.2).mono ?_;rintro e u3 ⟨⟨x3,rfl⟩,ho3,hb3⟩;have HV:=zd (And.intro (HU.out.1.trans ho3) hb3);clear ho3 hb3))
    go_end0
    exact RimIs.of ⟨⟨_,rfl⟩,HV.out.1,HV.out.2⟩ fun q=>by simp [Bud.rm,Bud.fi,HM.out,Bool.or_assoc]
  |true=>
   go_enter Try.func30,Try.ntmps30
   go_wp2_with fail
   go_quiet (fail)
   have hod:On g w (w.drewN nq):=On.of (xzbb (Below.refl _ _) _);have hbd:BlkIs (w.drewN nq) g 4 (bl n f):=HG.out;obtain⟨wd,hwd⟩:∃ wd,w.drewN nq=wd:=⟨_,rfl⟩;rw [hwd]at hod hbd;rw [hwd];have HD:=zd (And.intro hod hbd);clear hod hbd hwd c0 c1 c2 c3 c4 c5 c6 c7;obtain⟨c0,c1,c2,c3,c4,c5,c6,c7⟩:=(HK.out wd HD.out.1).eight
   go_wp2_with fail
   go_at_call 30
   refine(HB.out wd f HD.out.1 HD.out.2).mono ?_;rintro e u1 ⟨⟨x1,rfl⟩,ho1,hb1⟩;have HU:=zd (And.intro (HD.out.1.trans ho1) hb1);clear ho1 hb1 c0 c1 c2 c3 c4 c5 c6 c7;obtain⟨c0,c1,c2,c3,c4,c5,c6,c7⟩:=(HK.out u1 HU.out.1).eight
   cases hem:b.em with
   |false=>
    have HM:=zd hem;have HE1:=zd (HE.out u1 HU.out.1).2;rw [hem]at HE1;clear hem
    go_wp2_with(go_at_call 28;refine HE1.out.mono ?_;rintro e u2 ⟨rfl,rfl⟩)
    go_end0
    exact RimIs.of ⟨⟨_,rfl⟩,HU.out.1,HU.out.2⟩ fun q=>by simp [Bud.rm,Bud.la,HM.out]
   |true=>
    have HM:=zd hem;have HE1:=zd (HE.out u1 HU.out.1).2;rw [hem]at HE1;clear hem
    go_wp2_with(first
     |(go_at_call 28;refine HE1.out.mono ?_;rintro e u2 ⟨rfl,rfl⟩)
     |(go_at_call 30;refine(HA.out _ _ HU.out.1 HU.out.2).mono ?_;rintro e u3 ⟨⟨x3,rfl⟩,ho3,hb3⟩;have HV:=zd (And.intro (HU.out.1.trans ho3) hb3);clear ho3 hb3))
    go_end0
    exact RimIs.of ⟨⟨_,rfl⟩,HV.out.1,HV.out.2⟩ fun q=>by simp [Bud.rm,Bud.la,HM.out,Bool.or_assoc]
 |alt a b iha ihb=>
  intro v w g f hv hi hg;obtain⟨k,x,y,rfl,hb,h1,h2⟩:=hv;obtain⟨A,hA⟩:=h1.form;obtain⟨B,hB⟩:=h2.form;subst hA;subst hB;have HE:=zd (fun(u:World) (hu:On g w u)=>And.intro (xzdi a _ u (BudAt.on hu hg hne h1)) (xzdi b _ u (BudAt.on hu hg hne h2)));have HA:=zd (fun(u:World) (f':Nat->Bool) (hu:On g w u) (hg':BlkIs u g 4 (bl n f'))=>iha _ u g f' (BudAt.on hu hg hne h1) hi.1 hg');have HB:=zd (fun(u:World) (f':Nat->Bool) (hu:On g w u) (hg':BlkIs u g 4 (bl n f'))=>ihb _ u g f' (BudAt.on hu hg hne h2) hi.2 hg');unfold RimIs at HA HB;have HG:=zd hg;have HK:=zd (fun(u:World) (hu:On g w u)=>hu.blk (xzdj hb hg hne) hb);clear iha ihb h1 h2 hg;unfold ndC at hb HK;obtain⟨c0,c1,c2,c3,c4,c5,c6,c7⟩:=hb.eight;clear hb
  cases ends with
  |false=>
   go_enter Try.func30,Try.ntmps30
   go_wp2_with fail
   go_quiet (fail)
   have hod:On g w (w.drewN nq):=On.of (xzbb (Below.refl _ _) _);have hbd:BlkIs (w.drewN nq) g 4 (bl n f):=HG.out;obtain⟨wd,hwd⟩:∃ wd,w.drewN nq=wd:=⟨_,rfl⟩;rw [hwd]at hod hbd;rw [hwd];have HD:=zd (And.intro hod hbd);clear hod hbd hwd c0 c1 c2 c3 c4 c5 c6 c7;obtain⟨c0,c1,c2,c3,c4,c5,c6,c7⟩:=(HK.out wd HD.out.1).eight
   go_wp2_with fail
   go_at_call 30
   refine(HA.out wd f HD.out.1 HD.out.2).mono ?_;rintro e u1 ⟨⟨x1,rfl⟩,ho1,hb1⟩;have HU:=zd (And.intro (HD.out.1.trans ho1) hb1);clear ho1 hb1 c0 c1 c2 c3 c4 c5 c6 c7;obtain⟨c0,c1,c2,c3,c4,c5,c6,c7⟩:=(HK.out u1 HU.out.1).eight
   go_wp2_with(go_at_call 30;refine(HB.out _ _ HU.out.1 HU.out.2).mono ?_;rintro e u3 ⟨⟨x3,rfl⟩,ho3,hb3⟩;have HV:=zd (And.intro (HU.out.1.trans ho3) hb3);clear ho3 hb3)
   go_end0
   exact RimIs.of ⟨⟨_,rfl⟩,HV.out.1,HV.out.2⟩ fun q=>by simp [Bud.rm,Bud.fi,Bool.or_assoc]
  |true=>
   go_enter Try.func30,Try.ntmps30
   go_wp2_with fail
   go_quiet (fail)
   have hod:On g w (w.drewN nq):=On.of (xzbb (Below.refl _ _) _);have hbd:BlkIs (w.drewN nq) g 4 (bl n f):=HG.out;obtain⟨wd,hwd⟩:∃ wd,w.drewN nq=wd:=⟨_,rfl⟩;rw [hwd]at hod hbd;rw [hwd];have HD:=zd (And.intro hod hbd);clear hod hbd hwd c0 c1 c2 c3 c4 c5 c6 c7;obtain⟨c0,c1,c2,c3,c4,c5,c6,c7⟩:=(HK.out wd HD.out.1).eight
   go_wp2_with fail
   go_at_call 30
   refine(HA.out wd f HD.out.1 HD.out.2).mono ?_;rintro e u1 ⟨⟨x1,rfl⟩,ho1,hb1⟩;have HU:=zd (And.intro (HD.out.1.trans ho1) hb1);clear ho1 hb1 c0 c1 c2 c3 c4 c5 c6 c7;obtain⟨c0,c1,c2,c3,c4,c5,c6,c7⟩:=(HK.out u1 HU.out.1).eight
   go_wp2_with(go_at_call 30;refine(HB.out _ _ HU.out.1 HU.out.2).mono ?_;rintro e u3 ⟨⟨x3,rfl⟩,ho3,hb3⟩;have HV:=zd (And.intro (HU.out.1.trans ho3) hb3);clear ho3 hb3)
   go_end0
   exact RimIs.of ⟨⟨_,rfl⟩,HV.out.1,HV.out.2⟩ fun q=>by simp [Bud.rm,Bud.la,Bool.or_assoc]
 |pls a iha=>
  intro v w g f hv hi hg;obtain⟨k,x,rfl,hb,h1⟩:=hv;obtain⟨A,hA⟩:=h1.form;subst hA;have HA:=zd (fun(u:World) (f':Nat->Bool) (hu:On g w u) (hg':BlkIs u g 4 (bl n f'))=>iha _ u g f' (BudAt.on hu hg hne h1) hi hg');unfold RimIs at HA;have HG:=zd hg;have HK:=zd (fun(u:World) (hu:On g w u)=>hu.blk (xzdj hb hg hne) hb);clear iha h1 hg;unfold ndC at hb HK;obtain⟨c0,c1,c2,c3,c4,c5,c6,c7⟩:=hb.eight;clear hb
  cases ends with
  |false=>
   go_enter Try.func30,Try.ntmps30
   go_wp2_with fail
   go_quiet (fail)
   have hod:On g w (w.drewN nq):=On.of (xzbb (Below.refl _ _) _);have hbd:BlkIs (w.drewN nq) g 4 (bl n f):=HG.out;obtain⟨wd,hwd⟩:∃ wd,w.drewN nq=wd:=⟨_,rfl⟩;rw [hwd]at hod hbd;rw [hwd];have HD:=zd (And.intro hod hbd);clear hod hbd hwd c0 c1 c2 c3 c4 c5 c6 c7;obtain⟨c0,c1,c2,c3,c4,c5,c6,c7⟩:=(HK.out wd HD.out.1).eight
   go_wp2_with fail
   go_at_call 30
   refine(HA.out wd f HD.out.1 HD.out.2).mono ?_;rintro e u1 ⟨⟨x1,rfl⟩,ho1,hb1⟩;have HU:=zd (And.intro (HD.out.1.trans ho1) hb1);clear ho1 hb1 c0 c1 c2 c3 c4 c5 c6 c7;obtain⟨c0,c1,c2,c3,c4,c5,c6,c7⟩:=(HK.out u1 HU.out.1).eight;go_wp2
   go_end0
   exact RimIs.of ⟨⟨_,rfl⟩,HU.out.1,HU.out.2⟩ fun q=>by simp [Bud.rm,Bud.fi]
  |true=>
   go_enter Try.func30,Try.ntmps30
   go_wp2_with fail
   go_quiet (fail)
   have hod:On g w (w.drewN nq):=On.of (xzbb (Below.refl _ _) _);have hbd:BlkIs (w.drewN nq) g 4 (bl n f):=HG.out;obtain⟨wd,hwd⟩:∃ wd,w.drewN nq=wd:=⟨_,rfl⟩;rw [hwd]at hod hbd;rw [hwd];have HD:=zd (And.intro hod hbd);clear hod hbd hwd c0 c1 c2 c3 c4 c5 c6 c7;obtain⟨c0,c1,c2,c3,c4,c5,c6,c7⟩:=(HK.out wd HD.out.1).eight
   go_wp2_with fail
   go_at_call 30
   refine(HA.out wd f HD.out.1 HD.out.2).mono ?_;rintro e u1 ⟨⟨x1,rfl⟩,ho1,hb1⟩;have HU:=zd (And.intro (HD.out.1.trans ho1) hb1);clear ho1 hb1 c0 c1 c2 c3 c4 c5 c6 c7;obtain⟨c0,c1,c2,c3,c4,c5,c6,c7⟩:=(HK.out u1 HU.out.1).eight;go_wp2
   go_end0
   exact RimIs.of ⟨⟨_,rfl⟩,HU.out.1,HU.out.2⟩ fun q=>by simp [Bud.rm,Bud.la]
end Go.Proofs.Ythoaaginadjaoaa
