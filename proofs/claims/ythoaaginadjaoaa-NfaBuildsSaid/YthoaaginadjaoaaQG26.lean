/-
 WHAT nfa.Build ANSWERS of rules that may be, whose parts are made as said: a contract. Condition: as many places as may be.
-/
import Derived.Laws.ResultCell
import Derived.Test.YthoaaginadjaoaaQG25
namespace Go.Proofs.Ythoaaginadjaoaa
section
open Go.RowKit
attribute [local irreducible] FreeW textFrame
structure Bs where
 S:Mk
 R:List Int
 F:List Int
 E:List Bool
 em:Int
def Bs.add (x:Bs)(i:Int)(T:Tree):Bs:=⟨(partP T x.S).1,x.R++List.replicate T.plN i,x.F++(partP T x.S).2.first,marksE (x.E++List.replicate T.plN false) (partP T x.S).2.ends,if(partP T x.S).2.empty&&x.em== -1 then i else x.em⟩
def Bs.none:Bs:=⟨⟨[],[]⟩,[],[],[], -1⟩
def Bs.all:Bs->Int->List Tree->Bs
 |x,_,[]=>x
 |x,i,t::r=>Bs.all (x.add i t) (i+1) r
theorem Bs.all_snoc (t:Tree):∀ (l:List Tree) (x:Bs) (i:Int),Bs.all x i (l++[t])=(Bs.all x i l).add (i+l.length) t
 |[],x,i=>by simp [Bs.all]
 |y::l,x,i=>by
  simp only [List.cons_append,Bs.all,Bs.all_snoc t l,List.length_cons]
  congr 1
  omega
def buildN (l:List Tree):Nf:=let x:=Bs.all Bs.none 0 l;⟨x.S.sets,x.R,x.F,x.S.follow,x.E,x.em⟩
structure Bs.Ok (x:Bs)(n c:Nat):Prop where
 ks:x.S.Ok
 kn:x.S.sets.length=n
 kr:x.R.length=n
 ke:x.E.length=n
 kf:x.F.length<=c*2000
theorem Bs.add_ok {x:Bs}{n c:Nat}(h:x.Ok n c)(i:Int)(T:Tree)(hT:T.okT)(hn:n+T.plN<=2000):(x.add i T).Ok (n+T.plN) (c+1):=by
 obtain⟨h1,h2,h3⟩:=xzbj T x.S hT h.ks;have h4:=xzai h2.1;refine⟨h1,by rw [<-h.kn];exact h3,by simp [Bs.add,h.kr],by simp [Bs.add,xzdh,h.ke],?_⟩;have:=h.kf;have:=h.kn;simp only [Bs.add,List.length_append];omega
theorem Bs.all_ok:∀ (l:List Tree) (x:Bs) (i:Int) (n c:Nat),x.Ok n c->okTs l->n+sumN l<=2000->(Bs.all x i l).Ok (n+sumN l) (c+l.length)
 |[],x,i,n,c,h,_,_=>by simpa [Bs.all,sumN]using h
 |t::l,x,i,n,c,h,hT,hn=>by
  unfold okTs at hT;simp only [sumN]at hn;have h1:=Bs.add_ok h i t hT.1 (by omega);have:=Bs.all_ok l (x.add i t) (i+1) _ _ h1 hT.2 (by omega);simp only [Bs.all,sumN,List.length_cons];rw [show n+(t.plN+sumN l)=n+t.plN+sumN l by omega,show c+(l.length+1)=c+1+l.length by omega];exact this
theorem xzhg {W:World}{v:Value}{l:List (Nat->Bool)}(h:W.ownsRow 0 37 4 v l.length (cellsS l)):SetsV W l v:=by
 rcases h.2 with⟨rfl,h1⟩|⟨g,cap,cur,rfl,h2,h3,h4,h5,h6,h7⟩
 ·obtain rfl:=List.eq_nil_of_length_eq_zero h1
  exact⟨_,_,rfl,⟨Nat.le_refl _,by decide⟩,fun h=>absurd rfl h⟩
 ·refine⟨_,cap,rfl,⟨h4,by unfold maxLen at h5;omega⟩,fun _=>⟨g,0,rfl,(Array.getElem?_eq_some_iff.1 h3).1,fun i hi k hk=>?_⟩⟩
  have e:(cellsS l)[i*4+k]? =some (.int .u64 (wd l[i] k:Nat)):=by
   have hs:=congrArg cellsS (List.take_append_drop i l);rw [xzin,List.drop_eq_getElem_cons hi]at hs
   have hl:(cellsS (l.take i)).length=i*4:=by rw [xzcl,List.length_take];omega
   rw [<-hs,List.getElem?_append_right (by omega),hl,Nat.add_sub_cancel_left];simp only [cellsS,List.flatMap_cons]
   have hk4:k=0\/k=1\/k=2\/k=3:=by omega
   rcases hk4 with rfl|rfl|rfl|rfl<;>rfl
  have:=h.cells (g:=g) rfl _ _ e
  rwa [Addr.add_lit,<-Nat.add_assoc]at this
theorem xzjx {W:World}{v:Value}{l:List Bool}(h:W.ownsRow 0 4 1 v l.length (l.map Value.bool)):BoolsV W l v:=by
 rcases h.2 with⟨rfl,h1⟩|⟨g,cap,cur,rfl,h2,h3,h4,h5,h6,h7⟩
 ·obtain rfl:=List.eq_nil_of_length_eq_zero h1
  exact⟨_,_,rfl,⟨Nat.le_refl _,by decide⟩,fun h=>absurd rfl h⟩
 ·refine⟨_,cap,rfl,⟨h4,by unfold maxLen at h5;omega⟩,fun _=>⟨g,0,rfl,(Array.getElem?_eq_some_iff.1 h3).1,fun i hi=>?_⟩⟩
  have:=h.cells (g:=g) rfl i (.bool l[i]) (by simp [hi])
  rwa [Addr.add_lit]at this
theorem xzir {M K:Nat->Bool}{W:World}{pb:Nat}{S:Mk}{r f e m vs vf:Value}{xs:List Value}(h:MkI M K W pb S r f e m vs vf xs):RowsI W S.follow vf:=by
 by_cases hne:S.follow=[]
 ·obtain⟨A,c,rfl,hc⟩:=xzak h.own3
  exact⟨A,c,rfl,hc,fun h=>absurd hne h⟩
 ·obtain⟨g,c,rfl,hc,_,_,hg,hr⟩:=h.place hne
  refine⟨_,c,rfl,hc,fun _=>⟨g,0,rfl,hg,fun i hi=>?_⟩⟩;obtain⟨A,n,c',h1,_,h2⟩:=hr i hi;exact⟨_,by rw [Nat.zero_add];exact h1,h2.bare⟩
end
section
open Go.RowKit
structure Gr where
 st:Nat->Nat->Bool
 fo:Nat->Nat->Bool
def Gr.hit (G:Gr)(s:List UInt8)(p i:Nat):Prop:=∃ c,s[i]? =some c/\G.st p c.toNat=true
inductive Rch (G:Gr)(s:List UInt8)(p i:Nat):Nat->Nat->Prop
 |refl:Rch G s p i p i
 |step {q k r:Nat}:Rch G s p i q k->G.fo q r=true->G.hit s r (k+1)->Rch G s p i r (k+1)
theorem Rch.trans {G:Gr}{s:List UInt8}{p i q k r m:Nat}(h:Rch G s p i q k)(h':Rch G s q k r m):Rch G s p i r m:=by
 induction h' with
 |refl=>exact h
 |step _ h1 h2 ih=>exact .step ih h1 h2
theorem Rch.le {G:Gr}{s:List UInt8}{p i q k:Nat}(h:Rch G s p i q k):i<=k:=by
 induction h with
 |refl=>exact Nat.le_refl _
 |step _ _ _ ih=>omega
theorem Rch.cons {G:Gr}{s:List UInt8}{p i q r m:Nat}(h1:G.fo p q=true)(h2:G.hit s q (i+1))(h:Rch G s q (i+1) r m):Rch G s p i r m:=(Rch.step .refl h1 h2).trans h
theorem Gr.hit_lt {G:Gr}{s:List UInt8}{p i:Nat}(h:G.hit s p i):i<s.length:=by
 obtain⟨c,h,_⟩:=h;exact(List.getElem?_eq_some_iff.1 h).1
def PR (G:Gr)(s:List UInt8)(p:Prt)(j k:Nat):Prop:=
 (p.empty=true/\j=k)\/ ∃ a b k',hasI p.first a=true/\hasI p.ends b=true/\G.hit s a j/\Rch G s a j b k'/\k=k'+1
theorem Rch.hit {G:Gr}{s:List UInt8}{p i q k:Nat}(h:Rch G s p i q k)(h0:G.hit s p i):G.hit s q k:=by
 cases h with
 |refl=>exact h0
 |step _ _ h2=>exact h2
theorem PR.le {G:Gr}{s:List UInt8}{p:Prt}{j k:Nat}(h:PR G s p j k):j<=k/\(j<k->k<=s.length):=by
 rcases h with⟨_,rfl⟩|⟨a,b,k',_,_,h1,h2,rfl⟩
 ·exact⟨Nat.le_refl _,fun h=>absurd h (by omega)⟩
 ·have:=h2.le
  have:=Gr.hit_lt (h2.hit h1);exact⟨by omega,fun _=>by omega⟩
def InP (lo hi:Nat)(p:Prt):Prop:=(∀ a,hasI p.first a=true->lo<=a/\a<hi)/\∀ a,hasI p.ends a=true->lo<=a/\a<hi
def Cl (G:Gr)(lo hi:Nat):Prop:=∀ a b,lo<=a->a<hi->G.fo a b=true->lo<=b/\b<hi
def Ag (G G':Gr)(lo hi:Nat):Prop:=∀ a,lo<=a->a<hi->G'.st a=G.st a/\G'.fo a=G.fo a
theorem Ag.symm {G G':Gr}{lo hi:Nat}(h:Ag G G' lo hi):Ag G' G lo hi:=fun a h1 h2=>⟨(h a h1 h2).1.symm,(h a h1 h2).2.symm⟩
theorem Ag.refl (G:Gr)(lo hi:Nat):Ag G G lo hi:=fun _ _ _=>⟨rfl,rfl⟩
theorem Ag.trans {G G' G'':Gr}{lo hi:Nat}(h:Ag G G' lo hi)(h':Ag G' G'' lo hi):Ag G G'' lo hi:=fun a h1 h2=>⟨(h' a h1 h2).1.trans (h a h1 h2).1,(h' a h1 h2).2.trans (h a h1 h2).2⟩
theorem Ag.sub {G G':Gr}{lo hi lo' hi':Nat}(h:Ag G G' lo hi)(h1:lo<=lo')(h2:hi'<=hi):Ag G G' lo' hi':=fun a h3 h4=>h a (by omega) (by omega)
theorem Cl.ag {G G':Gr}{lo hi:Nat}(h:Cl G lo hi)(ha:Ag G G' lo hi):Cl G' lo hi:=fun a b h1 h2 h3=>h a b h1 h2 (by rw [(ha a h1 h2).2]at h3;exact h3)
theorem InP.mono {lo hi lo' hi':Nat}{p:Prt}(h:InP lo hi p)(h1:lo'<=lo)(h2:hi<=hi'):InP lo' hi' p:=⟨fun a ha=>by have:=h.1 a ha;omega,fun a ha=>by have:=h.2 a ha;omega⟩
theorem Cl.cat {G:Gr}{lo mid hi:Nat}(h:Cl G lo mid)(h':Cl G mid hi)(h1:lo<=mid)(h2:mid<=hi):Cl G lo hi:=fun a b g1 g2 g3=>by
 by_cases hm:a<mid
 ·have:=h a b g1 hm g3;omega
 ·have:=h' a b (by omega) g2 g3;omega
theorem Gr.hit_ag {G G':Gr}{lo hi:Nat}{s:List UInt8}(ha:Ag G G' lo hi){p i:Nat}(h1:lo<=p)(h2:p<hi):G'.hit s p i↔G.hit s p i:=by
 unfold Gr.hit;rw [(ha p h1 h2).1]
theorem Rch.stay {G:Gr}{lo hi:Nat}(hc:Cl G lo hi){s:List UInt8}{p i q k:Nat}(h:Rch G s p i q k)(h1:lo<=p)(h2:p<hi):lo<=q/\q<hi:=by
 induction h with
 |refl=>exact⟨h1,h2⟩
 |step _ h4 _ ih=>exact hc _ _ ih.1 ih.2 h4
theorem Rch.ag {G G':Gr}{lo hi:Nat}(hc:Cl G lo hi)(ha:Ag G G' lo hi){s:List UInt8}{p i q k:Nat}(h:Rch G s p i q k)(h1:lo<=p)(h2:p<hi):Rch G' s p i q k:=by
 induction h with
 |refl=>exact .refl
 |step h3 h4 h5 ih=>
  have hq:=h3.stay hc h1 h2;have hr:=hc _ _ hq.1 hq.2 h4;exact .step ih (by rw [(ha _ hq.1 hq.2).2];exact h4) ((Gr.hit_ag ha hr.1 hr.2).2 h5)
theorem PR.ag1 {G G':Gr}{lo hi:Nat}(hc:Cl G lo hi)(ha:Ag G G' lo hi){p:Prt}(hp:InP lo hi p){s:List UInt8}{j k:Nat}(h:PR G s p j k):PR G' s p j k:=by
 rcases h with h|⟨a,b,k',h1,h2,h3,h4,h5⟩
 ·exact .inl h
 ·have hx:=hp.1 a h1
  exact .inr ⟨a,b,k',h1,h2,(Gr.hit_ag ha hx.1 hx.2).2 h3,h4.ag hc ha hx.1 hx.2,h5⟩
theorem PR.ag {G G':Gr}{lo hi:Nat}(hc:Cl G lo hi)(ha:Ag G G' lo hi){p:Prt}(hp:InP lo hi p){s:List UInt8}{j k:Nat}:PR G' s p j k↔PR G s p j k:=
 ⟨fun h=>h.ag1 (hc.ag ha) ha.symm hp,fun h=>h.ag1 hc ha hp⟩
structure Lnk (G G':Gr)(e f:List Int):Prop where
 st:∀ a,G'.st a=G.st a
 fo:∀ a b,G'.fo a b=(G.fo a b||(hasI e a&&hasI f b))
theorem Lnk.hit {G G':Gr}{e f:List Int}(h:Lnk G G' e f){s:List UInt8}{p i:Nat}:G'.hit s p i↔G.hit s p i:=by
 unfold Gr.hit;rw [h.st]
theorem Rch.lnk {G G':Gr}{e f:List Int}(hl:Lnk G G' e f){s:List UInt8}{p i q k:Nat}(h:Rch G s p i q k):Rch G' s p i q k:=by
 induction h with
 |refl=>exact .refl
 |step _ h4 h5 ih=>exact .step ih (by rw [hl.fo,h4];rfl) (hl.hit.2 h5)
theorem PR.lnk {G G':Gr}{e f:List Int}(hl:Lnk G G' e f){s:List UInt8}{p:Prt}{j k:Nat}(h:PR G s p j k):PR G' s p j k:=by
 rcases h with h|⟨a,b,k',h1,h2,h3,h4,h5⟩
 ·exact .inl h
 ·exact .inr ⟨a,b,k',h1,h2,hl.hit.2 h3,h4.lnk hl,h5⟩
section
variable {G G' : Gr} {lo mid hi : Nat} {p q : Prt}
theorem xzou (hl:Lnk G G' p.ends q.first)(hp:InP lo mid p)(hq:InP mid hi q)(c1:Cl G lo mid)(c2:Cl G mid hi){s:List UInt8}{a i b k:Nat}(h:Rch G' s a i b k)(h1:lo<=a)(h2:a<mid):
 (lo<=b/\b<mid/\Rch G s a i b k)\/(mid<=b/\b<hi/\∃ e f m,hasI p.ends e=true/\hasI q.first f=true/\Rch G s a i e m/\G.hit s f (m+1)/\Rch G s f (m+1) b k):=by
 induction h with
 |refl=>exact .inl ⟨h1,h2,.refl⟩
 |step h3 h4 h5 ih=>
  rw [hl.fo,Bool.or_eq_true,Bool.and_eq_true]at h4;have h5:=hl.hit.1 h5
  rcases ih with⟨i1,i2,i3⟩|⟨i1,i2,e,f,m,g1,g2,g3,g4,g5⟩
  ·rcases h4 with h4|⟨h4,h6⟩
   ·have:=c1 _ _ i1 i2 h4
    exact .inl ⟨this.1,this.2,.step i3 h4 h5⟩
   ·have:=hq.1 _ h6
    exact .inr ⟨this.1,this.2,_,_,_,h4,h6,i3,h5,.refl⟩
  ·rcases h4 with h4|⟨h4,h6⟩
   ·have:=c2 _ _ i1 i2 h4
    exact .inr ⟨this.1,this.2,e,f,m,g1,g2,g3,g4,.step g5 h4 h5⟩
   ·have:=hp.2 _ h4;omega
theorem xzov (hl:Lnk G G' p.ends q.first)(hp:InP lo mid p)(c2:Cl G mid hi){s:List UInt8}{a i b k:Nat}(h:Rch G' s a i b k)(h1:mid<=a)(h2:a<hi):mid<=b/\b<hi/\Rch G s a i b k:=by
 induction h with
 |refl=>exact⟨h1,h2,.refl⟩
 |step h3 h4 h5 ih=>
  rw [hl.fo,Bool.or_eq_true,Bool.and_eq_true]at h4;have h5:=hl.hit.1 h5
  rcases h4 with h4|⟨h4,h6⟩
  ·have:=c2 _ _ ih.1 ih.2.1 h4
   exact⟨this.1,this.2,.step ih.2.2 h4 h5⟩
  ·have:=hp.2 _ h4;omega
theorem xzcm (a:Nat):hasI (bothP p q).first a=(hasI p.first a||(p.empty&&hasI q.first a)):=by
 unfold bothP
 cases p.empty<;>simp [xzba]
theorem xzdn (a:Nat):hasI (bothP p q).ends a=(hasI q.ends a||(q.empty&&hasI p.ends a)):=by
 unfold bothP
 cases q.empty<;>simp [xzba,Bool.or_comm]
theorem xztd (hp:InP lo mid p)(hq:InP mid hi q)(h1:lo<=mid)(h2:mid<=hi):InP lo hi (bothP p q):=by
 refine⟨fun a ha=>?_,fun a ha=>?_⟩
 ·rw [xzcm,Bool.or_eq_true,Bool.and_eq_true]at ha
  rcases ha with ha|ha
  ·have:=hp.1 a ha;omega
  ·have:=hq.1 a ha.2;omega
 ·rw [xzdn,Bool.or_eq_true,Bool.and_eq_true]at ha
  rcases ha with ha|ha
  ·have:=hq.2 a ha;omega
  ·have:=hp.2 a ha.2;omega
theorem both_cl (hl:Lnk G G' p.ends q.first)(hq:InP mid hi q)(c1:Cl G lo mid)(c2:Cl G mid hi)(h1:lo<=mid)(h2:mid<=hi):Cl G' lo hi:=fun a b g1 g2 g3=>by
 rw [hl.fo,Bool.or_eq_true,Bool.and_eq_true]at g3
 rcases g3 with g3|g3
 ·exact c1.cat c2 h1 h2 a b g1 g2 g3
 ·have:=hq.1 _ g3.2;omega
theorem xzow (hl:Lnk G G' p.ends q.first)(hp:InP lo mid p)(hq:InP mid hi q)(c1:Cl G lo mid)(c2:Cl G mid hi)(s:List UInt8)(j k:Nat):
 PR G' s (bothP p q) j k↔ ∃ m,PR G s p j m/\PR G s q m k:=by
 constructor
 ·rintro(⟨h,rfl⟩|⟨a,b,k',h1,h2,h3,h4,rfl⟩)
  ·have h:(p.empty&&q.empty)=true:=h
   rw [Bool.and_eq_true]at h;exact⟨j,.inl ⟨h.1,rfl⟩,.inl ⟨h.2,rfl⟩⟩
  ·rw [xzcm,Bool.or_eq_true,Bool.and_eq_true]at h1
   rw [xzdn,Bool.or_eq_true,Bool.and_eq_true]at h2;have h3:=hl.hit.1 h3
   rcases h1 with h1|⟨h0,h1⟩
   ·have ha:=hp.1 a h1
    rcases xzou hl hp hq c1 c2 h4 ha.1 ha.2 with⟨i1,i2,i3⟩|⟨i1,i2,e,f,m,g1,g2,g3,g4,g5⟩
    ·rcases h2 with h2|⟨h2,h2'⟩
     ·have:=hq.2 b h2;omega
     ·exact⟨k'+1,.inr ⟨a,b,k',h1,h2',h3,i3,rfl⟩,.inl ⟨h2,rfl⟩⟩
    ·rcases h2 with h2|⟨h2,h2'⟩
     ·exact⟨m+1,.inr ⟨a,e,m,h1,g1,h3,g3,rfl⟩,.inr ⟨f,b,k',g2,h2,g4,g5,rfl⟩⟩
     ·have:=hp.2 b h2';omega
   ·have ha:=hq.1 a h1
    obtain⟨i1,i2,i3⟩:=xzov hl hp c2 h4 ha.1 ha.2
    rcases h2 with h2|⟨h2,h2'⟩
    ·exact⟨j,.inl ⟨h0,rfl⟩,.inr ⟨a,b,k',h1,h2,h3,i3,rfl⟩⟩
    ·have:=hp.2 b h2';omega
 ·rintro⟨m,(⟨h1,rfl⟩|⟨a,b,k',h1,h2,h3,h4,rfl⟩),(⟨g1,rfl⟩|⟨a',b',k'',g1,g2,g3,g4,rfl⟩)⟩
  ·exact .inl ⟨by show(p.empty&&q.empty)=true;rw [h1,g1];rfl,rfl⟩
  ·exact .inr ⟨a',b',k'',by rw [xzcm,h1,g1];simp,by rw [xzdn,g2];rfl,hl.hit.2 g3,g4.lnk hl,rfl⟩
  ·exact .inr ⟨a,b,k',by rw [xzcm,h1];rfl,by rw [xzdn,g1,h2];simp,hl.hit.2 h3,h4.lnk hl,rfl⟩
  ·exact .inr ⟨a,b',k'',by rw [xzcm,h1];rfl,by rw [xzdn,g2];rfl,hl.hit.2 h3,
    (h4.lnk hl).trans (Rch.cons (by rw [hl.fo,h2,g1];simp) (hl.hit.2 g3) (g4.lnk hl)),rfl⟩
theorem xzuo (hp:InP lo mid p)(hq:InP mid hi q)(c1:Cl G lo mid)(c2:Cl G mid hi)(s:List UInt8)(j k:Nat):PR G s (orP p q) j k↔PR G s p j k\/PR G s q j k:=by
 constructor
 ·rintro(⟨h,rfl⟩|⟨a,b,k',h1,h2,h3,h4,rfl⟩)
  ·have h:(p.empty||q.empty)=true:=h
   rw [Bool.or_eq_true]at h
   rcases h with h|h
   ·exact .inl (.inl ⟨h,rfl⟩)
   ·exact .inr (.inl ⟨h,rfl⟩)
  ·have h1:hasI (mergedL p.first q.first) a=true:=h1
   have h2:hasI (mergedL p.ends q.ends) b=true:=h2;rw [xzba,Bool.or_eq_true]at h1 h2
   rcases h1 with h1|h1
   ·have ha:=hp.1 a h1
    have hb:=h4.stay c1 ha.1 ha.2
    rcases h2 with h2|h2
    ·exact .inl (.inr ⟨a,b,k',h1,h2,h3,h4,rfl⟩)
    ·have:=hq.2 b h2;omega
   ·have ha:=hq.1 a h1
    have hb:=h4.stay c2 ha.1 ha.2
    rcases h2 with h2|h2
    ·have:=hp.2 b h2;omega
    ·exact .inr (.inr ⟨a,b,k',h1,h2,h3,h4,rfl⟩)
 ·have hf:∀ a,hasI (orP p q).first a=(hasI p.first a||hasI q.first a):=fun a=>xzba _ _ _
  have he:∀ a,hasI (orP p q).ends a=(hasI p.ends a||hasI q.ends a):=fun a=>xzba _ _ _
  rintro((⟨h,rfl⟩|⟨a,b,k',h1,h2,h3,h4,rfl⟩)|(⟨h,rfl⟩|⟨a,b,k',h1,h2,h3,h4,rfl⟩))
  ·exact .inl ⟨by show(p.empty||q.empty)=true;rw [h];rfl,rfl⟩
  ·exact .inr ⟨a,b,k',by rw [hf,h1];rfl,by rw [he,h2];rfl,h3,h4,rfl⟩
  ·exact .inl ⟨by show(p.empty||q.empty)=true;rw [h];simp,rfl⟩
  ·exact .inr ⟨a,b,k',by rw [hf,h1];simp,by rw [he,h2];simp,h3,h4,rfl⟩
theorem or_in (hp:InP lo mid p)(hq:InP mid hi q)(h1:lo<=mid)(h2:mid<=hi):InP lo hi (orP p q):=by
 refine⟨fun a ha=>?_,fun a ha=>?_⟩
 ·have ha:hasI (mergedL p.first q.first) a=true:=ha
  rw [xzba,Bool.or_eq_true]at ha
  rcases ha with ha|ha
  ·have:=hp.1 a ha;omega
  ·have:=hq.1 a ha;omega
 ·have ha:hasI (mergedL p.ends q.ends) a=true:=ha
  rw [xzba,Bool.or_eq_true]at ha
  rcases ha with ha|ha
  ·have:=hp.2 a ha;omega
  ·have:=hq.2 a ha;omega
end
inductive Pls (R:Nat->Nat->Prop)(j:Nat):Nat->Prop
 |one {k:Nat}:R j k->Pls R j k
 |more {m k:Nat}:Pls R j m->R m k->Pls R j k
theorem Pls.mono {R R':Nat->Nat->Prop}(h:∀ j k,R j k->R' j k){j k:Nat}(hp:Pls R j k):Pls R' j k:=by
 induction hp with
 |one h1=>exact .one (h _ _ h1)
 |more _ h1 ih=>exact .more ih (h _ _ h1)
theorem xzox {G G':Gr}{p:Prt}(hl:Lnk G G' p.ends p.first){s:List UInt8}{a j b k:Nat}(h:Rch G' s a j b k)(h1:hasI p.first a=true)(h2:G.hit s a j):
 ∃ f m,hasI p.first f=true/\G.hit s f m/\(m=j\/Pls (PR G s p) j m)/\Rch G s f m b k:=by
 induction h with
 |refl=>exact⟨a,j,h1,h2,.inl rfl,.refl⟩
 | @step q k r h3 h4 h5 ih=>
  obtain⟨f,m,g1,g2,g3,g4⟩:=ih;rw [hl.fo,Bool.or_eq_true,Bool.and_eq_true]at h4;have h5:=hl.hit.1 h5
  rcases h4 with h4|⟨h4,h6⟩
  ·exact⟨f,m,g1,g2,g3,.step g4 h4 h5⟩
  ·have hp:PR G s p m (k+1):=.inr ⟨f,q,k,g1,h4,g2,g4,rfl⟩
   refine⟨r,k+1,h6,h5,.inr ?_,.refl⟩
   rcases g3 with rfl|g3
   ·exact .one hp
   ·exact .more g3 hp
theorem xzoy {G G':Gr}{p:Prt}(hl:Lnk G G' p.ends p.first)(s:List UInt8)(j k:Nat):PR G' s p j k↔Pls (PR G s p) j k:=by
 constructor
 ·rintro(h|⟨a,b,k',h1,h2,h3,h4,rfl⟩)
  ·exact .one (.inl h)
  ·obtain⟨f,m,g1,g2,g3,g4⟩:=xzox hl h4 h1 (hl.hit.1 h3)
   have hp:PR G s p m (k'+1):=.inr ⟨f,b,k',g1,h2,g2,g4,rfl⟩
   rcases g3 with rfl|g3
   ·exact .one hp
   ·exact .more g3 hp
 ·intro h
  induction h with
  |one h=>exact h.lnk hl
  | @more m k _ h ih=>
   rcases h with⟨h,rfl⟩|⟨a,b,k',h1,h2,h3,h4,rfl⟩
   ·exact ih
   ·rcases ih with⟨g,rfl⟩|⟨a',b',k'',g1,g2,g3,g4,rfl⟩
    ·exact .inr ⟨a,b,k',h1,h2,hl.hit.2 h3,h4.lnk hl,rfl⟩
    ·exact .inr ⟨a',b,k',g1,h2,g3,g4.trans (Rch.cons (by rw [hl.fo,g2,h1];simp) (hl.hit.2 h3) (h4.lnk hl)),rfl⟩
theorem xzfn (d:Nat)(l:List Int)(q:Nat):hasI (shiftL d l) (q+d)=hasI l q:=by
 unfold hasI shiftL;rw [List.any_map]
 congr 1
 funext x
 have:((x+(d:Int)==((q+d:Nat):Int)):Bool)=(x==(q:Int)):=by
  rw [Bool.eq_iff_iff];simp
 simpa [Function.comp]using this
theorem xzcn (d:Nat)(l:List Int)(hl:∀ x∈l,0<=x)(b:Nat)(h:hasI (shiftL d l) b=true):∃ q,b=q+d/\hasI l q=true:=by
 unfold hasI shiftL at h;rw [List.any_map,List.any_eq_true]at h;obtain⟨x,hx,h⟩:=h;have h0:=hl x hx
 have h:x+(d:Int)=(b:Int):=by simpa using h
 refine⟨x.toNat,by omega,?_⟩;unfold hasI;rw [List.any_eq_true];exact⟨x,hx,by simp;omega⟩
structure Shf (G:Gr)(lo hi d:Nat):Prop where
 st:∀ a,lo<=a->a<hi->G.st (a+d)=G.st a
 fo:∀ a b,lo<=a->a<hi->(G.fo (a+d) b=true↔ ∃ q,b=q+d/\G.fo a q=true)
theorem Shf.hit {G:Gr}{lo hi d:Nat}(h:Shf G lo hi d){s:List UInt8}{a i:Nat}(h1:lo<=a)(h2:a<hi):G.hit s (a+d) i↔G.hit s a i:=by
 unfold Gr.hit;rw [h.st a h1 h2]
theorem Shf.cl {G:Gr}{lo hi d:Nat}(h:Shf G lo hi d)(c:Cl G lo hi):Cl G (lo+d) (hi+d):=fun a b h1 h2 h3=>by
 obtain⟨x,rfl⟩:∃ x,a=x+d:=⟨a - d,by omega⟩;obtain⟨q,rfl,h4⟩:=(h.fo x b (by omega) (by omega)).1 h3;have:=c x q (by omega) (by omega) h4;omega
theorem Shf.up {G:Gr}{lo hi d:Nat}(h:Shf G lo hi d)(c:Cl G lo hi){s:List UInt8}{a i b k:Nat}(hr:Rch G s a i b k)(h1:lo<=a)(h2:a<hi):Rch G s (a+d) i (b+d) k:=by
 induction hr with
 |refl=>exact .refl
 |step h3 h4 h5 ih=>
  have hq:=h3.stay c h1 h2;have hn:=c _ _ hq.1 hq.2 h4;exact .step ih ((h.fo _ _ hq.1 hq.2).2 ⟨_,rfl,h4⟩) ((h.hit hn.1 hn.2).2 h5)
theorem Shf.down {G:Gr}{lo hi d:Nat}(h:Shf G lo hi d)(c:Cl G lo hi){s:List UInt8}{a i b k:Nat}(hr:Rch G s (a+d) i b k)(h1:lo<=a)(h2:a<hi):∃ q,b=q+d/\lo<=q/\q<hi/\Rch G s a i q k:=by
 induction hr with
 |refl=>exact⟨a,rfl,h1,h2,.refl⟩
 |step h3 h4 h5 ih=>
  obtain⟨q,rfl,g1,g2,g3⟩:=ih;obtain⟨r,rfl,h6⟩:=(h.fo _ _ g1 g2).1 h4;have hn:=c _ _ g1 g2 h6;exact⟨r,rfl,hn.1,hn.2,.step g3 h6 ((h.hit hn.1 hn.2).1 h5)⟩
theorem xzms {G:Gr}{lo hi d:Nat}(h:Shf G lo hi d)(c:Cl G lo hi){p:Prt}(hp:InP lo hi p)(hf:∀ x∈p.first,0<=x)(he:∀ x∈p.ends,0<=x)(s:List UInt8)(j k:Nat):PR G s (shiftP d p) j k↔PR G s p j k:=by
 constructor
 ·rintro(h1|⟨a,b,k',h1,h2,h3,h4,rfl⟩)
  ·exact .inl h1
  ·obtain⟨x,rfl,g1⟩:=xzcn d _ hf a h1
   obtain⟨y,rfl,g2⟩:=xzcn d _ he b h2;have hx:=hp.1 x g1;obtain⟨q,e,_,_,h5⟩:=h.down c h4 hx.1 hx.2
   obtain rfl:y=q:=by omega
   exact .inr ⟨x,y,k',g1,g2,(h.hit hx.1 hx.2).1 h3,h5,rfl⟩
 ·rintro(h1|⟨a,b,k',h1,h2,h3,h4,rfl⟩)
  ·exact .inl h1
  ·have hx:=hp.1 a h1
   exact .inr ⟨a+d,b+d,k',by unfold shiftP;rw [xzfn];exact h1,by unfold shiftP;rw [xzfn];exact h2,(h.hit hx.1 hx.2).2 h3,h.up c h4 hx.1 hx.2,rfl⟩
theorem xzoz {lo hi d:Nat}{p:Prt}(hp:InP lo hi p)(hf:∀ x∈p.first,0<=x)(he:∀ x∈p.ends,0<=x):InP (lo+d) (hi+d) (shiftP d p):=by
 refine⟨fun a ha=>?_,fun a ha=>?_⟩
 ·obtain⟨x,rfl,h1⟩:=xzcn d _ hf a ha
  have:=hp.1 x h1;omega
 ·obtain⟨x,rfl,h1⟩:=xzcn d _ he a ha
  have:=hp.2 x h1;omega
end
section
open Go.RowKit
def grF (st:List (Nat->Bool))(F:List (List Int)):Gr:=⟨fun p=>st.getD p fun _=>false,fun p q=>hasI (F.getD p []) q⟩
theorem xzef:∀ (e:List Int) (F:List (List Int)) (row:List Int),(∀ x∈e,0<=x/\x<(F.length:Int))->∀ p q,hasI ((linkF F e row).getD p []) q=(hasI (F.getD p []) q||(hasI e p&&hasI row q))
 |[],F,row,_,p,q=>by simp [linkF,hasI]
 |x::e,F,row,h,p,q=>by
  have hx:=h x (by simp);unfold linkF;rw [xzef e _ row (fun y hy=>by rw [List.length_set];exact h y (by simp [hy])),xzbr]
  by_cases hp:x=(p:Int)
  ·subst hp
   have e1:((F.set (p:Int).toNat (mergedL (F.getD (p:Int).toNat []) row)).getD p [])=mergedL (F.getD p []) row:=by
    rw [Int.toNat_natCast,List.getD_eq_getElem?_getD,List.getElem?_set_self (by omega)];rfl
   rw [e1,xzba];simp only [beq_self_eq_true,Bool.true_or,Bool.true_and]
   cases hasI (F.getD p []) q<;>cases hasI row q<;>simp
  ·have e1:((F.set x.toNat (mergedL (F.getD x.toNat []) row)).getD p [])=F.getD p []:=by
    rw [List.getD_eq_getElem?_getD,List.getElem?_set_ne (by omega),<-List.getD_eq_getElem?_getD]
   have e2:(x==(p:Int))=false:=by simp [hp]
   rw [e1,e2,Bool.false_or]
theorem xzpa {st:List (Nat->Bool)}{F:List (List Int)}{e row:List Int}(h:∀ x∈e,0<=x/\x<(F.length:Int)):Lnk (grF st F) (grF st (linkF F e row)) e row:=
 ⟨fun _=>rfl,fun a b=>xzef e F row h a b⟩
theorem xzfe {n:Nat}{p:Prt}(h:p.Ok n):∀ x∈p.ends,0<=x/\x<(n:Int):=fun x hx=>by
 have:=xzau h.2 x hx;omega
theorem xzjy {n:Nat}{p:Prt}(h:p.Ok n):∀ x∈p.first,0<=x/\x<(n:Int):=fun x hx=>by
 have:=xzau h.1 x hx;omega
theorem Lnk.ag {G G':Gr}{e f:List Int}(h:Lnk G G' e f){lo hi:Nat}(ho:∀ a,lo<=a->a<hi->hasI e a=false):Ag G G' lo hi:=fun a h1 h2=>
 ⟨h.st a,by funext b;rw [h.fo,ho a h1 h2];simp⟩
def Laid (G:Gr):Nat->List Prt->Nat->Prop
 |lo,[],hi=>lo=hi
 |lo,p::r,hi=>∃ mid,lo<=mid/\InP lo mid p/\Cl G lo mid/\Laid G mid r hi
theorem Laid.le {G:Gr}:∀ {l:List Prt} {lo hi:Nat},Laid G lo l hi->lo<=hi
 |[],_,_,h=>Nat.le_of_eq h
 |_::_,_,_,⟨_,h1,_,_,h2⟩=>Nat.le_trans h1 h2.le
theorem Laid.ag {G G':Gr}:∀ {l:List Prt} {lo hi:Nat},Laid G lo l hi->Ag G G' lo hi->Laid G' lo l hi
 |[],_,_,h,_=>h
 |_::_,_,_,⟨mid,h1,h2,h3,h4⟩,ha=>⟨mid,h1,h2,h3.ag (ha.sub (Nat.le_refl _) h4.le),h4.ag (ha.sub h1 (Nat.le_refl _))⟩
theorem Laid.snoc {G:Gr}{p:Prt}{hi:Nat}:∀ {l:List Prt} {lo mid:Nat},Laid G lo l mid->mid<=hi->InP mid hi p->Cl G mid hi->Laid G lo (l++[p]) hi
 |[],_,_,h,h1,h2,h3=>by obtain rfl:=h;exact⟨hi,h1,h2,h3,rfl⟩
 |_::_,_,_,⟨m,g1,g2,g3,g4⟩,h1,h2,h3=>⟨m,g1,g2,g3,g4.snoc h1 h2 h3⟩
theorem Laid.unsnoc {G:Gr}{p:Prt}{hi:Nat}:∀ {l:List Prt} {lo:Nat},Laid G lo (l++[p]) hi->∃ mid,Laid G lo l mid/\mid<=hi/\InP mid hi p/\Cl G mid hi
 |[],lo,⟨m,g1,g2,g3,g4⟩=>by obtain rfl:=g4;exact⟨lo,rfl,g1,g2,g3⟩
 |_::_,_,⟨m,g1,g2,g3,g4⟩=>by
  obtain⟨mid,h1,h2⟩:=g4.unsnoc;exact⟨mid,⟨m,g1,g2,g3,h1⟩,h2⟩
theorem Laid.cl {G:Gr}:∀ {l:List Prt} {lo hi:Nat},Laid G lo l hi->Cl G lo hi
 |[],_,_,h=>by obtain rfl:=h;exact fun a b h1 h2=>absurd h1 (by omega)
 |_::_,_,_,⟨mid,h1,_,h3,h4⟩=>h3.cat h4.cl h1 h4.le
def RowR (P:Prt->Nat->Nat->Prop)(must:Int):Int->List Prt->Nat->Nat->Prop
 |_,[],j,k=>j=k
 |i,p::r,j,k=>(∃ m,P p j m/\RowR P must (i+1) r m k)\/(must<=i/\j=k)
theorem RowR.congr {P P':Prt->Nat->Nat->Prop}{must:Int}:∀ {l:List Prt} {i:Int} {j k:Nat},(∀ p∈l,∀ j k,P p j k↔P' p j k)->(RowR P must i l j k↔RowR P' must i l j k)
 |[],_,_,_,_=>Iff.rfl
 |p::r,i,j,k,h=>by
  unfold RowR;refine or_congr (exists_congr fun m=>?_) Iff.rfl;rw [h p (by simp),RowR.congr fun q hq=>h q (by simp [hq])]
theorem PR.more {G:Gr}{s:List UInt8}{p:Prt}(c:Bool){j k:Nat}:PR G s {p with empty:=p.empty||c} j k↔PR G s p j k\/(c=true/\j=k):=by
 constructor
 ·rintro(⟨h,rfl⟩|h)
  ·have h:(p.empty||c)=true:=h
   rw [Bool.or_eq_true]at h
   rcases h with h|h
   ·exact .inl (.inl ⟨h,rfl⟩)
   ·exact .inr ⟨h,rfl⟩
  ·exact .inl (.inr h)
 ·rintro((⟨h,rfl⟩|h)|⟨h,rfl⟩)
  ·exact .inl ⟨by show(p.empty||c)=true;rw [h];rfl,rfl⟩
  ·exact .inr h
  ·exact .inl ⟨by show(p.empty||c)=true;rw [h];simp,rfl⟩
theorem xzeg (st:List (Nat->Bool))(must:Int)(s:List UInt8):∀ (l:List Prt) (i:Int) (F:List (List Int)) (lo hi:Nat),hi<=F.length->(∀ p∈l,p.Ok F.length)->Laid (grF st F) lo l hi->
 InP lo hi (inRowP must i l F).2/\Cl (grF st (inRowP must i l F).1) lo hi/\(∀ a,a<lo\/hi<=a->(inRowP must i l F).1.getD a []=F.getD a []\/ ∀ q,hasI ((inRowP must i l F).1.getD a []) q=hasI (F.getD a []) q)/\
 ∀ j k,PR (grF st (inRowP must i l F).1) s (inRowP must i l F).2 j k↔RowR (PR (grF st F) s) must i l j k
 |[],i,F,lo,hi,_,_,h=>by
  obtain rfl:=h;refine⟨⟨fun a ha=>by simp [inRowP,hasI]at ha,fun a ha=>by simp [inRowP,hasI]at ha⟩,fun a b h1 h2=>absurd h1 (by omega),fun _ _=>.inl rfl,fun j k=>⟨?_,fun h=>.inl ⟨rfl,h⟩⟩⟩;rintro(⟨_,h⟩|⟨a,b,k',h1,_⟩)
  ·exact h
  ·simp [inRowP,hasI]at h1
 |p::r,i,F,lo,hi,hF,hok,⟨mid,h1,h2,h3,h4⟩=>by
  obtain⟨g1,g2,g3,g4⟩:=xzeg st must s r (i+1) F mid hi hF (fun q hq=>hok q (by simp [hq])) h4
  have hlen:(inRowP must (i+1) r F).1.length=F.length:=by
   have:∀ (l:List Prt) (i:Int),(inRowP must i l F).1.length=F.length:=by
    intro l
    induction l with
    |nil=>intro i;rfl
    |cons p l ih=>intro i;unfold inRowP;dsimp only;rw [xzbl,ih]
   exact this r (i+1)
  have hag:Ag (grF st F) (grF st (inRowP must (i+1) r F).1) lo mid:=fun a _ hb=>⟨rfl,by
   funext q
   show hasI _ q=hasI _ q
   rcases g3 a (.inl hb)with e|e
   ·rw [e]
   ·exact e q⟩
  have hmh:=h4.le;unfold inRowP;generalize inRowP must (i+1) r F=y at*
  have hl:Lnk (grF st y.1) (grF st (linkF y.1 p.ends y.2.first)) p.ends y.2.first:=xzpa fun x hx=>by
   have:=xzfe (hok p (by simp)) x hx;rw [hlen];exact this
  have hc:=h3.ag hag;refine⟨xztd h2 g1 h1 hmh,both_cl hl g1 hc g2 h1 hmh,fun a ha=>.inr fun q=>?_,fun j k=>?_⟩
  ·have e:=hl.fo a q
   have e:hasI ((linkF y.1 p.ends y.2.first).getD a []) q=_:=e;rw [e]
   have hno:hasI p.ends a=false:=by
    rw [Bool.eq_false_iff];intro hh;have:=h2.2 a hh;omega
   rw [hno,Bool.false_and,Bool.or_false]
   show hasI (y.1.getD a []) q=_
   rcases g3 a (by omega)with e|e
   ·rw [e]
   ·exact e q
  ·rw [PR.more,xzow hl h2 g1 hc g2 s j k]
   unfold RowR;refine or_congr (exists_congr fun m=>and_congr (PR.ag h3 hag h2) (g4 m k)) ?_
   simp
theorem xzhh (G:Gr)(s:List UInt8):∀ (l:List Prt) (a:Prt) (lo mid hi:Nat),lo<=mid->InP lo mid a->Cl G lo mid->Laid G mid l hi->
 InP lo hi (eitherP a l)/\∀ j k,PR G s (eitherP a l) j k↔PR G s a j k\/ ∃ p∈l,PR G s p j k
 |[],a,lo,mid,hi,_,ha,_,h=>by
  obtain rfl:=h;exact⟨ha,fun j k=>by simp [eitherP]⟩
 |p::r,a,lo,mid,hi,hm,ha,hc,⟨m,h1,h2,h3,h4⟩=>by
  obtain⟨g1,g2⟩:=xzhh G s r (orP a p) lo m hi (by omega) (or_in ha h2 hm h1) (hc.cat h3 hm h1) h4;unfold eitherP;refine⟨g1,fun j k=>?_⟩;rw [g2,xzuo ha h2 hc h3];simp only [List.mem_cons,exists_eq_or_imp,or_assoc]
theorem xzes {α:Type}(d:α)(a b:List α){i:Nat}(h:i<a.length):(a++b).getD i d=a.getD i d:=by
 rw [List.getD_eq_getElem?_getD,List.getD_eq_getElem?_getD,List.getElem?_append_left h]
theorem xzup {α:Type}(d:α)(a:List α)(i j:Nat){x:Nat}(h1:i<=x)(h2:x<j)(hj:j<=a.length):(a++(a.drop i).take (j - i)).getD (x+(a.length - i)) d=a.getD x d:=by
 rw [List.getD_eq_getElem?_getD,List.getD_eq_getElem?_getD,List.getElem?_append_right (by omega),List.getElem?_take,if_pos (by omega),List.getElem?_drop]
 congr 2;omega
theorem xzmt (S:Mk)(i j:Nat)(hij:i<=j)(hj:j<=S.sets.length)(hS:S.Ok):
 Ag (grF S.sets S.follow) (grF (copiedS S i j).sets (copiedS S i j).follow) 0 S.sets.length/\
 Shf (grF (copiedS S i j).sets (copiedS S i j).follow) i j (S.sets.length - i):=by
 have hag:Ag (grF S.sets S.follow) (grF (copiedS S i j).sets (copiedS S i j).follow) 0 S.sets.length:=fun a _ ha=>by
  unfold copiedS grF;refine⟨by dsimp only;rw [xzes _ _ _ ha],?_⟩
  funext q
  dsimp only
  rw [xzes _ _ _ (by rw [hS.1];exact ha)]
 refine⟨hag,fun a h1 h2=>?_,fun a b h1 h2=>?_⟩
 ·rw [(hag a (Nat.zero_le _) (by omega)).1]
  show(S.sets++(S.sets.drop i).take (j - i)).getD (a+(S.sets.length - i)) _=S.sets.getD a _
  exact xzup _ S.sets i j h1 h2 hj
 ·rw [(hag a (Nat.zero_le _) (by omega)).2]
  show hasI ((S.follow++((S.follow.drop i).take (j - i)).map (shiftL ((S.sets.length:Int) - i))).getD (a+(S.sets.length - i)) []) b=true↔ ∃ q,b=q+(S.sets.length - i)/\hasI (S.follow.getD a []) q=true
  have e:(S.follow++((S.follow.drop i).take (j - i)).map (shiftL ((S.sets.length:Int) - i))).getD (a+(S.sets.length - i)) []=shiftL ((S.sets.length - i:Nat):Int) (S.follow.getD a []):=by
   have hf:=hS.1;rw [List.getD_eq_getElem?_getD,List.getElem?_append_right (by omega),List.getElem?_map,List.getElem?_take,if_pos (by omega),List.getElem?_drop,show i+(a+(S.sets.length - i) - S.follow.length)=a by omega,List.getD_eq_getElem?_getD]
   have h0:a<S.follow.length:=by omega
   rw [List.getElem?_eq_getElem h0];simp only [Option.map_some,Option.getD_some];rw [show((S.sets.length:Int) - i)=((S.sets.length - i:Nat):Int)by omega]
  rw [e]
  constructor
  ·intro h
   exact xzcn _ _ (fun x hx=>by
    have:=hS.2.getD a
    have:=xzau this x hx;omega) b h
  ·rintro⟨q,rfl,h⟩
   rw [xzfn];exact h
theorem xzis (s:List UInt8)(p:Prt)(i j:Nat)(hij:i<=j)(hp:p.Ok j)(hin:InP i j p):∀ (n:Nat) (S:Mk) (l:List Prt),S.Ok->j<=S.sets.length->(∀ r∈(S.follow.drop i).take (j - i),risesB j (-1) r=true)->
 Cl (grF S.sets S.follow) i j->Laid (grF S.sets S.follow) i l S.sets.length->(∀ q∈l,∀ x y,PR (grF S.sets S.follow) s q x y↔PR (grF S.sets S.follow) s p x y)->
 Ag (grF S.sets S.follow) (grF (copyN p i j n S l).1.sets (copyN p i j n S l).1.follow) 0 S.sets.length/\
 Laid (grF (copyN p i j n S l).1.sets (copyN p i j n S l).1.follow) i (copyN p i j n S l).2 (copyN p i j n S l).1.sets.length/\
 ∀ q∈(copyN p i j n S l).2,∀ x y,PR (grF (copyN p i j n S l).1.sets (copyN p i j n S l).1.follow) s q x y↔PR (grF S.sets S.follow) s p x y
 |0,S,l,_,_,_,_,hl,hq=>⟨Ag.refl _ _ _,hl,hq⟩
 |n+1,S,l,hS,hj,hrow,hc,hl,hq=>by
  obtain⟨h1,h2⟩:=xzge hS hij hj hrow;obtain⟨g1,g2⟩:=xzmt S i j hij hj hS
  have hfn:∀ x∈p.first,0<=x:=fun x hx=>(xzjy hp x hx).1
  have hen:∀ x∈p.ends,0<=x:=fun x hx=>(xzfe hp x hx).1
  have hc':=hc.ag (g1.sub (Nat.zero_le _) hj)
  have hd:((S.sets.length - i:Nat):Int)=(S.sets.length:Int) - i:=by omega
  have hl':Laid (grF (copiedS S i j).sets (copiedS S i j).follow) i (l++[shiftP ((S.sets.length:Int) - i) p]) (copiedS S i j).sets.length:=by
   refine(hl.ag (g1.sub (Nat.zero_le _) (Nat.le_refl _))).snoc (by omega) ?_ ?_
   ·have:=xzoz (d:=S.sets.length - i) hin hfn hen
    rw [hd]at this;exact this.mono (by omega) (by omega)
   ·have:=g2.cl hc'
    rw [show i+(S.sets.length - i)=S.sets.length by omega,show j+(S.sets.length - i)=(copiedS S i j).sets.length by omega]at this;exact this
  have hpp:∀ x y,PR (grF (copiedS S i j).sets (copiedS S i j).follow) s p x y↔PR (grF S.sets S.follow) s p x y:=fun x y=>PR.ag hc (g1.sub (Nat.zero_le _) hj) hin
  have hq':∀ q∈l++[shiftP ((S.sets.length:Int) - i) p],∀ x y,PR (grF (copiedS S i j).sets (copiedS S i j).follow) s q x y↔PR (grF (copiedS S i j).sets (copiedS S i j).follow) s p x y:=by
   intro q hqm x y
   rcases List.mem_append.1 hqm with hqm|hqm
   ·rw [hpp]
    obtain⟨lo,hi,e1,e2,e3,e4⟩:=(show ∃ lo hi,i<=lo/\hi<=S.sets.length/\InP lo hi q/\Cl (grF S.sets S.follow) lo hi from by
     have:∀ (l:List Prt) (lo:Nat),Laid (grF S.sets S.follow) lo l S.sets.length->q∈l->∃ a b,lo<=a/\b<=S.sets.length/\InP a b q/\Cl (grF S.sets S.follow) a b:=by
      intro l
      induction l with
      |nil=>intro lo _ h;cases h
      |cons p r ih=>
       rintro lo ⟨m,k1,k2,k3,k4⟩ h
       rcases List.mem_cons.1 h with rfl|h
       ·exact⟨lo,m,Nat.le_refl _,k4.le,k2,k3⟩
       ·obtain⟨a,b,z1,z2⟩:=ih m k4 h
        exact⟨a,b,by omega,z2⟩
     exact this l i hl hqm)
    rw [PR.ag e4 (g1.sub (Nat.zero_le _) e2) e3];exact hq q hqm x y
   ·obtain rfl:=List.mem_singleton.1 hqm
    rw [<-hd];exact xzms g2 hc' hin hfn hen s x y
  obtain⟨k1,k2,k3⟩:=xzis s p i j hij hp hin n (copiedS S i j) _ h1 (by omega) (by rw [xzcr hS.1 hj];exact hrow) hc' hl' hq';unfold copyN;exact⟨g1.trans (k1.sub (Nat.le_refl _) (by omega)),k2,fun q hqm x y=>(k3 q hqm x y).trans (hpp x y)⟩
end
end Go.Proofs.Ythoaaginadjaoaa
