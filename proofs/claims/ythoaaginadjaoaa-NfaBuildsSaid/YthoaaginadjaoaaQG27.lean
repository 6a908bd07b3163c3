/-
 THE PART OF A TREE HAS THE TREE's WAYS: the places where the tree's texts end are those to which the part leads. Condition: each node of the tree may be.
-/
import Derived.Test.YthoaaginadjaoaaQG26
import Derived.Test.YthoaaginadjaoaaQG06
namespace Go.Proofs.Ythoaaginadjaoaa
section
open Go.RowKit
def It (R:Nat->Nat->Prop):Nat->Nat->Nat->Prop
 |0,j,k=>j=k
 |n+1,j,k=>∃ m,It R n j m/\R m k
theorem It.cat {R:Nat->Nat->Prop}(a:Nat):∀ {b j k:Nat},It R (a+b) j k↔ ∃ m,It R a j m/\It R b m k
 |0,j,k=>by simp [It]
 |b+1,j,k=>by
  rw [<-Nat.add_assoc]
  show(∃ m,It R (a+b) j m/\R m k)↔ ∃ m,It R a j m/\∃ x,It R b m x/\R x k
  constructor
  ·rintro⟨m,h1,h2⟩
   obtain⟨x,h3,h4⟩:=(It.cat a).1 h1;exact⟨x,h3,m,h4,h2⟩
  ·rintro⟨x,h3,m,h4,h2⟩
   exact⟨m,(It.cat a).2 ⟨x,h3,h4⟩,h2⟩
theorem It.one {R:Nat->Nat->Prop}{j k:Nat}:It R 1 j k↔R j k:=by simp [It]
theorem It.cons {R:Nat->Nat->Prop}{n j k:Nat}:It R (n+1) j k↔ ∃ m,R j m/\It R n m k:=by
 rw [Nat.add_comm,It.cat];simp only [It.one]
theorem It.pls {R:Nat->Nat->Prop}:∀ {n j k:Nat},It R (n+1) j k->Pls R j k
 |0,_,_,h=>.one (It.one.1 h)
 |_+1,_,_,⟨_,h1,h2⟩=>.more (It.pls h1) h2
theorem Pls.it {R:Nat->Nat->Prop}(hle:∀ j k,R j k->j<=k){j k:Nat}(h:Pls R j k):j<=k/\∃ n,n<=k - j/\It R (n+1) j k:=by
 induction h with
 | @one k h=>exact⟨hle _ _ h,0,by omega,It.one.2 h⟩
 | @more m k _ h ih=>
  obtain⟨h0,n,h1,h2⟩:=ih;have:=hle _ _ h
  rcases Nat.lt_or_ge m k with hm|hm
  ·exact⟨by omega,n+1,by omega,m,h2,h⟩
  ·obtain rfl:m=k:=by omega
   exact⟨h0,n,h1,h2⟩
theorem Pls.far {R:Nat->Nat->Prop}{L:Nat}(hle:∀ j k,R j k->j<=k/\(j<k->k<=L)){j k:Nat}(h:Pls R j k):j<k->k<=L:=by
 induction h with
 |one h=>exact(hle _ _ h).2
 | @more m k _ h ih=>
  intro hjk
  rcases Nat.lt_or_ge m k with hm|hm
  ·exact(hle _ _ h).2 hm
  ·have:=(hle _ _ h).1
   obtain rfl:m=k:=by omega
   exact ih hjk
theorem xzkb {P:Prt->Nat->Nat->Prop}{R:Nat->Nat->Prop}{must:Int}:∀ {l:List Prt} {i:Int} {j k:Nat},(∀ p∈l,∀ j k,P p j k↔R j k)->
 (RowR P must i l j k↔ ∃ n,n<=l.length/\(n=l.length\/must<=i+n)/\It R n j k)
 |[],i,j,k,_=>by
  unfold RowR
  constructor
  ·rintro rfl;exact⟨0,Nat.le_refl _,.inl rfl,rfl⟩
  ·rintro⟨n,hn,_,h⟩
   obtain rfl:n=0:=by simpa using hn
   exact h
 |p::r,i,j,k,h=>by
  unfold RowR
  constructor
  ·rintro(⟨m,h1,h2⟩|⟨h1,rfl⟩)
   ·obtain⟨n,g1,g2,g3⟩:=(xzkb fun q hq=>h q (by simp [hq])).1 h2
    refine⟨n+1,by simp;omega,by simp;omega,It.cons.2 ⟨m,(h p (by simp) j m).1 h1,g3⟩⟩
   ·exact⟨0,Nat.zero_le _,.inr (by omega),rfl⟩
  ·rintro⟨n,h1,h2,h3⟩
   cases n with
   |zero=>
    rcases h2 with h2|h2
    ·simp at h2
    ·exact .inr ⟨by omega,h3⟩
   |succ n=>
    obtain⟨m,g1,g2⟩:=It.cons.1 h3;simp only [List.length_cons]at h1 h2;exact .inl ⟨m,(h p (by simp) j m).2 g1,(xzkb fun q hq=>h q (by simp [hq])).2 ⟨n,by omega,by omega,g2⟩⟩
theorem xzkc {P:Prt->Nat->Nat->Prop}{R Q:Nat->Nat->Prop}{must:Int}{z:Prt}(hz:∀ j k,P z j k↔Q j k):∀ {l:List Prt} {i:Int} {j k:Nat},i+l.length<must->(∀ p∈l,∀ j k,P p j k↔R j k)->
 (RowR P must i (l++[z]) j k↔ ∃ m,It R l.length j m/\Q m k)
 |[],i,j,k,hi,_=>by
  simp only [List.nil_append,RowR];simp only [List.length_nil]at hi
  constructor
  ·rintro(⟨m,h1,rfl⟩|⟨h1,_⟩)
   ·exact⟨j,rfl,(hz _ _).1 h1⟩
   ·omega
  ·rintro⟨m,h1,h2⟩
   obtain rfl:j=m:=h1;exact .inl ⟨k,(hz _ _).2 h2,rfl⟩
 |p::r,i,j,k,hi,h=>by
  simp only [List.length_cons]at hi;simp only [List.cons_append,RowR]
  constructor
  ·rintro(⟨m,h1,h2⟩|⟨h1,_⟩)
   ·obtain⟨x,g1,g2⟩:=(xzkc hz (by omega) fun q hq=>h q (by simp [hq])).1 h2
    exact⟨x,It.cons.2 ⟨m,(h p (by simp) _ _).1 h1,g1⟩,g2⟩
   ·omega
  ·rintro⟨x,h1,h2⟩
   obtain⟨m,g1,g2⟩:=It.cons.1 h1;exact .inl ⟨m,(h p (by simp) _ _).2 g1,(xzkc hz (by omega) fun q hq=>h q (by simp [hq])).2 ⟨x,g2,h2⟩⟩
def SaysT (G:Gr)(T:Tree)(p:Prt):Prop:=∀ (s:List UInt8) (f:Nat->Bool) (k:Nat),T.ends s f k=true↔ ∃ j,f j=true/\PR G s p j k
def SaysL (G:Gr):List Tree->List Prt->Prop
 |[],[]=>True
 |t::r,p::q=>SaysT G t p/\SaysL G r q
 |_,_=>False
theorem SaysT.ag {G G':Gr}{lo hi:Nat}{T:Tree}{p:Prt}(h:SaysT G T p)(hc:Cl G lo hi)(ha:Ag G G' lo hi)(hp:InP lo hi p):SaysT G' T p:=fun s f k=>by
 rw [h s f k]
 exact exists_congr fun j=>and_congr Iff.rfl (PR.ag hc ha hp).symm
theorem xzle {G:Gr}(s:List UInt8){must:Int}:∀ {l:List Tree} {ps:List Prt} {i:Int},SaysL G l ps->i+ps.length<=must->∀ (f:Nat->Bool) (k:Nat),endsCat s l f k=true↔ ∃ j,f j=true/\RowR (PR G s) must i ps j k
 |[],[],_,_,_,f,k=>by
  unfold endsCat RowR
  constructor
  ·intro h;exact⟨k,h,rfl⟩
  ·rintro⟨j,h,rfl⟩;exact h
 |t::r,p::q,i,h,hi,f,k=>by
  simp only [List.length_cons]at hi;unfold endsCat;rw [xzle s h.2 (show i+1+q.length<=must by omega)]
  show(∃ m,t.ends s f m=true/\RowR (PR G s) must (i+1) q m k)↔ ∃ j,f j=true/\((∃ m,PR G s p j m/\RowR (PR G s) must (i+1) q m k)\/(must<=i/\j=k))
  constructor
  ·rintro⟨m,h1,h2⟩
   obtain⟨j,h3,h4⟩:=(h.1 s f m).1 h1;exact⟨j,h3,.inl ⟨m,h4,h2⟩⟩
  ·rintro⟨j,h3,(⟨m,h4,h2⟩|⟨h4,_⟩)⟩
   ·exact⟨m,(h.1 s f m).2 ⟨j,h3,h4⟩,h2⟩
   ·omega
 |[],_::_,_,h,_,_,_=>h.elim
 |_::_,[],_,h,_,_,_=>h.elim
theorem xzlf {G:Gr}(s:List UInt8):∀ {l:List Tree} {ps:List Prt},SaysL G l ps->∀ (f:Nat->Bool) (k:Nat),endsAlt s l f k=true↔ ∃ j,f j=true/\∃ p∈ps,PR G s p j k
 |[],[],_,f,k=>by simp [endsAlt]
 |t::r,p::q,h,f,k=>by
  unfold endsAlt orB;rw [Bool.or_eq_true,h.1 s f k,xzlf s h.2 f k]
  constructor
  ·rintro(⟨j,h1,h2⟩|⟨j,h1,x,h2,h3⟩)
   ·exact⟨j,h1,p,by simp,h2⟩
   ·exact⟨j,h1,x,by simp [h2],h3⟩
  ·rintro⟨j,h1,x,h2,h3⟩
   rcases List.mem_cons.1 h2 with rfl|h2
   ·exact .inl ⟨j,h1,h3⟩
   ·exact .inr ⟨j,h1,x,h2,h3⟩
 |[],_::_,h,_,_=>h.elim
 |_::_,[],h,_,_=>h.elim
theorem xzlg {E:(Nat->Bool)->Nat->Bool}{R:Nat->Nat->Prop}(h:∀ f k,E f k=true↔ ∃ j,f j=true/\R j k)(f:Nat->Bool):∀ (n k:Nat),iterE E n f k=true↔ ∃ j,f j=true/\It R n j k
 |0,k=>by
  unfold iterE It
  constructor
  ·intro h;exact⟨k,h,rfl⟩
  ·rintro⟨j,h,rfl⟩;exact h
 |n+1,k=>by
  unfold iterE It;rw [h]
  constructor
  ·rintro⟨m,h1,h2⟩
   obtain⟨j,h3,h4⟩:=(xzlg h f n m).1 h1;exact⟨j,h3,m,h4,h2⟩
  ·rintro⟨j,h3,m,h4,h2⟩
   exact⟨m,(xzlg h f n m).2 ⟨j,h3,h4⟩,h2⟩
theorem xzuq {E:(Nat->Bool)->Nat->Bool}{R:Nat->Nat->Prop}(h:∀ f k,E f k=true↔ ∃ j,f j=true/\R j k)(f:Nat->Bool)(lo most k:Nat):repTo E lo most f k=true↔ ∃ j,f j=true/\∃ n,n<most/\lo<=n/\It R n j k:=by
 unfold repTo;rw [List.any_eq_true]
 constructor
 ·rintro⟨n,h1,h2⟩
  rw [Bool.and_eq_true,decide_eq_true_eq]at h2;obtain⟨j,h3,h4⟩:=(xzlg h f n k).1 h2.2;exact⟨j,h3,n,List.mem_range.1 h1,h2.1,h4⟩
 ·rintro⟨j,h3,n,h1,h2,h4⟩
  exact⟨n,List.mem_range.2 h1,by rw [Bool.and_eq_true,decide_eq_true_eq];exact⟨h2,(xzlg h f n k).2 ⟨j,h3,h4⟩⟩⟩
structure PartS (T:Tree)(S:Mk):Prop where
 ag:Ag (grF S.sets S.follow) (grF (partP T S).1.sets (partP T S).1.follow) 0 S.sets.length
 inp:InP S.sets.length (partP T S).1.sets.length (partP T S).2
 cl:Cl (grF (partP T S).1.sets (partP T S).1.follow) S.sets.length (partP T S).1.sets.length
 says:SaysT (grF (partP T S).1.sets (partP T S).1.follow) T (partP T S).2
theorem xzpg (m:Nat->Bool)(l:List Tree)(lo hi:Int)(S:Mk)(hS:S.Ok):PartS (.node 1 m l lo hi) S:=by
 have e:partP (.node 1 m l lo hi) S=(placeS S m,⟨[(S.sets.length:Int)],[(S.sets.length:Int)],false⟩):=by unfold partP;rw [if_pos rfl]
 have hone:∀ a,hasI [(S.sets.length:Int)] a=true↔a=S.sets.length:=fun a=>by
  unfold hasI;simp;omega
 have hst:((placeS S m).sets.getD S.sets.length fun _=>false)=m:=by
  unfold placeS;rw [List.getD_eq_getElem?_getD];simp
 have hfo:((placeS S m).follow.getD S.sets.length [])=[]:=by
  unfold placeS;rw [List.getD_eq_getElem?_getD,<-hS.1];simp
 have hln:(placeS S m).sets.length=S.sets.length+1:=by simp [placeS]
 refine⟨?_,?_,?_,?_⟩<;>rw [e]<;>dsimp only
 ·intro a _ ha
  unfold placeS grF;refine⟨by dsimp only;rw [xzes _ _ _ ha],?_⟩
  funext q
  dsimp only
  rw [xzes _ _ _ (by rw [hS.1];exact ha)]
 ·rw [hln]
  exact⟨fun a ha=>by have:=(hone a).1 ha;omega,fun a ha=>by have:=(hone a).1 ha;omega⟩
 ·intro a b h1 h2 h3
  obtain rfl:a=S.sets.length:=by omega
  have h3:hasI ((placeS S m).follow.getD S.sets.length []) b=true:=h3;rw [hfo]at h3
  simp [hasI]at h3
 ·intro s f k
  have e2:(Tree.node 1 m l lo hi).ends s f=stepB m s f:=by unfold Tree.ends;rw [if_neg (by decide),if_pos rfl]
  rw [e2]
  constructor
  ·intro h
   cases k with
   |zero=>simp [stepB]at h
   |succ i=>
    unfold stepB at h;rw [Bool.and_eq_true]at h;obtain⟨h1,h2⟩:=h
    cases hs:s[i]? with
    |none=>rw [hs]at h2;cases h2
    |some c=>
     rw [hs]at h2;have h2:m c.toNat=true:=h2;exact⟨i,h1,.inr ⟨S.sets.length,S.sets.length,i,(hone _).2 rfl,(hone _).2 rfl,⟨c,hs,by show((placeS S m).sets.getD S.sets.length fun _=>false) c.toNat=true;rw [hst];exact h2⟩,.refl,rfl⟩⟩
  ·rintro⟨j,h1,(⟨h2,_⟩|⟨a,b,k',h2,h3,⟨c,h4,h5⟩,h6,rfl⟩)⟩
   ·cases h2
   ·obtain rfl:=(hone a).1 h2
    have hk:k'=j:=by
     have:∀ q i,Rch (grF (placeS S m).sets (placeS S m).follow) s S.sets.length j q i->q=S.sets.length/\i=j:=by
      intro q i h
      induction h with
      |refl=>exact⟨rfl,rfl⟩
      |step _ g1 _ ih=>
       obtain⟨rfl,rfl⟩:=ih;have g1:hasI ((placeS S m).follow.getD S.sets.length []) _=true:=g1;rw [hfo]at g1
       simp [hasI]at g1
     exact(this b k' h6).2
    subst hk;have h5:((placeS S m).sets.getD S.sets.length fun _=>false) c.toNat=true:=h5;rw [hst]at h5;simp only [stepB,h1,h4,Bool.true_and];exact h5
theorem xzgj (T:Tree)(S:Mk)(e:partP T S=(S,⟨[],[],true⟩))(h:∀ (s:List UInt8) (f:Nat->Bool) (k:Nat),T.ends s f k=true↔f k=true):PartS T S:=by
 refine⟨?_,?_,?_,?_⟩<;>rw [e]<;>dsimp only
 ·exact Ag.refl _ _ _
 ·exact⟨fun a ha=>by simp [hasI]at ha,fun a ha=>by simp [hasI]at ha⟩
 ·exact fun a b h1 h2=>absurd h1 (by omega)
 ·intro s f k
  rw [h]
  constructor
  ·intro h1;exact⟨k,h1,.inl ⟨rfl,rfl⟩⟩
  ·rintro⟨j,h1,(⟨_,rfl⟩|⟨a,b,k',h2,_⟩)⟩
   ·exact h1
   ·simp [hasI]at h2
structure PartsS (l:List Tree)(S:Mk):Prop where
 ag:Ag (grF S.sets S.follow) (grF (partsP l S).1.sets (partsP l S).1.follow) 0 S.sets.length
 laid:Laid (grF (partsP l S).1.sets (partsP l S).1.follow) S.sets.length (partsP l S).2 (partsP l S).1.sets.length
 says:SaysL (grF (partsP l S).1.sets (partsP l S).1.follow) l (partsP l S).2
theorem xzej:∀ (l:List Tree),(∀ t∈l,t.ok=true/\∀ S:Mk,S.Ok->PartS t S)->∀ S:Mk,S.Ok->PartsS l S
 |[],_,S,_=>⟨Ag.refl _ _ _,rfl,trivial⟩
 |t::r,h,S,hS=>by
  obtain⟨a1,a2,a3,a4⟩:=(h t (by simp)).2 S hS;obtain⟨o1,o2,o3⟩:=xzbj t S (xzcw t (h t (by simp)).1) hS;obtain⟨b1,b2,b3⟩:=xzej r (fun x hx=>h x (by simp [hx])) (partP t S).1 o1
  have hle:S.sets.length<=(partP t S).1.sets.length:=by omega
  have hag:=b1.sub (lo':=S.sets.length) (Nat.zero_le _) (Nat.le_refl _)
  have e:partsP (t::r) S=((partsP r (partP t S).1).1,(partP t S).2::(partsP r (partP t S).1).2):=by rw [partsP]
  refine⟨?_,?_,?_⟩<;>rw [e]<;>dsimp only
  ·exact a1.trans (b1.sub (Nat.le_refl _) hle)
  ·exact⟨_,hle,a2,a3.ag hag,b2⟩
  ·exact⟨a4.ag a3 hag a2,b3⟩
theorem xzlh:∀ {l:List Tree},(∀ t∈l,t.ok=true)->okTs l
 |[],_=>trivial
 |t::r,h=>⟨xzcw t (h t (by simp)),xzlh fun x hx=>h x (by simp [hx])⟩
theorem xzur (m:Nat->Bool)(l:List Tree)(lo hi:Int)(S:Mk)(hS:S.Ok)(hok:∀ t∈l,t.ok=true)(h:PartsS l S):PartS (.node 2 m l lo hi) S:=by
 obtain⟨g1,g2,g3⟩:=h;obtain⟨o1,o2,o3,o4⟩:=partsP_ok l S (xzlh hok) hS
 have e:partP (.node 2 m l lo hi) S=(⟨(partsP l S).1.sets,(inRowP l.length 0 (partsP l S).2 (partsP l S).1.follow).1⟩,(inRowP l.length 0 (partsP l S).2 (partsP l S).1.follow).2):=by
  unfold partP;rw [if_neg (by decide),if_pos rfl]
 have key:=fun s=>xzeg (partsP l S).1.sets (l.length:Int) s (partsP l S).2 0 (partsP l S).1.follow S.sets.length (partsP l S).1.sets.length (by rw [o1.1];exact Nat.le_refl _) (fun p hp=>by rw [o1.1];exact o2 p hp) g2
 obtain⟨k1,k2,k3,_⟩:=key [];refine⟨?_,?_,?_,?_⟩<;>rw [e]<;>dsimp only
 ·refine g1.trans fun a _ ha=>⟨rfl,?_⟩
  funext q
  show hasI _ q=hasI _ q
  rcases k3 a (.inl ha)with e|e
  ·rw [e]
  ·exact e q
 ·exact k1
 ·exact k2
 ·intro s f k
  have e2:(Tree.node 2 m l lo hi).ends s f=endsCat s l f:=by unfold Tree.ends;rw [if_neg (by decide),if_neg (by decide),if_pos rfl]
  rw [e2,xzle s g3 (must:=(l.length:Int)) (i:=0) (by omega)]
  exact exists_congr fun j=>and_congr Iff.rfl ((key s).2.2.2 j k).symm
theorem xzus (m:Nat->Bool)(l:List Tree)(lo hi:Int)(S:Mk)(h:PartsS l S):PartS (.node 3 m l lo hi) S:=by
 obtain⟨g1,g2,g3⟩:=h
 have e:partP (.node 3 m l lo hi) S=((partsP l S).1,eitherP ⟨[],[],false⟩ (partsP l S).2):=by
  unfold partP;rw [if_neg (by decide),if_neg (by decide),if_pos rfl]
 have key:=fun s=>xzhh (grF (partsP l S).1.sets (partsP l S).1.follow) s (partsP l S).2 ⟨[],[],false⟩ S.sets.length S.sets.length (partsP l S).1.sets.length (Nat.le_refl _)
  ⟨fun a ha=>by simp [hasI]at ha,fun a ha=>by simp [hasI]at ha⟩ (fun a b h1 h2=>absurd h1 (by omega)) g2
 refine⟨?_,?_,?_,?_⟩<;>rw [e]<;>dsimp only
 ·exact g1
 ·exact(key []).1
 ·exact g2.cl
 ·intro s f k
  have e2:(Tree.node 3 m l lo hi).ends s f=endsAlt s l f:=by unfold Tree.ends;rw [if_neg (by decide),if_neg (by decide),if_neg (by decide),if_pos rfl]
  rw [e2,xzlf s g3]
  refine exists_congr fun j=>and_congr Iff.rfl ?_
  rw [(key s).2 j k]
  constructor
  ·exact .inr
  ·intro h
   rcases h with(⟨h,_⟩|⟨a,b,k',h,_⟩)|h
   ·cases h
   ·simp [hasI]at h
   ·exact h
end
section
open Go.RowKit
theorem xzph {G:Gr}{q:Prt}{hi:Nat}:∀ {l:List Prt} {lo:Nat},Laid G lo l hi->q∈l->∃ a b,lo<=a/\b<=hi/\InP a b q/\Cl G a b
 |[],_,_,h=>by cases h
 |p::r,lo,⟨m,k1,k2,k3,k4⟩,h=>by
  rcases List.mem_cons.1 h with rfl|h
  ·exact⟨lo,m,Nat.le_refl _,k4.le,k2,k3⟩
  ·obtain⟨a,b,z1,z2⟩:=xzph k4 h
   exact⟨a,b,by omega,z2⟩
theorem gkReps {R:Nat->Nat->Prop}{L:Nat}(hle:∀ j k,R j k->j<=k/\(j<k->k<=L))(lo j k:Nat):
 (∃ n,n<lo+L+1+1/\lo<=n/\It R n j k)↔(∃ m,It R (max lo 1 - 1) j m/\Pls R m k)\/(lo=0/\j=k):=by
 constructor
 ·rintro⟨n,h1,h2,h3⟩
  by_cases h0:n=0
  ·subst h0
   exact .inr ⟨by omega,h3⟩
  ·refine .inl ?_
   obtain⟨b,hb⟩:∃ b,n=(max lo 1 - 1)+(b+1):=⟨n - (max lo 1 - 1) - 1,by omega⟩;rw [hb,It.cat]at h3;obtain⟨m,g1,g2⟩:=h3;exact⟨m,g1,g2.pls⟩
 ·rintro(⟨m,h1,h2⟩|⟨rfl,rfl⟩)
  ·obtain⟨g1,n,g2,g3⟩:=h2.it fun j k h=>(hle j k h).1
   have g4:=h2.far hle
   have hn:n<=L:=by
    rcases Nat.lt_or_ge m k with h|h
    ·have:=g4 h;omega
    ·omega
   exact⟨(max lo 1 - 1)+(n+1),by omega,by omega,(It.cat _).2 ⟨m,h1,g3⟩⟩
  ·exact⟨0,by omega,Nat.le_refl _,rfl⟩
theorem xzut (ms:Nat->Bool)(t:Tree)(lo hi:Int)(S:Mk)(hS:S.Ok)(hok:t.ok=true)(hlo:0<=lo)(hhi:hi= -1\/lo<=hi)(h:PartS t S):PartS (.node 4 ms [t] lo hi) S:=by
 have e2:∀ s f,(Tree.node 4 ms [t] lo hi).ends s f=repTo (t.ends s) lo.toNat (mostOf s lo hi+1) f:=fun s f=>by
  have hE:headEnds s [t]=t.ends s:=by unfold headEnds;rfl
  rw [<-hE];unfold Tree.ends;rw [if_neg (by decide),if_neg (by decide),if_neg (by decide),if_neg (by decide)]
 have hcz:0<=copiesI lo hi:=by unfold copiesI;split<;>omega
 obtain⟨a1,a2,a3,a4⟩:=h;obtain⟨o1,o2,o3⟩:=xzbj t S (xzcw t hok) hS
 by_cases hz:(copiesI lo hi).toNat=0
 ·have hz0:hi=0/\lo=0:=by
   unfold copiesI at hz
   split at hz
   ·omega
   ·omega
  obtain⟨rfl,rfl⟩:=hz0
  refine xzgj _ S ?_ fun s f k=>?_
  ·unfold partP;rw [if_neg (by decide),if_neg (by decide),if_neg (by decide),if_pos rfl,if_pos hz]
  ·rw [e2,xzuq (a4 s)]
   constructor
   ·rintro⟨j,h1,n,h2,h3,h4⟩
    have:n=0:=by
     unfold mostOf at h2;rw [if_neg (by decide)]at h2;have h2:n<0+1:=h2;omega
    subst this;obtain rfl:j=k:=h4;exact h1
   ·intro h
    exact⟨k,h,0,by omega,Nat.le_refl _,rfl⟩
 ·have ep:partsP [t] S=((partP t S).1,[(partP t S).2]):=by rw [partsP,partsP]
  obtain⟨X,hX⟩:∃ X,partP t S=X:=⟨_,rfl⟩;rw [hX]at a1 a2 a3 a4 o1 o2 o3 ep
  have e:partP (.node 4 ms [t] lo hi) S=(let c:=copyN X.2 S.sets.length X.1.sets.length ((copiesI lo hi).toNat - 1) X.1 [X.2]
   let z:=c.2.getLastD ⟨[],[],true⟩
   let F:=if hi= -1 then linkF c.1.follow z.ends z.first else c.1.follow
   let y:=inRowP lo 0 c.2 F
   (⟨c.1.sets,y.1⟩,y.2)):=by
   unfold partP;rw [if_neg (by decide),if_neg (by decide),if_neg (by decide),if_pos rfl,if_neg hz,ep];rfl
  have hlt:S.sets.length<=X.1.sets.length:=by omega
  clear hX ep;generalize X.1=S1 at*;generalize X.2=p at*
  have key:=fun s=>xzis s p S.sets.length S1.sets.length hlt o2 a2 ((copiesI lo hi).toNat - 1) S1 [p] o1 (Nat.le_refl _) (fun r hr=>o1.2 r (List.mem_of_mem_drop (List.mem_of_mem_take hr))) a3
   ⟨_,hlt,a2,a3,rfl⟩ (fun q hq x y=>by obtain rfl:=List.mem_singleton.1 hq;exact Iff.rfl)
  obtain⟨b1,b2,b3,b4⟩:=xzdq (p:=p) (i:=S.sets.length) (j:=S1.sets.length) hlt o2 ((copiesI lo hi).toNat - 1) S1 [p] o1 (Nat.le_refl _) (fun r hr=>o1.2 r (List.mem_of_mem_drop (List.mem_of_mem_take hr))) (fun q hq=>by obtain rfl:=List.mem_singleton.1 hq;exact o2);generalize copyN p S.sets.length S1.sets.length ((copiesI lo hi).toNat - 1) S1 [p]=c at*
  dsimp only at e
  have hcl:c.2.length=(copiesI lo hi).toNat:=by rw [b3];simp;omega
  obtain⟨init,z,hiz⟩:∃ init z,c.2=init++[z]:=by
   have:c.2≠[]:=fun h=>by rw [h]at hcl;simp at hcl;omega
   exact⟨c.2.dropLast,c.2.getLast this,(List.dropLast_concat_getLast this).symm⟩
  have hzl:c.2.getLastD ⟨[],[],true⟩=z:=by rw [hiz];simp
  rw [hzl]at e;obtain⟨k1,k2,_⟩:=key []
  have k3:=fun s=>(key s).2.2
  have hSc:S1.sets.length<=c.1.sets.length:=by rw [b2];omega
  have hag0:Ag (grF S.sets S.follow) (grF c.1.sets c.1.follow) 0 S.sets.length:=a1.trans (k1.sub (Nat.le_refl _) hlt)
  have hRle:∀ s j k,PR (grF S1.sets S1.follow) s p j k->j<=k/\(j<k->k<=s.length):=fun s j k h=>h.le
  by_cases hh:hi= -1
  ·subst hh
   rw [if_pos rfl]at e
   have hl:Lnk (grF c.1.sets c.1.follow) (grF c.1.sets (linkF c.1.follow z.ends z.first)) z.ends z.first:=xzpa fun x hx=>by
    have:=xzfe (b4 z (by rw [hiz];simp)) x hx;rw [b1.1];exact this
   rw [hiz]at k2;obtain⟨mid,l1,l2,l3,l4⟩:=k2.unsnoc
   have hagm:Ag (grF c.1.sets c.1.follow) (grF c.1.sets (linkF c.1.follow z.ends z.first)) 0 mid:=hl.ag fun a _ ha=>by
    rw [Bool.eq_false_iff];intro hh;have:=l3.2 a hh;omega
   have hz4:Cl (grF c.1.sets (linkF c.1.follow z.ends z.first)) mid c.1.sets.length:=fun a b g1 g2 g3=>by
    rw [hl.fo,Bool.or_eq_true,Bool.and_eq_true]at g3
    rcases g3 with g3|g3
    ·exact l4 a b g1 g2 g3
    ·exact l3.1 b g3.2
   have hlaid:Laid (grF c.1.sets (linkF c.1.follow z.ends z.first)) S.sets.length c.2 c.1.sets.length:=by
    rw [hiz];exact(l1.ag (hagm.sub (Nat.zero_le _) (Nat.le_refl _))).snoc l2 l3 hz4
   have row:=fun s=>xzeg c.1.sets lo s c.2 0 (linkF c.1.follow z.ends z.first) S.sets.length c.1.sets.length (by rw [xzbl,b1.1];exact Nat.le_refl _) (fun q hq=>by rw [xzbl,b1.1];exact b4 q hq) hlaid
   obtain⟨r1,r2,r3,_⟩:=row [];refine⟨?_,?_,?_,?_⟩<;>rw [e]<;>dsimp only
   ·refine(hag0.trans (hagm.sub (Nat.le_refl _) l1.le)).trans fun a _ ha=>⟨rfl,?_⟩
    funext q
    show hasI _ q=hasI _ q
    rcases r3 a (.inl ha)with e|e
    ·rw [e]
    ·exact e q
   ·exact r1
   ·exact r2
   ·intro s f k
    rw [e2,xzuq (a4 s)]
    have hm:mostOf s lo (-1)+1=lo.toNat+s.length+1+1:=by unfold mostOf;rw [if_pos (by decide)]
    rw [hm]
    refine exists_congr fun j=>and_congr Iff.rfl ?_
    rw [(row s).2.2.2 j k,gkReps (hRle s),hiz]
    have hinit:init.length=max lo.toNat 1 - 1:=by
     rw [hiz]at hcl;simp only [List.length_append,List.length_cons,List.length_nil]at hcl;unfold copiesI at hcl;rw [if_pos rfl]at hcl;omega
    have hzz:∀ j k,PR (grF c.1.sets (linkF c.1.follow z.ends z.first)) s z j k↔Pls (PR (grF S1.sets S1.follow) s p) j k:=fun j k=>by
     rw [xzoy hl];exact⟨fun h=>h.mono fun j k h=>(k3 s z (by rw [hiz];simp) j k).1 h,fun h=>h.mono fun j k h=>(k3 s z (by rw [hiz];simp) j k).2 h⟩
    have hii:∀ q∈init,∀ j k,PR (grF c.1.sets (linkF c.1.follow z.ends z.first)) s q j k↔PR (grF S1.sets S1.follow) s p j k:=fun q hq j k=>by
     obtain⟨x,y,z1,z2,z3,z4⟩:=xzph l1 hq;rw [PR.ag z4 (hagm.sub (Nat.zero_le _) z2) z3];exact k3 s q (by rw [hiz];simp [hq]) j k
    by_cases h0:lo=0
    ·subst h0
     obtain rfl:init=[]:=List.eq_nil_of_length_eq_zero (by rw [hinit];rfl);simp only [List.nil_append,RowR]
     constructor
     ·rintro(⟨m,g1,g2⟩|⟨_,g2⟩)
      ·obtain rfl:j=m:=g1
       exact .inl ⟨k,(hzz _ _).2 g2,rfl⟩
      ·exact .inr ⟨Int.le_refl _,g2⟩
     ·rintro(⟨m,g1,rfl⟩|⟨_,g2⟩)
      ·exact .inl ⟨j,rfl,(hzz _ _).1 g1⟩
      ·exact .inr ⟨rfl,g2⟩
    ·rw [xzkc hzz (by omega) hii,hinit]
     constructor
     ·rintro(h|⟨h,_⟩)
      ·exact h
      ·omega
     ·exact .inl
  ·rw [if_neg hh]at e
   have row:=fun s=>xzeg c.1.sets lo s c.2 0 c.1.follow S.sets.length c.1.sets.length (by rw [b1.1];exact Nat.le_refl _) (fun q hq=>by rw [b1.1];exact b4 q hq) k2
   obtain⟨r1,r2,r3,_⟩:=row [];refine⟨?_,?_,?_,?_⟩<;>rw [e]<;>dsimp only
   ·refine hag0.trans fun a _ ha=>⟨rfl,?_⟩
    funext q
    show hasI _ q=hasI _ q
    rcases r3 a (.inl ha)with e|e
    ·rw [e]
    ·exact e q
   ·exact r1
   ·exact r2
   ·intro s f k
    rw [e2,xzuq (a4 s)]
    have hm:mostOf s lo hi=hi.toNat:=by unfold mostOf;rw [if_neg (by omega)]
    rw [hm]
    refine exists_congr fun j=>and_congr Iff.rfl ?_
    rw [(row s).2.2.2 j k,xzkb (fun q hq j k=>k3 s q hq j k),hcl]
    have hc2:copiesI lo hi=hi:=by unfold copiesI;rw [if_neg hh]
    rw [hc2]
    refine exists_congr fun n=>?_
    constructor
    ·rintro⟨h1,h2,h3⟩;exact⟨by omega,.inr (by omega),h3⟩
    ·rintro⟨h1,h2,h3⟩;exact⟨by omega,by omega,h3⟩
theorem xzek (T:Tree)(hok:T.ok=true):∀ S:Mk,S.Ok->PartS T S:=by
 induction T using Tree.ind with
 |h k m l lo hi ih=>
  intro S hS;have hop:=xzcb hok
  have hps:=fun t ht=>And.intro (hop.1 t ht) (ih t ht (hop.1 t ht))
  rcases xzas hop.2 with⟨rfl,hl⟩|⟨rfl,hl⟩|⟨rfl,hl⟩|⟨rfl,hl⟩|⟨rfl,hl,hlo,_,hhi⟩
  ·refine xzgj _ S ?_ fun s f k=>?_
   ·unfold partP;rw [if_neg (by decide),if_neg (by decide),if_neg (by decide),if_neg (by decide)]
   ·have e:(Tree.node 0 m l lo hi).ends s f=f:=by unfold Tree.ends;rw [if_pos rfl]
    rw [e]
  ·exact xzpg m l lo hi S hS
  ·exact xzur m l lo hi S hS hop.1 (xzej l hps S hS)
  ·exact xzus m l lo hi S (xzej l hps S hS)
  ·obtain⟨t,rfl⟩:∃ t,l=[t]:=List.length_eq_one_iff.1 hl
   exact xzut m t lo hi S hS (hop.1 t (by simp)) hlo (by omega) (ih t (by simp) (hop.1 t (by simp)) S hS)
end
section
open Go.RowKit
def mix (k:Nat)(a x:Nat->Bool):Nat->Bool:=fun p=>if p<k then a p||x p else a p
theorem xzkd (a x:Nat->Bool):mix 0 a x=a:=by funext p;simp [mix]
theorem xzke (k:Nat)(a x:Nat->Bool):updS (mix k a x) k (a k||x k)=mix (k+1) a x:=by
 funext p
 unfold updS mix
 by_cases h:p=k
 ·subst h;simp
 ·rw [if_neg h]
  by_cases h2:p<k
  ·rw [if_pos h2,if_pos (by omega)]
  ·rw [if_neg h2,if_neg (by omega)]
theorem xzuu (k:Nat)(a x:Nat->Bool):mix k a x k=a k:=by simp [mix]
theorem xzpi (n:Nat)(a x:Nat->Bool):bl n (mix n a x)=bl n (orB a x):=xzbi fun i hi=>by unfold mix orB;rw [if_pos hi]
set_option maxHeartbeats 8000000 in
set_option maxRecDepth 20000 in
theorem ends_k2 (s:ByteArray)(hs30:s.size<=1073741824)(n:Nat)(hn:n=s.size+1)(m:Nat->Bool)(l:List Tree)(lo hi:Int)(A:Option Addr)(c:Nat)(hc:l.length<=c/\c<=9223372036854775807)(w:World)(g0:Nat)(f:Nat->Bool)(hf0:BlkIs w g0 4 (bl n f))
 (hs:l≠[]->∃ b o,A=some ⟨b,o,none⟩/\b<w.heap.size/\∀ (i:Nat) (h:i<l.length),∃ cs:List Value,Tree.At w l[i] (.agg cs.toArray)/\cs.length=8/\w.rangeAt b (o+i*8) cs)
 (ih:∀ t∈l,∀ (v:Value) (w:World) (g0:Nat) (f:Nat->Bool),Tree.At w t v->BlkIs w g0 4 (bl n f)->Calls Try.prog 53 #[v,.string s,.slice (some ⟨g0,0,none⟩) n n] w (EndsIs n (t.ends s.data.toList f) w)):
 Calls Try.prog 53 #[reV 2 m A l.length c lo hi,.string s,.slice (some ⟨g0,0,none⟩) n n] w (EndsIs n (endsCat s.data.toList l f) w):=by
 have hw0:IntKind.i64.wrap ((s.size:Int)+1)=((n:Nat):Int):=by rw [IntKind.wrap_i64];omega
 have hmk:=fun w=>xzbd n (by omega) w
 have hg0:=hf0.lt;have HB0:=zd (xzdb 2 m A l.length c n lo hi w);have HF0:=zd hf0;have HN:=zd hn;have HS:=zd hs;have IH:=zd ih;clear hs ih;clear hf0 hn;unfold EndsIs at*;unfold reV reL at*
 go_enter Try.func53,Try.ntmps53
 have hcp:=xzif HB0.out.2.2 ((HF0.out.alloc _).alloc _);go_wp2;clear hcp hmk hw0
 go_loopw [7,9] (fun x i wr=>∃ (j g:Nat),x=.slice (some ⟨g,0,none⟩) n n/\i=.int .i64 j/\j<=l.length/\Hid (w.heap.size<=g/\Below w.heap.size w wr/\BlkIs wr w.heap.size 39 (reL 2 m A l.length c lo hi).toArray/\BlkIs wr g 4 (bl n (endsCat s.data.toList (l.take j) f)))) (fun _ i _=>l.length - (intOf i).toNat)
 case atStart=>
  have hb:=HB0.out;exact⟨0,w.heap.size+1,rfl,rfl,Nat.zero_le _,zd ⟨by omega,below_setRow hb.1 (by omega) _,row_far hb.2.1 (by omega),by rw [List.take_zero];exact xzta hb.2.2⟩⟩
 case round=>
  obtain⟨j,g,rfl,rfl,hj,HH⟩:=hrel;have hbl:=HH.out.2.2.1;unfold reL at hbl;obtain⟨_,_,_,_,_,c5,_,_⟩:=hbl.eight
  by_cases hp:j<l.length
  ·have hdl:decide ((j:Int)<(l.length:Int))=true:=by simp;omega
   obtain⟨b,o,rfl,hbw,hg⟩:=HS.out (by intro e;subst e;simp at hp);obtain⟨cs,hcat,hlen,hrow⟩:=hg j hp;obtain⟨A',n',c',rfl⟩:=hcat.eight;obtain⟨r0,r1,r2,r3,r4,r5,r6,r7⟩:=xzaj hrow HH.out.2.1;have hcall:=IH.out _ (List.getElem_mem hp) _ wr g _ (hcat.step HH.out.2.1) HH.out.2.2.2;rw [<-xzjq hp]at hcall
   have hk1:IntKind.i64.wrap ((j:Int)+1)=((j+1:Nat):Int):=by rw [IntKind.wrap_i64];omega
   have HC:=zd hcall;clear hrow hcat hcall hg hbl
   go_wp2_with fail
   refine HC.out.mono ?_;rintro e w1 ⟨g1,rfl,hg1,hbl1,hb1⟩;have HB1:=zd (And.intro hg1 (And.intro hbl1 hb1));clear hg1 hbl1 hb1;go_wp2;have hz:=HH.out.2.1.size;exact⟨⟨j+1,g1,rfl,by go_num,hp,zd ⟨Nat.le_trans hz HB1.out.1,HH.out.2.1.trans (HB1.out.2.2.mono hz),HH.out.2.2.1.step HB1.out.2.2,HB1.out.2.1⟩⟩,by simp [intOf];omega⟩
  ·have hdl:decide ((j:Int)<(l.length:Int))=false:=by simp;omega
   obtain rfl:j=l.length:=by omega
   have HH2:=HH;rw [List.take_length]at HH2;clear HH hbl;go_wp2;go_ret;exact⟨g,rfl,HH2.out.1,HH2.out.2.2.2,HH2.out.2.1⟩
set_option maxHeartbeats 8000000 in
set_option maxRecDepth 20000 in
theorem ends_k3 (s:ByteArray)(hs30:s.size<=1073741824)(n:Nat)(hn:n=s.size+1)(m:Nat->Bool)(l:List Tree)(lo hi:Int)(A:Option Addr)(c:Nat)(hc:l.length<=c/\c<=9223372036854775807)(w:World)(g0:Nat)(f:Nat->Bool)(hf0:BlkIs w g0 4 (bl n f))
 (hs:l≠[]->∃ b o,A=some ⟨b,o,none⟩/\b<w.heap.size/\∀ (i:Nat) (h:i<l.length),∃ cs:List Value,Tree.At w l[i] (.agg cs.toArray)/\cs.length=8/\w.rangeAt b (o+i*8) cs)
 (ih:∀ t∈l,∀ (v:Value) (w:World) (g0:Nat) (f:Nat->Bool),Tree.At w t v->BlkIs w g0 4 (bl n f)->Calls Try.prog 53 #[v,.string s,.slice (some ⟨g0,0,none⟩) n n] w (EndsIs n (t.ends s.data.toList f) w)):
 Calls Try.prog 53 #[reV 3 m A l.length c lo hi,.string s,.slice (some ⟨g0,0,none⟩) n n] w (EndsIs n (endsAlt s.data.toList l f) w):=by
 have hw0:IntKind.i64.wrap ((s.size:Int)+1)=((n:Nat):Int):=by rw [IntKind.wrap_i64];omega
 have hmk:=fun w=>xzbd n (by omega) w
 have hg0:=hf0.lt;have HB0:=zd (xzdb 3 m A l.length c n lo hi w);have HF0:=zd hf0;have HN:=zd hn;have HS:=zd hs;have IH:=zd ih;clear hs ih;clear hf0 hn;unfold EndsIs at*;unfold reV reL at*
 go_enter Try.func53,Try.ntmps53
 go_wp2;clear hmk hw0
 go_loopw [10] (fun i wr=>∃ (j:Nat),i=.int .i64 j/\j<=l.length/\Hid (Below w.heap.size w wr/\BlkIs wr w.heap.size 39 (reL 3 m A l.length c lo hi).toArray/\BlkIs wr (w.heap.size+1) 4 (bl n (endsAlt s.data.toList (l.take j) f))/\BlkIs wr g0 4 (bl n f))) (fun i _=>l.length - (intOf i).toNat)
 case atStart=>
  have hb:=HB0.out;exact⟨0,rfl,Nat.zero_le _,zd ⟨hb.1,hb.2.1,by rw [List.take_zero];exact hb.2.2,(HF0.out.alloc _).alloc _⟩⟩
 case round=>
  obtain⟨j,rfl,hj,HH⟩:=hrel;have hbl:=HH.out.2.1;unfold reL at hbl;obtain⟨_,_,_,_,_,c5,_,_⟩:=hbl.eight
  by_cases hp:j<l.length
  ·have hdl:decide ((j:Int)<(l.length:Int))=true:=by simp;omega
   obtain⟨b,o,rfl,hbw,hg⟩:=HS.out (by intro e;subst e;simp at hp);obtain⟨cs,hcat,hlen,hrow⟩:=hg j hp;obtain⟨A',n',c',rfl⟩:=hcat.eight;obtain⟨r0,r1,r2,r3,r4,r5,r6,r7⟩:=xzaj hrow HH.out.1;have hcall:=IH.out _ (List.getElem_mem hp) _ wr g0 _ (hcat.step HH.out.1) HH.out.2.2.2;have htk:=xzjr (s:=s.data.toList) (f:=f) hp
   have hk1:IntKind.i64.wrap ((j:Int)+1)=((j+1:Nat):Int):=by rw [IntKind.wrap_i64];omega
   generalize(l[j]).ends s.data.toList f=X at*;generalize ha:endsAlt s.data.toList (l.take j) f=a at*;have HC:=zd hcall;have HTK:=zd htk;clear hrow hcat hcall hg hbl htk ha
   go_wp2_with fail
   refine HC.out.mono ?_;rintro e w1 ⟨gx,rfl,hg1,hbl1,hb1⟩;have hz:=HH.out.1.size;have hlt:=HH.out.2.2.1.lt
   have hne:gx≠w.heap.size+1:=by omega
   have HB1:=zd (And.intro (HH.out.1.trans (hb1.mono hz)) (And.intro (HH.out.2.1.step hb1) (And.intro (HH.out.2.2.1.step hb1) (And.intro (HH.out.2.2.2.step hb1) hbl1))));clear hg1 hbl1 hb1 hz hlt;go_wp2
   go_loopw [12] (fun i wr=>∃ (k:Nat),i=.int .i64 k/\k<=n/\Hid (Below w.heap.size w wr/\BlkIs wr w.heap.size 39 (reL 3 m (some ⟨b,o,none⟩) l.length c lo hi).toArray/\BlkIs wr (w.heap.size+1) 4 (bl n (mix k a X))/\BlkIs wr g0 4 (bl n f)/\BlkIs wr gx 4 (bl n X))) (fun i _=>n - (intOf i).toNat)
   case atStart=>
    exact⟨0,rfl,Nat.zero_le _,zd ⟨HB1.out.1,HB1.out.2.1,by rw [xzkd];exact HB1.out.2.2.1,HB1.out.2.2.2.1,HB1.out.2.2.2.2⟩⟩
   case round=>
    obtain⟨k,rfl,hk,H3⟩:=hrel
    by_cases hkn:k<n
    ·have hdk:decide ((k:Int)<(n:Int))=true:=by simp;omega
     have hk2:IntKind.i64.wrap ((k:Int)+1)=((k+1:Nat):Int):=by have:=HN.out;rw [IntKind.wrap_i64];omega
     have x1:=xzao H3.out.2.2.1 hkn;rw [xzuu]at x1;have x2:=xzao H3.out.2.2.2.2 hkn;have x3:=H3.out.2.2.1.frozen k;have hms:=xzke k a X;generalize a k=p at*;generalize X k=q at*;have HMS:=zd hms;clear hms
     cases p with
     |true=>
      go_wp2;refine⟨⟨k+1,by go_num,hkn,zd ⟨H3.out.1.setCell (p:=⟨_,_,none⟩) (by simp) _,H3.out.2.1.far (by simp) _,?_,H3.out.2.2.2.1.far (by simp;omega) _,H3.out.2.2.2.2.far (by simpa using hne) _⟩⟩,by simp [intOf];omega⟩;rw [<-HMS.out,<-xzgq];exact H3.out.2.2.1.put _ _
     |false=>
      go_wp2;refine⟨⟨k+1,by go_num,hkn,zd ⟨H3.out.1.setCell (p:=⟨_,_,none⟩) (by simp) _,H3.out.2.1.far (by simp) _,?_,H3.out.2.2.2.1.far (by simp;omega) _,H3.out.2.2.2.2.far (by simpa using hne) _⟩⟩,by simp [intOf];omega⟩;rw [<-HMS.out,<-xzgq];exact H3.out.2.2.1.put _ _
    ·have hdk:decide ((k:Int)<(n:Int))=false:=by simp;omega
     obtain rfl:k=n:=by omega
     go_wp2;refine⟨⟨j+1,by go_num,hp,zd ⟨H3.out.1,H3.out.2.1,?_,H3.out.2.2.2.1⟩⟩,by simp [intOf];omega⟩;have h:=H3.out.2.2.1;rw [xzpi]at h;rw [xzbi (g:=orB a X) fun i _=>HTK.out i];exact h
  ·have hdl:decide ((j:Int)<(l.length:Int))=false:=by simp;omega
   obtain rfl:j=l.length:=by omega
   have HH2:=HH;rw [List.take_length]at HH2;clear HH hbl;go_wp2;go_ret;exact⟨_,rfl,by omega,HH2.out.2.2.1,HH2.out.1⟩
end
end Go.Proofs.Ythoaaginadjaoaa
