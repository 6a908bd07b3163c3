/-
 WITH WHICH BYTES A TREE's TEXTS BEGIN AND END: what is said of no program: the places of Ends against whether a tree has the empty text, no text, and its first and last bytes. Condition: each node of the tree may be.
-/
import Derived.Test.YtgbljnnmhmlifaaGreatDoorQG23
import Derived.Test.YtgbljnnmhmlifaaGreatDoorQG22
namespace Go.Proofs.YtgbljnnmhmlifaaGreatDoor
section
mutual
def Tree.empty:Tree->Bool
 | .node k _ l lo _=>if k=0 then true else if k=1 then false else if k=2 then allEmpty l else if k=3 then anyEmpty l else(decide (lo<=0)||headEmpty l)
def allEmpty:List Tree->Bool
 |[]=>true
 |t::r=>t.empty&&allEmpty r
def anyEmpty:List Tree->Bool
 |[]=>false
 |t::r=>t.empty||anyEmpty r
def headEmpty:List Tree->Bool
 |[]=>false
 |t::_=>t.empty
end
mutual
def Tree.first (b:Nat):Tree->Bool
 | .node k m l _ hi=>if k=0 then false else if k=1 then m b else if k=2 then(!anyVoid l&&firstCat b l)else if k=3 then firstAlt b l else(decide (hi≠0)&&headFirst b l)
def firstCat (b:Nat):List Tree->Bool
 |[]=>false
 |t::r=>t.first b||(t.empty&&firstCat b r)
def firstAlt (b:Nat):List Tree->Bool
 |[]=>false
 |t::r=>t.first b||firstAlt b r
def headFirst (b:Nat):List Tree->Bool
 |[]=>false
 |t::_=>t.first b
end
mutual
def Tree.last (b:Nat):Tree->Bool
 | .node k m l _ hi=>if k=0 then false else if k=1 then m b else if k=2 then(!anyVoid l&&lastCat b l)else if k=3 then lastAlt b l else(decide (hi≠0)&&headLast b l)
def lastCat (b:Nat):List Tree->Bool
 |[]=>false
 |t::r=>lastCat b r||(allEmpty r&&t.last b)
def lastAlt (b:Nat):List Tree->Bool
 |[]=>false
 |t::r=>t.last b||lastAlt b r
def headLast (b:Nat):List Tree->Bool
 |[]=>false
 |t::_=>t.last b
end
section
variable (b : Nat) (m : Nat → Bool) (l : List Tree) (lo hi : Int)
theorem first_1:Tree.first b (.node 1 m l lo hi)=m b:=by unfold Tree.first;rw [if_neg (by decide),if_pos rfl]
theorem last_1:Tree.last b (.node 1 m l lo hi)=m b:=by unfold Tree.last;rw [if_neg (by decide),if_pos rfl]
theorem first_2:Tree.first b (.node 2 m l lo hi)=(!anyVoid l&&firstCat b l):=by unfold Tree.first;rw [if_neg (by decide),if_neg (by decide),if_pos rfl]
theorem last_2:Tree.last b (.node 2 m l lo hi)=(!anyVoid l&&lastCat b l):=by unfold Tree.last;rw [if_neg (by decide),if_neg (by decide),if_pos rfl]
theorem first_3:Tree.first b (.node 3 m l lo hi)=firstAlt b l:=by unfold Tree.first;rw [if_neg (by decide),if_neg (by decide),if_neg (by decide),if_pos rfl]
theorem last_3:Tree.last b (.node 3 m l lo hi)=lastAlt b l:=by unfold Tree.last;rw [if_neg (by decide),if_neg (by decide),if_neg (by decide),if_pos rfl]
theorem first_4:Tree.first b (.node 4 m l lo hi)=(decide (hi≠0)&&headFirst b l):=by unfold Tree.first;rw [if_neg (by decide),if_neg (by decide),if_neg (by decide),if_neg (by decide)]
theorem last_4:Tree.last b (.node 4 m l lo hi)=(decide (hi≠0)&&headLast b l):=by unfold Tree.last;rw [if_neg (by decide),if_neg (by decide),if_neg (by decide),if_neg (by decide)]
end
def byteAt (s:List UInt8)(i:Nat):Nat:=(s.getD i 0).toNat
def Way (s:List UInt8)(e:Bool)(fi la:Nat->Bool)(j k:Nat):Prop:=j<=k/\(j=k->e=true)/\(j<k->k<=s.length/\fi (byteAt s j)=true/\la (byteAt s (k - 1))=true)
def Ways (s:List UInt8)(T:Tree):Prop:=∀ (f:Nat->Bool) (k:Nat),T.ends s f k=true->T.void=false/\∃ j,f j=true/\Way s T.empty (fun b=>T.first b) (fun b=>T.last b) j k
theorem xzwn (s:List UInt8):∀ (l:List Tree),(∀ t∈l,Ways s t)->∀ (f:Nat->Bool) (k:Nat),endsCat s l f k=true->anyVoid l=false/\∃ j,f j=true/\Way s (allEmpty l) (fun b=>firstCat b l) (fun b=>lastCat b l) j k
 |[],_,f,k,h=>⟨rfl,k,h,Nat.le_refl _,fun _=>rfl,fun h=>absurd h (by omega)⟩
 |t::r,hw,f,k,h=>by
  unfold endsCat at h;obtain⟨hv,j',h1,h2,h3,h4⟩:=xzwn s r (fun t ht=>hw t (by simp [ht])) _ k h;obtain⟨hv',j,g1,g2,g3,g4⟩:=hw t (by simp) f j' h1;refine⟨by unfold anyVoid;rw [hv,hv'];rfl,j,g1,by omega,fun e=>?_,fun e=>?_⟩
  ·unfold allEmpty
   rw [g3 (by omega),h3 (by omega)];rfl
  ·unfold firstCat lastCat
   by_cases e1:j<j'
   ·obtain⟨a1,a2,a3⟩:=g4 e1
    by_cases e2:j'<k
    ·obtain⟨b1,b2,b3⟩:=h4 e2
     try dsimp only at*
     exact⟨b1,by rw [a2];rfl,by rw [b3];rfl⟩
    ·have:j'=k:=by omega
     subst this
     try dsimp only at*
     exact⟨a1,by rw [a2];rfl,by rw [h3 rfl,a3];simp⟩
   ·have:j=j':=by omega
    subst this;obtain⟨b1,b2,b3⟩:=h4 (by omega)
    try dsimp only at*
    exact⟨b1,by rw [g3 rfl,b2];simp,by rw [b3];rfl⟩
theorem xzwo (s:List UInt8):∀ (l:List Tree),(∀ t∈l,Ways s t)->∀ (f:Nat->Bool) (k:Nat),endsAlt s l f k=true->allVoid l=false/\∃ j,f j=true/\Way s (anyEmpty l) (fun b=>firstAlt b l) (fun b=>lastAlt b l) j k
 |[],_,f,k,h=>by simp [endsAlt]at h
 |t::r,hw,f,k,h=>by
  unfold endsAlt orB at h;rw [Bool.or_eq_true]at h;unfold allVoid anyEmpty
  rcases h with h|h
  ·obtain⟨hv,j,h1,h2,h3,h4⟩:=hw t (by simp) f k h
   refine⟨by rw [hv];rfl,j,h1,h2,fun e=>by rw [h3 e];rfl,fun e=>?_⟩;obtain⟨a1,a2,a3⟩:=h4 e;unfold firstAlt lastAlt
   try dsimp only at*
   exact⟨a1,by rw [a2];rfl,by rw [a3];rfl⟩
  ·obtain⟨hv,j,h1,h2,h3,h4⟩:=xzwo s r (fun t ht=>hw t (by simp [ht])) f k h
   refine⟨by rw [hv];simp,j,h1,h2,fun e=>by rw [h3 e];simp,fun e=>?_⟩;obtain⟨a1,a2,a3⟩:=h4 e;unfold firstAlt lastAlt
   try dsimp only at*
   exact⟨a1,by rw [a2];simp,by rw [a3];simp⟩
theorem xzrd (s:List UInt8)(t:Tree)(hw:Ways s t)(f:Nat->Bool):∀ (n k:Nat),iterE (t.ends s) n f k=true->
 (0<n->t.void=false)/\∃ j,f j=true/\j<=k/\(j=k->n=0\/t.empty=true)/\(j<k->0<n/\k<=s.length/\t.first (byteAt s j)=true/\t.last (byteAt s (k - 1))=true)
 |0,k,h=>⟨fun h=>absurd h (by omega),k,h,Nat.le_refl _,fun _=>.inl rfl,fun h=>absurd h (by omega)⟩
 |n+1,k,h=>by
  obtain⟨hv,j',g1,g2,g3,g4⟩:=hw _ k h;obtain⟨_,j,h1,h2,h3,h4⟩:=xzrd s t hw f n j' g1;refine⟨fun _=>hv,j,h1,by omega,fun e=>.inr (g3 (by omega)),fun e=>?_⟩;refine⟨by omega,?_⟩
  by_cases e1:j'<k
  ·obtain⟨a1,a2,a3⟩:=g4 e1
   by_cases e2:j<j'
   ·obtain⟨b0,b1,b2,b3⟩:=h4 e2
    try dsimp only at*
    exact⟨a1,b2,a3⟩
   ·have:j=j':=by omega
    subst this
    try dsimp only at*
    exact⟨a1,a2,a3⟩
  ·have:j'=k:=by omega
   subst this;obtain⟨b0,b1,b2,b3⟩:=h4 (by omega)
   try dsimp only at*
   exact⟨b1,b2,b3⟩
theorem xzif {s:List UInt8}{i:Nat}{c:UInt8}(h:s[i]? =some c):byteAt s i=c.toNat:=by
 unfold byteAt;rw [List.getD_eq_getElem?_getD,h];rfl
theorem yzfz (s:List UInt8):∀ T:Tree,T.ok=true->Ways s T:=by
 intro T
 induction T using Tree.ind with
 |h k m l lo hi ih=>
  intro hok f p h;obtain⟨hoks,hn⟩:=xzcz hok
  have hw:=fun t ht=>ih t ht (hoks t ht)
  have hkind:=xzay hn;unfold Tree.ends at h;unfold Tree.void Tree.empty
  rcases hkind with⟨rfl,hl⟩|⟨rfl,hl⟩|⟨rfl,hl⟩|⟨rfl,hl⟩|⟨rfl,hl,hlo⟩
  ·rw [if_pos rfl]at h
   exact⟨by simp,p,h,Nat.le_refl _,fun _=>by simp,fun e=>absurd e (by omega)⟩
  ·rw [if_neg (by decide),if_pos rfl]at h
   cases p with
   |zero=>simp [stepB]at h
   |succ i=>
    unfold stepB at h;rw [Bool.and_eq_true]at h;obtain⟨h1,h2⟩:=h
    cases hs:s[i]? with
    |none=>rw [hs]at h2;cases h2
    |some c=>
     rw [hs]at h2;have h2:m c.toNat=true:=h2;have hlt:i<s.length:=(List.getElem?_eq_some_iff.1 hs).1;refine⟨?_,i,h1,by omega,fun e=>absurd e (by omega),fun _=>⟨by omega,?_,?_⟩⟩
     ·rw [if_neg (by decide),if_pos rfl,Bool.eq_false_iff]
      intro he;have:=setEq_iff.1 he c.toNat (by have:=UInt8.toNat_lt c;omega);rw [h2]at this;cases this
     ·show Tree.first (byteAt s i) _=true
      rw [first_1,xzif hs];exact h2
     ·show Tree.last (byteAt s (i+1 - 1)) _=true
      rw [last_1,Nat.add_sub_cancel,xzif hs];exact h2
  ·rw [if_neg (by decide),if_neg (by decide),if_pos rfl]at h
   obtain⟨hv,j,h1,h2,h3,h4⟩:=xzwn s l hw f p h;rw [if_neg (by decide),if_neg (by decide),if_pos rfl,if_neg (by decide),if_neg (by decide),if_pos rfl];refine⟨hv,j,h1,h2,h3,fun e=>?_⟩;obtain⟨a1,a2,a3⟩:=h4 e;refine⟨a1,?_,?_⟩
   ·show Tree.first (byteAt s j) _=true
    rw [first_2,hv];exact a2
   ·show Tree.last (byteAt s (p - 1)) _=true
    rw [last_2,hv];exact a3
  ·rw [if_neg (by decide),if_neg (by decide),if_neg (by decide),if_pos rfl]at h
   obtain⟨hv,j,h1,h2,h3,h4⟩:=xzwo s l hw f p h;rw [if_neg (by decide),if_neg (by decide),if_neg (by decide),if_pos rfl,if_neg (by decide),if_neg (by decide),if_neg (by decide),if_pos rfl];refine⟨hv,j,h1,h2,h3,fun e=>?_⟩;obtain⟨a1,a2,a3⟩:=h4 e;refine⟨a1,?_,?_⟩
   ·show Tree.first (byteAt s j) _=true
    rw [first_3];exact a2
   ·show Tree.last (byteAt s (p - 1)) _=true
    rw [last_3];exact a3
  ·rw [if_neg (by decide),if_neg (by decide),if_neg (by decide),if_neg (by decide)]at h
   obtain⟨t,rfl⟩:∃ t,l=[t]:=by
    match l,hl with
    |[t],_=>exact⟨t,rfl⟩
   have hE:headEnds s [t]=t.ends s:=by unfold headEnds;rfl
   rw [hE]at h;unfold repTo at h;rw [List.any_eq_true]at h;obtain⟨q,hq1,hq2⟩:=h;rw [List.mem_range]at hq1;rw [Bool.and_eq_true,decide_eq_true_eq]at hq2;obtain⟨hq2,hq3⟩:=hq2;obtain⟨hv,j,h1,h2,h3,h4⟩:=xzrd s t (hw t (by simp)) f q p hq3;rw [if_neg (by decide),if_neg (by decide),if_neg (by decide),if_neg (by decide),if_neg (by decide),if_neg (by decide),if_neg (by decide),if_neg (by decide)];unfold headVoid headEmpty;refine⟨?_,j,h1,h2,fun e=>?_,fun e=>?_⟩
   ·by_cases hl0:0<lo
    ·rw [hv (by omega)];simp
    ·rw [decide_eq_false hl0];rfl
   ·rcases h3 e with h|h
    ·rw [decide_eq_true (by omega)];rfl
    ·rw [h];simp
   ·obtain⟨a0,a1,a2,a3⟩:=h4 e
    have hh0:hi≠0:=by
     intro e0;subst e0;unfold mostOf at hq1;rw [if_neg (by omega)]at hq1
     simp at hq1;omega
    refine⟨a1,?_,?_⟩
    ·show Tree.first (byteAt s j) _=true
     rw [first_4,decide_eq_true hh0];unfold headFirst;exact a2
    ·show Tree.last (byteAt s (p - 1)) _=true
     rw [last_4,decide_eq_true hh0];unfold headLast;exact a3
def beginsRep (B:(Nat->Bool)->Bool)(E:(Nat->Bool)->Nat->Bool)(n:Nat):Nat->(Nat->Bool)->Bool
 |0,f=>f n
 |q+1,f=>B f||beginsRep B E n q (E f)
mutual
def Tree.begins (s:List UInt8):Tree->(Nat->Bool)->Bool
 | .node k m l lo hi=>fun f=>if k=0 then f s.length else if k=1 then(if setEq m (fun _=>false)then false else f s.length||(decide (0<s.length)&&(f (s.length - 1)&&m (byteAt s (s.length - 1)))))
  else if k=2 then(if anyVoid l then false else beginsCat s l f)else if k=3 then beginsAlt s l f
  else(if(decide (0<lo)&&headVoid l)=true then false else if f s.length then true else beginsRep (headBegins s l) (headEnds s l) s.length (mostOf s lo hi) f)
def beginsCat (s:List UInt8):List Tree->(Nat->Bool)->Bool
 |[]=>fun f=>f s.length
 |t::r=>fun f=>t.begins s f||beginsCat s r (t.ends s f)
def beginsAlt (s:List UInt8):List Tree->(Nat->Bool)->Bool
 |[]=>fun _=>false
 |t::r=>fun f=>t.begins s f||beginsAlt s r f
def headBegins (s:List UInt8):List Tree->(Nat->Bool)->Bool
 |[]=>fun _=>false
 |t::_=>t.begins s
end
section
variable (m : Nat → Bool) (l : List Tree) (lo hi : Int)
theorem void_1:Tree.void (.node 1 m l lo hi)=setEq m (fun _=>false):=by unfold Tree.void;rw [if_neg (by decide),if_pos rfl]
theorem xzwp:Tree.void (.node 2 m l lo hi)=anyVoid l:=by unfold Tree.void;rw [if_neg (by decide),if_neg (by decide),if_pos rfl]
theorem void_3:Tree.void (.node 3 m l lo hi)=allVoid l:=by unfold Tree.void;rw [if_neg (by decide),if_neg (by decide),if_neg (by decide),if_pos rfl]
theorem yzga:Tree.void (.node 4 m l lo hi)=(decide (0<lo)&&headVoid l):=by unfold Tree.void;rw [if_neg (by decide),if_neg (by decide),if_neg (by decide),if_neg (by decide)]
end
end
section
open Go.RowKit
def seg (s:List UInt8)(j k:Nat):List UInt8:=(s.drop j).take (k - j)
theorem xzkb {s:List UInt8}{j k:Nat}(hk:k<=s.length):(seg s j k).length=k - j:=by unfold seg;simp;omega
theorem xzre (s:List UInt8){j m k:Nat}(h1:j<=m)(h2:m<=k):seg s j m++seg s m k=seg s j k:=by
 unfold seg;rw [show k - j=(m - j)+(k - m)by omega,List.take_add,List.drop_drop,show j+(m - j)=m by omega]
theorem xzfo (s:List UInt8)(j:Nat):seg s j s.length=s.drop j:=by
 unfold seg;rw [List.take_of_length_le (by simp)]
theorem xzwq (s:List UInt8)(j:Nat):seg s j j=[]:=by unfold seg;simp
theorem seg_get (s:List UInt8){j k i:Nat}(h1:j<=i)(h2:i<k):(seg s j k)[i - j]? =s[i]? :=by
 unfold seg;rw [List.getElem?_take,if_pos (by omega),List.getElem?_drop,show j+(i - j)=i by omega]
theorem xzhg {s:List UInt8}{j k:Nat}(hj:j<=k)(hk:k<=s.length){u v:List UInt8}(h:seg s j k=u++v):u=seg s j (j+u.length)/\v=seg s (j+u.length) k/\j+u.length<=k:=by
 have hl:=congrArg List.length h;rw [xzkb hk,List.length_append]at hl
 have hle:j+u.length<=k:=by omega
 rw [<-xzre s (Nat.le_add_right j u.length) hle]at h;have:=List.append_inj h (by rw [xzkb (by omega)];omega);exact⟨this.1.symm,this.2.symm,hle⟩
theorem xzrf {G:Gr}{s:List UInt8}{a j k i:Nat}(h1:j<=i)(h2:i<k):G.hit (seg s j k) a (i - j)↔G.hit s a i:=by
 unfold Gr.hit;rw [seg_get s h1 h2]
theorem Rch.seg {G:Gr}{s:List UInt8}{a i b m j k:Nat}(h:Rch G s a i b m)(h1:j<=i)(h2:m<k):Rch G (seg s j k) a (i - j) b (m - j):=by
 induction h with
 |refl=>exact .refl
 | @step q m r h3 h4 h5 ih=>
  have:=h3.le;rw [show m+1 - j=(m - j)+1 by omega];refine .step (ih (by omega)) h4 ?_;rw [show(m - j)+1=m+1 - j by omega];exact(xzrf (by omega) h2).2 h5
theorem Rch.unseg {G:Gr}{s:List UInt8}{a i b m j k:Nat}(h:Rch G (Go.Proofs.YtgbljnnmhmlifaaGreatDoor.seg s j k) a i b m)(h2:j+m<k):Rch G s a (j+i) b (j+m):=by
 induction h with
 |refl=>exact .refl
 | @step q m r h3 h4 h5 ih=>
  refine .step (ih (by omega)) h4 ?_
  have:G.hit (Go.Proofs.YtgbljnnmhmlifaaGreatDoor.seg s j k) r (j+(m+1) - j):=by rw [show j+(m+1) - j=m+1 by omega];exact h5
  exact(xzrf (by omega) h2).1 this
theorem PR.seg {G:Gr}{s:List UInt8}{p:Prt}{j k:Nat}(hj:j<=k):PR G s p j k↔PR G (seg s j k) p 0 (k - j):=by
 constructor
 ·rintro(⟨h,rfl⟩|⟨a,b,k',h1,h2,h3,h4,rfl⟩)
  ·exact .inl ⟨h,by omega⟩
  ·have hle:=h4.le
   have e:=h4.seg (j:=j) (k:=k'+1) (Nat.le_refl _) (by omega);have e3:=(xzrf (k:=k'+1) (Nat.le_refl j) (by omega)).2 h3;rw [Nat.sub_self]at e e3;exact .inr ⟨a,b,k' - j,h1,h2,e3,e,by omega⟩
 ·rintro(⟨h,h'⟩|⟨a,b,k',h1,h2,h3,h4,h5⟩)
  ·exact .inl ⟨h,by omega⟩
  ·have e:=h4.unseg (by omega)
   have e3:G.hit s a j:=(xzrf (k:=k) (Nat.le_refl j) (by omega)).1 (by rw [Nat.sub_self];exact h3);exact .inr ⟨a,b,j+k',h1,h2,e3,e,by omega⟩
theorem mk0_ok:(Mk.mk [] []).Ok:=⟨rfl,fun r hr=>by cases hr⟩
def Lg (T:Tree)(w:List UInt8):Prop:=T.takes w=true
theorem xzrg {T:Tree}(hok:T.ok=true)(s:List UInt8)(f:Nat->Bool)(k:Nat):T.ends s f k=true↔ ∃ j,f j=true/\PR (grF (partP T ⟨[],[]⟩).1.sets (partP T ⟨[],[]⟩).1.follow) s (partP T ⟨[],[]⟩).2 j k:=
 (xzrb T hok _ mk0_ok).says s f k
theorem atP_iff {p j:Nat}:atP p j=true↔j=p:=by
 unfold atP updS
 by_cases h:j=p<;>simp [h]
theorem Lg_PR {T:Tree}(hok:T.ok=true)(w:List UInt8):Lg T w↔PR (grF (partP T ⟨[],[]⟩).1.sets (partP T ⟨[],[]⟩).1.follow) w (partP T ⟨[],[]⟩).2 0 w.length:=by
 unfold Lg Tree.takes;rw [xzrg hok]
 constructor
 ·rintro⟨j,h1,h2⟩
  obtain rfl:=atP_iff.1 h1;exact h2
 ·intro h
  exact⟨0,atP_iff.2 rfl,h⟩
theorem xzee {T:Tree}(hok:T.ok=true){s:List UInt8}(f:Nat->Bool){k:Nat}(hk:k<=s.length):T.ends s f k=true↔ ∃ j,j<=k/\f j=true/\Lg T (seg s j k):=by
 rw [xzrg hok]
 constructor
 ·rintro⟨j,h1,h2⟩
  have hjk:=h2.le.1;refine⟨j,hjk,h1,?_⟩;rw [Lg_PR hok,xzkb hk];exact(PR.seg hjk).1 h2
 ·rintro⟨j,h0,h1,h2⟩
  rw [Lg_PR hok,xzkb hk]at h2;exact⟨j,h1,(PR.seg h0).2 h2⟩
def LgL:List Tree->List UInt8->Prop
 |[],w=>w=[]
 |t::r,w=>∃ u v,w=u++v/\Lg t u/\LgL r v
def LgIt (t:Tree):Nat->List UInt8->Prop
 |0,w=>w=[]
 |n+1,w=>∃ u v,w=u++v/\Lg t u/\LgIt t n v
theorem xzwr {s:List UInt8}:∀ {l:List Tree},(∀ t∈l,t.ok=true)->∀ (f:Nat->Bool) {k:Nat},k<=s.length->(endsCat s l f k=true↔ ∃ j,j<=k/\f j=true/\LgL l (seg s j k))
 |[],_,f,k,hk=>by
  unfold endsCat LgL
  constructor
  ·intro h;exact⟨k,Nat.le_refl _,h,xzwq _ _⟩
  ·rintro⟨j,h0,h1,h2⟩
   have:=congrArg List.length h2;rw [xzkb hk]at this
   have:j=k:=by simp at this;omega
   rw [<-this];exact h1
 |t::r,hok,f,k,hk=>by
  unfold endsCat;rw [xzwr (fun x hx=>hok x (by simp [hx])) _ hk]
  constructor
  ·rintro⟨m,h0,h1,h2⟩
   obtain⟨j,g0,g1,g2⟩:=(xzee (hok t (by simp)) f (by omega)).1 h1;exact⟨j,by omega,g1,_,_,(xzre s g0 h0).symm,g2,h2⟩
  ·rintro⟨j,h0,h1,u,v,h2,h3,h4⟩
   obtain⟨e1,e2,e3⟩:=xzhg h0 hk h2;exact⟨j+u.length,e3,(xzee (hok t (by simp)) f (by omega)).2 ⟨j,by omega,h1,by rw [<-e1];exact h3⟩,by rw [<-e2];exact h4⟩
theorem xzfp (E:(Nat->Bool)->Nat->Bool):∀ (n:Nat) (f:Nat->Bool),iterE E (n+1) f=iterE E n (E f)
 |0,_=>rfl
 |n+1,f=>by rw [iterE,xzfp E n f];rfl
theorem xzez {t:Tree}(hok:t.ok=true){s:List UInt8}:∀ (n:Nat) (f:Nat->Bool) {k:Nat},k<=s.length->(iterE (t.ends s) n f k=true↔ ∃ j,j<=k/\f j=true/\LgIt t n (seg s j k))
 |0,f,k,hk=>by
  unfold iterE LgIt
  constructor
  ·intro h;exact⟨k,Nat.le_refl _,h,xzwq _ _⟩
  ·rintro⟨j,h0,h1,h2⟩
   have:=congrArg List.length h2;rw [xzkb hk]at this
   have:j=k:=by simp at this;omega
   rw [<-this];exact h1
 |n+1,f,k,hk=>by
  rw [xzfp,xzez hok n _ hk]
  constructor
  ·rintro⟨m,h0,h1,h2⟩
   obtain⟨j,g0,g1,g2⟩:=(xzee hok f (by omega)).1 h1;exact⟨j,by omega,g1,_,_,(xzre s g0 h0).symm,g2,h2⟩
  ·rintro⟨j,h0,h1,u,v,h2,h3,h4⟩
   obtain⟨e1,e2,e3⟩:=xzhg h0 hk h2;exact⟨j+u.length,e3,(xzee hok f (by omega)).2 ⟨j,by omega,h1,by rw [<-e1];exact h3⟩,by rw [<-e2];exact h4⟩
theorem xzlb {T:Tree}{w:List UInt8}{C:List UInt8->Prop}(h:∀ f k,k<=w.length->(T.ends w f k=true↔ ∃ j,j<=k/\f j=true/\C (seg w j k))):Lg T w↔C w:=by
 unfold Lg Tree.takes;rw [h _ _ (Nat.le_refl _)]
 constructor
 ·rintro⟨j,_,h1,h2⟩
  obtain rfl:=atP_iff.1 h1;rw [xzfo]at h2;exact h2
 ·intro h
  exact⟨0,Nat.zero_le _,atP_iff.2 rfl,by rw [xzfo];exact h⟩
section
variable {m : Nat → Bool} {l : List Tree} {lo hi : Int} {w : List UInt8}
theorem Lg_0:Lg (.node 0 m l lo hi) w↔w=[]:=xzlb fun f k hk=>by
 have e:(Tree.node 0 m l lo hi).ends w f=f:=by unfold Tree.ends;rw [if_pos rfl]
 rw [e];exact xzwr (l:=[]) (fun t ht=>by cases ht) f hk
theorem Lg_1:Lg (.node 1 m l lo hi) w↔ ∃ c:UInt8,w=[c]/\m c.toNat=true:=by
 unfold Lg Tree.takes
 have e:(Tree.node 1 m l lo hi).ends w (atP 0)=stepB m w (atP 0):=by unfold Tree.ends;rw [if_neg (by decide),if_pos rfl]
 rw [e]
 match w with
 |[]=>simp [stepB]
 |[c]=>simp [stepB,atP_iff]
 |c::d::r=>
  simp only [List.length_cons,stepB]
  have:atP 0 (r.length+1)=false:=by rw [Bool.eq_false_iff];intro h;have:=atP_iff.1 h;omega
  rw [this];simp
theorem Lg_2 (hok:∀ t∈l,t.ok=true):Lg (.node 2 m l lo hi) w↔LgL l w:=xzlb fun f k hk=>by
 have e:(Tree.node 2 m l lo hi).ends w f=endsCat w l f:=by unfold Tree.ends;rw [if_neg (by decide),if_neg (by decide),if_pos rfl]
 rw [e];exact xzwr hok f hk
theorem Lg_3 (hok:∀ t∈l,t.ok=true):Lg (.node 3 m l lo hi) w↔ ∃ t∈l,Lg t w:=xzlb (C:=fun w=>∃ t∈l,Lg t w) fun f k hk=>by
 have e:(Tree.node 3 m l lo hi).ends w f=endsAlt w l f:=by unfold Tree.ends;rw [if_neg (by decide),if_neg (by decide),if_neg (by decide),if_pos rfl]
 have ha:∀ l:List Tree,endsAlt w l f k=true↔ ∃ t∈l,t.ends w f k=true:=by
  intro l
  induction l with
  |nil=>simp [endsAlt]
  |cons t r ih=>unfold endsAlt orB;rw [Bool.or_eq_true,ih];simp
 rw [e,ha]
 constructor
 ·rintro⟨t,h1,h2⟩
  obtain⟨j,g0,g1,g2⟩:=(xzee (hok t h1) f hk).1 h2;exact⟨j,g0,g1,t,h1,g2⟩
 ·rintro⟨j,g0,g1,t,h1,g2⟩
  exact⟨t,h1,(xzee (hok t h1) f hk).2 ⟨j,g0,g1,g2⟩⟩
def Ofs (lo hi:Int)(n:Nat):Prop:=lo<=n/\(hi= -1\/(n:Int)<=hi)
theorem Lg_4 {t:Tree}(hok:t.ok=true)(hlo:0<=lo)(hhi:hi= -1\/lo<=hi):Lg (.node 4 m [t] lo hi) w↔ ∃ n,Ofs lo hi n/\LgIt t n w:=xzlb (C:=fun w=>∃ n,Ofs lo hi n/\LgIt t n w) fun f k hk=>by
 have hE:headEnds w [t]=t.ends w:=by unfold headEnds;rfl
 have e:(Tree.node 4 m [t] lo hi).ends w f=repTo (t.ends w) lo.toNat (mostOf w lo hi+1) f:=by
  rw [<-hE];unfold Tree.ends;rw [if_neg (by decide),if_neg (by decide),if_neg (by decide),if_neg (by decide)]
 rw [e]
 by_cases hh:hi= -1
 ·subst hh
  have hm:mostOf w lo (-1)+1=lo.toNat+w.length+1+1:=by unfold mostOf;rw [if_pos (by decide)]
  have hR:∀ j k,PR (grF (partP t ⟨[],[]⟩).1.sets (partP t ⟨[],[]⟩).1.follow) w (partP t ⟨[],[]⟩).2 j k->j<=k/\(j<k->k<=w.length):=fun j k h=>h.le
  rw [yzbb (xzrg hok w),hm]
  have hit:∀ (n j:Nat),It (PR (grF (partP t ⟨[],[]⟩).1.sets (partP t ⟨[],[]⟩).1.follow) w (partP t ⟨[],[]⟩).2) n j k↔j<=k/\LgIt t n (seg w j k):=by
   intro n j;have h1:=xzmt (xzrg hok w) (atP j) n k;have h2:=xzez (s:=w) hok n (atP j) hk
   constructor
   ·intro h
    obtain⟨x,g0,g1,g2⟩:=h2.1 (h1.2 ⟨j,atP_iff.2 rfl,h⟩);obtain rfl:=atP_iff.1 g1;exact⟨g0,g2⟩
   ·intro h
    obtain⟨x,g1,g2⟩:=h1.1 (h2.2 ⟨j,h.1,atP_iff.2 rfl,h.2⟩);obtain rfl:=atP_iff.1 g1;exact g2
  constructor
  ·rintro⟨j,h1,n,h2,h3,h4⟩
   have:=(hit n j).1 h4;exact⟨j,this.1,h1,n,⟨by omega,.inl rfl⟩,this.2⟩
  ·rintro⟨j,h0,h1,n,⟨h2,_⟩,h3⟩
   have h4:=(hit n j).2 ⟨h0,h3⟩;refine⟨j,h1,?_⟩;rw [gkReps hR]
   by_cases h0:n=0
   ·subst h0
    exact .inr ⟨by omega,h4⟩
   ·refine .inl ?_
    obtain⟨b,hb⟩:∃ b,n=(max lo.toNat 1 - 1)+(b+1):=⟨n - (max lo.toNat 1 - 1) - 1,by omega⟩;rw [hb,It.cat]at h4;obtain⟨m,g1,g2⟩:=h4;exact⟨m,g1,g2.pls⟩
 ·have hm:mostOf w lo hi=hi.toNat:=by unfold mostOf;rw [if_neg (by omega)]
  rw [hm];unfold repTo;rw [List.any_eq_true]
  constructor
  ·rintro⟨n,h1,h2⟩
   rw [Bool.and_eq_true,decide_eq_true_eq]at h2;have:=List.mem_range.1 h1;obtain⟨j,g0,g1,g2⟩:=(xzez hok n f hk).1 h2.2;exact⟨j,g0,g1,n,⟨by omega,.inr (by omega)⟩,g2⟩
  ·rintro⟨j,g0,g1,n,⟨h1,h2⟩,g2⟩
   exact⟨n,List.mem_range.2 (by omega),by rw [Bool.and_eq_true,decide_eq_true_eq];exact⟨by omega,(xzez hok n f hk).2 ⟨j,g0,g1,g2⟩⟩⟩
end
theorem LgIt.cat {t:Tree}:∀ {a b:Nat} {u v:List UInt8},LgIt t a u->LgIt t b v->LgIt t (a+b) (u++v)
 |0,b,u,v,h,h'=>by
  obtain rfl:u=[]:=h;rw [Nat.zero_add];exact h'
 |a+1,b,u,v,⟨x,y,h1,h2,h3⟩,h'=>by
  subst h1;rw [Nat.succ_add,List.append_assoc];exact⟨x,y++v,rfl,h2,h3.cat h'⟩
theorem LgIt.some {t:Tree}{v:List UInt8}(h:Lg t v):∀ n,∃ e,LgIt t n e
 |0=>⟨[],rfl⟩
 |n+1=>by
  obtain⟨e,he⟩:=LgIt.some h n;exact⟨v++e,v,e,rfl,h,he⟩
theorem xzrh:∀ T:Tree,T.ok=true->(T.void=false↔ ∃ w,Lg T w):=by
 intro T hok
 constructor
 ·induction T using Tree.ind with
  |h k m l lo hi ih=>
   obtain⟨hoks,hn⟩:=xzcz hok
   rcases xzay hn with⟨rfl,hl⟩|⟨rfl,hl⟩|⟨rfl,hl⟩|⟨rfl,hl⟩|⟨rfl,hl,hlo,_,hhi⟩
   ·intro _;exact⟨[],Lg_0.2 rfl⟩
   ·rw [void_1]
    intro h
    have:∃ b,b<256/\m b=true:=by
     apply Classical.byContradiction
     intro hc
     have:setEq m (fun _=>false)=true:=setEq_iff.2 fun b hb=>by
      cases hm:m b
      ·rfl
      ·exact absurd ⟨b,hb,hm⟩ hc
     rw [h]at this;cases this
    obtain⟨b,hb,hm⟩:=this;exact⟨[UInt8.ofNat b],Lg_1.2 ⟨_,rfl,by rw [UInt8.toNat_ofNat'];rw [Nat.mod_eq_of_lt hb];exact hm⟩⟩
   ·rw [xzwp]
    intro h
    have:∀ l:List Tree,(∀ t∈l,t.void=false->∃ w,Lg t w)->anyVoid l=false->∃ w,LgL l w:=by
     intro l
     induction l with
     |nil=>intro _ _;exact⟨[],rfl⟩
     |cons t r ihr=>
      intro h1 h2;unfold anyVoid at h2;rw [Bool.or_eq_false_iff]at h2;obtain⟨u,hu⟩:=h1 t (by simp) h2.1;obtain⟨v,hv⟩:=ihr (fun x hx=>h1 x (by simp [hx])) h2.2;exact⟨u++v,u,v,rfl,hu,hv⟩
    obtain⟨w,hw⟩:=this l (fun t ht=>ih t ht (hoks t ht)) h;exact⟨w,(Lg_2 hoks).2 hw⟩
   ·rw [void_3]
    intro h
    have:∃ t∈l,t.void=false:=by
     apply Classical.byContradiction
     intro hc
     have:allVoid l=true:=allVoid_iff.2 fun t ht=>by
      cases hv:t.void
      ·exact absurd ⟨t,ht,hv⟩ hc
      ·rfl
     rw [h]at this;cases this
    obtain⟨t,ht,hv⟩:=this;obtain⟨w,hw⟩:=ih t ht (hoks t ht) hv;exact⟨w,(Lg_3 hoks).2 ⟨t,ht,hw⟩⟩
   ·obtain⟨t,rfl⟩:∃ t,l=[t]:=List.length_eq_one_iff.1 hl
    rw [yzga];intro h;have hot:=hoks t (by simp)
    by_cases h0:0<lo
    ·rw [decide_eq_true h0,Bool.true_and]at h
     unfold headVoid at h;obtain⟨v,hv⟩:=ih t (by simp) hot h;obtain⟨e,he⟩:=LgIt.some hv lo.toNat;exact⟨e,(Lg_4 hot hlo (by omega)).2 ⟨lo.toNat,⟨by omega,by omega⟩,he⟩⟩
    ·exact⟨[],(Lg_4 hot hlo (by omega)).2 ⟨0,⟨by omega,by omega⟩,rfl⟩⟩
 ·rintro⟨w,hw⟩
  exact(yzfz w T hok (atP 0) w.length hw).1
theorem yzgb {l:List Tree}(hok:∀ t∈l,t.ok=true)(h:anyVoid l=false):∃ w,LgL l w:=by
 have:(Tree.node 2 (fun _=>false) l 0 0).void=false:=by rw [xzwp];exact h
 induction l with
 |nil=>exact⟨[],rfl⟩
 |cons t r ih=>
  unfold anyVoid at h;rw [Bool.or_eq_false_iff]at h;obtain⟨u,hu⟩:=(xzrh t (hok t (by simp))).1 h.1;obtain⟨v,hv⟩:=ih (fun x hx=>hok x (by simp [hx])) h.2 (by rw [xzwp];exact h.2);exact⟨u++v,u,v,rfl,hu,hv⟩
end
end Go.Proofs.YtgbljnnmhmlifaaGreatDoor
