/-
 WHAT BEGINS A TEXT: the reference's Begins says that with some bytes more it is a text. Condition: each node of the tree may be.
-/
import Derived.Test.YtgbljnnmhmlifaaGreatDoorQG24
import Derived.Test.YtgbljnnmhmlifaaGreatDoorQG06
namespace Go.Proofs.YtgbljnnmhmlifaaGreatDoor
section
open Go.RowKit
def Bg (C:List UInt8->Prop)(w:List UInt8):Prop:=∃ e,C (w++e)
theorem xzlc {s:List UInt8}{j:Nat}(hj:j<=s.length):s.drop j=[]↔j=s.length:=by
 constructor
 ·intro h
  have:=congrArg List.length h
  simp at this;omega
 ·rintro rfl;simp
theorem xzws {s:List UInt8}{j m:Nat}(h1:j<=m)(h2:m<=s.length):s.drop j=seg s j m++s.drop m:=by
 rw [<-xzfo s m,xzre s h1 h2,xzfo]
theorem xzwt {s:List UInt8}{j:Nat}(hj:j<=s.length){e u v:List UInt8}(h:s.drop j++e=u++v):
 (∃ a,u=s.drop j++a/\e=a++v)\/(j+u.length<=s.length/\u=seg s j (j+u.length)/\v=s.drop (j+u.length)++e):=by
 rcases List.append_eq_append_iff.1 h with⟨a,h1,h2⟩|⟨c,h1,h2⟩
 ·exact .inl ⟨a,h1,h2⟩
 ·right
  rw [<-xzfo]at h1;obtain⟨g1,g2,g3⟩:=xzhg hj (Nat.le_refl _) h1;refine⟨g3,g1,?_⟩;rw [h2,g2,xzfo]
def BegIs (T:Tree):Prop:=∀ (s:List UInt8) (f:Nat->Bool),T.begins s f=true↔ ∃ j,j<=s.length/\f j=true/\Bg (Lg T) (s.drop j)
theorem yzea {s:List UInt8}:∀ {l:List Tree},(∀ t∈l,t.ok=true/\BegIs t)->anyVoid l=false->∀ f:Nat->Bool,beginsCat s l f=true↔ ∃ j,j<=s.length/\f j=true/\Bg (LgL l) (s.drop j)
 |[],_,_,f=>by
  unfold beginsCat
  constructor
  ·intro h;exact⟨s.length,Nat.le_refl _,h,[],by simp [LgL]⟩
  ·rintro⟨j,h0,h1,e,h2⟩
   have h2:s.drop j++e=[]:=h2;have:=(xzlc h0).1 (List.append_eq_nil_iff.1 h2).1;rw [<-this];exact h1
 |t::r,h,hv,f=>by
  unfold anyVoid at hv;rw [Bool.or_eq_false_iff]at hv;have ht:=h t (by simp)
  have hr:=fun x hx=>h x (List.mem_cons_of_mem t hx)
  unfold beginsCat;rw [Bool.or_eq_true,ht.2 s f,yzea hr hv.2]
  constructor
  ·rintro(⟨j,h0,h1,e,h2⟩|⟨m,h0,h1,e,h2⟩)
   ·obtain⟨v,hv⟩:=yzgb (fun x hx=>(hr x hx).1) hv.2
    exact⟨j,h0,h1,e++v,s.drop j++e,v,by rw [List.append_assoc],h2,hv⟩
   ·obtain⟨j,g0,g1,g2⟩:=(xzee ht.1 f h0).1 h1
    exact⟨j,by omega,g1,e,seg s j m,s.drop m++e,by rw [xzws g0 h0,List.append_assoc],g2,h2⟩
  ·rintro⟨j,h0,h1,e,u,v,h2,h3,h4⟩
   rcases xzwt h0 h2 with⟨a,rfl,rfl⟩|⟨g1,g2,rfl⟩
   ·exact .inl ⟨j,h0,h1,a,h3⟩
   ·exact .inr ⟨j+u.length,g1,(xzee ht.1 f g1).2 ⟨j,by omega,h1,by rw [<-g2];exact h3⟩,e,h4⟩
theorem xzkc (B:(Nat->Bool)->Bool)(E:(Nat->Bool)->Nat->Bool)(n:Nat):∀ (q:Nat) (f:Nat->Bool),beginsRep B E n q f=true↔(∃ i,i<q/\B (iterE E i f)=true)\/iterE E q f n=true
 |0,f=>by simp [beginsRep,iterE]
 |q+1,f=>by
  unfold beginsRep;rw [Bool.or_eq_true,xzkc B E n q,xzfp]
  constructor
  ·rintro(h|⟨i,h1,h2⟩|h)
   ·exact .inl ⟨0,by omega,h⟩
   ·exact .inl ⟨i+1,by omega,by rw [xzfp];exact h2⟩
   ·exact .inr h
  ·rintro(⟨i,h1,h2⟩|h)
   ·cases i with
    |zero=>exact .inl h2
    |succ i=>exact .inr (.inl ⟨i,by omega,by rw [<-xzfp];exact h2⟩)
   ·exact .inr (.inr h)
theorem it_cut {t:Tree}:∀ (n:Nat) (w e:List UInt8),w≠[]->LgIt t n (w++e)->∃ q u c,w=u++c/\q<w.length/\q<n/\LgIt t q u/\Bg (Lg t) c
 |0,w,e,hw,h=>by
  have h:w++e=[]:=h;exact absurd (List.append_eq_nil_iff.1 h).1 hw
 |n+1,w,e,hw,⟨u,v,h1,h2,h3⟩=>by
  rcases List.append_eq_append_iff.1 h1 with⟨a,rfl,rfl⟩|⟨c,rfl,rfl⟩
  ·exact⟨0,[],w,rfl,List.length_pos_iff.2 hw,by omega,rfl,a,h2⟩
  ·by_cases hc:c=[]
   ·subst hc
    exact⟨0,[],u,by simp,List.length_pos_iff.2 (by simpa using hw),by omega,rfl,[],by simpa using h2⟩
   ·obtain⟨q,x,y,g1,g2,g3,g4,g5⟩:=it_cut n c e hc h3
    by_cases hu:u=[]
    ·subst hu
     exact⟨q,x,y,by simpa using g1,by simpa using g2,by omega,g4,g5⟩
    ·refine⟨q+1,u++x,y,by rw [g1,List.append_assoc],?_,by omega,⟨u,x,rfl,h2,g4⟩,g5⟩
     have:=List.length_pos_iff.2 hu;rw [List.length_append];omega
theorem xzwu:∀ T:Tree,T.ok=true->BegIs T:=by
 intro T
 induction T using Tree.ind with
 |h k m l lo hi ih=>
  intro hok s f;obtain⟨hoks,hn⟩:=xzcz hok
  rcases xzay hn with⟨rfl,hl⟩|⟨rfl,hl⟩|⟨rfl,hl⟩|⟨rfl,hl⟩|⟨rfl,hl,hlo,_,hhi⟩
  ·have e:(Tree.node 0 m l lo hi).begins s f=f s.length:=by unfold Tree.begins;rw [if_pos rfl]
   rw [e]
   constructor
   ·intro h;exact⟨s.length,Nat.le_refl _,h,[],Lg_0.2 (by simp)⟩
   ·rintro⟨j,h0,h1,x,h2⟩
    have:=(xzlc h0).1 (List.append_eq_nil_iff.1 (Lg_0.1 h2)).1;rw [<-this];exact h1
  ·have e:(Tree.node 1 m l lo hi).begins s f=(if setEq m (fun _=>false)then false else f s.length||(decide (0<s.length)&&(f (s.length - 1)&&m (byteAt s (s.length - 1))))):=by
    unfold Tree.begins;rw [if_neg (by decide),if_pos rfl]
   rw [e];have hvd:=xzrh (.node 1 m l lo hi) hok;rw [void_1]at hvd
   cases hse:setEq m (fun _=>false)with
   |true=>
    rw [if_pos rfl]
    constructor
    ·intro h;cases h
    ·rintro⟨j,h0,h1,x,h2⟩
     have:=hvd.2 ⟨_,h2⟩;rw [hse]at this;cases this
   |false=>
    rw [if_neg (by simp)];obtain⟨w,hw⟩:=hvd.1 hse
    constructor
    ·intro h
     rw [Bool.or_eq_true,Bool.and_eq_true,Bool.and_eq_true,decide_eq_true_eq]at h
     rcases h with h|⟨h1,h2,h3⟩
     ·exact⟨s.length,Nat.le_refl _,h,w,by simpa using hw⟩
     ·refine⟨s.length - 1,by omega,h2,[],Lg_1.2 ⟨s.getD (s.length - 1) 0,?_,h3⟩⟩
      rw [List.append_nil,List.drop_eq_getElem_cons (by omega),List.getD_eq_getElem?_getD,List.getElem?_eq_getElem (by omega),show s.length - 1+1=s.length by omega]
      simp
    ·rintro⟨j,h0,h1,x,h2⟩
     obtain⟨c,h3,h4⟩:=Lg_1.1 h2
     rcases Nat.lt_or_ge j s.length with hj|hj
     ·rw [List.drop_eq_getElem_cons hj]at h3
      simp only [List.cons_append,List.cons.injEq]at h3;have:=(xzlc (by omega)).1 (List.append_eq_nil_iff.1 h3.2).1
      obtain rfl:j=s.length - 1:=by omega
      have hb:byteAt s (s.length - 1)=c.toNat:=xzif (by rw [List.getElem?_eq_getElem hj,h3.1]);rw [hb,h1,h4,decide_eq_true (by omega)];simp
     ·obtain rfl:j=s.length:=by omega
      rw [h1];rfl
  ·have e:(Tree.node 2 m l lo hi).begins s f=(if anyVoid l then false else beginsCat s l f):=by
    unfold Tree.begins;rw [if_neg (by decide),if_neg (by decide),if_pos rfl]
   rw [e];have hvd:=xzrh (.node 2 m l lo hi) hok;rw [xzwp]at hvd
   cases hv:anyVoid l with
   |true=>
    rw [if_pos rfl]
    constructor
    ·intro h;cases h
    ·rintro⟨j,h0,h1,x,h2⟩
     have:=hvd.2 ⟨_,h2⟩;rw [hv]at this;cases this
   |false=>
    rw [if_neg (by simp),yzea (fun t ht=>⟨hoks t ht,ih t ht (hoks t ht)⟩) hv]
    refine exists_congr fun j=>and_congr Iff.rfl (and_congr Iff.rfl (exists_congr fun x=>(Lg_2 hoks).symm))
  ·have e:(Tree.node 3 m l lo hi).begins s f=beginsAlt s l f:=by
    unfold Tree.begins;rw [if_neg (by decide),if_neg (by decide),if_neg (by decide),if_pos rfl]
   have ha:∀ l:List Tree,beginsAlt s l f=true↔ ∃ t∈l,t.begins s f=true:=by
    intro l
    induction l with
    |nil=>simp [beginsAlt]
    |cons t r ih=>unfold beginsAlt;rw [Bool.or_eq_true,ih];simp
   rw [e,ha]
   constructor
   ·rintro⟨t,h1,h2⟩
    obtain⟨j,g0,g1,x,g2⟩:=(ih t h1 (hoks t h1) s f).1 h2;exact⟨j,g0,g1,x,(Lg_3 hoks).2 ⟨t,h1,g2⟩⟩
   ·rintro⟨j,g0,g1,x,g2⟩
    obtain⟨t,h1,h2⟩:=(Lg_3 hoks).1 g2;exact⟨t,h1,(ih t h1 (hoks t h1) s f).2 ⟨j,g0,g1,x,h2⟩⟩
  ·obtain⟨t,rfl⟩:∃ t,l=[t]:=List.length_eq_one_iff.1 hl
   have hot:=hoks t (by simp);have hih:=ih t (by simp) hot
   have hB:headBegins s [t]=t.begins s:=by unfold headBegins;rfl
   have hE:headEnds s [t]=t.ends s:=by unfold headEnds;rfl
   have hV:headVoid [t]=t.void:=by unfold headVoid;rfl
   have e:(Tree.node 4 m [t] lo hi).begins s f=(if(decide (0<lo)&&t.void)=true then false else if f s.length then true else beginsRep (t.begins s) (t.ends s) s.length (mostOf s lo hi) f):=by
    rw [<-hB,<-hE,<-hV];unfold Tree.begins;rw [if_neg (by decide),if_neg (by decide),if_neg (by decide),if_neg (by decide)]
   rw [e];have hvd:=xzrh (.node 4 m [t] lo hi) hok;rw [yzga,hV]at hvd
   cases hv:(decide (0<lo)&&t.void)with
   |true=>
    rw [if_pos rfl]
    constructor
    ·intro h;cases h
    ·rintro⟨j,h0,h1,x,h2⟩
     have:=hvd.2 ⟨_,h2⟩;rw [hv]at this;cases this
   |false=>
    rw [if_neg (by simp)]
    have hmost:lo.toNat<=mostOf s lo hi:=by unfold mostOf;split<;>omega
    cases hf:f s.length with
    |true=>
     rw [if_pos rfl];obtain⟨w,hw⟩:=hvd.1 hv;exact⟨fun _=>⟨s.length,Nat.le_refl _,hf,w,by simpa using hw⟩,fun _=>rfl⟩
    |false=>
     rw [if_neg (by simp),xzkc]
     constructor
     ·rintro(⟨i,h1,h2⟩|h)
      ·obtain⟨m',h3,h4,x,h5⟩:=(hih s _).1 h2
       obtain⟨j,g0,g1,g2⟩:=(xzez hot i f h3).1 h4;obtain⟨y,hy⟩:=LgIt.some h5 (lo.toNat - (i+1));refine⟨j,by omega,g1,x++y,(Lg_4 hot hlo (by omega)).2 ⟨i+1+(lo.toNat - (i+1)),⟨by omega,?_⟩,?_⟩⟩
       ·by_cases hh:hi= -1
        ·exact .inl hh
        ·right
         have:mostOf s lo hi=hi.toNat:=by unfold mostOf;rw [if_neg (by omega)]
         omega
       ·rw [xzws g0 h3,<-List.append_assoc,List.append_assoc (seg s j m')]
        exact LgIt.cat (g2.cat (show LgIt t 1 (s.drop m'++x)from⟨_,[],by simp,h5,rfl⟩)) hy
      ·obtain⟨j,g0,g1,g2⟩:=(xzez hot _ f (Nat.le_refl _)).1 h
       rw [xzfo]at g2;refine⟨j,g0,g1,[],(Lg_4 hot hlo (by omega)).2 ⟨mostOf s lo hi,⟨by omega,?_⟩,by simpa using g2⟩⟩
       by_cases hh:hi= -1
       ·exact .inl hh
       ·right
        have:mostOf s lo hi=hi.toNat:=by unfold mostOf;rw [if_neg (by omega)]
        omega
     ·rintro⟨j,h0,h1,x,h2⟩
      obtain⟨n,⟨n1,n2⟩,h3⟩:=(Lg_4 hot hlo (by omega)).1 h2
      by_cases hj:j=s.length
      ·subst hj;rw [hf]at h1;cases h1
      ·have hne:s.drop j≠[]:=fun h=>hj ((xzlc h0).1 h)
       obtain⟨q,u,c,g1,g2,g3,g4,g5⟩:=it_cut n _ x hne h3
       left
       rw [List.length_drop]at g2
       have hq:q<mostOf s lo hi:=by
        unfold mostOf
        split
        ·omega
        ·rcases n2 with n2|n2<;>omega
       rw [<-xzfo]at g1;obtain⟨k1,k2,k3⟩:=xzhg h0 (Nat.le_refl _) g1;rw [xzfo]at k2;exact⟨q,hq,(hih s _).2 ⟨j+u.length,k3,(xzez hot q f k3).2 ⟨j,by omega,h1,by rw [<-k1];exact g4⟩,by rw [<-k2];exact g5⟩⟩
theorem xzri {T:Tree}(hok:T.ok=true)(s:List UInt8):T.begins s (atP 0)=true↔ ∃ e,T.takes (s++e)=true:=by
 rw [xzwu T hok s]
 constructor
 ·rintro⟨j,_,h1,e,h2⟩
  obtain rfl:=atP_iff.1 h1;exact⟨e,h2⟩
 ·rintro⟨e,h⟩
  exact⟨0,Nat.zero_le _,atP_iff.2 rfl,e,h⟩
end
section
open Go.RowKit
theorem hasI_iff {l:List Int}{q:Nat}:hasI l q=true↔(q:Int)∈l:=by
 unfold hasI;rw [List.any_eq_true]
 constructor
 ·rintro⟨x,h1,h2⟩
  have:x=(q:Int):=by simpa using h2
  rw [<-this];exact h1
 ·intro h;exact⟨_,h,by simp⟩
theorem xzmw:∀ (l:List Int) (E:List Bool),(∀ x∈l,0<=x/\x<(E.length:Int))->∀ a,(marksE E l).getD a false=(E.getD a false||hasI l a)
 |[],E,_,a=>by simp [marksE,hasI]
 |x::l,E,h,a=>by
  have hx:=h x (by simp);simp only [marksE];rw [xzmw l _ (fun y hy=>by rw [List.length_set];exact h y (by simp [hy])),xzci]
  by_cases hp:x=(a:Int)
  ·have e1:(E.set x.toNat true).getD a false=true:=by
    rw [List.getD_eq_getElem?_getD,show x.toNat=a by omega,List.getElem?_set_self (by omega)];rfl
   rw [e1,show(x==(a:Int))=true by simp [hp]];simp
  ·have e1:(E.set x.toNat true).getD a false=E.getD a false:=by
    rw [List.getD_eq_getElem?_getD,List.getElem?_set_ne (by omega),<-List.getD_eq_getElem?_getD]
   rw [e1,show(x==(a:Int))=false by simp [hp],Bool.false_or]
theorem xzwv {n:Int}:∀ {c c':Int} {l:List Int},risesB n c l=true->(∀ x∈l,c'<x)->risesB n c' l=true
 |_,_,[],_,_=>rfl
 |c,c',x::l,h,hx=>by
  simp only [risesB,Bool.and_eq_true,decide_eq_true_eq]at h ⊢;exact⟨⟨hx x (by simp),h.1.2⟩,h.2⟩
theorem xzmx {n:Int}:∀ {c:Int} {l:List Int},risesB n c l=true->c<n->l.getLastD c<n
 |_,[],_,h=>h
 |c,x::l,h,_=>by
  simp only [risesB,Bool.and_eq_true,decide_eq_true_eq]at h;rw [List.getLastD_cons];exact xzmx h.2 h.1.2
structure BsS (x:Bs)(l:List Tree)(ps:List Prt):Prop where
 ok:x.S.Ok
 lr:x.R.length=x.S.sets.length
 le:x.E.length=x.S.sets.length
 pl:ps.length=l.length
 pt:∀ k (h:k<l.length) (h':k<ps.length),∃ lo hi,hi<=x.S.sets.length/\InP lo hi ps[k]/\Cl (grF x.S.sets x.S.follow) lo hi/\SaysT (grF x.S.sets x.S.follow) l[k] ps[k]/\∀ a,lo<=a->a<hi->x.R.getD a 0=(k:Int)
 fi:∀ a,hasI x.F a=ps.any fun p=>hasI p.first a
 en:∀ a,x.E.getD a false=ps.any fun p=>hasI p.ends a
 em:(x.em= -1/\∀ k (h:k<ps.length),ps[k].empty=false)\/ ∃ k,∃ h:k<ps.length,x.em=(k:Int)/\ps[k].empty=true/\∀ i (h:i<ps.length),i<k->ps[i].empty=false
 fr:risesB x.S.sets.length (-1) x.F=true
 rr:∀ r∈x.R,0<=r/\r<(l.length:Int)
theorem bs_add {x:Bs}{l:List Tree}{ps:List Prt}(h:BsS x l ps)(t:Tree)(hok:t.ok=true):BsS (x.add (l.length:Int) t) (l++[t]) (ps++[(partP t x.S).2]):=by
 obtain⟨a1,a2,a3,a4⟩:=xzrb t hok x.S h.ok;obtain⟨o1,o2,o3⟩:=xzdl t x.S (xzmn t hok) h.ok
 have hle:x.S.sets.length<=(partP t x.S).1.sets.length:=by omega
 unfold Bs.add;generalize hX:partP t x.S=X at*;have hpl:=h.pl;have hlr:=h.lr;have hlE:=h.le;refine⟨o1,?_,?_,by simp [hpl],?_,?_,?_,?_,?_,?_⟩<;>dsimp only
 ·rw [List.length_append,List.length_replicate];omega
 ·rw [xzfk,List.length_append,List.length_replicate];omega
 ·intro k hk hk'
  rw [List.length_append,List.length_singleton]at hk hk'
  by_cases hkl:k<l.length
  ·obtain⟨lo,hi,g1,g2,g3,g4,g5⟩:=h.pt k hkl (by omega)
   have hag:=a1.sub (lo':=lo) (hi':=hi) (Nat.zero_le _) g1;refine⟨lo,hi,by omega,?_,g3.ag hag,?_,fun a h1 h2=>?_⟩
   ·rw [List.getElem_append_left (by omega)];exact g2
   ·rw [List.getElem_append_left hkl,List.getElem_append_left (by omega)];exact g4.ag g3 hag g2
   ·rw [xzcx _ _ _ (by omega)];exact g5 a h1 h2
  ·obtain rfl:k=l.length:=by omega
   refine⟨_,_,Nat.le_refl _,?_,a3,?_,fun a h1 h2=>?_⟩
   ·rw [List.getElem_append_right (by omega)];simpa [hpl]using a2
   ·rw [List.getElem_append_right (by omega),List.getElem_append_right (by omega)];simpa [hpl]using a4
   ·rw [List.getD_eq_getElem?_getD,List.getElem?_append_right (by omega),List.getElem?_replicate,if_pos (by omega)];rfl
 ·intro a
  rw [xzom,h.fi a,List.any_append];simp
 ·intro a
  rw [xzmw _ _ (fun y hy=>by
   have:=xzqy o2 y hy
   rw [List.length_append,List.length_replicate];omega),List.any_append,<-h.en a]
  congr 1
  ·rw [List.getD_eq_getElem?_getD,List.getD_eq_getElem?_getD]
   by_cases ha:a<x.E.length
   ·rw [List.getElem?_append_left ha]
   ·rw [List.getElem?_append_right (by omega),List.getElem?_eq_none (l:=x.E) (by omega),List.getElem?_replicate]
    split<;>rfl
  ·simp
 ·rcases h.em with⟨e1,e2⟩|⟨k,hk,e1,e2,e3⟩
  ·cases hp:X.2.empty with
   |true=>
    right
    refine⟨ps.length,by simp,?_,?_,fun i hi hik=>?_⟩
    ·rw [e1,hpl];rfl
    ·simp [hp]
    ·rw [List.getElem_append_left hik];exact e2 i hik
   |false=>
    left
    refine⟨by rw [e1];rfl,fun k hk=>?_⟩;rw [List.length_append,List.length_singleton]at hk
    by_cases hkl:k<ps.length
    ·rw [List.getElem_append_left hkl];exact e2 k hkl
    ·obtain rfl:k=ps.length:=by omega
     simp [hp]
  ·right
   refine⟨k,by simp;omega,?_,by rw [List.getElem_append_left hk];exact e2,fun i hi hik=>by rw [List.getElem_append_left (by omega)];exact e3 i (by omega) hik⟩
   have:(x.em== -1)=false:=by rw [e1];simp
   rw [this,Bool.and_false];exact e1
 ·refine xzht (xzbt (by omega) (Int.le_refl _) h.fr) (xzwv o2.1 fun y hy=>?_)
  have h1:=xzmx h.fr (by omega);have h0:=xzwi o2 y hy;have h2:=a2.1 y.toNat (hasI_iff.2 (by rw [Int.toNat_of_nonneg h0.1];exact hy));omega
 ·intro r hr
  rw [List.length_append,List.length_singleton]
  rcases List.mem_append.1 hr with hr|hr
  ·have:=h.rr r hr;omega
  ·have:=List.eq_of_mem_replicate hr;omega
theorem yzgc (l:List Tree)(hok:∀ t∈l,t.ok=true):∃ ps,BsS (Bs.all Bs.none 0 l) l ps:=by
 have:∀ n,n<=l.length->∃ ps,BsS (Bs.all Bs.none 0 (l.take n)) (l.take n) ps:=by
  intro n
  induction n with
  |zero=>
   intro _;refine⟨[],⟨⟨rfl,fun r hr=>by cases hr⟩,rfl,rfl,rfl,fun k h=>by simp at h,fun a=>rfl,fun a=>rfl,.inl ⟨rfl,fun k h=>by simp at h⟩,rfl,fun r hr=>by cases hr⟩⟩
  |succ n ih=>
   intro hn;obtain⟨ps,h⟩:=ih (by omega);rw [List.take_succ_eq_append_getElem (by omega),Bs.all_snoc];have:=bs_add h l[n] (hok _ (List.getElem_mem _));rw [Int.zero_add];exact⟨_,this⟩
 have:=this l.length (Nat.le_refl _)
 rwa [List.take_length]at this
theorem sl_get (s:ByteArray){i:Nat}(h:i<s.size):s.data.toList[i]? =some (s[i]'h):=by
 rw [List.getElem?_eq_getElem (by simpa using h)]
 rfl
theorem yzbc {G:Gr}(s:ByteArray){p i:Nat}(h:i<s.size):G.hit s.data.toList p i↔G.st p (b8 s i)=true:=by
 unfold Gr.hit b8;rw [dif_pos h,sl_get s h]
 constructor
 ·rintro⟨c,h1,h2⟩
  injection h1 with h1
  rw [h1];exact h2
 ·intro h1;exact⟨_,rfl,h1⟩
theorem xzmy (s:ByteArray):s.data.toList.length=s.size:=by simp
theorem yzeb {N:Nf}(hM:MayIs N)(s:ByteArray):∀ (j:Nat),j<s.size->∀ q:Nat,(q:Int)∈atTo N s (j+1)↔ ∃ a,hasI N.first a=true/\(grF N.sets N.follow).hit s.data.toList a 0/\Rch (grF N.sets N.follow) s.data.toList a 0 q j
 |0,hj,q=>by
  unfold atTo beginL;rw [List.mem_filter]
  constructor
  ·rintro⟨h1,h2⟩
   exact⟨q,hasI_iff.2 h1,(yzbc s hj).2 h2,.refl⟩
  ·rintro⟨a,h1,h2,h3⟩
   obtain rfl:a=q:=by cases h3;rfl
   exact⟨hasI_iff.1 h1,(yzbc s hj).1 h2⟩
 |j+1,hj,q=>by
  rw [xzqi N s (by omega)];unfold keepTo;have ih:=yzeb hM s j (by omega);have hin:=yzdy hM s (j+1)
  constructor
  ·intro h
   obtain⟨q',h1,h2⟩:=List.mem_map.1 h
   obtain rfl:q'=q:=by omega
   obtain⟨h3,h4⟩:=List.mem_filter.1 h1;rw [Bool.and_eq_true]at h4;obtain⟨p,h5,h6⟩:=List.any_eq_true.1 h4.1;obtain⟨p',rfl⟩:∃ p':Nat,p=(p':Int):=⟨p.toNat,by have:=hin p h5;omega⟩;obtain⟨a,g1,g2,g3⟩:=(ih p').1 h5;exact⟨a,g1,g2,.step g3 h6 ((yzbc s hj).2 h4.2)⟩
  ·rintro⟨a,g1,g2,g3⟩
   cases g3 with
   | @step p _ _ g4 g5 g6=>
    have h5:=(ih p).2 ⟨a,g1,g2,g4⟩
    have hq:q<N.sets.length:=by
     have:hasI (N.follow.getD p []) q=true:=g5;have h7:=hasI_iff.1 this
     have h8:N.follow.getD p []∈N.follow\/N.follow.getD p []=[]:=by
      rw [List.getD_eq_getElem?_getD]
      cases e:N.follow[p]? with
      |none=>exact .inr rfl
      |some r=>exact .inl (List.mem_of_getElem? e)
     rcases h8 with h8|h8
     ·have:=xzbb (hM.row _ h8) _ h7
      omega
     ·rw [h8]at h7;cases h7
    refine List.mem_map.2 ⟨q,List.mem_filter.2 ⟨List.mem_range.2 hq,?_⟩,rfl⟩;rw [Bool.and_eq_true];exact⟨List.any_eq_true.2 ⟨_,h5,g5⟩,(yzbc s hj).1 g6⟩
end
section
open Go.RowKit
def whichI (s:List UInt8):Int->List Tree->Int
 |_,[]=> -1
 |i,t::r=>if t.takes s then i else whichI s (i+1) r
theorem xzgg (s:List UInt8):∀ (l:List Tree) (i:Int),0<=i->(whichI s i l= -1/\∀ k (h:k<l.length),(l[k]).takes s=false)\/ ∃ k,∃ h:k<l.length,whichI s i l=i+k/\(l[k]).takes s=true/\∀ j (h:j<l.length),j<k->(l[j]).takes s=false
 |[],_,_=>.inl ⟨rfl,fun k h=>by simp at h⟩
 |t::r,i,hi=>by
  unfold whichI
  cases ht:t.takes s with
  |true=>
   rw [if_pos rfl];exact .inr ⟨0,by simp,by omega,ht,fun j _ h=>by omega⟩
  |false=>
   rw [if_neg (by simp)]
   rcases xzgg s r (i+1) (by omega)with⟨h1,h2⟩|⟨k,hk,h1,h2,h3⟩
   ·refine .inl ⟨h1,fun k h=>?_⟩
    cases k with
    |zero=>exact ht
    |succ k=>exact h2 k (by simpa using h)
   ·refine .inr ⟨k+1,by simp;omega,by omega,h2,fun j hj hjk=>?_⟩
    cases j with
    |zero=>exact ht
    |succ j=>exact h3 j (by simpa using hj) (by omega)
theorem xzld (l:List Tree)(hok:∀ t∈l,t.ok=true)(h40:l.length<=40)(hp:(buildN l).sets.length<=2000):(buildN l).may=true:=by
 obtain⟨ps,h⟩:=yzgc l hok;have e:buildN l=⟨(Bs.all Bs.none 0 l).S.sets,(Bs.all Bs.none 0 l).R,(Bs.all Bs.none 0 l).F,(Bs.all Bs.none 0 l).S.follow,(Bs.all Bs.none 0 l).E,(Bs.all Bs.none 0 l).em⟩:=rfl;rw [e]at hp ⊢;unfold Nf.may Nf.sized Nf.rest okR;simp only [Bool.and_eq_true,decide_eq_true_eq,beq_iff_eq,List.all_eq_true];refine⟨⟨⟨hp,h.lr⟩,h.ok.1,h.le⟩,fun r hr=>?_,fun r hr=>h.ok.2 r hr,h.fr,?_⟩
 ·have:=h.rr r hr;omega
 ·have hpl:=h.pl
  rcases h.em with⟨e1,_⟩|⟨k,hk,e1,_⟩<;>omega
theorem xzdq (l:List Tree)(hok:∀ t∈l,t.ok=true):(buildN l).sets.length=sumN l:=by
 have:∀ (l:List Tree) (x:Bs) (i:Int),x.S.Ok->(∀ t∈l,t.ok=true)->(Bs.all x i l).S.sets.length=x.S.sets.length+sumN l:=by
  intro l
  induction l with
  |nil=>intro x i _ _;simp [Bs.all,sumN]
  |cons t r ih=>
   intro x i hx h;obtain⟨o1,_,o3⟩:=xzdl t x.S (xzmn t (h t (by simp))) hx;simp only [Bs.all,sumN];rw [ih _ _ o1 fun y hy=>h y (by simp [hy])]
   show(partP t x.S).1.sets.length+_=_
   omega
 have:=this l Bs.none 0 mk0_ok hok
 simpa [buildN,Bs.none]using this
theorem yzbd (l:List Tree)(hok:∀ t∈l,t.ok=true)(hM:MayIs (buildN l))(s:ByteArray)(hs:1<=s.size)(r:Int):hitR (buildN l) (atTo (buildN l) s s.size) r=true↔ ∃ k,∃ h:k<l.length,r=(k:Int)/\(l[k]).takes s.data.toList=true:=by
 obtain⟨ps,h⟩:=yzgc l hok;obtain⟨j,hj⟩:∃ j,s.size=j+1:=⟨s.size - 1,by omega⟩;have hat:=yzeb hM s j (by omega);have hin:=yzdy hM s (j+1);rw [hj]
 have hF:∀ a,hasI (buildN l).first a=ps.any fun p=>hasI p.first a:=h.fi
 have hE:∀ a,(buildN l).ends.getD a false=ps.any fun p=>hasI p.ends a:=h.en
 have hpl:=h.pl;have hPt:=h.pt;have hG:grF (Bs.all Bs.none 0 l).S.sets (Bs.all Bs.none 0 l).S.follow=grF (buildN l).sets (buildN l).follow:=rfl;have hR0:(Bs.all Bs.none 0 l).R=(buildN l).rules:=rfl;rw [hG,hR0]at hPt
 have mem:∀ (f:Prt->Bool),(ps.any f)=true↔ ∃ k,∃ h:k<ps.length,f ps[k]=true:=fun f=>by
  rw [List.any_eq_true]
  constructor
  ·rintro⟨p,h1,h2⟩
   obtain⟨k,h3,h4⟩:=List.mem_iff_getElem.1 h1;exact⟨k,h3,by rw [h4];exact h2⟩
  ·rintro⟨k,h3,h4⟩;exact⟨_,List.getElem_mem h3,h4⟩
 constructor
 ·intro hh
  obtain⟨p,h1,h2⟩:=List.any_eq_true.1 hh;rw [Bool.and_eq_true]at h2;obtain⟨q,rfl⟩:∃ q:Nat,p=(q:Int):=⟨p.toNat,by have:=hin p h1;omega⟩;obtain⟨a,g1,g2,g3⟩:=(hat q).1 h1;rw [hF,mem]at g1;obtain⟨k,hk,g1⟩:=g1;have he:(buildN l).ends.getD q false=true:=h2.2;rw [hE,mem]at he;obtain⟨k',hk',he⟩:=he;obtain⟨lo,hi,z1,z2,z3,z4,z5⟩:=hPt k (by omega) hk;obtain⟨lo',hi',y1,y2,y3,y4,y5⟩:=hPt k' (by omega) hk';have ha:=z2.1 a g1;have hq:=g3.stay z3 ha.1 ha.2;have hq':=y2.2 q he;have e1:=z5 q hq.1 hq.2;have e2:=y5 q hq'.1 hq'.2
  obtain rfl:k=k':=by omega
  refine⟨k,by omega,?_,?_⟩
  ·have:(buildN l).ruleAt (q:Int)=r:=by simpa using h2.1
   rw [<-this];exact e1
  ·unfold Tree.takes
   rw [z4];exact⟨0,atP_iff.2 rfl,.inr ⟨a,q,j,g1,he,g2,g3,by rw [xzmy,hj]⟩⟩
 ·rintro⟨k,hk,rfl,ht⟩
  obtain⟨lo,hi,z1,z2,z3,z4,z5⟩:=hPt k hk (by omega);unfold Tree.takes at ht;rw [z4]at ht;obtain⟨x,g0,g1⟩:=ht;obtain rfl:=atP_iff.1 g0
  rcases g1 with⟨_,g1⟩|⟨a,b,k',g1,g2,g3,g4,g5⟩
  ·rw [xzmy]at g1;omega
  ·rw [xzmy,hj]at g5
   obtain rfl:k'=j:=by omega
   have hb:=(hat b).2 ⟨a,by rw [hF,mem];exact⟨k,by omega,g1⟩,g3,g4⟩;refine List.any_eq_true.2 ⟨_,hb,?_⟩;rw [Bool.and_eq_true];have hab:=z2.1 a g1;have hq:=g4.stay z3 hab.1 hab.2;refine⟨?_,?_⟩
   ·have:=z5 b hq.1 hq.2
    have:(buildN l).ruleAt (b:Int)=(k:Int):=this;rw [this];simp
   ·show(buildN l).ends.getD b false=true
    rw [hE,mem];exact⟨k,by omega,g2⟩
theorem xztq (l:List Tree)(hok:∀ t∈l,t.ok=true):(buildN l).empty=whichI [] 0 l:=by
 obtain⟨ps,h⟩:=yzgc l hok;have hpl:=h.pl
 have he:∀ k (hk:k<l.length) (hk':k<ps.length),(l[k]).takes []=ps[k].empty:=fun k hk hk'=>by
  obtain⟨lo,hi,z1,z2,z3,z4,z5⟩:=h.pt k hk hk';rw [Bool.eq_iff_iff];unfold Tree.takes;rw [z4]
  constructor
  ·rintro⟨j,g0,(⟨g1,_⟩|⟨a,b,k',g1,g2,⟨c,g3,_⟩,_⟩)⟩
   ·exact g1
   ·simp at g3
  ·intro g;exact⟨0,atP_iff.2 rfl,.inl ⟨g,rfl⟩⟩
 have hem:(buildN l).empty=(Bs.all Bs.none 0 l).em:=rfl;rw [hem]
 rcases xzgg [] l 0 (by decide)with⟨h1,h2⟩|⟨k,hk,h1,h2,h3⟩
 ·rw [h1]
  rcases h.em with⟨e1,_⟩|⟨k,hk,e1,e2,_⟩
  ·exact e1
  ·have:=h2 k (by omega)
   rw [he k (by omega) hk,e2]at this;cases this
 ·rw [h1]
  rcases h.em with⟨_,e1⟩|⟨k',hk',e1,e2,e3⟩
  ·rw [he k hk (by omega),e1 k (by omega)]at h2;cases h2
  ·rw [e1]
   rcases Nat.lt_trichotomy k k' with hlt|rfl|hlt
   ·rw [he k hk (by omega),e3 k (by omega) hlt]at h2;cases h2
   ·omega
   ·have:=h3 k' (by omega) hlt
    rw [he k' (by omega) hk',e2]at this;cases this
theorem yzbe (l:List Tree)(hok:∀ t∈l,t.ok=true)(h40:l.length<=40)(hp:sumN l<=2000)(s:ByteArray):ranT (buildN l) s=whichI s.data.toList 0 l:=by
 have hmay:=xzld l hok h40 (by rw [xzdq l hok];exact hp);have hM:=xzux hmay;unfold ranT;rw [if_pos hmay]
 split
 ·rename_i h0
  rw [xztq l hok];have:s.data.toList=[]:=List.eq_nil_of_length_eq_zero (by rw [xzmy];exact h0);rw [this]
 ·rename_i h0
  have hR:∀ p,0<=(buildN l).ruleAt p/\(buildN l).ruleAt p<40:=fun p=>by
   unfold Nf.ruleAt;rw [List.getD_eq_getElem?_getD]
   cases e:(buildN l).rules[p.toNat]? with
   |none=>simp
   |some r=>exact hM.rule r (List.mem_of_getElem? e)
  have ht:=yzbd l hok hM s (by omega)
  rcases xzqf (buildN l) hR (atTo (buildN l) s s.size)with⟨h1,h2⟩|⟨h1,h2,h3,h4⟩
  ·rw [h1]
   rcases xzgg s.data.toList l 0 (by decide)with⟨g1,_⟩|⟨k,hk,g1,g2,_⟩
   ·exact g1.symm
   ·have:=h2 k
    rw [(ht k).2 ⟨k,hk,rfl,g2⟩]at this;cases this
  ·obtain⟨k,hk,g1,g2⟩:=(ht _).1 h3
   rcases xzgg s.data.toList l 0 (by decide)with⟨_,f2⟩|⟨k',hk',f1,f2,f3⟩
   ·rw [f2 k hk]at g2;cases g2
   ·rw [f1,g1]
    have:=h4 k' ((ht k').2 ⟨k',hk',rfl,f2⟩)
    rcases Nat.lt_or_ge k k' with hlt|hge
    ·rw [f3 k hk hlt]at g2;cases g2
    ·omega
theorem Rch.mid {G:Gr}{s:List UInt8}{a i b m x:Nat}(h:Rch G s a i b m)(h1:i<=x)(h2:x<=m):∃ q,Rch G s a i q x/\Rch G s q x b m:=by
 induction h with
 |refl=>
  obtain rfl:x=i:=by omega
  exact⟨_,.refl,.refl⟩
 | @step q m r h3 h4 h5 ih=>
  by_cases hx:x=m+1
  ·subst hx
   exact⟨r,.step h3 h4 h5,.refl⟩
  ·obtain⟨y,g1,g2⟩:=ih (by omega)
   exact⟨y,g1,.step g2 h4 h5⟩
end
section
open Go.RowKit
def BoolIs (b:Bool)(w:World):Ending->World->Prop:=fun e w'=>e=.returned (.bool b)/\Below w.heap.size w w'
theorem xzef (s:List UInt8)(f:Nat->Bool):∀ {l:List Tree},beginsAlt s l f=true↔ ∃ t∈l,t.begins s f=true
 |[]=>by simp [beginsAlt]
 |a::l=>by simp only [beginsAlt,Bool.or_eq_true,List.mem_cons,exists_eq_or_imp,xzef s f (l:=l)]
set_option maxHeartbeats 8000000 in
set_option maxRecDepth 20000 in
theorem yzbf (s:ByteArray)(n:Nat)(hn:n=s.size+1)(m:Nat->Bool)(l:List Tree)(lo hi:Int)(A:Option Addr)(c:Nat)(w:World)(g0:Nat)(f:Nat->Bool)(hf0:BlkIs w g0 4 (bl n f)):
 Calls Tryz.prog 29 #[reV 0 m A l.length c lo hi,.string s,.slice (some ⟨g0,0,none⟩) n n] w (BoolIs (f s.size) w):=by
 have hB0:Below w.heap.size w (w.alloc (.cells (reL 0 m A l.length c lo hi).toArray 49)):=(Below.refl _ _).alloc (Nat.le_refl _) _;have hX0:=BlkIs.new w 49 (reL 0 m A l.length c lo hi).toArray;have HB0:=zd (And.intro hB0 (And.intro hX0 (hf0.alloc (.cells (reL 0 m A l.length c lo hi).toArray 49))))
 have hsn:s.size<n:=by omega
 have hsi:(s.size:Int)<(n:Int):=by omega
 have HN:=zd hn;clear hB0 hX0 hn;unfold BoolIs at*;unfold reV reL at*;have d0:=xzba (hf0.alloc (.cells (reL 0 m A l.length c lo hi).toArray 49)) hsn;unfold reL at d0;have hg0:=hf0.lt;have d1:=xzba hf0 hsn;clear hf0
 go_enter Tryz.func29,Tryz.ntmps29
 go_wp2;go_ret;exact⟨rfl,(Below.refl _ _).alloc (Nat.le_refl _) _⟩
set_option maxHeartbeats 8000000 in
set_option maxRecDepth 20000 in
theorem yzbg (s:ByteArray)(n:Nat)(hn:n=s.size+1)(m:Nat->Bool)(l:List Tree)(lo hi:Int)(A:Option Addr)(c:Nat)(hc:l.length<=c/\c<=9223372036854775807)(w:World)(g0:Nat)(f:Nat->Bool)(hf0:BlkIs w g0 4 (bl n f))
 (hs:l≠[]->∃ b o,A=some ⟨b,o,none⟩/\b<w.heap.size/\∀ (i:Nat) (h:i<l.length),∃ cs:List Value,Tree.At w l[i] (.agg cs.toArray)/\cs.length=8/\w.rangeAt b (o+i*8) cs)
 (ih:∀ t∈l,∀ (v:Value) (w:World) (g0:Nat) (f:Nat->Bool),Tree.At w t v->BlkIs w g0 4 (bl n f)->Calls Tryz.prog 29 #[v,.string s,.slice (some ⟨g0,0,none⟩) n n] w (BoolIs (t.begins s.data.toList f) w)):
 Calls Tryz.prog 29 #[reV 3 m A l.length c lo hi,.string s,.slice (some ⟨g0,0,none⟩) n n] w (BoolIs (beginsAlt s.data.toList l f) w):=by
 have hB0:Below w.heap.size w (w.alloc (.cells (reL 3 m A l.length c lo hi).toArray 49)):=(Below.refl _ _).alloc (Nat.le_refl _) _;have hX0:=BlkIs.new w 49 (reL 3 m A l.length c lo hi).toArray;have HB0:=zd (And.intro hB0 (And.intro hX0 (hf0.alloc (.cells (reL 3 m A l.length c lo hi).toArray 49))))
 have hsn:s.size<n:=by omega
 have hsi:(s.size:Int)<(n:Int):=by omega
 have HN:=zd hn;have HS:=zd hs;have IH:=zd ih;clear hs ih;clear hsn hsi HN;clear hB0 hX0 hn;unfold BoolIs at*;unfold reV reL at*;clear hf0;obtain⟨R,hR⟩:∃ R,beginsAlt s.data.toList l f=R:=⟨_,rfl⟩;rw [hR];have HR:=zd hR;clear hR
 go_enter Tryz.func29,Tryz.ntmps29
 go_wp2
 go_loopw [9] (fun i wr=>∃ (j:Nat),i=.int .i64 j/\j<=l.length/\Hid (Below w.heap.size w wr/\BlkIs wr w.heap.size 49 (reL 3 m A l.length c lo hi).toArray/\BlkIs wr g0 4 (bl n f)/\∀ t∈l.take j,t.begins s.data.toList f=false)) (fun i _=>l.length - (intOf i).toNat)
 case atStart=>exact⟨0,rfl,Nat.zero_le _,zd ⟨HB0.out.1,HB0.out.2.1,HB0.out.2.2,by simp⟩⟩
 case round=>
  obtain⟨j,rfl,hj,HH⟩:=hrel;have hbl:=HH.out.2.1;unfold reL at hbl;obtain⟨_,_,_,_,_,c5,_,_⟩:=hbl.eight
  by_cases hp:j<l.length
  ·have hdl:decide ((j:Int)<(l.length:Int))=true:=by simp;omega
   obtain⟨b,o,rfl,hbw,hg⟩:=HS.out (by intro e;subst e;simp at hp);obtain⟨cs,hcat,hlen,hrow⟩:=hg j hp;obtain⟨A',n',c',rfl⟩:=hcat.eight;obtain⟨r0,r1,r2,r3,r4,r5,r6,r7⟩:=xzai hrow HH.out.1;have hcall:=IH.out _ (List.getElem_mem hp) _ wr g0 _ (hcat.step HH.out.1) HH.out.2.2.1
   have hk1:IntKind.i64.wrap ((j:Int)+1)=((j+1:Nat):Int):=by rw [IntKind.wrap_i64];omega
   by_cases hx:(l[j]).begins s.data.toList f=true
   ·rw [hx]at hcall
    have HC:=zd hcall;have HA:=zd (show R=true by rw [<-HR.out,xzef];exact⟨_,List.getElem_mem hp,hx⟩);clear hrow hcat hcall hg hbl hx
    go_wp2_with fail
    refine HC.out.mono ?_;rintro e w1 ⟨rfl,hb1⟩;have HB1:=zd hb1;clear hb1;go_wp2;go_ret;rw [HA.out];exact⟨rfl,HH.out.1.trans (HB1.out.mono HH.out.1.size)⟩
   ·have hx2:(l[j]).begins s.data.toList f=false:=by simpa using hx
    rw [hx2]at hcall;have HC:=zd hcall;have HA:=zd (show ∀ t∈l.take (j+1),t.begins s.data.toList f=false from fun t ht=>(xzbj hp ht).elim (HH.out.2.2.2 t) (fun e=>e▸hx2));clear hrow hcat hcall hg hbl hx hx2
    go_wp2_with fail
    refine HC.out.mono ?_;rintro e w1 ⟨rfl,hb1⟩;have HB1:=zd hb1;clear hb1;go_wp2;exact⟨⟨j+1,by go_num,hp,zd ⟨HH.out.1.trans (HB1.out.mono HH.out.1.size),HH.out.2.1.step HB1.out,HH.out.2.2.1.step HB1.out,HA.out⟩⟩,by simp [intOf];omega⟩
  ·have hdl:decide ((j:Int)<(l.length:Int))=false:=by simp;omega
   obtain rfl:j=l.length:=by omega
   have HA:=zd (show R=false by
    have hall:=HH.out.2.2.2;rw [List.take_length]at hall;rw [<-HR.out,Bool.eq_false_iff];intro h;rw [xzef]at h;obtain⟨t,ht,hv⟩:=h
    rw [hall t ht]at hv;cases hv)
   clear hbl;go_wp2;go_ret;rw [HA.out];exact⟨rfl,HH.out.1⟩
set_option maxHeartbeats 8000000 in
set_option maxRecDepth 20000 in
theorem yzbh (s:ByteArray)(n:Nat)(hn:n=s.size+1)(m:Nat->Bool)(l:List Tree)(lo hi:Int)(A:Option Addr)(c:Nat)(hc:l.length<=c/\c<=9223372036854775807)(V:Bool)(w:World)(g0:Nat)(f:Nat->Bool)(hf0:BlkIs w g0 4 (bl n f))
 (hs:l≠[]->∃ b o,A=some ⟨b,o,none⟩/\b<w.heap.size/\∀ (i:Nat) (h:i<l.length),∃ cs:List Value,Tree.At w l[i] (.agg cs.toArray)/\cs.length=8/\w.rangeAt b (o+i*8) cs)
 (ih:∀ t∈l,∀ (v:Value) (w:World) (g0:Nat) (f:Nat->Bool),Tree.At w t v->BlkIs w g0 4 (bl n f)->Calls Tryz.prog 29 #[v,.string s,.slice (some ⟨g0,0,none⟩) n n] w (BoolIs (t.begins s.data.toList f) w))
 (ie:∀ t∈l,∀ (v:Value) (w:World) (g0:Nat) (f:Nat->Bool),Tree.At w t v->BlkIs w g0 4 (bl n f)->Calls Tryz.prog 55 #[v,.string s,.slice (some ⟨g0,0,none⟩) n n] w (EndsIs n (t.ends s.data.toList f) w))
 (iv:∀ u,Below w.heap.size w u->Calls Tryz.prog 57 #[reV 2 m A l.length c lo hi] u (BoolIs V u)):
 Calls Tryz.prog 29 #[reV 2 m A l.length c lo hi,.string s,.slice (some ⟨g0,0,none⟩) n n] w (BoolIs (if V then false else beginsCat s.data.toList l f) w):=by
 have hB0:Below w.heap.size w (w.alloc (.cells (reL 2 m A l.length c lo hi).toArray 49)):=(Below.refl _ _).alloc (Nat.le_refl _) _;have hX0:=BlkIs.new w 49 (reL 2 m A l.length c lo hi).toArray;have HB0:=zd (And.intro hB0 (And.intro hX0 (hf0.alloc (.cells (reL 2 m A l.length c lo hi).toArray 49))))
 have hsn:s.size<n:=by omega
 have hsi:(s.size:Int)<(n:Int):=by omega
 have HN:=zd hn;have IE:=zd ie;have IV:=zd iv;clear ie iv;have HS:=zd hs;have IH:=zd ih;clear hs ih;clear hB0 hX0 hn;unfold BoolIs at*;unfold reV reL at*;clear hf0;have hiv:=IV.out _ HB0.out.1;have HIV:=zd hiv;clear hiv IV
 cases V with
 |true=>
  go_enter Tryz.func29,Tryz.ntmps29
  go_wp2_with fail
  refine HIV.out.mono ?_;rintro e w1 ⟨rfl,hb1⟩;have HB1:=zd (HB0.out.1.trans (hb1.mono HB0.out.1.size));clear hb1;go_wp2;go_ret;exact⟨rfl,HB1.out⟩
 |false=>
  obtain⟨R,hR⟩:∃ R,beginsCat s.data.toList l f=R:=⟨_,rfl⟩;rw [if_neg (by simp),hR];have HR:=zd hR;clear hR
  go_enter Tryz.func29,Tryz.ntmps29
  go_wp2_with fail
  refine HIV.out.mono ?_;rintro e w1 ⟨rfl,hb1⟩;have HB1:=zd (And.intro (HB0.out.1.trans (hb1.mono HB0.out.1.size)) (And.intro (HB0.out.2.1.step hb1) (HB0.out.2.2.step hb1)));clear hb1;go_wp2
  go_loopw [2,8] (fun x i wr=>∃ (j g:Nat) (f':Nat->Bool),x=.slice (some ⟨g,0,none⟩) n n/\i=.int .i64 j/\j<=l.length/\Hid (Below w.heap.size w wr/\BlkIs wr w.heap.size 49 (reL 2 m A l.length c lo hi).toArray/\BlkIs wr g 4 (bl n f')/\beginsCat s.data.toList (l.drop j) f'=R)) (fun _ i _=>l.length - (intOf i).toNat)
  case atStart=>exact⟨0,g0,f,rfl,rfl,Nat.zero_le _,zd ⟨HB1.out.1,HB1.out.2.1,HB1.out.2.2,HR.out⟩⟩
  case round=>
   obtain⟨j,g,f',rfl,rfl,hj,HH⟩:=hrel;have hbl:=HH.out.2.1;unfold reL at hbl;obtain⟨_,_,_,_,_,c5,_,_⟩:=hbl.eight
   by_cases hp:j<l.length
   ·have hdl:decide ((j:Int)<(l.length:Int))=true:=by simp;omega
    obtain⟨b,o,rfl,hbw,hg⟩:=HS.out (by intro e;subst e;simp at hp);obtain⟨cs,hcat,hlen,hrow⟩:=hg j hp;obtain⟨A',n',c',rfl⟩:=hcat.eight;obtain⟨r0,r1,r2,r3,r4,r5,r6,r7⟩:=xzai hrow HH.out.1
    have hrows:=fun u (hu:Below w.heap.size w u)=>xzai hrow hu
    have hcall:=IH.out _ (List.getElem_mem hp) _ wr g _ (hcat.step HH.out.1) HH.out.2.2.1
    have hends:=fun u (hu:Below w.heap.size w u) (hgu:BlkIs u g 4 (bl n f'))=>IE.out _ (List.getElem_mem hp) _ u g _ (hcat.step hu) hgu
    have hk1:IntKind.i64.wrap ((j:Int)+1)=((j+1:Nat):Int):=by rw [IntKind.wrap_i64];omega
    have hdrop:beginsCat s.data.toList (l.drop j) f'=((l[j]).begins s.data.toList f'||beginsCat s.data.toList (l.drop (j+1)) ((l[j]).ends s.data.toList f')):=by
     rw [List.drop_eq_getElem_cons hp];rfl
    have HD:=zd (hdrop.symm.trans HH.out.2.2.2);clear hdrop
    by_cases hx:(l[j]).begins s.data.toList f'=true
    ·rw [hx]at hcall
     have HC:=zd hcall;have HA:=zd (show R=true by rw [<-HD.out,hx];rfl);clear hrow hrows hcat hcall hends hg hbl hx
     go_wp2_with fail
     refine HC.out.mono ?_;rintro e w2 ⟨rfl,hb2⟩;have HB2:=zd hb2;clear hb2;go_wp2;go_ret;rw [HA.out];exact⟨rfl,HH.out.1.trans (HB2.out.mono HH.out.1.size)⟩
    ·have hx2:(l[j]).begins s.data.toList f'=false:=by simpa using hx
     rw [hx2]at hcall;have HC:=zd hcall;have HA:=zd (show beginsCat s.data.toList (l.drop (j+1)) ((l[j]).ends s.data.toList f')=R by rw [<-HD.out,hx2];rfl);have HRW:=zd hrows;have HEN:=zd hends;clear hrow hrows hcat hcall hends hg hbl hx hx2
     go_wp2_with fail
     refine HC.out.mono ?_;rintro e w2 ⟨rfl,hb2⟩;have HB2:=zd (And.intro (HH.out.1.trans (hb2.mono HH.out.1.size)) (And.intro (HH.out.2.1.step hb2) (HH.out.2.2.1.step hb2)));have hbl:=HB2.out.2.1;unfold reL at hbl;clear c5 r0 r1 r2 r3 r4 r5 r6 r7 hb2;obtain⟨_,_,_,_,_,c5,_,_⟩:=hbl.eight;obtain⟨r0,r1,r2,r3,r4,r5,r6,r7⟩:=HRW.out _ HB2.out.1;have hcall:=HEN.out _ HB2.out.1 HB2.out.2.2;have HC2:=zd hcall;clear hcall hbl
     go_wp2_with fail
     refine HC2.out.mono ?_;rintro e w3 ⟨g3,rfl,hg3,hbl3,hb3⟩;have HB3:=zd (And.intro (HB2.out.1.trans (hb3.mono HB2.out.1.size)) (And.intro (HB2.out.2.1.step hb3) hbl3));clear hg3 hbl3 hb3;go_wp2;exact⟨⟨j+1,g3,_,rfl,by go_num,hp,zd ⟨HB3.out.1,HB3.out.2.1,HB3.out.2.2,HA.out⟩⟩,by simp [intOf];omega⟩
   ·have hdl:decide ((j:Int)<(l.length:Int))=false:=by simp;omega
    obtain rfl:j=l.length:=by omega
    have HA:=zd (show f' s.size=R by
     have h:=HH.out.2.2.2;rw [List.drop_length]at h
     exact h)
    have d0:=xzba HH.out.2.2.1 hsn;clear hbl;go_wp2;go_ret;rw [<-HA.out];exact⟨rfl,HH.out.1⟩
end
end Go.Proofs.YtgbljnnmhmlifaaGreatDoor
