/-
 nfa.Build BY PLAIN FUNCTIONS: rows of places merged, shifted, linked; parts of trees. No condition.
-/
import Derived.Test.YthoaaginadjaoaaQG10
import Derived.Test.YthoaaginadjaoaaQG09
namespace Go.Proofs.Ythoaaginadjaoaa
section
open Go.RowKit
theorem xzau {n:Int}:∀ {a:Int} {l:List Int},risesB n a l=true->∀ x∈l,a<x/\x<n
 |_,[],_,x,hx=>by simp at hx
 |a,p::r,h,x,hx=>by
  simp only [risesB,Bool.and_eq_true,decide_eq_true_eq]at h
  rcases List.mem_cons.1 hx with rfl|hx
  ·exact h.1
  ·have:=xzau h.2 x hx
   omega
theorem xzii {n:Int}:∀ {a:Int} {l:List Int},risesB n a l=true->a<=n - 1->(l.length:Int)<=n - 1 - a
 |a,[],_,ha=>by simp;omega
 |a,p::r,h,ha=>by
  simp only [risesB,Bool.and_eq_true,decide_eq_true_eq]at h;have:=xzii h.2 (by omega);simp only [List.length_cons];omega
theorem xzai {n:Nat}{l:List Int}(h:risesB n (-1) l=true):l.length<=n:=by
 have:=xzii h (by omega);omega
theorem xzbh {n n':Int}(hn:n<=n'):∀ {a a':Int} {l:List Int},a'<=a->risesB n a l=true->risesB n' a' l=true
 |_,_,[],_,_=>by simp [risesB]
 |a,a',p::r,ha,h=>by
  simp only [risesB,Bool.and_eq_true,decide_eq_true_eq]at h ⊢;exact⟨⟨by omega,by omega⟩,xzbh hn (Int.le_refl _) h.2⟩
theorem xzeb {n:Int}{b:List Int}:∀ {c:Int} {a:List Int},risesB n c a=true->risesB n (a.getLastD c) b=true->risesB n c (a++b)=true
 |_,[],_,h=>by simpa using h
 |c,p::r,h,hb=>by
  simp only [risesB,Bool.and_eq_true,decide_eq_true_eq,List.cons_append]at h ⊢;refine⟨h.1,xzeb h.2 ?_⟩;rw [List.getLastD_cons]at hb;exact hb
def mergeN:Nat->List Int->List Int->List Int
 |0,a,b=>a++b
 |_+1,[],b=>b
 |_+1,x::a,[]=>x::a
 |n+1,x::a,y::b=>if x<y then x::mergeN n a (y::b)else if y<x then y::mergeN n (x::a) b else x::mergeN n a b
theorem xzoh (k:Nat)(b:List Int):mergeN k [] b=b:=by cases k<;>simp [mergeN]
theorem xzmk (k:Nat)(a:List Int):mergeN k a []=a:=by cases k<;>cases a<;>simp [mergeN]
theorem xzcq {n:Int}:∀ (k:Nat) (a b:List Int) (c:Int),risesB n c a=true->risesB n c b=true->a.length+b.length<=k->risesB n c (mergeN k a b)=true
 |0,a,b,c,ha,hb,hk=>by
  obtain rfl:=List.eq_nil_of_length_eq_zero (l:=a) (by omega)
  simpa [mergeN]using hb
 |k+1,[],b,c,ha,hb,hk=>by simpa [mergeN]using hb
 |k+1,x::a,[],c,ha,hb,hk=>by simpa [mergeN]using ha
 |k+1,x::a,y::b,c,ha,hb,hk=>by
  simp only [List.length_cons]at hk;simp only [risesB,Bool.and_eq_true,decide_eq_true_eq]at ha hb;unfold mergeN
  split
  ·rename_i h
   simp only [risesB,Bool.and_eq_true,decide_eq_true_eq];exact⟨ha.1,xzcq k _ _ _ ha.2 (by simp only [risesB,Bool.and_eq_true,decide_eq_true_eq];exact⟨⟨h,hb.1.2⟩,hb.2⟩) (by simp only [List.length_cons];omega)⟩
  ·split
   ·rename_i h h2
    simp only [risesB,Bool.and_eq_true,decide_eq_true_eq];exact⟨hb.1,xzcq k _ _ _ (by simp only [risesB,Bool.and_eq_true,decide_eq_true_eq];exact⟨⟨h2,ha.1.2⟩,ha.2⟩) hb.2 (by simp only [List.length_cons];omega)⟩
   ·rename_i h h2
    obtain rfl:x=y:=by omega
    simp only [risesB,Bool.and_eq_true,decide_eq_true_eq];exact⟨ha.1,xzcq k _ _ _ ha.2 hb.2 (by omega)⟩
theorem xzbr (x:Int)(l:List Int)(q:Nat):hasI (x::l) q=(x==(q:Int)||hasI l q):=by simp [hasI]
theorem xzfz (a b:List Int)(q:Nat):hasI (a++b) q=(hasI a q||hasI b q):=by simp [hasI]
theorem xzec:∀ (k:Nat) (a b:List Int) (q:Nat),a.length+b.length<=k->hasI (mergeN k a b) q=(hasI a q||hasI b q)
 |0,a,b,q,_=>by simp [mergeN,xzfz]
 |k+1,[],b,q,_=>by simp [mergeN,hasI]
 |k+1,x::a,[],q,_=>by simp [mergeN,hasI]
 |k+1,x::a,y::b,q,hk=>by
  simp only [List.length_cons]at hk;unfold mergeN
  split
  ·rw [xzbr,xzec k _ _ q (by simp only [List.length_cons];omega),xzbr x a,Bool.or_assoc]
  ·split
   ·rw [xzbr,xzec k _ _ q (by simp only [List.length_cons];omega),xzbr y b]
    cases (y==(q:Int))<;>cases hasI (x::a) q<;>rfl
   ·rename_i h h2
    obtain rfl:x=y:=by omega
    rw [xzbr,xzec k _ _ q (by omega),xzbr x a,xzbr x b]
    cases (x==(q:Int))<;>cases hasI a q<;>rfl
def mergedL (a b:List Int):List Int:=if a=[]then b else if b=[]then a else if a.getLastD 0<b.headD 0 then a++b else mergeN (a.length+b.length) a b
theorem xzba (a b:List Int)(q:Nat):hasI (mergedL a b) q=(hasI a q||hasI b q):=by
 unfold mergedL
 split
 ·rename_i h;subst h;simp [hasI]
 ·split
  ·rename_i h;subst h;simp [hasI]
  ·split
   ·rw [xzfz]
   ·exact xzec _ _ _ _ (Nat.le_refl _)
theorem xzbn {n:Int}{c:Int}{a b:List Int}(ha:risesB n c a=true)(hb:risesB n c b=true):risesB n c (mergedL a b)=true:=by
 unfold mergedL
 split
 ·exact hb
 ·split
  ·exact ha
  ·split
   ·rename_i h1 h2 h
    cases b with
    |nil=>exact absurd rfl h2
    |cons y b=>
     simp only [risesB,Bool.and_eq_true,decide_eq_true_eq]at hb;refine xzeb ha ?_;simp only [risesB,Bool.and_eq_true,decide_eq_true_eq]
     have e:a.getLastD c=a.getLastD 0:=by
      cases a with
      |nil=>exact absurd rfl h1
      |cons x a=>rw [List.getLastD_cons,List.getLastD_cons]
     rw [e];exact⟨⟨by simpa using h,hb.1.2⟩,hb.2⟩
   ·exact xzcq _ _ _ _ ha hb (Nat.le_refl _)
def shiftL (by':Int)(l:List Int):List Int:=l.map (· +by')
theorem xzga {n:Int}(d:Int):∀ {c:Int} {l:List Int},risesB n c l=true->risesB (n+d) (c+d) (shiftL d l)=true
 |_,[],_=>by simp [shiftL,risesB]
 |c,p::r,h=>by
  simp only [risesB,Bool.and_eq_true,decide_eq_true_eq]at h;have:=xzga d h.2;simp only [shiftL,List.map_cons,risesB,Bool.and_eq_true,decide_eq_true_eq]at this ⊢;exact⟨⟨by omega,by omega⟩,this⟩
theorem xzde {n n':Int}{d:Int}(hd:0<=d)(hn:n+d<=n'){l:List Int}(h:risesB n (-1) l=true):risesB n' (-1) (shiftL d l)=true:=
 xzbh hn (by omega) (xzga d h)
structure Prt where
 first:List Int
 ends:List Int
 empty:Bool
structure Mk where
 sets:List (Nat->Bool)
 follow:List (List Int)
def linkF:List (List Int)->List Int->List Int->List (List Int)
 |F,[],_=>F
 |F,e::r,row=>linkF (F.set e.toNat (mergedL (F.getD e.toNat []) row)) r row
def bothP (p q:Prt):Prt:=⟨if p.empty then mergedL p.first q.first else p.first,if q.empty then mergedL p.ends q.ends else q.ends,p.empty&&q.empty⟩
def inRowP (must:Int):Int->List Prt->List (List Int)->List (List Int)×Prt
 |_,[],F=>(F,⟨[],[],true⟩)
 |i,p::r,F=>
  let q:=inRowP must (i+1) r F
  (linkF q.1 p.ends q.2.first,{bothP p q.2 with empty:=(bothP p q.2).empty||decide (i>=must)})
def orP (a p:Prt):Prt:=⟨mergedL a.first p.first,mergedL a.ends p.ends,a.empty||p.empty⟩
def eitherP:Prt->List Prt->Prt
 |a,[]=>a
 |a,p::r=>eitherP (orP a p) r
def shiftP (d:Int)(p:Prt):Prt:=⟨shiftL d p.first,shiftL d p.ends,p.empty⟩
def copiedS (S:Mk)(i j:Nat):Mk:=⟨S.sets++(S.sets.drop i).take (j - i),S.follow++((S.follow.drop i).take (j - i)).map (shiftL ((S.sets.length:Int) - i))⟩
def copyN (p:Prt)(i j:Nat):Nat->Mk->List Prt->Mk×List Prt
 |0,S,l=>(S,l)
 |n+1,S,l=>copyN p i j n (copiedS S i j) (l++[shiftP ((S.sets.length:Int) - i) p])
def placeS (S:Mk)(m:Nat->Bool):Mk:=⟨S.sets++[m],S.follow++[[]]⟩
mutual
def partP:Tree->Mk->Mk×Prt
 | .node k m l lo hi,S=>
  if k=1 then(placeS S m,⟨[(S.sets.length:Int)],[(S.sets.length:Int)],false⟩)
  else if k=2 then
   let x:=partsP l S
   let y:=inRowP l.length 0 x.2 x.1.follow
   (⟨x.1.sets,y.1⟩,y.2)
  else if k=3 then
   let x:=partsP l S
   (x.1,eitherP ⟨[],[],false⟩ x.2)
  else if k=4 then
   if(copiesI lo hi).toNat=0 then(S,⟨[],[],true⟩)
   else
    let x:=partsP l S
    let c:=copyN (x.2.headD ⟨[],[],true⟩) S.sets.length x.1.sets.length ((copiesI lo hi).toNat - 1) x.1 [x.2.headD ⟨[],[],true⟩]
    let z:=c.2.getLastD ⟨[],[],true⟩
    let F:=if hi= -1 then linkF c.1.follow z.ends z.first else c.1.follow
    let y:=inRowP lo 0 c.2 F
    (⟨c.1.sets,y.1⟩,y.2)
  else(S,⟨[],[],true⟩)
def partsP:List Tree->Mk->Mk×List Prt
 |[],S=>(S,[])
 |t::r,S=>
  let x:=partP t S
  let y:=partsP r x.1
  (y.1,x.2::y.2)
end
def OkR (n:Nat)(F:List (List Int)):Prop:=∀ r∈F,risesB n (-1) r=true
def Prt.Ok (n:Nat)(p:Prt):Prop:=risesB n (-1) p.first=true/\risesB n (-1) p.ends=true
def Mk.Ok (S:Mk):Prop:=S.follow.length=S.sets.length/\OkR S.sets.length S.follow
theorem Prt.Ok.nil (n:Nat)(e:Bool):Prt.Ok n ⟨[],[],e⟩:=⟨rfl,rfl⟩
theorem Prt.Ok.mono {n n':Nat}{p:Prt}(h:p.Ok n)(hn:n<=n'):p.Ok n':=⟨xzbh (by omega) (Int.le_refl _) h.1,xzbh (by omega) (Int.le_refl _) h.2⟩
theorem OkR.mono {n n':Nat}{F:List (List Int)}(h:OkR n F)(hn:n<=n'):OkR n' F:=fun r hr=>xzbh (by omega) (Int.le_refl _) (h r hr)
theorem OkR.getD {n:Nat}{F:List (List Int)}(h:OkR n F)(i:Nat):risesB n (-1) (F.getD i [])=true:=by
 rw [List.getD_eq_getElem?_getD]
 cases e:F[i]? with
 |none=>rfl
 |some r=>exact h r (List.mem_of_getElem? e)
theorem OkR.set {n:Nat}{F:List (List Int)}(h:OkR n F)(i:Nat){r:List Int}(hr:risesB n (-1) r=true):OkR n (F.set i r):=fun x hx=>by
 rcases List.mem_or_eq_of_mem_set hx with hx|rfl
 ·exact h x hx
 ·exact hr
theorem xzbl:∀ (e:List Int) (F:List (List Int)) (row:List Int),(linkF F e row).length=F.length
 |[],F,row=>rfl
 |x::e,F,row=>by unfold linkF;rw [xzbl e];simp
theorem xzgb {n:Nat}:∀ (e:List Int) {F:List (List Int)} {row:List Int},OkR n F->risesB n (-1) row=true->OkR n (linkF F e row)
 |[],F,row,h,_=>h
 |x::e,F,row,h,hr=>by
  unfold linkF;exact xzgb e (h.set _ (xzbn (h.getD _) hr)) hr
theorem xzij (row:List Int)(x:Int):∀ (e:List Int) (F:List (List Int)),linkF F (e++[x]) row=(linkF F e row).set x.toNat (mergedL ((linkF F e row).getD x.toNat []) row)
 |[],F=>rfl
 |y::e,F=>by simp only [List.cons_append,linkF];exact xzij row x e _
theorem xzui {n:Nat}{p q:Prt}(hp:p.Ok n)(hq:q.Ok n):(bothP p q).Ok n:=by
 unfold bothP;refine⟨?_,?_⟩
 ·dsimp only
  split
  ·exact xzbn hp.1 hq.1
  ·exact hp.1
 ·dsimp only
  split
  ·exact xzbn hp.2 hq.2
  ·exact hq.2
theorem xzfj {n:Nat}(must:Int):∀ (l:List Prt) (i:Int) (F:List (List Int)),OkR n F->(∀ p∈l,p.Ok n)->OkR n (inRowP must i l F).1/\(inRowP must i l F).2.Ok n/\(inRowP must i l F).1.length=F.length
 |[],i,F,hF,_=>⟨hF,Prt.Ok.nil _ _,rfl⟩
 |p::r,i,F,hF,hl=>by
  obtain⟨h1,h2,h3⟩:=xzfj must r (i+1) F hF fun q hq=>hl q (by simp [hq])
  have hp:=hl p (by simp);have hb:=xzui hp h2;unfold inRowP;refine⟨xzgb _ h1 h2.1,⟨hb.1,hb.2⟩,?_⟩
  dsimp only
  rw [xzbl,h3]
theorem orP_ok {n:Nat}{p q:Prt}(hp:p.Ok n)(hq:q.Ok n):(orP p q).Ok n:=⟨xzbn hp.1 hq.1,xzbn hp.2 hq.2⟩
theorem xzgc {n:Nat}:∀ (l:List Prt) {a:Prt},a.Ok n->(∀ p∈l,p.Ok n)->(eitherP a l).Ok n
 |[],_,h,_=>h
 |p::r,_,h,hl=>xzgc r (orP_ok h (hl p (by simp))) fun q hq=>hl q (by simp [hq])
theorem xzgd (p:Prt):∀ (l:List Prt) (a:Prt),eitherP a (l++[p])=orP (eitherP a l) p
 |[],_=>rfl
 |q::l,a=>by simp only [List.cons_append,eitherP];exact xzgd p l _
theorem xzrr {n:Nat}{d:Int}{n':Nat}{p:Prt}(hd:0<=d)(hn:(n:Int)+d<=n')(h:p.Ok n):(shiftP d p).Ok n':=⟨xzde hd hn h.1,xzde hd hn h.2⟩
mutual
def Tree.plN:Tree->Nat
 | .node k _ l lo hi=>((if k=1 then 1 else 0)+sumN l)*(if k=4 then(copiesI lo hi).toNat else 1)
def sumN:List Tree->Nat
 |[]=>0
 |t::r=>t.plN+sumN r
end
def okK (k:Int)(l:List Tree):Prop:=(k=1->l=[])/\(k=4->l.length=1)/\(k≠1->k≠2->k≠3->k≠4->l=[])
theorem xzge {S:Mk}{i j:Nat}(h:S.Ok)(hij:i<=j)(hj:j<=S.sets.length)(hrow:∀ r∈(S.follow.drop i).take (j - i),risesB j (-1) r=true):
 (copiedS S i j).Ok/\(copiedS S i j).sets.length=S.sets.length+(j - i):=by
 have e1:((S.sets.drop i).take (j - i)).length=j - i:=by simp;omega
 have e2:((S.follow.drop i).take (j - i)).length=j - i:=by simp [h.1];omega
 refine⟨⟨?_,?_⟩,?_⟩
 ·unfold copiedS
  simp only [List.length_append,List.length_map,e1,e2,h.1]
 ·unfold copiedS
  simp only [List.length_append,e1];intro r hr
  rcases List.mem_append.1 hr with hr|hr
  ·exact xzbh (by omega) (Int.le_refl _) (h.2 r hr)
  ·obtain⟨q,hq,rfl⟩:=List.mem_map.1 hr
   exact xzde (by omega) (by omega) (hrow q hq)
 ·unfold copiedS
  simp only [List.length_append,e1]
theorem xzcr {S:Mk}{i j:Nat}(h:S.follow.length=S.sets.length)(hj:j<=S.sets.length):((copiedS S i j).follow.drop i).take (j - i)=(S.follow.drop i).take (j - i):=by
 unfold copiedS;simp only
 by_cases hij:i<=j
 ·rw [List.drop_append_of_le_length (by omega),List.take_append_of_le_length (by simp;omega)]
 ·rw [show j - i=0 by omega];simp
theorem xzdq {p:Prt}{i j:Nat}(hij:i<=j)(hp:p.Ok j):∀ (n:Nat) (S:Mk) (l:List Prt),S.Ok->j<=S.sets.length->(∀ r∈(S.follow.drop i).take (j - i),risesB j (-1) r=true)->(∀ q∈l,q.Ok S.sets.length)->
 (copyN p i j n S l).1.Ok/\(copyN p i j n S l).1.sets.length=S.sets.length+n*(j - i)/\(copyN p i j n S l).2.length=l.length+n/\∀ q∈(copyN p i j n S l).2,q.Ok (copyN p i j n S l).1.sets.length
 |0,S,l,h,hj,hrow,hl=>⟨h,by simp [copyN],by simp [copyN],hl⟩
 |n+1,S,l,h,hj,hrow,hl=>by
  obtain⟨h1,h2⟩:=xzge h hij hj hrow;unfold copyN
  obtain⟨k1,k2,k3,k4⟩:=xzdq hij hp n (copiedS S i j) (l++[shiftP ((S.sets.length:Int) - i) p]) h1 (by omega) (by rw [xzcr h.1 hj];exact hrow) (fun q hq=>by
   rcases List.mem_append.1 hq with hq|hq
   ·exact(hl q hq).mono (by omega)
   ·obtain rfl:=List.mem_singleton.1 hq
    exact xzrr (by omega) (by omega) hp)
  refine⟨k1,by rw [k2,h2,Nat.succ_mul];omega,by rw [k3];simp;omega,k4⟩
theorem xzgf (p:Prt)(i j:Nat):∀ (n:Nat) (S:Mk) (l:List Prt),copyN p i j (n+1) S l=(copiedS (copyN p i j n S l).1 i j,(copyN p i j n S l).2++[shiftP (((copyN p i j n S l).1.sets.length:Int) - i) p])
 |0,S,l=>by simp [copyN]
 |n+1,S,l=>by
  rw [copyN,xzgf p i j n];simp only [copyN]
mutual
def Tree.okT:Tree->Prop
 | .node k _ l _ _=>okK k l/\okTs l
def okTs:List Tree->Prop
 |[]=>True
 |t::r=>t.okT/\okTs r
end
mutual
theorem xzbj:∀ (T:Tree) (S:Mk),T.okT->S.Ok->(partP T S).1.Ok/\(partP T S).2.Ok (partP T S).1.sets.length/\(partP T S).1.sets.length=S.sets.length+T.plN
 | .node k m l lo hi,S,hT,hS=>by
  unfold Tree.okT at hT;obtain⟨⟨hk1,hk4,hk0⟩,hTl⟩:=hT;unfold partP Tree.plN
  split
  ·rename_i h
   subst h;obtain rfl:=hk1 rfl;refine⟨⟨by simp [placeS,hS.1],?_⟩,?_,by simp [placeS,sumN]⟩
   ·intro r hr
    simp only [placeS,List.mem_append,List.mem_singleton]at hr
    rcases hr with hr|rfl
    ·exact xzbh (by simp [placeS];omega) (Int.le_refl _) (hS.2 r hr)
    ·rfl
   ·have:risesB ((placeS S m).sets.length:Int) (-1) [(S.sets.length:Int)]=true:=by simp [risesB,placeS];omega
    exact⟨this,this⟩
  ·rename_i h1
   obtain⟨g1,g2,g3,g4⟩:=partsP_ok l S hTl hS
   split
   ·rename_i h2
    obtain⟨y1,y2,y3⟩:=xzfj l.length (partsP l S).2 0 (partsP l S).1.follow g1.2 g2;rw [if_neg (by omega)];exact⟨⟨y3.trans g1.1,y1⟩,y2,by simpa using g3⟩
   ·split
    ·rw [if_neg (by omega)]
     exact⟨g1,xzgc _ (Prt.Ok.nil _ _) g2,by simpa using g3⟩
    ·split
     ·rename_i h2 h3 h4
      split
      ·rename_i h5
       rw [h5];exact⟨hS,Prt.Ok.nil _ _,by simp⟩
      ·rename_i h5
       have h0:(partsP l S).2.length=1:=g4.trans (hk4 h4);obtain⟨p,hp⟩:∃ p,(partsP l S).2=[p]:=List.length_eq_one_iff.1 h0
       dsimp only
       rw [hp]at g2 ⊢;have hpo:=g2 p (by simp);generalize(partsP l S).1=S1 at*;obtain⟨k1,k2,k3,k4⟩:=xzdq (p:=p) (i:=S.sets.length) (j:=S1.sets.length) (by omega) hpo ((copiesI lo hi).toNat - 1) S1 [p] g1 (Nat.le_refl _) (fun r hr=>g1.2 r (List.mem_of_mem_drop (List.mem_of_mem_take hr))) g2;simp only [List.headD_cons];generalize hc:copyN p S.sets.length S1.sets.length ((copiesI lo hi).toNat - 1) S1 [p]=c at*
       have hz:(c.2.getLastD ⟨[],[],true⟩).Ok c.1.sets.length:=by
        cases hcl:c.2.getLast? with
        |none=>rw [List.getLastD_eq_getLast?,hcl];exact Prt.Ok.nil _ _
        |some z=>rw [List.getLastD_eq_getLast?,hcl];exact k4 z (List.mem_of_getLast? hcl)
       have hF:OkR c.1.sets.length (if hi= -1 then linkF c.1.follow (c.2.getLastD ⟨[],[],true⟩).ends (c.2.getLastD ⟨[],[],true⟩).first else c.1.follow)/\
        (if hi= -1 then linkF c.1.follow (c.2.getLastD ⟨[],[],true⟩).ends (c.2.getLastD ⟨[],[],true⟩).first else c.1.follow).length=c.1.follow.length:=by
        split
        ·exact⟨xzgb _ k1.2 hz.1,xzbl _ _ _⟩
        ·exact⟨k1.2,rfl⟩
       obtain⟨y1,y2,y3⟩:=xzfj lo c.2 0 _ hF.1 k4;refine⟨⟨by dsimp only;rw [y3,hF.2,k1.1],y1⟩,y2,?_⟩;rw [k2,g3,Nat.add_sub_cancel_left,Nat.zero_add];obtain⟨cc,hcc⟩:∃ cc,(copiesI lo hi).toNat=cc+1:=⟨(copiesI lo hi).toNat - 1,by omega⟩;rw [hcc,Nat.add_sub_cancel,Nat.mul_succ,Nat.mul_comm];omega
     ·rename_i h2 h3 h4
      obtain rfl:=hk0 h1 h2 h3 h4;exact⟨hS,Prt.Ok.nil _ _,by simp [sumN]⟩
theorem partsP_ok:∀ (l:List Tree) (S:Mk),okTs l->S.Ok->(partsP l S).1.Ok/\(∀ p∈(partsP l S).2,p.Ok (partsP l S).1.sets.length)/\(partsP l S).1.sets.length=S.sets.length+sumN l/\(partsP l S).2.length=l.length
 |[],S,_,hS=>⟨hS,fun p hp=>by simp [partsP]at hp,by simp [partsP,sumN],rfl⟩
 |t::r,S,hT,hS=>by
  unfold okTs at hT;obtain⟨h1,h2,h3⟩:=xzbj t S hT.1 hS;obtain⟨k1,k2,k3,k4⟩:=partsP_ok r (partP t S).1 hT.2 h1;unfold partsP;refine⟨k1,fun p hp=>?_,?_,by simp [k4]⟩
  ·rcases List.mem_cons.1 hp with rfl|hp
   ·exact h2.mono (by rw [k3];omega)
   ·exact k2 p hp
  ·dsimp only
   rw [k3,h3];simp only [sumN];omega
end
end
section
open Go.RowKit
def NodePend (w W:World)(t:Tree)(b o:Nat):Prop:=∃ cs:List Value,Tree.At w t (.agg cs.toArray)/\cs.length=8/\W.rangeAt b o cs
def Nd (F:List (Nat×List Tree))(W:World)(t:Tree)(b o:Nat):Prop:=
 ∃ A c,W.rangeAt b o (reL t.kind t.set A t.sub.length c t.lo t.hi)/\t.sub.length<=c/\c<=9223372036854775807/\(t.sub≠[]->∃ b',A=some ⟨b',0,none⟩/\(b',t.sub)∈F)
def InSt (st:List Row)(t:Tree)(b i:Nat):Prop:=∃ r∈st,r.2.1=b/\∃ (j:Nat) (hj:j<r.1.length),r.1[j]=t/\r.2.2+j*8=i*8
def Fresh (w W:World)(b:Nat):Prop:=w.heap.size<=b/\∃ cs,BlkIs W b 39 cs
structure CloneF (w:World)(F:List (Nat×List Tree))(st:List Row)(W:World):Prop where
 low:Below w.heap.size w W
 rows:∀ r∈st,r.1≠[]->Fresh w W r.2.1/\(∃ q,r.2.2=q*8)/\∀ (j:Nat) (h:j<r.1.length),NodePend w W r.1[j] r.2.1 (r.2.2+j*8)
 apart:st.Pairwise fun r q=>r.1≠[]->q.1≠[]->r.2.1≠q.2.1
 all:∀ p∈F,Fresh w W p.1/\∀ (i:Nat) (h:i<p.2.length),InSt st p.2[i] p.1 i\/(Nd F W p.2[i] p.1 (i*8)/\∀ r∈st,r.1≠[]->r.2.1=p.1->i*8<r.2.2)
def CloneJ (w:World)(g:Nat)(l0:List Tree)(st:List Row)(W:World):Prop:=∃ F,(l0≠[]->(g,l0)∈F)/\CloneF w F st W
theorem Fresh.keep {w W W':World}{b:Nat}(h:Fresh w W b)(hk:∀ k cs,BlkIs W k 39 cs->BlkIs W' k 39 cs):Fresh w W' b:=by
 obtain⟨h1,cs,h2⟩:=h;exact⟨h1,cs,hk _ _ h2⟩
theorem Fresh.range {w W W':World}{b o:Nat}{ls:List Value}(h:Fresh w W b)(hk:∀ k cs,BlkIs W k 39 cs->BlkIs W' k 39 cs)(hr:W.rangeAt b o ls):W'.rangeAt b o ls:=fun j v hv=>by
 obtain⟨_,cs,h2⟩:=h;rw [(hk _ _ h2).cell,<-h2.cell];exact hr j v hv
theorem CloneF.keep {w W W':World}{F:List (Nat×List Tree)}{st:List Row}(h:CloneF w F st W)(hb:Below w.heap.size W W')(hk:∀ k cs,BlkIs W k 39 cs->BlkIs W' k 39 cs):CloneF w F st W' where
 low:=h.low.trans hb
 rows:=fun r hr hne=>by
  obtain⟨h1,h2,h3⟩:=h.rows r hr hne;refine⟨h1.keep hk,h2,fun j hj=>?_⟩;obtain⟨cs,g1,g2,g3⟩:=h3 j hj;exact⟨cs,g1,g2,h1.range hk g3⟩
 apart:=h.apart
 all:=fun p hp=>by
  obtain⟨h1,h2⟩:=h.all p hp;refine⟨h1.keep hk,fun i hi=>(h2 i hi).imp id fun⟨⟨A,c,g1,g2,g3,g4⟩,g5⟩=>⟨⟨A,c,h1.range hk g1,g2,g3,g4⟩,g5⟩⟩
theorem CloneF.pop {w W:World}{F:List (Nat×List Tree)}{b o:Nat}{st:List Row}(h:CloneF w F (([],b,o)::st) W):CloneF w F st W where
 low:=h.low
 rows:=fun r hr hne=>h.rows r (by simp [hr]) hne
 apart:=(List.pairwise_cons.1 h.apart).2
 all:=fun p hp=>by
  obtain⟨h1,h2⟩:=h.all p hp;refine⟨h1,fun i hi=>(h2 i hi).imp ?_ fun⟨g1,g2⟩=>⟨g1,fun r hr hne=>g2 r (by simp [hr]) hne⟩⟩;rintro⟨r,hr,g1,j,hj,g2⟩
  rcases List.mem_cons.1 hr with rfl|hr
  ·exact absurd hj (by simp)
  ·exact⟨r,hr,g1,j,hj,g2⟩
theorem CloneF.done {w W V:World}{F:List (Nat×List Tree)}(h:CloneF w F [] W)(hV:∀ k,w.heap.size<=k->V.heap[k]? =W.heap[k]?):∀ (t:Tree) (b o:Nat),w.heap.size<=b->Nd F W t b o->∃ cs:List Value,Tree.At V t (.agg cs.toArray)/\cs.length=8/\V.rangeAt b o cs:=by
 intro t
 induction t using Tree.ind with
 |h k m l lo hi ih=>
  rintro b o hb ⟨A,c,h1,h2,h3,h4⟩;refine⟨_,?_,rfl,fun j v hv=>(World.cell?_of_block (w:=W) (hV b hb)).trans (h1 j v hv)⟩;unfold Tree.At;refine⟨A,c,rfl,⟨h2,h3⟩,fun hne=>?_⟩;obtain⟨b',rfl,h5⟩:=h4 hne;refine⟨b',0,rfl,AllAt.mk l b' 0 fun i hi=>?_⟩;rw [Nat.zero_add]
  rcases(h.all _ h5).2 i hi with⟨r,hr,_⟩|⟨g,_⟩
  ·cases hr
  ·exact ih _ (List.getElem_mem hi) _ _ (h.all _ h5).1.1 g
theorem CloneJ.done {w W V:World}{g:Nat}{l0:List Tree}(h:CloneJ w g l0 [] W)(hne:l0≠[])(hV:∀ k,w.heap.size<=k->V.heap[k]? =W.heap[k]?):AllAt V l0 g 0:=by
 obtain⟨F,h1,h2⟩:=h
 refine AllAt.mk l0 g 0 fun i hi=>?_
 rw [Nat.zero_add]
 rcases(h2.all _ (h1 hne)).2 i hi with⟨r,hr,_⟩|⟨g,_⟩
 ·cases hr
 ·exact h2.done hV _ _ _ (h2.all _ (h1 hne)).1.1 g
end
end Go.Proofs.Ythoaaginadjaoaa
