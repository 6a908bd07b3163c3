/-
 WHAT nfa.Build ANSWERS of rules that may not be: a contract. Condition: no rule has more than 2^20 nodes.
-/
import Derived.Test.YthoaaginadjaoaaQG35
import Derived.Test.YthoaaginadjaoaaQG27
namespace Go.Proofs.Ythoaaginadjaoaa
open Go.RowKit
attribute [local irreducible] FreeW textFrame
set_option maxRecDepth 20000 in
set_option maxHeartbeats 16000000 in
theorem xzsk (l:List Tree)(h:l.length<1\/40<l.length)(A:Option Addr)(c:Nat)(w:World):
 Calls Try.prog 6 #[.slice A l.length c] w fun x w'=>x=.returned (.tuple #[.agg #[.slice none 0 0,.slice none 0 0,.slice none 0 0,.slice none 0 0,.slice none 0 0,.int .i64 0],.int .i64 1])/\Below w.heap.size w w':=by
 have hb1:Below w.heap.size w (w.alloc (.cells #[.slice none 0 0,.slice none 0 0,.slice none 0 0,.slice none 0 0,.slice none 0 0,.int .i64 0] 30)):=(Below.refl _ _).alloc (Nat.le_refl _) _;have hx1:=BlkIs.new w 30 #[.slice none 0 0,.slice none 0 0,.slice none 0 0,.slice none 0 0,.slice none 0 0,.int .i64 0];obtain⟨W9,hW9⟩:∃ W9,w.alloc (.cells #[.slice none 0 0,.slice none 0 0,.slice none 0 0,.slice none 0 0,.slice none 0 0,.int .i64 0] 30)=W9:=⟨_,rfl⟩;rw [hW9]at hb1 hx1;have hth:World.there W9 w.heap.size 0 ([Value.slice none 0 0,.slice none 0 0,.slice none 0 0,.slice none 0 0,.slice none 0 0,.int .i64 0]).toArray.size:=hx1.there
 have hal:([Value.slice none 0 0,.slice none 0 0,.slice none 0 0,.slice none 0 0,.slice none 0 0,.int .i64 0]).toArray.all (·.oneCell')=true:=by simp [Value.oneCell']
 have hin:(Try.prog.info? 30).map (·.size)=some ([Value.slice none 0 0,.slice none 0 0,.slice none 0 0,.slice none 0 0,.slice none 0 0,.int .i64 0]).toArray.size:=xzeh;have hl:=xzfo (hx1.fill (new:=([Value.slice none 0 0,.slice none 0 0,.slice none 0 0,.slice none 0 0,.slice none 0 0,.int .i64 0]).toArray) rfl);have hb9:Below w.heap.size w _:=xzbz (w0:=w) (B:=w.heap.size) w.heap.size [Value.slice none 0 0,.slice none 0 0,.slice none 0 0,.slice none 0 0,.slice none 0 0,.int .i64 0] 0 _ (Nat.le_refl _) hb1
 rcases h with h|h
 ·have e1:decide ((l.length:Int)<1)=true:=by simp;omega
  clear h
  go_enter Try.func6,Try.ntmps6
  go_wp2_with((with_reducible refine wpList_store_mid ?_ 30 (.tmp 2) (.tmp 19) ?_ w.heap.size 0 ([Value.slice none 0 0,.slice none 0 0,.slice none 0 0,.slice none 0 0,.slice none 0 0,.int .i64 0]).toArray ?_ ?_ hth hin hal ?_);exact rfl;exact rfl;exact rfl;exact rfl)
  exact⟨rfl,_,xzbc rfl rfl hl,rfl,hb9⟩
 ·have e1:decide ((l.length:Int)<1)=false:=by simp;omega
  have e2:decide ((l.length:Int)>40)=true:=by simp;omega
  have e2b:decide (40<(l.length:Int))=true:=by simp;omega
  clear h
  go_enter Try.func6,Try.ntmps6
  go_wp2_with((with_reducible refine wpList_store_mid ?_ 30 (.tmp 2) (.tmp 19) ?_ w.heap.size 0 ([Value.slice none 0 0,.slice none 0 0,.slice none 0 0,.slice none 0 0,.slice none 0 0,.int .i64 0]).toArray ?_ ?_ hth hin hal ?_);exact rfl;exact rfl;exact rfl;exact rfl)
  exact⟨rfl,_,xzbc rfl rfl hl,rfl,hb9⟩
set_option maxRecDepth 20000 in
set_option maxHeartbeats 16000000 in
theorem xzmy (l:List Tree)(h1:1<=l.length)(h40:l.length<=40)(q:Nat)(hq:q<l.length)(hbad:l[q].mayN=false)(hmay:∀ t∈l.take q,t.mayN=true)(hnod:∀ t∈l,t.nodes<=1048576)
 (A:Option Addr)(c:Nat)(w:World)(hat:l≠[]->∃ b o,A=some ⟨b,o,none⟩/\AllAt w l b o):
 Calls Try.prog 6 #[.slice A l.length c] w fun x w'=>x=.returned (.tuple #[.agg #[.slice none 0 0,.slice none 0 0,.slice none 0 0,.slice none 0 0,.slice none 0 0,.int .i64 0],.int .i64 1])/\Below w.heap.size w w':=by
 have hmay':∀ (j:Nat) (hj:j<q),(l[j]'(by omega)).mayN=true:=fun j hj=>hmay _ (by
  rw [List.mem_take_iff_getElem]
  exact⟨j,by omega,rfl⟩)
 have hsP:∀ j,j<=q->0<=sumP (l.take j)/\sumP (l.take j)<=40000000:=fun j hjq=>by
  have q1:=sumP_pos (l.take j) fun t ht=>xzli (hmay t ((List.take_sublist_take_left hjq).subset ht))
  have q2:=xzcc (l.take j)
  have q3:(l.take j).length<=40:=by rw [List.length_take];omega
  exact⟨q1,by omega⟩
 have hb1:Below w.heap.size w (w.alloc (.cells #[.slice none 0 0,.slice none 0 0,.slice none 0 0,.slice none 0 0,.slice none 0 0,.int .i64 0] 30)):=(Below.refl _ _).alloc (Nat.le_refl _) _;have hx1:=BlkIs.new w 30 #[.slice none 0 0,.slice none 0 0,.slice none 0 0,.slice none 0 0,.slice none 0 0,.int .i64 0];have H0:=zd (And.intro hb1 hx1);obtain⟨b,o,rfl,hall⟩:=hat (by intro e;rw [e]at h1;simp at h1);have HALL:=zd (fun(j:Nat) (hj:j<l.length)=>AllAt.get l b o hall j hj);have HM:=zd (fun(j:Nat) (hj:j<l.length)=>hnod _ (List.getElem_mem hj));have HMM:=zd hmay';have HBAD:=zd hbad
 have HSP:=zd (fun(j:Nat) (hjq:j<q)=>(show sumP (l.take (j+1))=sumP (l.take j)+placesZ (l[j]'(by omega))by
  have hj:j<l.length:=by omega
  rw [List.take_succ_eq_append_getElem hj,xzbq];unfold placesZ;rw [if_pos (hmay' j hjq)]))
 have HSB:=zd hsP
 have e1:decide ((l.length:Int)<1)=false:=by simp;omega
 have e2:decide ((l.length:Int)>40)=false:=by simp;omega
 have e2b:decide (40<(l.length:Int))=false:=by simp;omega
 clear hb1 hx1 hat hall hmay hmay' hbad hnod hsP h1
 go_enter Try.func6,Try.ntmps6
 go_wp2
 go_loopw [4,22] (fun s i wr=>∃ (j:Nat) (n:Int),s=.int .i64 n/\i=.int .i64 (j:Int)/\j<=q/\Hid (n=sumP (l.take j)/\Below w.heap.size w wr/\BlkIs wr w.heap.size 30 #[.slice none 0 0,.slice none 0 0,.slice none 0 0,.slice none 0 0,.slice none 0 0,.int .i64 0])) (fun _ i _=>l.length - (intOf i).toNat)
 case atStart=>exact⟨0,0,rfl,rfl,Nat.zero_le _,zd ⟨by simp [sumP],H0.out⟩⟩
 case round=>
  obtain⟨j,n,rfl,rfl,hj,HH⟩:=hrel
  have hp:j<l.length:=by omega
  by_cases hpq:j<q
  ·have hk1:IntKind.i64.wrap ((j:Int)+1)=((j+1:Nat):Int):=by rw [IntKind.wrap_i64];omega
   have hdl:decide ((j:Int)<(l.length:Int))=true:=by simp;omega
   obtain⟨cs,hcat,hlen,hrow⟩:=HALL.out j hp;obtain⟨A',n',c',rfl⟩:=hcat.eight;obtain⟨r0,r1,r2,r3,r4,r5,r6,r7⟩:=xzaj (W':=wr) (fun i x hi=>(HH.out.2.1.cell (World.block_lt_of_cell? w _ (hrow i x hi))).trans (hrow i x hi)) (Below.refl _ _);have hxb:=BlkIs.new wr 39 (reL (l[j]).kind (l[j]).set A' n' c' (l[j]).lo (l[j]).hi).toArray;have hxw:Below wr.heap.size wr (wr.alloc (.cells (reL (l[j]).kind (l[j]).set A' n' c' (l[j]).lo (l[j]).hi).toArray 39)):=(Below.refl _ _).alloc (Nat.le_refl _) _;obtain⟨W9,hW9⟩:∃ W9,wr.alloc (.cells (reL (l[j]).kind (l[j]).set A' n' c' (l[j]).lo (l[j]).hi).toArray 39)=W9:=⟨_,rfl⟩;rw [hW9]at hxb hxw;have hcx:=xzdd l[j] _ W9 ((hcat.step HH.out.2.1).step hxw) (HM.out j hp);have hss:=HSP.out j hpq;have hs1:=HSB.out (j+1) hpq;have hs0:=HSB.out j hj
   have hpz:0<=placesZ l[j]:=by
    have hm:=HMM.out j hpq;unfold placesZ;rw [if_pos hm];unfold Tree.mayN at hm;simp only [Bool.and_eq_true]at hm;exact xzav _ hm.2.2
   have hen:=HH.out.1;simp only [reL]at hW9;unfold reV reL at*;rw [<-hen]at hss hs0;have HX:=zd (And.intro (HH.out.2.1.trans (hxw.mono HH.out.2.1.size)) (HH.out.2.2.step hxw));have HC:=zd hcx;have HSS:=zd hss;generalize placesZ l[j]=pz at*;generalize(l[j]).kind=kx at*;generalize(l[j]).set=mx at*;generalize(l[j]).lo=lx at*;generalize(l[j]).hi=hx at*
   have hk2:IntKind.i64.wrap (n+pz)=n+pz:=by rw [IntKind.wrap_i64];omega
   have hneg:decide (pz<0)=false:=by simp;omega
   obtain⟨x0,x1,x2,x3,x4,x5,x6,x7⟩:=hxb.eight;clear hcat hrow hlen hcx hss hs1 hs0 hpz hen hxb hxw
   go_wp2_with fail
   go_at_call 9
   refine HC.out.mono ?_;rintro x u ⟨rfl,hbu⟩;have HU:=zd (And.intro (HX.out.1.trans (hbu.mono HX.out.1.size)) (HX.out.2.step hbu));clear hbu x0 x1 x2 x3 x4 x5 x6 x7 r0 r1 r2 r3 r4 r5 r6 r7;go_wp2;exact⟨⟨j+1,n+pz,rfl,rfl,hpq,zd ⟨HSS.out.symm,HU.out⟩⟩,by simp [intOf];omega⟩
  ·obtain rfl:j=q:=by omega
   have hk1:IntKind.i64.wrap ((j:Int)+1)=((j+1:Nat):Int):=by rw [IntKind.wrap_i64];omega
   have hdl:decide ((j:Int)<(l.length:Int))=true:=by simp;omega
   obtain⟨cs,hcat,hlen,hrow⟩:=HALL.out j hp;obtain⟨A',n',c',rfl⟩:=hcat.eight;obtain⟨r0,r1,r2,r3,r4,r5,r6,r7⟩:=xzaj (W':=wr) (fun i x hi=>(HH.out.2.1.cell (World.block_lt_of_cell? w _ (hrow i x hi))).trans (hrow i x hi)) (Below.refl _ _);have hxb:=BlkIs.new wr 39 (reL (l[j]).kind (l[j]).set A' n' c' (l[j]).lo (l[j]).hi).toArray;have hxw:Below wr.heap.size wr (wr.alloc (.cells (reL (l[j]).kind (l[j]).set A' n' c' (l[j]).lo (l[j]).hi).toArray 39)):=(Below.refl _ _).alloc (Nat.le_refl _) _;obtain⟨W9,hW9⟩:∃ W9,wr.alloc (.cells (reL (l[j]).kind (l[j]).set A' n' c' (l[j]).lo (l[j]).hi).toArray 39)=W9:=⟨_,rfl⟩;rw [hW9]at hxb hxw;have hcx:=xzdd l[j] _ W9 ((hcat.step HH.out.2.1).step hxw) (HM.out j hp);rw [show placesZ l[j]= -1 by unfold placesZ;rw [HBAD.out];rfl]at hcx;simp only [reL]at hW9;unfold reV reL at*;have HX:=zd (And.intro (HH.out.2.1.trans (hxw.mono HH.out.2.1.size)) (HH.out.2.2.step hxw));have HC:=zd hcx;generalize(l[j]).kind=kx at*;generalize(l[j]).set=mx at*;generalize(l[j]).lo=lx at*;generalize(l[j]).hi=hx at*;obtain⟨x0,x1,x2,x3,x4,x5,x6,x7⟩:=hxb.eight;clear hcat hrow hlen hcx hxb hxw
   go_wp2_with fail
   go_at_call 9
   refine HC.out.mono ?_;rintro x u ⟨rfl,hbu⟩;have HU:=zd (And.intro (HX.out.1.trans (hbu.mono HX.out.1.size)) (HX.out.2.step hbu));clear hbu x0 x1 x2 x3 x4 x5 x6 x7 r0 r1 r2 r3 r4 r5 r6 r7;have hth:World.there u w.heap.size 0 ([Value.slice none 0 0,.slice none 0 0,.slice none 0 0,.slice none 0 0,.slice none 0 0,.int .i64 0]).toArray.size:=HU.out.2.there
   have hal:([Value.slice none 0 0,.slice none 0 0,.slice none 0 0,.slice none 0 0,.slice none 0 0,.int .i64 0]).toArray.all (·.oneCell')=true:=by simp [Value.oneCell']
   have hin:(Try.prog.info? 30).map (·.size)=some ([Value.slice none 0 0,.slice none 0 0,.slice none 0 0,.slice none 0 0,.slice none 0 0,.int .i64 0]).toArray.size:=xzeh;have hl:=xzfo (HU.out.2.fill (new:=([Value.slice none 0 0,.slice none 0 0,.slice none 0 0,.slice none 0 0,.slice none 0 0,.int .i64 0]).toArray) rfl);have hb9:Below w.heap.size w _:=xzbz (w0:=w) (B:=w.heap.size) w.heap.size [Value.slice none 0 0,.slice none 0 0,.slice none 0 0,.slice none 0 0,.slice none 0 0,.int .i64 0] 0 _ (Nat.le_refl _) HU.out.1
   go_wp2_with((with_reducible refine wpList_store_mid ?_ 30 (.tmp 2) (.tmp 30) ?_ w.heap.size 0 ([Value.slice none 0 0,.slice none 0 0,.slice none 0 0,.slice none 0 0,.slice none 0 0,.int .i64 0]).toArray ?_ ?_ hth hin hal ?_);exact rfl;exact rfl;exact rfl;exact rfl)
   exact⟨rfl,_,xzbc rfl rfl hl,rfl,hb9⟩
end Go.Proofs.Ythoaaginadjaoaa
namespace Go.Proofs.Ythoaaginadjaoaa
open Go.RowKit
inductive Bud where
 |nil|e
 |pl (n:Nat) (m:Nat->Bool)
 |cat (a b:Bud)|alt (a b:Bud)|pls (a:Bud)
namespace Bud
def em:Bud->Bool
 | .e=>true
 | .cat a b=>a.em&&b.em
 | .alt a b=>a.em||b.em
 | .pls a=>a.em
 | .nil=>false
 | .pl _ _=>false
def fi:Bud->Nat->Bool
 | .pl n _,q=>decide (q=n)
 | .cat a b,q=>a.fi q||(a.em&&b.fi q)
 | .alt a b,q=>a.fi q||b.fi q
 | .pls a,q=>a.fi q
 | .nil,_=>false
 | .e,_=>false
def la:Bud->Nat->Bool
 | .pl n _,q=>decide (q=n)
 | .cat a b,q=>b.la q||(b.em&&a.la q)
 | .alt a b,q=>a.la q||b.la q
 | .pls a,q=>a.la q
 | .nil,_=>false
 | .e,_=>false
def pr:Bud->Nat->Nat->Bool
 | .cat a b,p,q=>(a.pr p q||b.pr p q)||(a.la p&&b.fi q)
 | .alt a b,p,q=>a.pr p q||b.pr p q
 | .pls a,p,q=>a.pr p q||(a.la p&&a.fi q)
 | .nil,_,_=>false
 | .e,_,_=>false
 | .pl _ _,_,_=>false
def put:Bud->List (Nat->Bool)->List (Nat->Bool)
 | .pl n m,L=>L.set n m
 | .cat a b,L=>b.put (a.put L)
 | .alt a b,L=>b.put (a.put L)
 | .pls a,L=>a.put L
 | .nil,L=>L
 | .e,L=>L
end Bud
def catL:List Bud->Bud
 |[]=>.nil
 |a::r=>r.foldl .cat a
def altL:List Bud->Bud
 |[]=>.nil
 |a::r=>r.foldl .alt a
def plsLast:List Bud->List Bud
 |[]=>[]
 |[a]=>[.pls a]
 |a::b::r=>a::plsLast (b::r)
def restN:List Bud->Bud
 |[]=>.e
 |a::r=>.alt (.cat a (restN r)) .e
def repN (lo:Nat)(L:List Bud):Bud:=.cat ((L.take lo).foldl .cat .e) (restN (L.drop lo))
def cpN (f:Nat->Bud×Nat):Nat->Nat->List Bud×Nat
 |0,n=>([],n)
 |c+1,n=>let x:=f n;let y:=cpN f c x.2;(x.1::y.1,y.2)
mutual
def outT:Tree->Nat->Bud×Nat
 | .node k m l lo hi,n=>
  if(Tree.node k m l lo hi).plN=0 then(.e,n)
  else if k=1 then(.pl n m,n+1)
  else if k=2 then let x:=outs l n;(catL x.1,x.2)
  else if k=3 then let x:=outs l n;(altL x.1,x.2)
  else let x:=cpN (headOut l) (copiesI lo hi).toNat n;(repN lo.toNat (if hi<0 then plsLast x.1 else x.1),x.2)
def outs:List Tree->Nat->List Bud×Nat
 |[],n=>([],n)
 |t::r,n=>let x:=outT t n;let y:=outs r x.2;(x.1::y.1,y.2)
def headOut:List Tree->Nat->Bud×Nat
 |[],n=>(.nil,n)
 |t::_,n=>outT t n
end
def emR (must:Int):Int->List Bud->Bool
 |_,[]=>true
 |i,a::r=>(a.em&&emR must (i+1) r)||decide (must<=i)
def fiR (must:Int):Int->List Bud->Nat->Bool
 |_,[],_=>false
 |i,a::r,q=>a.fi q||(a.em&&fiR must (i+1) r q)
def laR (must:Int):Int->List Bud->Nat->Bool
 |_,[],_=>false
 |i,a::r,q=>laR must (i+1) r q||(emR must (i+1) r&&a.la q)
def prR (must:Int):Int->List Bud->Nat->Nat->Bool
 |_,[],_,_=>false
 |i,a::r,p,q=>(a.pr p q||prR must (i+1) r p q)||(a.la p&&fiR must (i+1) r q)
theorem xzpo (must:Int):∀ (r:List Bud) (i:Int) (X:Bud),i+r.length<=must->
 ((r.foldl Bud.cat X).em=(X.em&&emR must i r))/\(∀ q,(r.foldl Bud.cat X).fi q=(X.fi q||(X.em&&fiR must i r q)))/\(∀ q,(r.foldl Bud.cat X).la q=(laR must i r q||(emR must i r&&X.la q)))/\
 ∀ p q,(r.foldl Bud.cat X).pr p q=((X.pr p q||prR must i r p q)||(X.la p&&fiR must i r q))
 |[],i,X,_=>by simp [emR,fiR,laR,prR]
 |a::r,i,X,h=>by
  simp only [List.length_cons]at h;obtain⟨h1,h2,h3,h4⟩:=xzpo must r (i+1) (X.cat a) (by omega);have hm:decide (must<=i)=false:=decide_eq_false (by omega);rw [List.foldl_cons];refine⟨?_,fun q=>?_,fun q=>?_,fun p q=>?_⟩
  ·rw [h1];simp only [Bud.em,emR,hm,Bool.or_false,Bool.and_assoc]
  ·rw [h2];simp only [Bud.em,Bud.fi,fiR]
   cases X.fi q<;>cases X.em<;>cases a.fi q<;>cases a.em<;>rfl
  ·rw [h3];simp only [Bud.la,laR,emR,hm,Bool.or_false]
   cases laR must (i+1) r q<;>cases emR must (i+1) r<;>cases a.la q<;>cases a.em<;>rfl
  ·rw [h4];simp only [Bud.pr,Bud.la,prR,fiR]
   cases X.pr p q<;>cases a.pr p q<;>cases X.la p<;>cases a.fi q<;>cases prR must (i+1) r p q<;>cases a.la p<;>cases a.em<;>cases fiR must (i+1) r q<;>rfl
theorem xzpp (must:Int):∀ (r:List Bud) (i:Int),must<=i->(restN r).em=true/\emR must i r=true/\(∀ q,(restN r).fi q=fiR must i r q)/\(∀ q,(restN r).la q=laR must i r q)/\∀ p q,(restN r).pr p q=prR must i r p q
 |[],i,_=>⟨rfl,rfl,fun _=>rfl,fun _=>rfl,fun _ _=>rfl⟩
 |a::r,i,h=>by
  obtain⟨h1,h2,h3,h4,h5⟩:=xzpp must r (i+1) (by omega);have hm:decide (must<=i)=true:=decide_eq_true (by omega);refine⟨by simp [restN,Bud.em],by simp [emR,hm],fun q=>?_,fun q=>?_,fun p q=>?_⟩
  ·simp only [restN,Bud.fi,fiR,h3];simp
  ·simp only [restN,Bud.la,laR,h1,h2,h4];simp
  ·simp only [restN,Bud.pr,prR,h3,h5];simp
theorem xzte:∀ (lo:Nat) (L:List Bud) (i:Int) (X:Bud),lo<=L.length->
 ((Bud.cat ((L.take lo).foldl Bud.cat X) (restN (L.drop lo))).em=(X.em&&emR (i+lo) i L))/\(∀ q,(Bud.cat ((L.take lo).foldl Bud.cat X) (restN (L.drop lo))).fi q=(X.fi q||(X.em&&fiR (i+lo) i L q)))/\
 (∀ q,(Bud.cat ((L.take lo).foldl Bud.cat X) (restN (L.drop lo))).la q=(laR (i+lo) i L q||(emR (i+lo) i L&&X.la q)))/\
 ∀ p q,(Bud.cat ((L.take lo).foldl Bud.cat X) (restN (L.drop lo))).pr p q=((X.pr p q||prR (i+lo) i L p q)||(X.la p&&fiR (i+lo) i L q))
 |0,L,i,X,_=>by
  obtain⟨h1,h2,h3,h4,h5⟩:=xzpp (i+(0:Nat)) L i (by omega);simp only [List.take_zero,List.foldl_nil,List.drop_zero];refine⟨by simp only [Bud.em,h1,h2],fun q=>by simp only [Bud.fi,h3],fun q=>by simp only [Bud.la,h1,h2,h4],fun p q=>by simp only [Bud.pr,h3,h5]⟩
 |lo+1,[],i,X,h=>by simp at h
 |lo+1,a::r,i,X,h=>by
  simp only [List.length_cons]at h;obtain⟨h1,h2,h3,h4⟩:=xzte lo r (i+1) (X.cat a) (by omega);have hm:decide (i+((lo+1:Nat):Int)<=i)=false:=decide_eq_false (by omega)
  have e:i+((lo+1:Nat):Int)=i+1+(lo:Nat):=by omega
  have hm2:decide (i+1+(lo:Int)<=i)=false:=decide_eq_false (by omega);simp only [List.take_succ_cons,List.drop_succ_cons,List.foldl_cons];refine⟨?_,fun q=>?_,fun q=>?_,fun p q=>?_⟩
  ·rw [h1];simp only [emR];rw [hm,Bool.or_false,e];simp only [Bud.em,Bool.and_assoc]
  ·rw [h2];simp only [Bud.em,Bud.fi,fiR,e]
   cases X.fi q<;>cases X.em<;>cases a.fi q<;>cases a.em<;>rfl
  ·rw [h3];simp only [Bud.la,laR,emR,e,hm2,Bool.or_false]
   generalize laR (i+1+(lo:Nat)) (i+1) r q=x1;generalize emR (i+1+(lo:Nat)) (i+1) r=x2
   cases x1<;>cases x2<;>cases a.la q<;>cases a.em<;>rfl
  ·rw [h4];simp only [Bud.pr,Bud.la,prR,fiR,e]
   generalize prR (i+1+(lo:Nat)) (i+1) r p q=x1;generalize fiR (i+1+(lo:Nat)) (i+1) r q=x2
   cases X.pr p q<;>cases a.pr p q<;>cases X.la p<;>cases a.fi q<;>cases x1<;>cases a.la p<;>cases a.em<;>cases x2<;>rfl
structure RelN (F:List (List Int))(lo hi:Nat)(N:Bud)(p:Prt):Prop where
 em:N.em=p.empty
 fi:∀ q,N.fi q=hasI p.first q
 la:∀ q,N.la q=hasI p.ends q
 inp:InP lo hi p
 pr:∀ x q,lo<=x->x<hi->N.pr x q=hasI (F.getD x []) q
 out:∀ x q,N.pr x q=true->lo<=x/\x<hi
theorem RelN.ag {F F':List (List Int)}{lo hi:Nat}{N:Bud}{p:Prt}(h:RelN F lo hi N p)(ha:∀ x q,lo<=x->x<hi->hasI (F'.getD x []) q=hasI (F.getD x []) q):RelN F' lo hi N p:=
 ⟨h.em,h.fi,h.la,h.inp,fun x q h1 h2=>(h.pr x q h1 h2).trans (ha x q h1 h2).symm,h.out⟩
def RelR (F:List (List Int)):Nat->List Bud->List Prt->Nat->Prop
 |lo,[],[],hi=>lo=hi
 |lo,N::Ns,p::ps,hi=>∃ mid,lo<=mid/\RelN F lo mid N p/\RelR F mid Ns ps hi
 |_,_,_,_=>False
theorem RelR.le {F:List (List Int)}:∀ {Ns:List Bud} {ps:List Prt} {lo hi:Nat},RelR F lo Ns ps hi->lo<=hi
 |[],[],_,_,h=>Nat.le_of_eq h
 |_::_,_::_,_,_,⟨_,h1,_,h2⟩=>Nat.le_trans h1 h2.le
 |[],_::_,_,_,h=>h.elim
 |_::_,[],_,_,h=>h.elim
theorem RelR.ag {F F':List (List Int)}:∀ {Ns:List Bud} {ps:List Prt} {lo hi:Nat},RelR F lo Ns ps hi->(∀ x q,lo<=x->x<hi->hasI (F'.getD x []) q=hasI (F.getD x []) q)->RelR F' lo Ns ps hi
 |[],[],_,_,h,_=>h
 |_::_,_::_,_,_,⟨mid,h1,h2,h3⟩,ha=>⟨mid,h1,h2.ag fun x q g1 g2=>ha x q g1 (by have:=h3.le;omega),h3.ag fun x q g1 g2=>ha x q (by omega) g2⟩
 |[],_::_,_,_,h,_=>h.elim
 |_::_,[],_,_,h,_=>h.elim
theorem xzlk (must:Int)(F:List (List Int)):∀ (l:List Prt) (i:Int),(inRowP must i l F).1.length=F.length
 |[],_=>rfl
 |p::l,i=>by unfold inRowP;dsimp only;rw [xzbl,xzlk must F l]
theorem xzht (must:Int):∀ (Ns:List Bud) (ps:List Prt) (i:Int) (F:List (List Int)) (lo hi:Nat),hi<=F.length->(∀ p∈ps,p.Ok F.length)->RelR F lo Ns ps hi->
 (inRowP must i ps F).2.empty=emR must i Ns/\(∀ q,hasI (inRowP must i ps F).2.first q=fiR must i Ns q)/\(∀ q,hasI (inRowP must i ps F).2.ends q=laR must i Ns q)/\InP lo hi (inRowP must i ps F).2/\
 (∀ x q,lo<=x->x<hi->hasI ((inRowP must i ps F).1.getD x []) q=prR must i Ns x q)/\(∀ x q,prR must i Ns x q=true->lo<=x/\x<hi)/\∀ x q,x<lo\/hi<=x->hasI ((inRowP must i ps F).1.getD x []) q=hasI (F.getD x []) q
 |[],[],i,F,lo,hi,_,_,h=>by
  obtain rfl:lo=hi:=h;exact⟨rfl,fun _=>rfl,fun _=>rfl,⟨fun a ha=>by simp [inRowP,hasI]at ha,fun a ha=>by simp [inRowP,hasI]at ha⟩,fun x q h1 h2=>(by omega),fun x q h=>(by cases h),fun _ _ _=>rfl⟩
 |N::Ns,p::ps,i,F,lo,hi,hF,hok,⟨mid,h1,h2,h3⟩=>by
  obtain⟨g1,g2,g3,g4,g5,g6,g7⟩:=xzht must Ns ps (i+1) F mid hi hF (fun q hq=>hok q (by simp [hq])) h3;have hmh:=h3.le;have hlen:=xzlk must F ps (i+1);unfold inRowP;generalize inRowP must (i+1) ps F=y at*
  have hl:=xzef p.ends y.1 y.2.first fun x hx=>by
   have:=xzfe (hok p (by simp)) x hx;rw [hlen];exact this
  refine⟨?_,fun q=>?_,fun q=>?_,xztd h2.inp g4 h1 hmh,fun x q hx1 hx2=>?_,fun x q hx=>?_,fun x q hx=>?_⟩
  ·show((bothP p y.2).empty||decide (i>=must))=_
   have:(bothP p y.2).empty=(p.empty&&y.2.empty):=rfl;rw [this,g1,<-h2.em];rfl
  ·show hasI (bothP p y.2).first q=_
   rw [xzcm,g2,<-h2.fi,<-h2.em];rfl
  ·show hasI (bothP p y.2).ends q=_
   rw [xzdn,g3,g1,<-h2.la];rfl
  ·show hasI ((linkF y.1 p.ends y.2.first).getD x []) q=_
   rw [hl,g2,<-h2.la];simp only [prR]
   by_cases hm:x<mid
   ·rw [g7 x q (.inl hm),<-h2.pr x q hx1 hm]
    have:prR must (i+1) Ns x q=false:=by
     rw [Bool.eq_false_iff];intro hh;have:=g6 x q hh;omega
    rw [this,Bool.or_false]
   ·rw [g5 x q (by omega) hx2]
    have:N.pr x q=false:=by
     rw [Bool.eq_false_iff];intro hh;have:=h2.out x q hh;omega
    rw [this,Bool.false_or]
  ·simp only [prR,Bool.or_eq_true,Bool.and_eq_true]at hx
   rcases hx with(hx|hx)|hx
   ·have:=h2.out x q hx;omega
   ·have:=g6 x q hx;omega
   ·have:=h2.inp.2 x (by rw [<-h2.la];exact hx.1);omega
  ·show hasI ((linkF y.1 p.ends y.2.first).getD x []) q=_
   rw [hl]
   have hn:hasI p.ends x=false:=by
    rw [Bool.eq_false_iff];intro hh;have:=h2.inp.2 x hh;omega
   rw [hn,Bool.false_and,Bool.or_false];exact g7 x q (by omega)
 |[],_::_,_,_,_,_,_,_,h=>h.elim
 |_::_,[],_,_,_,_,_,_,h=>h.elim
end Go.Proofs.Ythoaaginadjaoaa
namespace Go.Proofs.Ythoaaginadjaoaa
open Go.RowKit
theorem cpN_n (f:Nat->Bud×Nat)(d:Nat)(h:∀ n,(f n).2=n+d):∀ (c n:Nat),(cpN f c n).2=n+d*c/\(cpN f c n).1.length=c
 |0,n=>⟨by simp [cpN],rfl⟩
 |c+1,n=>by
  have:=cpN_n f d h c (f n).2;simp only [cpN,List.length_cons];refine⟨?_,by rw [this.2]⟩;rw [this.1,h,Nat.mul_succ];omega
mutual
theorem xzhu:∀ (T:Tree) (n:Nat),T.okT->(outT T n).2=n+T.plN
 | .node k m l lo hi,n,hT=>by
  unfold Tree.okT at hT;obtain⟨⟨hk1,hk4,hk0⟩,hTl⟩:=hT;have hs:=outs_n l
  have hpl:(Tree.node k m l lo hi).plN=((if k=1 then 1 else 0)+sumN l)*(if k=4 then(copiesI lo hi).toNat else 1):=by unfold Tree.plN;rfl
  unfold outT
  split
  ·rename_i h;rw [h];rfl
  ·rename_i hne
   split
   ·rename_i h;subst h
    obtain rfl:=hk1 rfl;rw [hpl];simp [sumN]
   ·rename_i h1
    split
    ·rename_i h2
     rw [hpl,if_neg h1,if_neg (by omega)];have:=(hs n hTl).1
     simpa using this
    ·rename_i h2
     split
     ·rename_i h3
      rw [hpl,if_neg h1,if_neg (by omega)];have:=(hs n hTl).1
      simpa using this
     ·rename_i h3
      by_cases h4:k=4
      ·obtain⟨t,rfl⟩:∃ t,l=[t]:=List.length_eq_one_iff.1 (hk4 h4)
       have hf:∀ n,(headOut [t] n).2=n+t.plN:=fun n=>by
        have:=(hs n hTl).1
        simpa [outs,headOut,sumN]using this
       have:=(cpN_n (headOut [t]) t.plN hf (copiesI lo hi).toNat n).1;rw [hpl,if_neg h1,if_pos h4];simp only [sumN]at*;rw [this];simp
      ·have:=hk0 h1 h2 h3 h4
       subst this;rw [hpl,if_neg h1]at hne
       simp [sumN]at hne
theorem outs_n:∀ (l:List Tree) (n:Nat),okTs l->(outs l n).2=n+sumN l/\(outs l n).1.length=l.length
 |[],n,_=>⟨by simp [outs,sumN],rfl⟩
 |t::r,n,h=>by
  unfold okTs at h;have h1:=xzhu t n h.1;have h2:=outs_n r (outT t n).2 h.2;simp only [outs,sumN,List.length_cons];refine⟨?_,by rw [h2.2]⟩;rw [h2.1,h1];omega
end
def Bud.shf (d:Nat):Bud->Bud
 | .nil=>.nil
 | .e=>.e
 | .pl n m=>.pl (n+d) m
 | .cat a b=>.cat (a.shf d) (b.shf d)
 | .alt a b=>.alt (a.shf d) (b.shf d)
 | .pls a=>.pls (a.shf d)
theorem xziz (d:Nat):∀ N:Bud,(N.shf d).em=N.em
 | .nil=>rfl
 | .e=>rfl
 | .pl _ _=>rfl
 | .cat a b=>by simp only [Bud.shf,Bud.em,xziz d a,xziz d b]
 | .alt a b=>by simp only [Bud.shf,Bud.em,xziz d a,xziz d b]
 | .pls a=>by simp only [Bud.shf,Bud.em,xziz d a]
theorem xzja (d:Nat):∀ (N:Bud) (q:Nat),(N.shf d).fi q=(decide (d<=q)&&N.fi (q - d))
 | .nil,q=>by simp [Bud.shf,Bud.fi]
 | .e,q=>by simp [Bud.shf,Bud.fi]
 | .pl n m,q=>by
  simp only [Bud.shf,Bud.fi];rw [Bool.eq_iff_iff];simp;omega
 | .cat a b,q=>by
  simp only [Bud.shf,Bud.fi,xzja d a,xzja d b,xziz d a]
  cases decide (d<=q)<;>simp
 | .alt a b,q=>by
  simp only [Bud.shf,Bud.fi,xzja d a,xzja d b]
  cases decide (d<=q)<;>simp
 | .pls a,q=>by simp only [Bud.shf,Bud.fi,xzja d a]
theorem xzjb (d:Nat):∀ (N:Bud) (q:Nat),(N.shf d).la q=(decide (d<=q)&&N.la (q - d))
 | .nil,q=>by simp [Bud.shf,Bud.la]
 | .e,q=>by simp [Bud.shf,Bud.la]
 | .pl n m,q=>by
  simp only [Bud.shf,Bud.la];rw [Bool.eq_iff_iff];simp;omega
 | .cat a b,q=>by
  simp only [Bud.shf,Bud.la,xzjb d a,xzjb d b,xziz d b]
  cases decide (d<=q)<;>simp
 | .alt a b,q=>by
  simp only [Bud.shf,Bud.la,xzjb d a,xzjb d b]
  cases decide (d<=q)<;>simp
 | .pls a,q=>by simp only [Bud.shf,Bud.la,xzjb d a]
theorem xzkh (d:Nat):∀ (N:Bud) (p q:Nat),(N.shf d).pr p q=((decide (d<=p)&&decide (d<=q))&&N.pr (p - d) (q - d))
 | .nil,p,q=>by simp [Bud.shf,Bud.pr]
 | .e,p,q=>by simp [Bud.shf,Bud.pr]
 | .pl n m,p,q=>by simp [Bud.shf,Bud.pr]
 | .cat a b,p,q=>by
  simp only [Bud.shf,Bud.pr,xzkh d a,xzkh d b,xzjb d a,xzja d b]
  cases decide (d<=p)<;>cases decide (d<=q)<;>simp
 | .alt a b,p,q=>by
  simp only [Bud.shf,Bud.pr,xzkh d a,xzkh d b]
  cases decide (d<=p)<;>cases decide (d<=q)<;>simp
 | .pls a,p,q=>by
  simp only [Bud.shf,Bud.pr,xzkh d a,xzjb d a,xzja d a]
  cases decide (d<=p)<;>cases decide (d<=q)<;>simp
theorem xzhv (d:Nat)(g:Bud->Bud->Bud)(hg:∀ a b,(g a b).shf d=g (a.shf d) (b.shf d)):∀ (l:List Bud) (X:Bud),(l.foldl g X).shf d=(l.map (Bud.shf d)).foldl g (X.shf d)
 |[],_=>rfl
 |a::l,X=>by simp only [List.foldl_cons,List.map_cons];rw [xzhv d g hg l,hg]
theorem xzuw (d:Nat):∀ l:List Bud,(catL l).shf d=catL (l.map (Bud.shf d))
 |[]=>rfl
 |a::r=>xzhv d .cat (fun _ _=>rfl) r a
theorem xzux (d:Nat):∀ l:List Bud,(altL l).shf d=altL (l.map (Bud.shf d))
 |[]=>rfl
 |a::r=>xzhv d .alt (fun _ _=>rfl) r a
theorem xzhm (d:Nat):∀ l:List Bud,(plsLast l).map (Bud.shf d)=plsLast (l.map (Bud.shf d))
 |[]=>rfl
 |[_]=>rfl
 |a::b::r=>by simp only [plsLast,List.map_cons];rw [xzhm d (b::r)];rfl
theorem xzll (d:Nat):∀ l:List Bud,(restN l).shf d=restN (l.map (Bud.shf d))
 |[]=>rfl
 |a::r=>by simp only [restN,List.map_cons,Bud.shf,xzll d r]
theorem xzuy (d lo:Nat)(l:List Bud):(repN lo l).shf d=repN lo (l.map (Bud.shf d)):=by
 unfold repN;rw [List.map_take.symm,List.map_drop.symm,<-xzll];simp only [Bud.shf];rw [xzhv d .cat (fun _ _=>rfl)];rfl
theorem xztf (d:Nat)(f:Nat->Bud×Nat)(h:∀ n,f (n+d)=((f n).1.shf d,(f n).2+d)):∀ (c n:Nat),cpN f c (n+d)=((cpN f c n).1.map (Bud.shf d),(cpN f c n).2+d)
 |0,n=>rfl
 |c+1,n=>by
  simp only [cpN,h,xztf d f h c,List.map_cons]
mutual
theorem xzki (d:Nat):∀ (T:Tree) (n:Nat),outT T (n+d)=((outT T n).1.shf d,(outT T n).2+d)
 | .node k m l lo hi,n=>by
  have hs:=outs_shf d l;have hh:=head_shf d l;unfold outT
  split
  ·rfl
  ·split
   ·simp only [Bud.shf]
    rw [show n+d+1=n+1+d by omega]
   ·split
    ·rw [hs n];simp only [xzuw]
    ·split
     ·rw [hs n];simp only [xzux]
     ·rw [xztf d _ hh];simp only [xzuy]
      split
      ·rw [xzhm]
      ·rfl
theorem outs_shf (d:Nat):∀ (l:List Tree) (n:Nat),outs l (n+d)=((outs l n).1.map (Bud.shf d),(outs l n).2+d)
 |[],n=>rfl
 |t::r,n=>by simp only [outs,xzki d t n,outs_shf d r,List.map_cons]
theorem head_shf (d:Nat):∀ (l:List Tree) (n:Nat),headOut l (n+d)=((headOut l n).1.shf d,(headOut l n).2+d)
 |[],n=>rfl
 |t::_,n=>by simp only [headOut];exact xzki d t n
end
theorem RelN.shf {F F':List (List Int)}{lo hi d:Nat}{N:Bud}{p:Prt}(h:RelN F lo hi N p)(hf:∀ x∈p.first,0<=x)(he:∀ x∈p.ends,0<=x)(hF:∀ x,lo<=x->x<hi->F'.getD (x+d) []=shiftL d (F.getD x []))(hF0:∀ x,∀ y∈F.getD x [],0<=y):
 RelN F' (lo+d) (hi+d) (N.shf d) (shiftP d p):=by
 have hsh:∀ (l:List Int),(∀ x∈l,0<=x)->∀ q,hasI (shiftL d l) q=(decide (d<=q)&&hasI l (q - d)):=fun l hl q=>by
  by_cases hq:d<=q
  ·rw [decide_eq_true hq,Bool.true_and]
   have:=xzfn d l (q - d)
   rwa [Nat.sub_add_cancel hq]at this
  ·rw [decide_eq_false hq,Bool.false_and,Bool.eq_false_iff]
   intro hh;obtain⟨y,e,_⟩:=xzcn d l hl q hh;omega
 refine⟨(xziz d N).trans h.em,fun q=>?_,fun q=>?_,xzoz h.inp hf he,fun x q h1 h2=>?_,fun x q hx=>?_⟩
 ·rw [xzja,h.fi];exact(hsh _ hf q).symm
 ·rw [xzjb,h.la];exact(hsh _ he q).symm
 ·obtain⟨y,rfl⟩:∃ y,x=y+d:=⟨x - d,by omega⟩
  rw [xzkh,hF y (by omega) (by omega),hsh _ (hF0 y),decide_eq_true (by omega:d<=y+d),Bool.true_and,Nat.add_sub_cancel,h.pr y _ (by omega) (by omega)]
 ·rw [xzkh,Bool.and_eq_true,Bool.and_eq_true,decide_eq_true_eq,decide_eq_true_eq]at hx
  have:=h.out _ _ hx.2;omega
theorem RelR.snoc {F:List (List Int)}{N:Bud}{p:Prt}{hi:Nat}:∀ {Ns:List Bud} {ps:List Prt} {lo mid:Nat},RelR F lo Ns ps mid->mid<=hi->RelN F mid hi N p->RelR F lo (Ns++[N]) (ps++[p]) hi
 |[],[],_,_,h,h1,h2=>by obtain rfl:=h;exact⟨hi,h1,h2,rfl⟩
 |_::_,_::_,_,_,⟨m,g1,g2,g3⟩,h1,h2=>⟨m,g1,g2,g3.snoc h1 h2⟩
 |[],_::_,_,_,h,_,_=>h.elim
 |_::_,[],_,_,h,_,_=>h.elim
theorem xzpq (t:Tree)(i j:Nat)(hij:i<=j){p:Prt}(hp:p.Ok j)(ht:∀ n,(outT t n).2=n+(j - i)):∀ (n:Nat) (S:Mk) (l:List Prt) (Ns:List Bud),S.Ok->j<=S.sets.length->(∀ r∈(S.follow.drop i).take (j - i),risesB j (-1) r=true)->
 RelN S.follow i j (outT t i).1 p->RelR S.follow i Ns l S.sets.length->
 RelR (copyN p i j n S l).1.follow i (Ns++(cpN (outT t) n S.sets.length).1) (copyN p i j n S l).2 (copyN p i j n S l).1.sets.length
 |0,S,l,Ns,_,_,_,_,hl=>by simpa [cpN,copyN]using hl
 |n+1,S,l,Ns,hS,hj,hrow,hN,hl=>by
  obtain⟨h1,h2⟩:=xzge hS hij hj hrow
  have hold:∀ x q,x<S.sets.length->hasI ((copiedS S i j).follow.getD x []) q=hasI (S.follow.getD x []) q:=fun x q hx=>by
   unfold copiedS;dsimp only;rw [xzes _ _ _ (by rw [hS.1];exact hx)]
  have hd:((S.sets.length - i:Nat):Int)=(S.sets.length:Int) - i:=by omega
  have hnew:∀ x,i<=x->x<j->(copiedS S i j).follow.getD (x+(S.sets.length - i)) []=shiftL ((S.sets.length - i:Nat):Int) (S.follow.getD x []):=fun x hx1 hx2=>by
   have hf:=hS.1;unfold copiedS
   dsimp only
   rw [List.getD_eq_getElem?_getD,List.getElem?_append_right (by omega),List.getElem?_map,List.getElem?_take,if_pos (by omega),List.getElem?_drop,show i+(x+(S.sets.length - i) - S.follow.length)=x by omega,List.getD_eq_getElem?_getD,List.getElem?_eq_getElem (by omega)];simp only [Option.map_some,Option.getD_some];rw [hd]
  have hsN:outT t S.sets.length=((outT t i).1.shf (S.sets.length - i),(outT t i).2+(S.sets.length - i)):=by
   have:=xzki (S.sets.length - i) t i
   rwa [show i+(S.sets.length - i)=S.sets.length by omega]at this
  have hsh:=hN.shf (F':=(copiedS S i j).follow) (d:=S.sets.length - i) (fun x hx=>(xzjy hp x hx).1) (fun x hx=>(xzfe hp x hx).1) hnew (fun x y hy=>by
   have:=hS.2.getD x
   have:=xzau this y hy;omega)
  rw [show i+(S.sets.length - i)=S.sets.length by omega,show j+(S.sets.length - i)=(copiedS S i j).sets.length by omega,hd]at hsh;have hl':=(hl.ag fun x q _ hx=>hold x q hx).snoc (hi:=(copiedS S i j).sets.length) (by omega) hsh
  have:=xzpq t i j hij hp ht n (copiedS S i j) (l++[shiftP ((S.sets.length:Int) - i) p]) (Ns++[(outT t i).1.shf (S.sets.length - i)]) h1 (by omega) (by rw [xzcr hS.1 hj];exact hrow)
   (hN.ag fun x q _ hx=>hold x q (by omega)) hl'
  unfold copyN;simp only [cpN]
  have e2:(outT t S.sets.length).2=(copiedS S i j).sets.length:=by rw [ht,h2]
  rw [e2,hsN];rw [List.append_assoc]at this;exact this
end Go.Proofs.Ythoaaginadjaoaa
