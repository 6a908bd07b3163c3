/-
 WHAT nfa.Build ANSWERS where there are too many places: a contract; and how many places are counted. Condition: the rules may be.
-/
import Derived.Maps.OwnSet
import Derived.DeepKeys4
import Derived.Test.YtgbljnnmhmlifaaGreatDoorQG27
import Derived.Test.YtgbljnnmhmlifaaGreatDoorQG29
import Derived.Test.YtgbljnnmhmlifaaGreatDoorQG09
import Derived.Test.YtgbljnnmhmlifaaGreatDoorQG08
import Derived.Test.YtgbljnnmhmlifaaGreatDoorQG11
import Derived.Test.YtgbljnnmhmlifaaGreatDoorQG26
import Derived.Test.YtgbljnnmhmlifaaGreatDoorQG02
import Derived.Test.YtgbljnnmhmlifaaGreatDoorQG03
namespace Go.Proofs.YtgbljnnmhmlifaaGreatDoor
section
open Go.RowKit
attribute [local irreducible] FreeW textFrame
theorem yzec {T:Tree}(h:T.mayN=true):T.ok=true:=by
 unfold Tree.mayN at h;simp only [Bool.and_eq_true]at h;exact h.2.2
theorem xzig {B:Nat}{w0:World}(g:Nat):∀ (vs:List Value) (o:Nat) (w:World),B<=g->Below B w0 w->Below B w0 (w.setCells g o vs)
 |[],_,_,_,h=>h
 |x::vs,o,_,hB,h=>xzig g vs (o+1) _ hB (h.setCell (p:=⟨g,o,none⟩) hB x)
mutual
theorem xzow:∀ T:Tree,T.ok=true->T.places<=2000->(T.plN:Int)=T.places
 | .node k m l lo hi=>fun h h2=>by
  have hop:=xzcz h;have hk:=xzay hop.2;have hp:=sumP_pos l hop.1;unfold Tree.places at h2 ⊢;unfold Tree.plN
  have hc:0<=(if k=4 then copiesI lo hi else 1):=by
   unfold copiesI
   split
   ·split<;>omega
   ·omega
  have he:((if k=4 then(copiesI lo hi).toNat else 1:Nat):Int)=(if k=4 then copiesI lo hi else 1):=by
   split
   ·rename_i h4
    rw [if_pos h4]at hc;omega
   ·rfl
  have hone:(((if k=1 then 1 else 0)+sumN l:Nat):Int)=(if k=1 then 1 else 0)+(sumN l:Int):=by split<;>omega
  rw [Int.natCast_mul,he,hone];generalize(if k=4 then copiesI lo hi else 1)=c at*
  have hx:0<=((if k=1 then 1 else 0)+sumP l):=by split<;>omega
  by_cases h0:c<1
  ·obtain rfl:c=0:=by omega
   rw [Int.mul_zero,Int.mul_zero];decide
  ·have hm:((if k=1 then 1 else 0)+sumP l)<=((if k=1 then 1 else 0)+sumP l)*c:=by
    have:=Int.mul_le_mul_of_nonneg_left (show 1<=c by omega) hx
    rwa [Int.mul_one]at this
   have hs:sumP l<=2000:=by
    have h9:sumP l<=((if k=1 then 1 else 0)+sumP l):=by split<;>omega
    omega
   rw [sumP_exact l hop.1 hs];omega
theorem sumP_exact:∀ l:List Tree,(∀ t∈l,t.ok=true)->sumP l<=2000->(sumN l:Int)=sumP l
 |[]=>fun _ _=>rfl
 |t::r=>fun h h2=>by
  simp only [sumP]at h2;have h3:=xzbw t (h t (by simp))
  have h4:=sumP_pos r fun x hx=>h x (by simp [hx])
  have h5:=xzow t (h t (by simp)) (by omega);have h6:=sumP_exact r (fun x hx=>h x (by simp [hx])) (by omega);simp only [sumN,sumP];omega
end
set_option maxRecDepth 20000 in
set_option maxHeartbeats 16000000 in
theorem xzwz (l:List Tree)(h1:1<=l.length)(h40:l.length<=40)(hmay:∀ t∈l,t.mayN=true)(hnod:∀ t∈l,t.nodes<=1048576)(hsN:2000<sumP l)
 (A:Option Addr)(c:Nat)(w:World)(hat:l≠[]->∃ b o,A=some ⟨b,o,none⟩/\AllAt w l b o):
 Calls Tryz.prog 7 #[.slice A l.length c] w fun x w'=>x=.returned (.tuple #[.agg #[.slice none 0 0,.slice none 0 0,.slice none 0 0,.slice none 0 0,.slice none 0 0,.int .i64 0],.int .i64 4])/\Below w.heap.size w w':=by
 have hsP:∀ j,0<=sumP (l.take j)/\sumP (l.take j)<=40000000:=fun j=>by
  have q1:=sumP_pos (l.take j) fun t ht=>yzec (hmay t (List.mem_of_mem_take ht))
  have q2:=xzdi (l.take j)
  have q3:(l.take j).length<=40:=by rw [List.length_take];omega
  exact⟨q1,by omega⟩
 have hb1:Below w.heap.size w (w.alloc (.cells #[.slice none 0 0,.slice none 0 0,.slice none 0 0,.slice none 0 0,.slice none 0 0,.int .i64 0] 30)):=(Below.refl _ _).alloc (Nat.le_refl _) _;have hx1:=BlkIs.new w 30 #[.slice none 0 0,.slice none 0 0,.slice none 0 0,.slice none 0 0,.slice none 0 0,.int .i64 0];have H0:=zd (And.intro hb1 hx1);obtain⟨b,o,rfl,hall⟩:=hat (by intro e;rw [e]at h1;simp at h1);have HALL:=zd (fun(j:Nat) (hj:j<l.length)=>AllAt.get l b o hall j hj);have HM:=zd (fun(j:Nat) (hj:j<l.length)=>And.intro (hmay _ (List.getElem_mem hj)) (hnod _ (List.getElem_mem hj)))
 have HSP:=zd (fun(j:Nat) (hj:j<l.length)=>(show sumP (l.take (j+1))=sumP (l.take j)+placesZ l[j]by
  rw [List.take_succ_eq_append_getElem hj,xzdj];unfold placesZ;rw [if_pos (hmay _ (List.getElem_mem hj))]))
 have HSB:=zd hsP;have HSN:=zd hsN
 have e1:decide ((l.length:Int)<1)=false:=by simp;omega
 have e2:decide ((l.length:Int)>40)=false:=by simp;omega
 have e2b:decide (40<(l.length:Int))=false:=by simp;omega
 clear hb1 hx1 hat hall hmay hnod hsN hsP h1
 go_enter Tryz.func7,Tryz.ntmps7
 go_wp2
 go_loopw [4,22] (fun s i wr=>∃ (j:Nat) (n:Int),s=.int .i64 n/\i=.int .i64 (j:Int)/\j<=l.length/\Hid (n=sumP (l.take j)/\Below w.heap.size w wr/\BlkIs wr w.heap.size 30 #[.slice none 0 0,.slice none 0 0,.slice none 0 0,.slice none 0 0,.slice none 0 0,.int .i64 0])) (fun _ i _=>l.length - (intOf i).toNat)
 case atStart=>exact⟨0,0,rfl,rfl,Nat.zero_le _,zd ⟨by simp [sumP],H0.out⟩⟩
 case round=>
  obtain⟨j,n,rfl,rfl,hj,HH⟩:=hrel
  by_cases hp:j<l.length
  ·have hk1:IntKind.i64.wrap ((j:Int)+1)=((j+1:Nat):Int):=by rw [IntKind.wrap_i64];omega
   have hdl:decide ((j:Int)<(l.length:Int))=true:=by simp;omega
   obtain⟨cs,hcat,hlen,hrow⟩:=HALL.out j hp;obtain⟨A',n',c',rfl⟩:=hcat.eight;obtain⟨r0,r1,r2,r3,r4,r5,r6,r7⟩:=xzai (W':=wr) (fun i x hi=>(HH.out.2.1.cell (World.block_lt_of_cell? w _ (hrow i x hi))).trans (hrow i x hi)) (Below.refl _ _);have hxb:=BlkIs.new wr 49 (reL (l[j]).kind (l[j]).set A' n' c' (l[j]).lo (l[j]).hi).toArray;have hxw:Below wr.heap.size wr (wr.alloc (.cells (reL (l[j]).kind (l[j]).set A' n' c' (l[j]).lo (l[j]).hi).toArray 49)):=(Below.refl _ _).alloc (Nat.le_refl _) _;obtain⟨W9,hW9⟩:∃ W9,wr.alloc (.cells (reL (l[j]).kind (l[j]).set A' n' c' (l[j]).lo (l[j]).hi).toArray 49)=W9:=⟨_,rfl⟩;rw [hW9]at hxb hxw;have hcx:=xzmc l[j] _ W9 ((hcat.step HH.out.2.1).step hxw) (HM.out j hp).2;have hss:=HSP.out j hp;have hs1:=HSB.out (j+1);have hs0:=HSB.out j
   have hpz:0<=placesZ l[j]:=by
    have hm:=(HM.out j hp).1;unfold placesZ;rw [if_pos hm];unfold Tree.mayN at hm;simp only [Bool.and_eq_true]at hm;exact xzbw _ hm.2.2
   have hen:=HH.out.1;simp only [reL]at hW9;unfold reV reL at*;rw [<-hen]at hss hs0;have HX:=zd (And.intro (HH.out.2.1.trans (hxw.mono HH.out.2.1.size)) (HH.out.2.2.step hxw));have HC:=zd hcx;have HSS:=zd hss;generalize placesZ l[j]=pz at*;generalize(l[j]).kind=kx at*;generalize(l[j]).set=mx at*;generalize(l[j]).lo=lx at*;generalize(l[j]).hi=hx at*
   have hk2:IntKind.i64.wrap (n+pz)=n+pz:=by rw [IntKind.wrap_i64];omega
   have hneg:decide (pz<0)=false:=by simp;omega
   obtain⟨x0,x1,x2,x3,x4,x5,x6,x7⟩:=hxb.eight;clear hcat hrow hlen hcx hss hs1 hs0 hpz hen hxb hxw
   go_wp2_with fail
   go_at_call 19
   refine HC.out.mono ?_;rintro x u ⟨rfl,hbu⟩;have HU:=zd (And.intro (HX.out.1.trans (hbu.mono HX.out.1.size)) (HX.out.2.step hbu));clear hbu x0 x1 x2 x3 x4 x5 x6 x7 r0 r1 r2 r3 r4 r5 r6 r7;go_wp2;exact⟨⟨j+1,n+pz,rfl,rfl,hp,zd ⟨HSS.out.symm,HU.out⟩⟩,by simp [intOf];omega⟩
  ·have hdl:decide ((j:Int)<(l.length:Int))=false:=by simp;omega
   obtain rfl:j=l.length:=by omega
   have hen:=HH.out.1;rw [List.take_length]at hen;have hsn:=HSN.out;rw [<-hen]at hsn
   have hgt:decide (n>2000)=true:=by simp;omega
   have hgt2:decide (2000<n)=true:=by simp;omega
   have HX:=zd HH.out;have hth:World.there wr w.heap.size 0 ([Value.slice none 0 0,.slice none 0 0,.slice none 0 0,.slice none 0 0,.slice none 0 0,.int .i64 0]).toArray.size:=HH.out.2.2.there
   have hal:([Value.slice none 0 0,.slice none 0 0,.slice none 0 0,.slice none 0 0,.slice none 0 0,.int .i64 0]).toArray.all (·.oneCell')=true:=by simp [Value.oneCell']
   have hin:(Tryz.prog.info? 30).map (·.size)=some ([Value.slice none 0 0,.slice none 0 0,.slice none 0 0,.slice none 0 0,.slice none 0 0,.int .i64 0]).toArray.size:=xzmp;have hl:=xzqu (HH.out.2.2.fill (new:=([Value.slice none 0 0,.slice none 0 0,.slice none 0 0,.slice none 0 0,.slice none 0 0,.int .i64 0]).toArray) rfl);have hb9:Below w.heap.size w _:=xzig (w0:=w) (B:=w.heap.size) w.heap.size [Value.slice none 0 0,.slice none 0 0,.slice none 0 0,.slice none 0 0,.slice none 0 0,.int .i64 0] 0 _ (Nat.le_refl _) HH.out.2.1;clear hen hsn
   go_wp2_with((with_reducible refine wpList_store_mid ?_ 30 (.tmp 2) (.tmp 37) ?_ w.heap.size 0 ([Value.slice none 0 0,.slice none 0 0,.slice none 0 0,.slice none 0 0,.slice none 0 0,.int .i64 0]).toArray ?_ ?_ hth hin hal ?_);exact rfl;exact rfl;exact rfl;exact rfl)
   exact⟨rfl,_,xzeb rfl rfl hl,rfl,hb9⟩
end
section
open Go.RowKit
mutual
theorem xzrk:∀ T:Tree,T.deepN<=1099511627776->T.deepW=(T.deepN:Int)
 | .node k m l lo hi=>fun h=>by
  have h1:=deepM_few l (by simp only [Tree.deepN]at h;omega)
  have h2:Tree.deepW (.node k m l lo hi)=wrap64 (deepM l+1):=by unfold Tree.deepW deepM;rfl
  rw [h2,h1];simp only [Tree.deepN]at h ⊢;unfold wrap64;omega
theorem deepM_few:∀ l:List Tree,deepL l<=1099511627776->deepM l=(deepL l:Int)
 |[]=>fun _=>rfl
 |t::r=>fun h=>by
  simp only [deepL]at h;have h1:=deepM_few r (by omega);have h2:=xzrk t (by omega)
  have h3:∀ (xs:List Int) (a b:Int),0<=a->0<=b->(xs.foldl (fun d x=>if d<x then x else d) (max a b))=max a (xs.foldl (fun d x=>if d<x then x else d) b):=by
   intro xs
   induction xs with
   |nil=>intro a b _ _;rfl
   |cons y ys ih=>
    intro a b ha hb;simp only [List.foldl_cons]
    by_cases hy:b<y
    ·rw [if_pos hy]
     by_cases hy2:max a b<y
     ·rw [if_pos hy2]
      have:=ih a y ha (by omega);rw [show max a y=y by omega]at this;exact this
     ·rw [if_neg hy2]
      have:=ih a y ha (by omega);rw [<-this];congr 1;omega
    ·rw [if_neg hy,if_neg (by omega)]
     exact ih a b ha hb
  unfold deepM at h1 ⊢;simp only [deepsW,List.foldl_cons]
  have h4:(if(0:Int)<t.deepW then t.deepW else 0)=max t.deepW 0:=by rw [h2];split<;>omega
  rw [h4,h3 _ _ _ (by rw [h2];omega) (Int.le_refl _),h1,h2];simp only [deepL];omega
end
theorem may_few {T:Tree}(h:T.nodes<=1099511627776):T.may=T.mayN:=by
 unfold Tree.may Tree.mayN;have h1:=xzrk T (Nat.le_trans (xzmh T) h);rw [h1]
 have h2:wrap64 (T.nodes:Int)=(T.nodes:Int):=by unfold wrap64;omega
 rw [h2]
 congr 1
 ·exact decide_eq_decide.2 (by omega)
 ·congr 1
  exact decide_eq_decide.2 (by omega)
mutual
theorem yzbl:∀ T:Tree,T.same T=true
 | .node k m l lo hi=>by
  unfold Tree.same
  simp [xzuj,likeL_self l]
theorem likeL_self:∀ l:List Tree,sameL l l=true
 |[]=>by unfold sameL;rfl
 |t::r=>by unfold sameL;rw [yzbl t,likeL_self r];rfl
end
end
section
open Go.RowKit
attribute [local irreducible] FreeW
theorem TreesV.step {W W':World}{l:List Tree}{v:Value}(h:TreesV W l v)(hb:Below W.heap.size W W'):TreesV W' l v:=by
 obtain⟨A,c,e,hc,hs⟩:=h;refine⟨A,c,e,hc,fun hne=>?_⟩;obtain⟨b,o,e2,hlt,hg⟩:=hs hne
 exact⟨b,o,e2,Nat.lt_of_lt_of_le hlt hb.size,AllAt.mk l b o fun i hi=>by
  obtain⟨cs,h1,h2,h3⟩:=AllAt.get l b o hg i hi
  exact⟨cs,h1.step hb,h2,xzbr h3 (by intro e;rw [e]at h2;cases h2) hb⟩⟩
theorem xzkd:∀ (l:List Tree) (n:Nat),n<=1000000->(∀ t∈l,min t.nodes 1000000<=t.weight5)->min (n+nodesL l) 1000000<=weight5L l n
 |[],n,hn,_=>by simp [nodesL,weight5L];omega
 |t::r,n,hn,h=>by
  have h1:=h t (by simp);have h2:=xzkd r (min (n+t.weight5) 1000000) (Nat.min_le_right _ _) (fun x hx=>h x (by simp [hx]));unfold weight5L nodesL;omega
theorem xzna (T:Tree):min T.nodes 1000000<=T.weight5:=by
 induction T using Tree.ind with
 |h k m l lo hi ih=>
  have h1:=xzkd l 1 (by omega) ih
  have h3:min (nodesL l+1) 1000000<=weight5L l 1:=by omega
  unfold Tree.nodes Tree.weight5 weight5End
  split
  ·split
   ·rename_i h
    have h4:1<=hi.toNat:=by omega
    have h5:weight5L l 1*1<=weight5L l 1*hi.toNat:=Nat.mul_le_mul_left _ h4;omega
   ·split
    ·omega
    ·exact h3
  ·exact h3
theorem xzts {T:Tree}(h:T.heavy=false):T.nodes<=20000:=by
 unfold Tree.heavy at h;rw [Bool.or_eq_false_iff]at h;have h1:=of_decide_eq_false h.2;have h2:=xzna T;omega
theorem light {l:List Tree}(hh:∀ t∈l,t.great=false/\t.heavy=false)(hm:mayL l=true):1<=l.length/\l.length<=40/\∀ t∈l,t.mayN=true/\t.ok=true/\t.nodes<=1048576:=by
 unfold mayL at hm;rw [Bool.and_eq_true,Bool.and_eq_true,decide_eq_true_eq,decide_eq_true_eq,List.all_eq_true]at hm;refine⟨hm.2.1,hm.2.2,fun t ht=>?_⟩;have hn:=xzts (hh t ht).2;have h1:=hm.1 t ht;rw [may_few (by omega)]at h1;exact⟨h1,yzec h1,by omega⟩
theorem xztt {l:List Tree}(hh:∀ t∈l,t.great=false/\t.heavy=false)(hm:mayL l=true)(hs:sumP l<=150)(v:Value)(w:World)(hat:TreesV w l v):
 Calls Tryz.prog 7 #[v] w fun x w'=>∃ v,x=.returned (.tuple #[v,.int .i64 0])/\NfaAt w' (buildN l) v/\Below w.heap.size w w':=by
 obtain⟨h1,h40,hall⟩:=light hh hm;obtain⟨A,c,rfl,hc,hs'⟩:=hat
 have hok:∀ t∈l,t.ok=true:=fun t ht=>(hall t ht).2.1
 have hx:=sumP_exact l hok (by omega)
 refine xzqw l h1 h40 (fun t ht=>(hall t ht).1) (fun t ht=>xzkz t (hok t ht) (hall t ht).2.2) (xzwk hok) (fun t ht=>(hall t ht).2.2) (by omega) (fun j=>?_) A c w fun hne=>?_
 ·have q1:=sumP_pos (l.take j) fun t ht=>hok t (List.mem_of_mem_take ht)
  have q2:=sumP_pos (l.drop j) fun t ht=>hok t (List.mem_of_mem_drop ht)
  have q3:sumP l=sumP (l.take j)+sumP (l.drop j):=by
   have:∀ a b:List Tree,sumP (a++b)=sumP a+sumP b:=by
    intro a b
    induction a with
    |nil=>simp [sumP]
    |cons x a ih=>simp only [List.cons_append,sumP,ih];omega
   rw [<-this,List.take_append_drop]
  omega
 ·obtain⟨b,o,e,_,h⟩:=hs' hne
  exact⟨b,o,e,h⟩
theorem xzxa {l:List Tree}(hh:∀ t∈l,t.great=false/\t.heavy=false)(hm:mayL l=true)(hs:2000<sumP l)(v:Value)(w:World)(hat:TreesV w l v):
 Calls Tryz.prog 7 #[v] w fun x w'=>x=.returned (.tuple #[.agg #[.slice none 0 0,.slice none 0 0,.slice none 0 0,.slice none 0 0,.slice none 0 0,.int .i64 0],.int .i64 4])/\Below w.heap.size w w':=by
 obtain⟨h1,h40,hall⟩:=light hh hm;obtain⟨A,c,rfl,hc,hs'⟩:=hat
 refine xzwz l h1 h40 (fun t ht=>(hall t ht).1) (fun t ht=>(hall t ht).2.2) hs A c w fun hne=>?_
 obtain⟨b,o,e,_,h⟩:=hs' hne;exact⟨b,o,e,h⟩
end
section
open Go.RowKit
attribute [local irreducible] FreeW
set_option maxRecDepth 20000 in
set_option maxHeartbeats 8000000 in
theorem xzxb (l:List Tree)(v:Value)(w:World)(hat:TreesV w l v):Calls Tryz.prog 5 #[v] w (Great8 l w):=by
 have HGR:=zd (fun(u:World) (hu:Below w.heap.size w u)=>xzww l v u (hat.step hu));unfold Great8 at HGR;obtain⟨A,c,rfl,hc,hs⟩:=hat;have HS:=zd hs;clear hs
 go_enter Tryz.func5,Tryz.ntmps5
 go_wp2
 go_loopw [3] (fun i wr=>∃ (j:Nat),i=.int .i64 j/\j<=l.length/\Hid (Below w.heap.size w wr)) (fun i _=>l.length - (intOf i).toNat)
 case atStart=>exact⟨0,rfl,Nat.zero_le _,zd (Below.refl _ _)⟩
 case round=>
  obtain⟨j,rfl,hj,HH⟩:=hrel
  by_cases hp:j<l.length
  ·have hdl:decide ((j:Int)<(l.length:Int))=true:=by simp;omega
   obtain⟨b,o,rfl,hbw,hg⟩:=HS.out (by intro e;subst e;simp at hp);obtain⟨A',n',c',hcat,hrow⟩:=rangeT hg hp;obtain⟨r0,r1,r2,r3,r4,r5,r6,r7⟩:=xzai hrow HH.out
   have hk1:IntKind.i64.wrap ((j:Int)+1)=((j+1:Nat):Int):=by rw [IntKind.wrap_i64];omega
   have hV:=xzql l[j] _ wr (hcat.step HH.out);unfold reL at hV;have HV:=zd hV;clear hcat hrow hV hg;generalize(l[j]).kind=kk at*;generalize(l[j]).set=mm at*;generalize(l[j]).lo=ll at*;generalize(l[j]).hi=hh at*;generalize(l[j]).heavy=gb at*
   cases gb with
   |true=>
    go_wp2_with fail
    go_at_call 16
    refine HV.out.mono ?_;rintro e w1 ⟨rfl,hb1⟩;have HB1:=zd (HH.out.trans (hb1.mono HH.out.size));clear hb1;go_wp2;go_ret;exact⟨⟨true,rfl,fun h=>by cases h⟩,HB1.out⟩
   |false=>
    go_wp2_with fail
    go_at_call 16
    refine HV.out.mono ?_;rintro e w1 ⟨rfl,hb1⟩;have HB1:=zd (HH.out.trans (hb1.mono HH.out.size));clear hb1;go_wp2;exact⟨⟨j+1,by go_num,hp,HB1⟩,by simp [intOf];omega⟩
  ·have hdl:decide ((j:Int)<(l.length:Int))=false:=by simp;omega
   obtain rfl:j=l.length:=by omega
   go_wp2_with fail
   go_at_call 17
   refine(HGR.out _ HH.out).mono ?_;rintro e w1 ⟨⟨gb,rfl,hgb⟩,hb1⟩;have HB1:=zd (And.intro hgb (HH.out.trans (hb1.mono HH.out.size)));clear hb1 hgb;go_wp2;go_ret;exact⟨⟨gb,rfl,HB1.out.1⟩,HB1.out.2⟩
set_option maxRecDepth 20000 in
set_option maxHeartbeats 8000000 in
theorem yzge (l:List Tree)(v:Value)(w:World)(hat:TreesV w l v):Calls Tryz.prog 6 #[v] w fun e w'=>e=.returned (.bool (mayL l))/\Below w.heap.size w w':=by
 have HMY:=zd (yzgd l v w hat);obtain⟨A,c,rfl,hc,hs⟩:=hat;generalize mayL l=mb at*;clear hs
 go_enter Tryz.func6,Tryz.ntmps6
 go_wp2_with fail
 go_at_call 18
 refine HMY.out.mono ?_;rintro e w1 ⟨rfl,hb1⟩;have HB1:=zd hb1;clear hb1;go_wp2;go_ret;exact⟨rfl,HB1.out⟩
end
section
open Go.RowKit
section
variable {α β : Type} [DecidableEq α] [DecidableEq β]
def old (g:Nat->α)(b:Nat):Bool:=(List.range b).any fun a=>decide (g a=g b)
def cnt (g:Nat->α):Nat->Nat
 |0=>0
 |b+1=>cnt g b+(if old g b then 0 else 1)
def fst' (g:Nat->α)(b:Nat):Nat:=((List.range (b+1)).find? fun a=>decide (g a=g b)).getD b
def num (g:Nat->α)(b:Nat):Nat:=cnt g (fst' g b)
theorem old_iff {g:Nat->α}{b:Nat}:old g b=true↔ ∃ a,a<b/\g a=g b:=by
 unfold old;rw [List.any_eq_true]
 constructor
 ·rintro⟨a,ha,h⟩;exact⟨a,List.mem_range.1 ha,of_decide_eq_true h⟩
 ·rintro⟨a,ha,h⟩;exact⟨a,List.mem_range.2 ha,decide_eq_true h⟩
theorem old_not {g:Nat->α}{b:Nat}:old g b=false↔ ∀ a,a<b->g a≠g b:=by
 rw [<-Bool.not_eq_true,old_iff];exact⟨fun h a ha e=>h ⟨a,ha,e⟩,fun h ⟨a,ha,e⟩=>h a ha e⟩
theorem xzcd (g:Nat->α)(b:Nat):cnt g (b+1)=cnt g b+(if old g b then 0 else 1):=rfl
theorem xzxc (g:Nat->α):∀ b,cnt g b<=b
 |0=>Nat.le_refl _
 |b+1=>by have:=xzxc g b;rw [xzcd];split<;>omega
theorem xzgh (g:Nat->α){a b:Nat}(h:a<=b):cnt g a<=cnt g b:=by
 induction h with
 |refl=>exact Nat.le_refl _
 |step _ ih=>rw [xzcd];omega
theorem xzih {p:Nat->Bool}:∀ (n:Nat),(∃ i,i<n/\p i=true)->∃ i,(List.range n).find? p=some i/\i<n/\p i=true/\∀ j,j<i->p j=false
 |0,⟨i,hi,_⟩=>absurd hi (by omega)
 |n+1,⟨i,hi,hp⟩=>by
  rw [List.range_succ,List.find?_append]
  by_cases h:∃ i,i<n/\p i=true
  ·obtain⟨i,h1,h2,h3,h4⟩:=xzih n h
   exact⟨i,by rw [h1];rfl,by omega,h3,h4⟩
  ·have hin:i=n:=by
    rcases Nat.lt_or_ge i n with hlt|hge
    ·exact absurd ⟨i,hlt,hp⟩ h
    ·omega
   subst hin
   have hn:(List.range i).find? p=none:=by
    rw [List.find?_eq_none];intro x hx hpx;exact h ⟨x,List.mem_range.1 hx,hpx⟩
   refine⟨i,by rw [hn];simp [hp],by omega,hp,fun j hj=>?_⟩
   cases hpj:p j
   ·rfl
   ·exact absurd ⟨j,hj,hpj⟩ h
theorem xzeg (g:Nat->α)(b:Nat):fst' g b<=b/\g (fst' g b)=g b/\∀ j,j<fst' g b->g j≠g b:=by
 obtain⟨i,h1,h2,h3,h4⟩:=xzih (p:=fun a=>decide (g a=g b)) (b+1) ⟨b,by omega,decide_eq_true rfl⟩
 have e:fst' g b=i:=by unfold fst';rw [h1];rfl
 rw [e];exact⟨by omega,of_decide_eq_true h3,fun j hj=>of_decide_eq_false (h4 j hj)⟩
theorem xzle {g:Nat->α}{b i:Nat}(h1:g i=g b)(h2:∀ j,j<i->g j≠g b):fst' g b=i:=by
 obtain⟨_,k2,k3⟩:=xzeg g b
 rcases Nat.lt_trichotomy (fst' g b) i with h|h|h
 ·exact absurd k2 (h2 _ h)
 ·exact h
 ·exact absurd h1 (k3 _ h)
theorem xzxd {g:Nat->α}{b:Nat}(h:old g b=false):num g b=cnt g b:=by
 unfold num;rw [xzle (i:=b) rfl (old_not.1 h)]
theorem xzii {g:Nat->α}{a b:Nat}(h:g a=g b):num g a=num g b:=by
 obtain⟨_,h2,h3⟩:=xzeg g a;unfold num;rw [xzle (b:=b) (i:=fst' g a) (h2.trans h) (fun j hj=>by rw [<-h];exact h3 j hj)]
theorem xzlf (g:Nat->α)(b:Nat):old g (fst' g b)=false:=by
 obtain⟨_,h2,h3⟩:=xzeg g b
 exact old_not.2 fun a ha=>by rw [h2];exact h3 a ha
theorem yzbm (g:Nat->α)(b:Nat):num g b<cnt g (b+1):=by
 have h:=xzlf g b;have h1:=(xzeg g b).1
 have h2:cnt g (fst' g b+1)=num g b+1:=by rw [xzcd,h];rfl
 have h3:=xzgh g (a:=fst' g b+1) (b:=b+1) (by omega);omega
theorem num_le (g:Nat->α)(b:Nat):num g b<=b:=Nat.le_trans (xzgh g (xzeg g b).1) (xzxc g b)
theorem xzrl {g:Nat->α}{a b:Nat}(h:num g a=num g b):g a=g b:=by
 have ha:=xzlf g a;have hb:=xzlf g b
 have key:∀ i j,old g i=false->i<j->cnt g i<cnt g j:=fun i j hi hij=>by
  have:=xzgh g (a:=i+1) (b:=j) hij;rw [xzcd,hi]at this;exact this
 rcases Nat.lt_trichotomy (fst' g a) (fst' g b)with h1|h1|h1
 ·have:=key _ _ ha h1;unfold num at h;omega
 ·rw [<-(xzeg g a).2.1,h1,(xzeg g b).2.1]
 ·have:=key _ _ hb h1;unfold num at h;omega
theorem xzrm (g:Nat->α){k:Nat}:∀ b,k<cnt g b->∃ a,a<b/\num g a=k
 |0,h=>absurd h (by simp [cnt])
 |b+1,h=>by
  rcases Nat.lt_or_ge k (cnt g b)with hlt|hge
  ·obtain⟨a,h1,h2⟩:=xzrm g b hlt
   exact⟨a,by omega,h2⟩
  ·rw [xzcd]at h
   cases ho:old g b
   ·rw [ho]at h
    exact⟨b,by omega,by rw [xzxd ho];simp at h;omega⟩
   ·rw [ho]at h;simp at h;omega
theorem yzbn {g:Nat->α}{g':Nat->β}{b:Nat}(h:∀ a,a<b->(g a=g b↔g' a=g' b)):old g b=old g' b:=by
 rw [Bool.eq_iff_iff,old_iff,old_iff];exact⟨fun⟨a,ha,e⟩=>⟨a,ha,(h a ha).1 e⟩,fun⟨a,ha,e⟩=>⟨a,ha,(h a ha).2 e⟩⟩
theorem xzhh {g:Nat->α}{g':Nat->β}{n:Nat}(h:∀ a b,a<n->b<n->(g a=g b↔g' a=g' b)):∀ b,b<=n->cnt g b=cnt g' b
 |0,_=>rfl
 |b+1,hb=>by rw [xzcd,xzcd,xzhh h b (by omega),yzbn fun a ha=>h a b (by omega) (by omega)]
theorem xzrn {g:Nat->α}{g':Nat->β}{n:Nat}(h:∀ a b,a<n->b<n->(g a=g b↔g' a=g' b)){b:Nat}(hb:b<n):num g b=num g' b:=by
 obtain⟨h1,h2,h3⟩:=xzeg g b;unfold num;rw [xzle (g:=g') (b:=b) (i:=fst' g b) ((h _ _ (by omega) hb).1 h2) (fun j hj e=>h3 j hj ((h _ _ (by omega) hb).2 e)),xzhh h _ (by omega)]
theorem num_num (g:Nat->α){n b:Nat}(hb:b<n):num (num g) b=num g b:=
 xzrn (n:=n) (fun _ _ _ _=>⟨xzrl,xzii⟩) hb
theorem cnt_num (g:Nat->α)(b:Nat):cnt (num g) b=cnt g b:=
 xzhh (n:=b) (fun _ _ _ _=>⟨xzrl,xzii⟩) b (Nat.le_refl _)
end
def MayTo (f:Nat->Nat)(t:Nat):Prop:=∀ b,b<t->f b=num f b
theorem xzxe {f:Nat->Nat}{t:Nat}(h:cnt f t<f t):f t≠num f t:=by
 have:=yzbm f t;rw [xzcd]at this
 split at this<;>omega
theorem yzbo {f:Nat->Nat}{t:Nat}(hm:MayTo f t)(h:f t=cnt f t):f t=num f t/\cnt f (t+1)=cnt f t+1:=by
 have ho:old f t=false:=old_not.2 fun a ha e=>by
  have h1:=hm a ha;have h2:=yzbm f a;have h3:=xzgh f (a:=a+1) (b:=t) (by omega);omega
 exact⟨by rw [xzxd ho,h],by rw [xzcd,ho];rfl⟩
theorem yzbp {f:Nat->Nat}{t:Nat}(hm:MayTo f t)(h:f t<cnt f t):f t=num f t/\cnt f (t+1)=cnt f t:=by
 obtain⟨a,ha,e⟩:=xzrm f t h;have h1:=hm a ha
 have h2:f a=f t:=by omega
 have ho:old f t=true:=old_iff.2 ⟨a,ha,h2⟩;exact⟨by rw [<-xzii h2,e],by rw [xzcd,ho];rfl⟩
theorem MayTo.succ {f:Nat->Nat}{t:Nat}(hm:MayTo f t)(h:f t=num f t):MayTo f (t+1):=fun b hb=>by
 rcases Nat.lt_or_ge b t with h1|h1
 ·exact hm b h1
 ·obtain rfl:b=t:=by omega
  exact h
def mayB (f:Nat->Nat)(n:Int):Bool:=(List.range 256).all (fun b=>decide (f b=num f b))&&decide (n=(cnt f 256:Nat))
theorem mayB_iff {f:Nat->Nat}{n:Int}:mayB f n=true↔MayTo f 256/\n=(cnt f 256:Nat):=by
 unfold mayB;rw [Bool.and_eq_true,List.all_eq_true,decide_eq_true_iff];exact and_congr ⟨fun h b hb=>of_decide_eq_true (h b (List.mem_range.2 hb)),fun h b hb=>decide_eq_true (h b (List.mem_range.1 hb))⟩ Iff.rfl
theorem yzgf {f:Nat->Nat}{n:Int}(h:MayTo f 256):mayB f n=decide (n=(cnt f 256:Nat)):=by
 rw [Bool.eq_iff_iff,mayB_iff,decide_eq_true_iff];exact⟨fun h=>h.2,fun h'=>⟨h,h'⟩⟩
theorem yzgg {f:Nat->Nat}{n:Int}{t:Nat}(ht:t<256)(h:f t≠num f t):mayB f n=false:=by
 rw [<-Bool.not_eq_true,mayB_iff]
 exact fun h'=>h (h'.1 t ht)
theorem xzox {α:Type} [DecidableEq α] (g:Nat->α):mayB (num g) (cnt g 256:Nat)=true:=
 mayB_iff.2 ⟨fun b hb=>(num_num g hb).symm,by rw [cnt_num]⟩
def cellsN (N:Nat)(g:Nat->Value):Array Value:=((List.range N).map g).toArray
theorem xzaw (N:Nat)(g:Nat->Value):(cellsN N g).size=N:=by simp [cellsN]
theorem xzbx {N:Nat}(g:Nat->Value){i:Nat}(h:i<N):(cellsN N g)[i]? =some (g i):=by
 unfold cellsN;rw [List.getElem?_toArray,List.getElem?_map,List.getElem?_range h];rfl
theorem xzao {N:Nat}{g h:Nat->Value}(e:∀ i,i<N->g i=h i):cellsN N g=cellsN N h:=by
 unfold cellsN;rw [List.map_congr_left (fun i hi=>e i (List.mem_range.1 hi))]
theorem xzfr (N:Nat)(g:Nat->Value)(i:Nat)(v:Value):(cellsN N g).setIfInBounds i v=cellsN N (fun j=>if j=i then v else g j):=by
 apply Array.ext_getElem?
 intro j
 by_cases hj:j<N
 ·rw [Array.getElem?_setIfInBounds,xzbx _ hj,xzbx _ hj,xzaw]
  by_cases e:i=j
  ·subst e;simp [hj]
  ·have e': ¬ j=i:=fun h=>e h.symm
   simp [e,e']
 ·rw [Array.getElem?_eq_none (by rw [Array.size_setIfInBounds,xzaw];omega),Array.getElem?_eq_none (by rw [xzaw];omega)]
theorem xzfs {N:Nat}{g:Nat->Value}(h:∀ i,(g i).oneCell'=true):(cellsN N g).all (·.oneCell')=true:=by
 rw [Array.all_eq_true_iff_forall_mem];intro v hv;unfold cellsN at hv;simp only [List.mem_toArray,List.mem_map]at hv;obtain⟨i,_,rfl⟩:=hv;exact h i
def clsG (f:Nat->Nat)(n:Int)(i:Nat):Value:=if i<256 then .int .u8 (f i)else .int .i64 n
def clsC (f:Nat->Nat)(n:Int):Array Value:=cellsN 257 (clsG f n)
theorem xzaj (f:Nat->Nat)(n:Int):(clsC f n).size=257:=xzaw _ _
theorem xzro (f:Nat->Nat)(n:Int){i:Nat}(h:i<256):(clsC f n)[i]? =some (.int .u8 (f i)):=by
 unfold clsC;rw [xzbx _ (by omega)];unfold clsG;rw [if_pos h]
theorem yzbq (f:Nat->Nat)(n:Int):(clsC f n)[256]? =some (.int .i64 n):=by
 unfold clsC;rw [xzbx _ (by omega)];rfl
theorem xzfa (f:Nat->Nat)(n:Int):(clsC f n).all (·.oneCell')=true:=xzfs fun i=>by unfold clsG;split<;>rfl
theorem xzeh {f f':Nat->Nat}(n:Int)(h:∀ b,b<256->f b=f' b):clsC f n=clsC f' n:=xzao fun i _=>by
 unfold clsG
 split
 ·rename_i hi;rw [h i hi]
 ·rfl
def updN (f:Nat->Nat)(i v:Nat):Nat->Nat:=fun j=>if j=i then v else f j
theorem yzgh (f:Nat->Nat)(n:Int){i:Nat}(h:i<256)(v:Nat):(clsC f n).setIfInBounds i (.int .u8 v)=clsC (updN f i v) n:=by
 unfold clsC;rw [xzfr]
 refine xzao fun j _=>?_
 unfold clsG updN
 by_cases e:j=i
 ·subst e;simp [h]
 ·simp [e]
theorem yzbr (f:Nat->Nat)(n n':Int):(clsC f n).setIfInBounds 256 (.int .i64 n')=clsC f n':=by
 unfold clsC;rw [xzfr]
 refine xzao fun j hj=>?_
 unfold clsG
 by_cases e:j=256
 ·subst e;simp
 ·have:j<256:=by omega
  simp [e,this]
attribute [irreducible] clsC
end
section
open Go.RowKit
def ofC (f:Nat->Nat):Array Value:=cellsN 256 fun i=>.int .u8 (f i)
def rowC (R:Nat->Nat):Array Value:=cellsN 512 fun i=>.int .u64 (R i)
theorem xzxf (f:Nat->Nat){i:Nat}(h:i<256):(ofC f)[i]? =some (.int .u8 (f i)):=xzbx _ h
theorem xzlg (R:Nat->Nat){i:Nat}(h:i<512):(rowC R)[i]? =some (.int .u64 (R i)):=xzbx _ h
theorem xzdr (R:Nat->Nat):(rowC R).size=512:=xzaw _ _
theorem xzoy (f:Nat->Nat):(ofC f).size=256:=xzaw _ _
theorem yzgi (R:Nat->Nat):(rowC R).all (·.oneCell')=true:=xzfs fun _=>rfl
theorem xzdb {R R':Nat->Nat}(h:∀ i,i<512->R i=R' i):rowC R=rowC R':=xzao fun i hi=>by rw [h i hi]
theorem xzxg (R:Nat->Nat)(i v:Nat):(rowC R).setIfInBounds i (.int .u64 v)=rowC (updN R i v):=by
 unfold rowC;rw [xzfr]
 refine xzao fun j _=>?_
 unfold updN
 by_cases e:j=i<;>simp [e]
theorem infoC:(Tryz.prog.info? 36).map (·.size)=some 257:=by kernel_rfl
theorem infoO:(Tryz.prog.info? 34).map (·.size)=some 256:=by kernel_rfl
theorem infoW:(Tryz.prog.info? 142).map (·.size)=some 512:=by kernel_rfl
theorem zeroC (w:World):(zeroValue 36).run Tryz.prog w=.ok (.agg (clsC (fun _=>0) 0)) w:=
 (zero_of_info (P:=Tryz.prog) (t:=36) (v:=.agg (clsC (fun _=>0) 0)) (n:=257) (by kernel_rfl)).1 w
theorem zeroW (w:World):(zeroValue 142).run Tryz.prog w=.ok (.agg (rowC fun _=>0)) w:=
 (zero_of_info (P:=Tryz.prog) (t:=142) (v:=.agg (rowC fun _=>0)) (n:=512) (by kernel_rfl)).1 w
section
variable {w : World} {g : Nat} {t : TypeId} {f : Nat → Nat} {n : Int} {R : Nat → Nat}
theorem loadC (h:BlkIs w g t (clsC f n)):(Instr.loadAt 36 (.pointer (some ⟨g,0,none⟩))).run Tryz.prog w=.ok (.agg (clsC f n)) w:=by
 have:=run_loadAt_mid (P:=Tryz.prog) w g 0 36 (clsC f n).toList _ h.range Tryz.underlying36 rfl (by rw [infoC,Array.length_toList,xzaj]);rw [this]
theorem rangeO (h:BlkIs w g t (clsC f n)):w.rangeAt g 0 (ofC f).toList:=fun j v hv=>by
 have hj:j<256:=by have:=(List.getElem?_eq_some_iff.1 hv).1;rw [Array.length_toList,xzoy]at this;exact this
 rw [Nat.zero_add,h.cell j,xzro f n hj];rw [Array.getElem?_toList,xzxf f hj]at hv;exact hv
end
theorem part5 {xs:Array Value}{off:Nat}{v:Value}(hx:xs[off]? =some v)(w:World):(part 5 xs off).run Tryz.prog w=.ok v w:=run_part_plain w (by kernel_rfl) hx
theorem partW (R:Nat->Nat){b:Nat}(hb:b<256)(w:World):(part 139 (rowC R) (b*2)).run Tryz.prog w=.ok (.agg #[.int .u64 (R (2*b)),.int .u64 (R (2*b+1))]) w:=by
 have e:(rowC R).extract (b*2) (b*2+2)=#[.int .u64 (R (2*b)),.int .u64 (R (2*b+1))]:=by
  apply Array.ext_getElem?
  intro i;rw [Array.getElem?_extract,xzdr]
  by_cases hi:i<2
  ·rw [if_pos (by omega),xzlg R (by omega),Nat.mul_comm b 2]
   rcases(by omega:i=0\/i=1)with rfl|rfl<;>rfl
  ·rw [if_neg (by omega),Array.getElem?_eq_none (by simp;omega)]
 simp [part,e]
theorem idxO (f:Nat->Nat){b:Nat}(hb:b<256)(w:World):(Instr.index 34 (.agg (ofC f)) (.int .i64 b)).run Tryz.prog w=.ok (.int .u8 (f b)) w:=by
 have hs:(sizeOf 5).run Tryz.prog w=.ok 1 w:=by kernel_rfl
 have hp:=part5 (xzxf f hb) w
 simp [Instr.index,run_underlying Tryz.underlying34,asIntOf,hs,hp,hb]
theorem idxW (R:Nat->Nat){b:Nat}(hb:b<256)(w:World):(Instr.index 142 (.agg (rowC R)) (.int .i64 b)).run Tryz.prog w=.ok (.agg #[.int .u64 (R (2*b)),.int .u64 (R (2*b+1))]) w:=by
 have hs:(sizeOf 139).run Tryz.prog w=.ok 2 w:=by kernel_rfl
 have hp:=partW R hb w
 simp [Instr.index,run_underlying Tryz.underlying142,asIntOf,hs,hp,hb]
theorem xzrp:Tryz.prog.built 36 [(1,.int .i64 1)]=some (clsC (fun _=>0) 1):=by kernel_rfl
abbrev keyV (a b:Nat):Value:=.agg #[.int .u64 a,.int .u64 b]
def keyL (a b:Nat):Lit:=.string (keyBytes [.int .u64 a,.int .u64 b])
theorem wf64 {a:Nat}(h:a<18446744073709551616):(Lit.int .u64 a).wf=true:=WalkArith.wf_u64 (by omega)
theorem keyLaw:Maps.Keyed Tryz.prog 139:=
 Maps.Keyed.of_law (deep_law_laid (P:=Tryz.prog) (by kernel_rfl) (m:=2) (by omega) (of_decide_eq_true (by kernel_rfl)) (by kernel_rfl) (by kernel_rfl))
theorem yzgj {a b:Nat}(ha:a<18446744073709551616)(hb:b<18446744073709551616):keyOf Tryz.prog 139 (keyV a b)=some (keyL a b):=by
 have h1:Tryz.prog.keyType 139=true:=by kernel_rfl
 have h2:(keyV a b).formed Tryz.prog 139=true:=by kernel_rfl
 have hd:∃ d,Tryz.prog.types.size+1=d+2:=⟨Tryz.prog.types.size - 1,by have:1<=Tryz.prog.types.size:=of_decide_eq_true (by kernel_rfl);omega⟩;obtain⟨d,hd⟩:=hd
 have hc:Tryz.prog.cellsOf 139=2:=by kernel_rfl
 have hc1:Tryz.prog.cellsOf 45=1:=by kernel_rfl
 unfold keyOf;rw [Tryz.underlying139,hd]
 simp [h1,h2,Program.keyLits,Tryz.underlying139,Tryz.underlying45,hc,hc1,Value.cells,List.range_succ,wf64 ha,wf64 hb,keyL]
theorem yzed {a b a' b':Nat}(ha:a<18446744073709551616)(hb:b<18446744073709551616)(ha':a'<18446744073709551616)(hb':b'<18446744073709551616)(h:keyL a b=keyL a' b'):a=a'/\b=b':=by
 have h1:=yzgj ha hb;have h2:=yzgj ha' hb';rw [h]at h1;have:=keyLaw.inj h1 h2;simp only [Value.agg.injEq,Array.mk.injEq,List.cons.injEq,Value.int.injEq,true_and,and_true,Int.natCast_inj]at this;exact this
theorem yzee (a b:Nat):WideAt.IsKeyLit (keyL a b):=trivial
attribute [irreducible] ofC rowC
end
section
open Go.RowKit
end
section
open Go.RowKit
end
end Go.Proofs.YtgbljnnmhmlifaaGreatDoor
