/-
 HOW MANY PLACES A TREE HAS: what nfa's copies and places answer: contracts. Condition: the tree may be; at most 2^20 nodes.
-/
import Derived.Test.YtgbljnnmhmlifaaGreatDoorQG06
import Derived.Test.YtgbljnnmhmlifaaGreatDoorQG08
namespace Go.Proofs.YtgbljnnmhmlifaaGreatDoor
section
open Go.RowKit
def copiesI (lo hi:Int):Int:=if hi= -1 then max lo 1 else hi
mutual
def Tree.places:Tree->Int
 | .node k _ l lo hi=>min (((if k=1 then 1 else 0)+sumP l)*(if k=4 then copiesI lo hi else 1)) 1000000
def sumP:List Tree->Int
 |[]=>0
 |t::r=>t.places+sumP r
end
theorem xzcl (T:Tree):T.places<=1000000:=by cases T;unfold Tree.places;omega
mutual
theorem xzbw:∀ T:Tree,T.ok=true->0<=T.places
 | .node k m l lo hi=>fun h=>by
  have hop:=xzcz h;have h1:=sumP_pos l hop.1;have hk:=xzay hop.2;unfold Tree.places
  have h2:0<=(if k=4 then copiesI lo hi else 1):=by
   unfold copiesI
   split
   ·split<;>omega
   ·omega
  have h3:0<=((if k=1 then 1 else 0)+sumP l):=by split<;>omega
  have:=Int.mul_nonneg h3 h2;omega
theorem sumP_pos:∀ l:List Tree,(∀ t∈l,t.ok=true)->0<=sumP l
 |[]=>fun _=>by simp [sumP]
 |t::r=>fun h=>by
  have h1:=xzbw t (h t (by simp))
  have h2:=sumP_pos r fun x hx=>h x (by simp [hx])
  simp only [sumP];omega
end
theorem xzdi:∀ l:List Tree,sumP l<=1000000*l.length
 |[]=>by simp [sumP]
 |t::r=>by
  have h1:=xzcl t;have h2:=xzdi r;simp only [sumP,List.length_cons];omega
theorem xzdj (l:List Tree)(t:Tree):sumP (l++[t])=sumP l+t.places:=by
 induction l with
 |nil=>simp [sumP]
 |cons a r ih=>simp only [List.cons_append,sumP,ih];omega
def PlacesIs (T:Tree):Prop:=∀ (v:Value) (w:World),T.At w v->Calls Tryz.prog 37 #[v] w fun e w'=>e=.returned (.int .i64 T.places)/\Below w.heap.size w w'
set_option maxHeartbeats 2000000 in
theorem xzhr (k:Int)(m:Nat->Bool)(A:Option Addr)(n c:Nat)(lo hi:Int)(w:World):Calls Tryz.prog 65 #[reV k m A n c lo hi] w fun e w'=>e=.returned (.int .i64 (copiesI lo hi))/\Below w.heap.size w w':=by
 have hb0:Below w.heap.size w (w.alloc (.cells (reL k m A n c lo hi).toArray 49)):=(Below.refl _ _).alloc (Nat.le_refl _) _;have HB:=zd hb0;unfold reV reL at*
 by_cases h:hi= -1
 ·have e1:(hi== -1)=true:=by simp [h]
  have HF:=zd (show copiesI lo hi=max lo 1 by unfold copiesI;rw [if_pos h]);clear h hb0;rw [HF.out]
  go_enter Tryz.func65,Tryz.ntmps65
  go_wp2
  all_goals
   go_ret;refine⟨?_,HB.out⟩
   first
    |(have e:max lo 1=lo:=by omega
      rw [e];rfl)
    |(have e:max lo 1=1:=by omega
      rw [e];rfl)
 ·have e1:(hi== -1)=false:=by simp [h]
  have HF:=zd (show copiesI lo hi=hi by unfold copiesI;rw [if_neg h]);clear h hb0;rw [HF.out]
  go_enter Tryz.func65,Tryz.ntmps65
  go_wp2;go_ret;exact⟨rfl,HB.out⟩
set_option maxRecDepth 20000 in
set_option maxHeartbeats 4000000 in
theorem xzhs (k:Int)(hk:k=0\/k=2\/k=3)(m:Nat->Bool)(l:List Tree)(lo hi:Int)(hn:l.length<=1048576)(hok:∀ t∈l,t.ok=true)(IH0:∀ t∈l,PlacesIs t):PlacesIs (.node k m l lo hi):=by
 intro v w hat;obtain⟨A,c,rfl,hc,hs⟩:=hat.open;have hbox:=BlkIs.new w 49 (reL k m A l.length c lo hi).toArray;have hB0:Below w.heap.size w (w.alloc (.cells (reL k m A l.length c lo hi).toArray 49)):=(Below.refl _ _).alloc (Nat.le_refl _) _;have HB0:=zd (And.intro hB0 hbox);have HS:=zd hs
 have HSM:=zd (fun(j:Nat)=>(show 0<=sumP (l.take j)/\sumP (l.take j)<=1099511627776 from⟨sumP_pos _ fun t ht=>hok t (List.mem_of_mem_take ht),by
  have h1:=xzdi (l.take j);rw [List.length_take]at h1
  omega⟩))
 obtain⟨R,hR⟩:∃ R,R=Tree.places (.node k m l lo hi):=⟨_,rfl⟩;rw [<-hR];unfold Tree.places at hR;have IH:=zd IH0;unfold PlacesIs at IH;have HPM:=zd (fun(j:Nat) (h:j<l.length)=>And.intro (xzbw _ (hok _ (List.getElem_mem h))) (xzcl l[j]));clear hat hs hB0 IH0 hok
 have e1:(k==1)=false:=by simp;omega
 have e4:(k==4)=false:=by simp;omega
 rw [if_neg (by omega),if_neg (by omega)]at hR;have HR:=zd hR;obtain⟨d0,d1,d2,d3,d4,d5,d6,d7⟩:=(show BlkIs _ w.heap.size 49 #[.int .i64 k,.int .u64 (wd m 0:Nat),.int .u64 (wd m 1:Nat),.int .u64 (wd m 2:Nat),.int .u64 (wd m 3:Nat),.slice A l.length c,.int .i64 lo,.int .i64 hi]from hbox).eight;unfold reV reL;clear hR hk hbox
 go_enter Tryz.func37,Tryz.ntmps37
 go_wp2
 go_loopw [3,12] (fun s i wr=>∃ (j:Nat) (n:Int),s=.int .i64 n/\i=.int .i64 j/\j<=l.length/\Hid (n=sumP (l.take j)/\Below w.heap.size w wr/\BlkIs wr w.heap.size 49 (reL k m A l.length c lo hi).toArray)) (fun _ i _=>l.length - (intOf i).toNat)
 case atStart=>exact⟨0,0,rfl,rfl,Nat.zero_le _,zd ⟨by simp [sumP],HB0.out.1,HB0.out.2⟩⟩
 case round=>
  obtain⟨j,n,rfl,rfl,hj,HH⟩:=hrel;have hbl:=HH.out.2.2;unfold reL at hbl
  by_cases hp:j<l.length
  ·have hdl:decide ((j:Int)<(l.length:Int))=true:=by simp;omega
   obtain⟨b,o,rfl,hbw,hg⟩:=HS.out (by intro e;subst e;simp at hp);obtain⟨cs,hcat,hlen,hrow⟩:=hg j hp;obtain⟨A',n',c',rfl⟩:=hcat.eight;obtain⟨r0,r1,r2,r3,r4,r5,r6,r7⟩:=xzai hrow HH.out.2.1
   have hk1:IntKind.i64.wrap ((j:Int)+1)=((j+1:Nat):Int):=by rw [IntKind.wrap_i64];omega
   have hxb:=BlkIs.new wr 49 (reL (l[j]).kind (l[j]).set A' n' c' (l[j]).lo (l[j]).hi).toArray;have hxw:Below wr.heap.size wr (wr.alloc (.cells (reL (l[j]).kind (l[j]).set A' n' c' (l[j]).lo (l[j]).hi).toArray 49)):=(Below.refl _ _).alloc (Nat.le_refl _) _;obtain⟨W9,hW9⟩:∃ W9,wr.alloc (.cells (reL (l[j]).kind (l[j]).set A' n' c' (l[j]).lo (l[j]).hi).toArray 49)=W9:=⟨_,rfl⟩;rw [hW9]at hxb hxw;have hcx:=IH.out _ (List.getElem_mem hp) _ W9 ((hcat.step HH.out.2.1).step hxw)
   have hss:sumP (l.take (j+1))=sumP (l.take j)+(l[j]).places:=by rw [List.take_succ_eq_append_getElem hp,xzdj]
   have hm1:=HSM.out j;have hm2:=HSM.out (j+1);have hpm:=HPM.out j hp;rw [<-HH.out.1]at hss hm1;simp only [reL]at hW9;unfold reV reL at*;clear hcat hg hrow hlen;generalize(l[j]).places=pp at*;generalize(l[j]).kind=kx at*;generalize(l[j]).set=mx at*;generalize(l[j]).lo=lx at*;generalize(l[j]).hi=hx at*
   have hk2:IntKind.i64.wrap (n+pp)=n+pp:=by rw [IntKind.wrap_i64];omega
   obtain⟨x0,x1,x2,x3,x4,x5,x6,x7⟩:=hxb.eight;have HX:=zd (And.intro (HH.out.2.1.trans (hxw.mono HH.out.2.1.size)) (HH.out.2.2.step hxw));have HC:=zd hcx;have HSS:=zd hss;clear hcx hss hm1 hm2 hpm hxb hxw
   go_wp2_with fail
   go_at_call 37
   refine HC.out.mono ?_;rintro e u ⟨rfl,hbu⟩;have HU:=zd (And.intro (HX.out.1.trans (hbu.mono HX.out.1.size)) (HX.out.2.step hbu));clear hbu x0 x1 x2 x3 x4 x5 x6 x7 r0 r1 r2 r3 r4 r5 r6 r7;go_wp2;exact⟨⟨j+1,n+pp,rfl,rfl,hp,zd ⟨HSS.out.symm,HU.out⟩⟩,by simp [intOf];omega⟩
  ·have hdl:decide ((j:Int)<(l.length:Int))=false:=by simp;omega
   obtain rfl:j=l.length:=by omega
   have hm1:=HSM.out l.length;have hnn:=HH.out.1;rw [List.take_length]at hnn hm1;obtain⟨d0,d1,d2,d3,d4,d5,d6,d7⟩:=hbl.eight;have HF:=zd (show min n 1000000=R by rw [HR.out,hnn];congr 1;omega);clear hnn hm1;go_wp2
   all_goals
    go_ret;refine⟨?_,HH.out.2.1⟩;have hf:=HF.out
    first
     |(have e:R=n:=by omega
       rw [e];rfl)
     |(have e:R=1000000:=by omega
       rw [e];rfl)
set_option maxRecDepth 20000 in
set_option maxHeartbeats 4000000 in
theorem xzvi (k:Int)(hk:k=4)(m:Nat->Bool)(l:List Tree)(lo hi:Int)(hn:l.length<=1048576)(hok:∀ t∈l,t.ok=true)(hcp:0<=copiesI lo hi/\copiesI lo hi<=64)(IH0:∀ t∈l,PlacesIs t):PlacesIs (.node k m l lo hi):=by
 intro v w hat;obtain⟨A,c,rfl,hc,hs⟩:=hat.open;have hbox:=BlkIs.new w 49 (reL k m A l.length c lo hi).toArray;have hB0:Below w.heap.size w (w.alloc (.cells (reL k m A l.length c lo hi).toArray 49)):=(Below.refl _ _).alloc (Nat.le_refl _) _;have HB0:=zd (And.intro hB0 hbox);have HS:=zd hs
 have HSM:=zd (fun(j:Nat)=>(show 0<=sumP (l.take j)/\sumP (l.take j)<=1099511627776 from⟨sumP_pos _ fun t ht=>hok t (List.mem_of_mem_take ht),by
  have h1:=xzdi (l.take j);rw [List.length_take]at h1
  omega⟩))
 obtain⟨R,hR⟩:∃ R,R=Tree.places (.node k m l lo hi):=⟨_,rfl⟩;rw [<-hR];unfold Tree.places at hR;have IH:=zd IH0;unfold PlacesIs at IH;have HPM:=zd (fun(j:Nat) (h:j<l.length)=>And.intro (xzbw _ (hok _ (List.getElem_mem h))) (xzcl l[j]));clear hat hs hB0 IH0 hok
 have e1:(k==1)=false:=by simp;omega
 have e4:(k==4)=true:=by simp;omega
 rw [if_neg (by omega),if_pos hk]at hR;have HR:=zd hR;have HCO:=zd (fun u=>xzhr k m A l.length c lo hi u);obtain⟨d0,d1,d2,d3,d4,d5,d6,d7⟩:=(show BlkIs _ w.heap.size 49 #[.int .i64 k,.int .u64 (wd m 0:Nat),.int .u64 (wd m 1:Nat),.int .u64 (wd m 2:Nat),.int .u64 (wd m 3:Nat),.slice A l.length c,.int .i64 lo,.int .i64 hi]from hbox).eight;unfold reV reL at HCO;unfold reV reL;clear hR hk hbox;generalize copiesI lo hi=cp at*
 go_enter Tryz.func37,Tryz.ntmps37
 go_wp2
 go_loopw [3,12] (fun s i wr=>∃ (j:Nat) (n:Int),s=.int .i64 n/\i=.int .i64 j/\j<=l.length/\Hid (n=sumP (l.take j)/\Below w.heap.size w wr/\BlkIs wr w.heap.size 49 (reL k m A l.length c lo hi).toArray)) (fun _ i _=>l.length - (intOf i).toNat)
 case atStart=>exact⟨0,0,rfl,rfl,Nat.zero_le _,zd ⟨by simp [sumP],HB0.out.1,HB0.out.2⟩⟩
 case round=>
  obtain⟨j,n,rfl,rfl,hj,HH⟩:=hrel;have hbl:=HH.out.2.2;unfold reL at hbl
  by_cases hp:j<l.length
  ·have hdl:decide ((j:Int)<(l.length:Int))=true:=by simp;omega
   obtain⟨b,o,rfl,hbw,hg⟩:=HS.out (by intro e;subst e;simp at hp);obtain⟨cs,hcat,hlen,hrow⟩:=hg j hp;obtain⟨A',n',c',rfl⟩:=hcat.eight;obtain⟨r0,r1,r2,r3,r4,r5,r6,r7⟩:=xzai hrow HH.out.2.1
   have hk1:IntKind.i64.wrap ((j:Int)+1)=((j+1:Nat):Int):=by rw [IntKind.wrap_i64];omega
   have hxb:=BlkIs.new wr 49 (reL (l[j]).kind (l[j]).set A' n' c' (l[j]).lo (l[j]).hi).toArray;have hxw:Below wr.heap.size wr (wr.alloc (.cells (reL (l[j]).kind (l[j]).set A' n' c' (l[j]).lo (l[j]).hi).toArray 49)):=(Below.refl _ _).alloc (Nat.le_refl _) _;obtain⟨W9,hW9⟩:∃ W9,wr.alloc (.cells (reL (l[j]).kind (l[j]).set A' n' c' (l[j]).lo (l[j]).hi).toArray 49)=W9:=⟨_,rfl⟩;rw [hW9]at hxb hxw;have hcx:=IH.out _ (List.getElem_mem hp) _ W9 ((hcat.step HH.out.2.1).step hxw)
   have hss:sumP (l.take (j+1))=sumP (l.take j)+(l[j]).places:=by rw [List.take_succ_eq_append_getElem hp,xzdj]
   have hm1:=HSM.out j;have hm2:=HSM.out (j+1);have hpm:=HPM.out j hp;rw [<-HH.out.1]at hss hm1;simp only [reL]at hW9;unfold reV reL at*;clear hcat hg hrow hlen;generalize(l[j]).places=pp at*;generalize(l[j]).kind=kx at*;generalize(l[j]).set=mx at*;generalize(l[j]).lo=lx at*;generalize(l[j]).hi=hx at*
   have hk2:IntKind.i64.wrap (n+pp)=n+pp:=by rw [IntKind.wrap_i64];omega
   obtain⟨x0,x1,x2,x3,x4,x5,x6,x7⟩:=hxb.eight;have HX:=zd (And.intro (HH.out.2.1.trans (hxw.mono HH.out.2.1.size)) (HH.out.2.2.step hxw));have HC:=zd hcx;have HSS:=zd hss;clear hcx hss hm1 hm2 hpm hxb hxw
   go_wp2_with fail
   go_at_call 37
   refine HC.out.mono ?_;rintro e u ⟨rfl,hbu⟩;have HU:=zd (And.intro (HX.out.1.trans (hbu.mono HX.out.1.size)) (HX.out.2.step hbu));clear hbu x0 x1 x2 x3 x4 x5 x6 x7 r0 r1 r2 r3 r4 r5 r6 r7;go_wp2;exact⟨⟨j+1,n+pp,rfl,rfl,hp,zd ⟨HSS.out.symm,HU.out⟩⟩,by simp [intOf];omega⟩
  ·have hdl:decide ((j:Int)<(l.length:Int))=false:=by simp;omega
   obtain rfl:j=l.length:=by omega
   have hm1:=HSM.out l.length;have hnn:=HH.out.1;rw [List.take_length]at hnn hm1;obtain⟨d0,d1,d2,d3,d4,d5,d6,d7⟩:=hbl.eight;have hmul:0<=n*cp/\n*cp<=1099511627776*64:=⟨Int.mul_nonneg (by omega) (by omega),Int.mul_le_mul (by omega) (by omega) (by omega) (by omega)⟩
   have hk2:IntKind.i64.wrap (n*cp)=n*cp:=by rw [IntKind.wrap_i64];omega
   have HF:=zd (show min (n*cp) 1000000=R by rw [HR.out,hnn];congr 1;rw [Int.zero_add]);clear hnn hm1 hmul
   go_wp2_with fail
   go_at_call 65
   refine(HCO.out _).mono ?_;rintro e u ⟨rfl,hbu⟩;have HU:=zd (HH.out.2.1.trans (hbu.mono HH.out.2.1.size));clear hbu;go_wp2
   all_goals
    go_ret;refine⟨?_,HU.out⟩;have hf:=HF.out
    first
     |(have e:R=n*cp:=by omega
       rw [e];rfl)
     |(have e:R=1000000:=by omega
       rw [e];rfl)
end
section
open Go.RowKit
theorem xzeo:∀ l:List Tree,l.length<=nodesL l
 |[]=>by simp [nodesL]
 |t::r=>by
  have:=xzeo r
  have h:1<=t.nodes:=by cases t;simp [Tree.nodes]
  simp only [nodesL,List.length_cons];omega
theorem xzep:∀ (l:List Tree) (j:Nat) (h:j<l.length),(l[j]).nodes<=nodesL l
 |t::r,0,_=>by simp [nodesL]
 |t::r,j+1,h=>by
  have:=xzep r j (by simpa using h);simp only [List.getElem_cons_succ,nodesL];omega
set_option maxRecDepth 20000 in
set_option maxHeartbeats 4000000 in
theorem xztb (m:Nat->Bool)(lo hi:Int):PlacesIs (.node 1 m [] lo hi):=by
 intro v w hat;obtain⟨A,c,rfl,hc,hs⟩:=hat.open
 have hp:Tree.places (.node 1 m [] lo hi)=1:=by unfold Tree.places;simp [sumP];omega
 rw [hp];have hB0:Below w.heap.size w (w.alloc (.cells (reL 1 m A 0 c lo hi).toArray 49)):=(Below.refl _ _).alloc (Nat.le_refl _) _;have hbox:=BlkIs.new w 49 (reL 1 m A 0 c lo hi).toArray;have H0:=zd (And.intro hB0 hbox);obtain⟨d0,d1,d2,d3,d4,d5,d6,d7⟩:=(show BlkIs _ w.heap.size 49 #[.int .i64 1,.int .u64 (wd m 0:Nat),.int .u64 (wd m 1:Nat),.int .u64 (wd m 2:Nat),.int .u64 (wd m 3:Nat),.slice A 0 c,.int .i64 lo,.int .i64 hi]from hbox).eight;simp only [List.length_nil]at*;unfold reV reL;clear hat hs hp hB0 hbox
 go_enter Tryz.func37,Tryz.ntmps37
 go_wp2
 go_loopw [3,12] (fun s i wr=>s=.int .i64 1/\i=.int .i64 0/\Hid (Below w.heap.size w wr/\BlkIs wr w.heap.size 49 (reL 1 m A 0 c lo hi).toArray)) (fun _ _ _=>0)
 case atStart=>exact⟨rfl,rfl,H0⟩
 case round=>
  obtain⟨rfl,rfl,HH⟩:=hrel;obtain⟨d0,d1,d2,d3,d4,d5,d6,d7⟩:=(show BlkIs _ w.heap.size 49 #[.int .i64 1,.int .u64 (wd m 0:Nat),.int .u64 (wd m 1:Nat),.int .u64 (wd m 2:Nat),.int .u64 (wd m 3:Nat),.slice A 0 c,.int .i64 lo,.int .i64 hi]from HH.out.2).eight;go_wp2;go_ret;exact⟨rfl,HH.out.1⟩
theorem xzvj (T:Tree)(h:T.ok=true)(hn:T.nodes<=1048576):PlacesIs T:=by
 induction T using Tree.ind with
 |h k m l lo hi ih=>
  have hop:=xzcz h;have hkind:=xzay hop.2;simp only [Tree.nodes]at hn;have hl:=xzeo l
  have IH:∀ t∈l,PlacesIs t:=fun t ht=>by
   obtain⟨j,hj,rfl⟩:=List.getElem_of_mem ht;exact ih _ ht (hop.1 _ ht) (Nat.le_trans (xzep l j hj) (by omega))
  rcases hkind with⟨rfl,hl⟩|⟨rfl,hl⟩|⟨rfl,hl⟩|⟨rfl,hl⟩|⟨rfl,hl,hlo⟩
  ·exact xzhs 0 (.inl rfl) m l lo hi (by omega) hop.1 IH
  ·obtain rfl:=List.eq_nil_of_length_eq_zero hl
   exact xztb m lo hi
  ·exact xzhs 2 (.inr (.inl rfl)) m l lo hi (by omega) hop.1 IH
  ·exact xzhs 3 (.inr (.inr rfl)) m l lo hi (by omega) hop.1 IH
  ·exact xzvi 4 rfl m l lo hi (by omega) hop.1 (by unfold copiesI;split<;>omega) IH
mutual
theorem xzjr:∀ t:Tree,t.deepN<=t.nodes
 | .node k m l lo hi=>by have:=deepL_nodes8 l;simp [Tree.deepN,Tree.nodes];omega
theorem deepL_nodes8:∀ l:List Tree,deepL l<=nodesL l
 |[]=>Nat.le_refl _
 |t::r=>by have:=xzjr t;have:=deepL_nodes8 r;simp [deepL,nodesL];omega
end
def placesZ (T:Tree):Int:=if T.mayN then T.places else -1
set_option maxRecDepth 20000 in
set_option maxHeartbeats 2000000 in
theorem xzmc (T:Tree)(v:Value)(w:World)(hat:T.At w v)(hn:T.nodes<=1048576):Calls Tryz.prog 19 #[v] w fun e w'=>e=.returned (.int .i64 (placesZ T))/\Below w.heap.size w w':=by
 obtain⟨A,n,c,rfl⟩:∃ A n c,v=reV T.kind T.set A n c T.lo T.hi:=by
  cases T with
  |node k m l lo hi=>
   obtain⟨A,c,e,_,_⟩:=hat.open;exact⟨A,l.length,c,e⟩
 have hb1:Below w.heap.size w (w.alloc (.cells (reL T.kind T.set A n c T.lo T.hi).toArray 49)):=(Below.refl _ _).alloc (Nat.le_refl _) _;have hbx:=BlkIs.new w 49 (reL T.kind T.set A n c T.lo T.hi).toArray;have H0:=zd (And.intro hb1 hbx);have HM:=zd (may_any T _ _ (hat.step hb1) (Nat.le_trans (xzjr T) (by omega)));have HP:=zd (fun(hm:T.mayN=true) (u:World) (hu:Below w.heap.size w u)=>xzvj T (by unfold Tree.mayN at hm;simp only [Bool.and_eq_true]at hm;exact hm.2.2) hn _ u (hat.step hu));obtain⟨R,hR⟩:∃ R,R=placesZ T:=⟨_,rfl⟩;rw [<-hR];unfold placesZ at hR;have HR:=zd hR;obtain⟨d0,d1,d2,d3,d4,d5,d6,d7⟩:=(show BlkIs _ w.heap.size 49 #[.int .i64 T.kind,.int .u64 (wd T.set 0:Nat),.int .u64 (wd T.set 1:Nat),.int .u64 (wd T.set 2:Nat),.int .u64 (wd T.set 3:Nat),.slice A n c,.int .i64 T.lo,.int .i64 T.hi]from hbx).eight;clear hat hb1 hbx hn hR;unfold reV reL at*
 cases hm:T.mayN with
 |false=>
  rw [hm]at HM;have HF:=zd (show R= -1 by rw [HR.out,hm];rfl);clear HP HR hm
  go_enter Tryz.func19,Tryz.ntmps19
  go_wp2_with fail
  go_at_call 36
  refine HM.out.mono ?_;rintro e u ⟨rfl,hb⟩;have HU:=zd (H0.out.1.trans (hb.mono H0.out.1.size));clear hb;go_wp2;go_ret;exact⟨by rw [HF.out];rfl,HU.out⟩
 |true=>
  rw [hm]at HM;have HF:=zd (show R=T.places by rw [HR.out,hm];rfl);have HP2:=zd (HP.out hm);clear HP HR hm
  go_enter Tryz.func19,Tryz.ntmps19
  go_wp2_with fail
  go_at_call 36
  refine HM.out.mono ?_;rintro e u ⟨rfl,hb⟩;have HU:=zd (And.intro (H0.out.1.trans (hb.mono H0.out.1.size)) (H0.out.2.step hb));clear hb d0 d1 d2 d3 d4 d5 d6 d7;obtain⟨d0,d1,d2,d3,d4,d5,d6,d7⟩:=HU.out.2.eight
  go_wp2_with fail
  go_at_call 37
  refine(HP2.out _ HU.out.1).mono ?_;rintro e u2 ⟨rfl,hb⟩;have HV:=zd (HU.out.1.trans (hb.mono HU.out.1.size));clear hb;go_wp2;go_ret;exact⟨by rw [HF.out];rfl,HV.out⟩
end
section
open Go.RowKit
def RPlacesIs (T:Tree):Prop:=∀ (v:Value) (w:World),T.At w v->Calls Tryz.prog 34 #[v] w fun e w'=>e=.returned (.int .i64 T.places)/\Below w.heap.size w w'
set_option maxRecDepth 20000 in
set_option maxHeartbeats 4000000 in
theorem xzgc (k:Int)(hk:k=0\/k=2\/k=3)(m:Nat->Bool)(l:List Tree)(lo hi:Int)(hn:l.length<=1048576)(hok:∀ t∈l,t.ok=true)(IH0:∀ t∈l,RPlacesIs t):RPlacesIs (.node k m l lo hi):=by
 intro v w hat;obtain⟨A,c,rfl,hc,hs⟩:=hat.open;have hbox:=BlkIs.new w 49 (reL k m A l.length c lo hi).toArray;have hB0:Below w.heap.size w (w.alloc (.cells (reL k m A l.length c lo hi).toArray 49)):=(Below.refl _ _).alloc (Nat.le_refl _) _;have HB0:=zd (And.intro hB0 hbox);have HS:=zd hs
 have HSM:=zd (fun(j:Nat)=>(show 0<=sumP (l.take j)/\sumP (l.take j)<=1099511627776 from⟨sumP_pos _ fun t ht=>hok t (List.mem_of_mem_take ht),by
  have h1:=xzdi (l.take j);rw [List.length_take]at h1
  omega⟩))
 obtain⟨R,hR⟩:∃ R,R=Tree.places (.node k m l lo hi):=⟨_,rfl⟩;rw [<-hR];unfold Tree.places at hR;have IH:=zd IH0;unfold RPlacesIs at IH;have HPM:=zd (fun(j:Nat) (h:j<l.length)=>And.intro (xzbw _ (hok _ (List.getElem_mem h))) (xzcl l[j]));clear hat hs hB0 IH0 hok
 have e1:(k==1)=false:=by simp;omega
 have e4:(k==4)=false:=by simp;omega
 rw [if_neg (by omega),if_neg (by omega)]at hR;have HR:=zd hR;obtain⟨d0,d1,d2,d3,d4,d5,d6,d7⟩:=(show BlkIs _ w.heap.size 49 #[.int .i64 k,.int .u64 (wd m 0:Nat),.int .u64 (wd m 1:Nat),.int .u64 (wd m 2:Nat),.int .u64 (wd m 3:Nat),.slice A l.length c,.int .i64 lo,.int .i64 hi]from hbox).eight;unfold reV reL;clear hR hk hbox
 go_enter Tryz.func34,Tryz.ntmps34
 go_wp2
 go_loopw [3,4] (fun s i wr=>∃ (j:Nat) (n:Int),s=.int .i64 n/\i=.int .i64 j/\j<=l.length/\Hid (n=sumP (l.take j)/\Below w.heap.size w wr/\BlkIs wr w.heap.size 49 (reL k m A l.length c lo hi).toArray)) (fun _ i _=>l.length - (intOf i).toNat)
 case atStart=>exact⟨0,0,rfl,rfl,Nat.zero_le _,zd ⟨by simp [sumP],HB0.out.1,HB0.out.2⟩⟩
 case round=>
  obtain⟨j,n,rfl,rfl,hj,HH⟩:=hrel;have hbl:=HH.out.2.2;unfold reL at hbl
  try clear d0 d1 d2 d3 d4 d5 d6 d7
  obtain⟨d0,d1,d2,d3,d4,d5,d6,d7⟩:=hbl.eight
  by_cases hp:j<l.length
  ·have hdl:decide ((j:Int)<(l.length:Int))=true:=by simp;omega
   obtain⟨b,o,rfl,hbw,hg⟩:=HS.out (by intro e;subst e;simp at hp);obtain⟨cs,hcat,hlen,hrow⟩:=hg j hp;obtain⟨A',n',c',rfl⟩:=hcat.eight;obtain⟨r0,r1,r2,r3,r4,r5,r6,r7⟩:=xzai hrow HH.out.2.1
   have hk1:IntKind.i64.wrap ((j:Int)+1)=((j+1:Nat):Int):=by rw [IntKind.wrap_i64];omega
   have hcx:=IH.out _ (List.getElem_mem hp) _ wr (hcat.step HH.out.2.1)
   have hss:sumP (l.take (j+1))=sumP (l.take j)+(l[j]).places:=by rw [List.take_succ_eq_append_getElem hp,xzdj]
   have hm1:=HSM.out j;have hm2:=HSM.out (j+1);have hpm:=HPM.out j hp;rw [<-HH.out.1]at hss hm1;unfold reV reL at*;clear hcat hg hrow hlen;generalize(l[j]).places=pp at*;generalize(l[j]).kind=kx at*;generalize(l[j]).set=mx at*;generalize(l[j]).lo=lx at*;generalize(l[j]).hi=hx at*
   have hk2:IntKind.i64.wrap (n+pp)=n+pp:=by rw [IntKind.wrap_i64];omega
   have HC:=zd hcx;have HSS:=zd hss;clear hcx hss hm1 hm2 hpm
   go_wp2_with fail
   go_at_call 34
   refine HC.out.mono ?_;rintro e u ⟨rfl,hbu⟩;have HU:=zd (And.intro (HH.out.2.1.trans (hbu.mono HH.out.2.1.size)) (HH.out.2.2.step hbu));clear hbu r0 r1 r2 r3 r4 r5 r6 r7;go_wp2;exact⟨⟨j+1,n+pp,rfl,rfl,hp,zd ⟨HSS.out.symm,HU.out⟩⟩,by simp [intOf];omega⟩
  ·have hdl:decide ((j:Int)<(l.length:Int))=false:=by simp;omega
   obtain rfl:j=l.length:=by omega
   have hm1:=HSM.out l.length;have hnn:=HH.out.1;rw [List.take_length]at hnn hm1;have HV:=zd (show R=min n 1000000 by rw [HR.out,hnn];congr 1;omega);clear hnn hm1
   by_cases hbig:n>1000000
   ·have q1:decide (n>1000000)=true:=by simp;omega
    have q2:decide (1000000<n)=true:=by simp;omega
    have HF:=zd (show R=1000000 by rw [HV.out];omega);clear hbig;go_wp2;go_ret;exact⟨by rw [HF.out];rfl,HH.out.2.1⟩
   ·have q1:decide (n>1000000)=false:=by simp;omega
    have q2:decide (1000000<n)=false:=by simp;omega
    have HF:=zd (show R=n by rw [HV.out];omega);clear hbig;go_wp2;go_ret;exact⟨by rw [HF.out];rfl,HH.out.2.1⟩
set_option maxRecDepth 20000 in
set_option maxHeartbeats 4000000 in
theorem xztc (k:Int)(hk:k=4)(m:Nat->Bool)(l:List Tree)(lo hi:Int)(hn:l.length<=1048576)(hok:∀ t∈l,t.ok=true)(h0:0<=lo/\lo<=64)(h1:hi= -1\/(lo<=hi/\hi<=64))(IH0:∀ t∈l,RPlacesIs t):RPlacesIs (.node k m l lo hi):=by
 intro v w hat;obtain⟨A,c,rfl,hc,hs⟩:=hat.open;have hbox:=BlkIs.new w 49 (reL k m A l.length c lo hi).toArray;have hB0:Below w.heap.size w (w.alloc (.cells (reL k m A l.length c lo hi).toArray 49)):=(Below.refl _ _).alloc (Nat.le_refl _) _;have HB0:=zd (And.intro hB0 hbox);have HS:=zd hs
 have HSM:=zd (fun(j:Nat)=>(show 0<=sumP (l.take j)/\sumP (l.take j)<=1099511627776 from⟨sumP_pos _ fun t ht=>hok t (List.mem_of_mem_take ht),by
  have h1:=xzdi (l.take j);rw [List.length_take]at h1
  omega⟩))
 obtain⟨R,hR⟩:∃ R,R=Tree.places (.node k m l lo hi):=⟨_,rfl⟩;rw [<-hR];unfold Tree.places at hR;have IH:=zd IH0;unfold RPlacesIs at IH;have HPM:=zd (fun(j:Nat) (h:j<l.length)=>And.intro (xzbw _ (hok _ (List.getElem_mem h))) (xzcl l[j]));clear hat hs hB0 IH0 hok
 have e1:(k==1)=false:=by simp;omega
 have e4:(k==4)=true:=by simp;omega
 rw [if_neg (by omega),if_pos hk]at hR;have HR:=zd hR;obtain⟨d0,d1,d2,d3,d4,d5,d6,d7⟩:=(show BlkIs _ w.heap.size 49 #[.int .i64 k,.int .u64 (wd m 0:Nat),.int .u64 (wd m 1:Nat),.int .u64 (wd m 2:Nat),.int .u64 (wd m 3:Nat),.slice A l.length c,.int .i64 lo,.int .i64 hi]from hbox).eight;unfold reV reL;clear hR hk hbox
 go_enter Tryz.func34,Tryz.ntmps34
 go_wp2
 go_loopw [3,4] (fun s i wr=>∃ (j:Nat) (n:Int),s=.int .i64 n/\i=.int .i64 j/\j<=l.length/\Hid (n=sumP (l.take j)/\Below w.heap.size w wr/\BlkIs wr w.heap.size 49 (reL k m A l.length c lo hi).toArray)) (fun _ i _=>l.length - (intOf i).toNat)
 case atStart=>exact⟨0,0,rfl,rfl,Nat.zero_le _,zd ⟨by simp [sumP],HB0.out.1,HB0.out.2⟩⟩
 case round=>
  obtain⟨j,n,rfl,rfl,hj,HH⟩:=hrel;have hbl:=HH.out.2.2;unfold reL at hbl
  try clear d0 d1 d2 d3 d4 d5 d6 d7
  obtain⟨d0,d1,d2,d3,d4,d5,d6,d7⟩:=hbl.eight
  by_cases hp:j<l.length
  ·have hdl:decide ((j:Int)<(l.length:Int))=true:=by simp;omega
   obtain⟨b,o,rfl,hbw,hg⟩:=HS.out (by intro e;subst e;simp at hp);obtain⟨cs,hcat,hlen,hrow⟩:=hg j hp;obtain⟨A',n',c',rfl⟩:=hcat.eight;obtain⟨r0,r1,r2,r3,r4,r5,r6,r7⟩:=xzai hrow HH.out.2.1
   have hk1:IntKind.i64.wrap ((j:Int)+1)=((j+1:Nat):Int):=by rw [IntKind.wrap_i64];omega
   have hcx:=IH.out _ (List.getElem_mem hp) _ wr (hcat.step HH.out.2.1)
   have hss:sumP (l.take (j+1))=sumP (l.take j)+(l[j]).places:=by rw [List.take_succ_eq_append_getElem hp,xzdj]
   have hm1:=HSM.out j;have hm2:=HSM.out (j+1);have hpm:=HPM.out j hp;rw [<-HH.out.1]at hss hm1;unfold reV reL at*;clear hcat hg hrow hlen;generalize(l[j]).places=pp at*;generalize(l[j]).kind=kx at*;generalize(l[j]).set=mx at*;generalize(l[j]).lo=lx at*;generalize(l[j]).hi=hx at*
   have hk2:IntKind.i64.wrap (n+pp)=n+pp:=by rw [IntKind.wrap_i64];omega
   have HC:=zd hcx;have HSS:=zd hss;clear hcx hss hm1 hm2 hpm
   go_wp2_with fail
   go_at_call 34
   refine HC.out.mono ?_;rintro e u ⟨rfl,hbu⟩;have HU:=zd (And.intro (HH.out.2.1.trans (hbu.mono HH.out.2.1.size)) (HH.out.2.2.step hbu));clear hbu r0 r1 r2 r3 r4 r5 r6 r7;go_wp2;exact⟨⟨j+1,n+pp,rfl,rfl,hp,zd ⟨HSS.out.symm,HU.out⟩⟩,by simp [intOf];omega⟩
  ·have hdl:decide ((j:Int)<(l.length:Int))=false:=by simp;omega
   obtain rfl:j=l.length:=by omega
   have hm1:=HSM.out l.length;have hnn:=HH.out.1;rw [List.take_length]at hnn hm1
   by_cases hh:hi>=0
   ·have q5:decide (hi>=0)=true:=by simp;omega
    have q6:decide (0<=hi)=true:=by simp;omega
    have hmul:0<=n*hi/\n*hi<=1099511627776*64:=⟨Int.mul_nonneg (by omega) (by omega),Int.mul_le_mul (by omega) (by omega) (by omega) (by omega)⟩
    have hk2:IntKind.i64.wrap (n*hi)=n*hi:=by rw [IntKind.wrap_i64];omega
    have hcop:copiesI lo hi=hi:=by unfold copiesI;rw [if_neg (by omega)]
    have HV:=zd (show R=min (n*hi) 1000000 by rw [HR.out,hnn,hcop,Int.zero_add]);clear hnn hm1 hmul hh hcop
    by_cases hbig:n*hi>1000000
    ·have q1:decide (n*hi>1000000)=true:=by simp;omega
     have q2:decide (1000000<n*hi)=true:=by simp;omega
     have HF:=zd (show R=1000000 by rw [HV.out];omega);clear hbig;go_wp2;go_ret;exact⟨by rw [HF.out];rfl,HH.out.2.1⟩
    ·have q1:decide (n*hi>1000000)=false:=by simp;omega
     have q2:decide (1000000<n*hi)=false:=by simp;omega
     have HF:=zd (show R=n*hi by rw [HV.out];omega);clear hbig;go_wp2;go_ret;exact⟨by rw [HF.out];rfl,HH.out.2.1⟩
   ·have q5:decide (hi>=0)=false:=by simp;omega
    have q6:decide (0<=hi)=false:=by simp;omega
    by_cases hl:lo>1
    ·have q7:decide (lo>1)=true:=by simp;omega
     have q8:decide (1<lo)=true:=by simp;omega
     have hmul:0<=n*lo/\n*lo<=1099511627776*64:=⟨Int.mul_nonneg (by omega) (by omega),Int.mul_le_mul (by omega) (by omega) (by omega) (by omega)⟩
     have hk2:IntKind.i64.wrap (n*lo)=n*lo:=by rw [IntKind.wrap_i64];omega
     have hcop:copiesI lo hi=lo:=by unfold copiesI;rw [if_pos (by omega)];omega
     have HV:=zd (show R=min (n*lo) 1000000 by rw [HR.out,hnn,hcop,Int.zero_add]);clear hnn hm1 hmul hh hl hcop
     by_cases hbig:n*lo>1000000
     ·have q1:decide (n*lo>1000000)=true:=by simp;omega
      have q2:decide (1000000<n*lo)=true:=by simp;omega
      have HF:=zd (show R=1000000 by rw [HV.out];omega);clear hbig;go_wp2;go_ret;exact⟨by rw [HF.out];rfl,HH.out.2.1⟩
     ·have q1:decide (n*lo>1000000)=false:=by simp;omega
      have q2:decide (1000000<n*lo)=false:=by simp;omega
      have HF:=zd (show R=n*lo by rw [HV.out];omega);clear hbig;go_wp2;go_ret;exact⟨by rw [HF.out];rfl,HH.out.2.1⟩
    ·have q7:decide (lo>1)=false:=by simp;omega
     have q8:decide (1<lo)=false:=by simp;omega
     have hcop:copiesI lo hi=1:=by unfold copiesI;rw [if_pos (by omega)];omega
     have HV:=zd (show R=min n 1000000 by rw [HR.out,hnn,hcop,Int.zero_add,Int.mul_one]);clear hnn hm1 hh hl hcop
     by_cases hbig:n>1000000
     ·have q1:decide (n>1000000)=true:=by simp;omega
      have q2:decide (1000000<n)=true:=by simp;omega
      have HF:=zd (show R=1000000 by rw [HV.out];omega);clear hbig;go_wp2;go_ret;exact⟨by rw [HF.out];rfl,HH.out.2.1⟩
     ·have q1:decide (n>1000000)=false:=by simp;omega
      have q2:decide (1000000<n)=false:=by simp;omega
      have HF:=zd (show R=n by rw [HV.out];omega);clear hbig;go_wp2;go_ret;exact⟨by rw [HF.out];rfl,HH.out.2.1⟩
set_option maxHeartbeats 2000000 in
theorem xzok (m:Nat->Bool)(lo hi:Int):RPlacesIs (.node 1 m [] lo hi):=by
 intro v w hat;obtain⟨A,c,rfl,hc,hs⟩:=hat.open
 have hp:Tree.places (.node 1 m [] lo hi)=1:=by unfold Tree.places;simp [sumP];omega
 rw [hp];have hB0:Below w.heap.size w (w.alloc (.cells (reL 1 m A 0 c lo hi).toArray 49)):=(Below.refl _ _).alloc (Nat.le_refl _) _;have HB:=zd hB0;simp only [List.length_nil]at*;unfold reV reL;clear hat hs hp hB0
 go_enter Tryz.func34,Tryz.ntmps34
 go_wp2;go_ret;exact⟨rfl,HB.out⟩
theorem xztd (T:Tree)(h:T.ok=true)(hn:T.nodes<=1048576):RPlacesIs T:=by
 induction T using Tree.ind with
 |h k m l lo hi ih=>
  have hop:=xzcz h;have hkind:=xzay hop.2;simp only [Tree.nodes]at hn;have hl:=xzeo l
  have IH:∀ t∈l,RPlacesIs t:=fun t ht=>by
   obtain⟨j,hj,rfl⟩:=List.getElem_of_mem ht;exact ih _ ht (hop.1 _ ht) (Nat.le_trans (xzep l j hj) (by omega))
  rcases hkind with⟨rfl,hl⟩|⟨rfl,hl⟩|⟨rfl,hl⟩|⟨rfl,hl⟩|⟨rfl,hl,hlo⟩
  ·exact xzgc 0 (.inl rfl) m l lo hi (by omega) hop.1 IH
  ·obtain rfl:=List.eq_nil_of_length_eq_zero hl
   exact xzok m lo hi
  ·exact xzgc 2 (.inr (.inl rfl)) m l lo hi (by omega) hop.1 IH
  ·exact xzgc 3 (.inr (.inr rfl)) m l lo hi (by omega) hop.1 IH
  ·exact xztc 4 rfl m l lo hi (by omega) hop.1 ⟨hlo.1,hlo.2.1⟩ hlo.2.2 IH
end
section
open Go.RowKit
mutual
def Tree.weight:Tree->Nat
 | .node k _ l _ hi=>weightEnd k hi (weightL l 1)
def weightL:List Tree->Nat->Nat
 |[],n=>n
 |t::r,n=>weightL r (min (n+t.weight) 1000000)
def weightEnd (k hi:Int)(n:Nat):Nat:=
 if k=4 then(if 1<hi/\hi<=64 then min (n*hi.toNat) 1000000 else if hi<0 then min (n*70) 1000000 else n)else n
end
def Tree.great (T:Tree):Bool:=decide (400<wrap64 (T.nodes:Int))
set_option maxHeartbeats 1000000 in
theorem xzqk (T:Tree)(v:Value)(w:World)(hat:T.At w v):Calls Tryz.prog 33 #[v] w fun e w'=>e=.returned (.bool T.great)/\Below w.heap.size w w':=by
 have H1:=zd (fun W (h:T.At W v)=>xzhn T v W h);simp only [xzvd]at H1;unfold Tree.great
 cases T with
 |node k m l lo hi=>
 have HAT:=zd hat;obtain⟨A,c,rfl,_,_⟩:=hat.open;generalize wrap64 ((Tree.node k m l lo hi).nodes:Int)=n at*;clear hat;unfold reV reL at*;have hB0:Below w.heap.size w (w.alloc (.cells (reL k m A l.length c lo hi).toArray 49)):=(Below.refl _ _).alloc (Nat.le_refl _) _;have hc:=H1.out _ (HAT.out.step hB0);unfold reL at hc hB0;have HC:=zd hc;clear hc HAT;have hgt:decide (n>400)=decide (400<n):=rfl
 go_enter Tryz.func33,Tryz.ntmps33
 go_wp2_with fail
 refine HC.out.mono ?_;rintro e w1 ⟨rfl,hb1⟩;have HB1:=zd (hB0.trans (hb1.mono hB0.size));clear hb1 hB0;go_wp2;go_ret;exact⟨rfl,HB1.out⟩
end
section
open Go.RowKit
mutual
def Tree.weight5:Tree->Nat
 | .node k _ l _ hi=>weight5End k hi (weight5L l 1)
def weight5L:List Tree->Nat->Nat
 |[],n=>n
 |t::r,n=>weight5L r (min (n+t.weight5) 1000000)
def weight5End (k hi:Int)(n:Nat):Nat:=
 if k=4 then(if 1<hi/\hi<=64 then min (n*hi.toNat) 1000000 else if hi<0 then min (n*40) 1000000 else n)else n
end
theorem xzet:∀ (l r:List Tree) (n:Nat),weight5L (l++r) n=weight5L r (weight5L l n)
 |[],r,n=>rfl
 |a::l,r,n=>by simp only [List.cons_append,weight5L,xzet l r]
theorem xzmd {l:List Tree}{i n:Nat}(h:i<l.length):weight5L (l.take (i+1)) n=min (weight5L (l.take i) n+(l[i]).weight5) 1000000:=by
 rw [<-List.take_append_getElem h,xzet];rfl
theorem xzgd:∀ (l:List Tree) (n:Nat),n<=1000000->weight5L l n<=1000000
 |[],n,h=>h
 |t::r,n,h=>by unfold weight5L;exact xzgd r _ (Nat.min_le_right _ _)
theorem xzvk (T:Tree):T.weight5<=1000000:=by
 cases T with
 |node k m l lo hi=>
  unfold Tree.weight5 weight5End;have:=xzgd l 1 (by omega)
  split
  ·split
   ·exact Nat.min_le_right _ _
   ·split
    ·exact Nat.min_le_right _ _
    ·exact this
  ·exact this
set_option maxHeartbeats 4000000 in
theorem xzte:∀ (T:Tree) (v:Value) (w:World),T.At w v->Calls Tryz.prog 59 #[v] w fun e w'=>e=.returned (.int .i64 (T.weight5:Nat))/\Below w.heap.size w w':=by
 intro T
 induction T using Tree.ind with
 |h k m l lo hi ih=>
  intro v w hat;obtain⟨A,c,rfl,hc,hs⟩:=hat.open;have HS:=zd hs;have IH:=zd ih;clear hat hs ih;unfold reV reL;obtain⟨R,hR⟩:∃ R,Tree.weight5 (.node k m l lo hi)=R:=⟨_,rfl⟩;rw [hR];have HR:=zd (show weight5End k hi (weight5L l 1)=R from hR);clear hR;have hbox:=BlkIs.new w 49 (reL k m A l.length c lo hi).toArray;unfold reL at hbox
  go_enter Tryz.func59,Tryz.ntmps59
  go_wp2
  go_loopw [3,4] (fun n i wr=>∃ j:Nat,n=.int .i64 (weight5L (l.take j) 1:Nat)/\i=.int .i64 j/\j<=l.length/\Hid (Below w.heap.size w wr/\BlkIs wr w.heap.size 49 (reL k m A l.length c lo hi).toArray)) (fun _ i _=>l.length - (intOf i).toNat)
  case atStart=>exact⟨0,rfl,rfl,Nat.zero_le _,zd ⟨(Below.refl _ _).alloc (Nat.le_refl _) _,hbox⟩⟩
  case round=>
   obtain⟨j,rfl,rfl,hj,HH⟩:=hrel;obtain⟨hb,hbl⟩:=HH.out;have HB:=zd HH.out;clear hbox;unfold reL at hbl;obtain⟨c0,c1,c2,c3,c4,c5,c6,c7⟩:=hbl.eight;have hle:=xzgd (l.take j) 1 (by omega)
   by_cases hp:j<l.length
   ·have hdl:decide ((j:Int)<(l.length:Int))=true:=by simp;omega
    obtain⟨b,o,rfl,hbw,hg⟩:=HS.out (by intro e;subst e;simp at hp);obtain⟨cs,hcat,hlen,hrow⟩:=hg j hp;obtain⟨A',n',c',rfl⟩:=hcat.eight;obtain⟨r0,r1,r2,r3,r4,r5,r6,r7⟩:=xzai hrow hb;have hcall:=IH.out _ (List.getElem_mem hp) _ wr (hcat.step hb)
    have hk1:IntKind.i64.wrap ((j:Int)+1)=((j+1:Nat):Int):=by rw [IntKind.wrap_i64];omega
    have hwl:=xzvk l[j];have hst:=xzmd (n:=1) hp;generalize(l[j]).weight5=x at*;generalize weight5L (l.take j) 1=y at*
    have hw:IntKind.i64.wrap ((y:Int)+(x:Int))=((y+x:Nat):Int):=by rw [IntKind.wrap_i64];omega
    have HC:=zd hcall;have HST:=zd hst;clear hrow hcat hcall hg hb hbl c0 c1 c2 c3 c4 c6 c7 hst
    go_wp2_with fail
    refine HC.out.mono ?_;rintro e w1 ⟨rfl,hb1⟩;have HB1:=zd hb1;clear hb1;go_wp2;refine⟨⟨j+1,?_,by go_num,hp,zd ?_⟩,by simp [intOf];omega⟩
    ·rw [HST.out]
     refine congrArg (Value.int .i64) ?_
     split<;>omega
    ·exact⟨HB.out.1.trans (HB1.out.mono HB.out.1.size),HB.out.2.step HB1.out⟩
   ·have hdl:decide ((j:Int)<(l.length:Int))=false:=by simp;omega
    obtain rfl:j=l.length:=by omega
    rw [List.take_length]at hle;rw [List.take_length];have hR:=HR.out;clear HR HH HB hbl;generalize weight5L l 1=y at*;unfold weight5End at hR
    by_cases hk:k=4
    ·subst hk
     rw [if_pos rfl]at hR
     by_cases h1:1<hi/\hi<=64
     ·rw [if_pos h1]at hR
      have e1:decide (hi>1)=true:=by simp;omega
      have e2:decide (hi<=64)=true:=by simp;omega
      have e3:decide (hi<0)=false:=by simp;omega
      obtain⟨z,rfl⟩:∃ z:Nat,hi=(z:Int):=⟨hi.toNat,by omega⟩;have hm:y*z<=1000000*64:=Nat.mul_le_mul hle (by omega)
      have hw:IntKind.i64.wrap ((y:Int)*(z:Int))=((y*z:Nat):Int):=by rw [<-Int.natCast_mul,IntKind.wrap_i64];omega
      rw [Int.toNat_natCast]at hR;have HR:=zd hR;clear hR;go_wp2
      all_goals
       go_ret;rw [<-HR.out];refine⟨congrArg (fun z=>Ending.returned (Value.int .i64 z)) ?_,hb⟩;have em:=Int.natCast_mul y z;omega
     ·rw [if_neg h1]at hR
      by_cases h2:hi<0
      ·rw [if_pos h2]at hR
       have e1:decide (hi>1)=false:=by simp;omega
       have e3:decide (hi<0)=true:=by simp;omega
       have hw:IntKind.i64.wrap ((y:Int)*40)=((y*40:Nat):Int):=by rw [IntKind.wrap_i64];omega
       have HR:=zd hR;clear hR;go_wp2
       all_goals
        go_ret;rw [<-HR.out];refine⟨congrArg (fun z=>Ending.returned (Value.int .i64 z)) ?_,hb⟩;omega
      ·rw [if_neg h2]at hR
       subst hR
       have e3:decide (hi<0)=false:=by simp;omega
       by_cases h3:1<hi
       ·have e1:decide (hi>1)=true:=by simp;omega
        have e2:decide (hi<=64)=false:=by simp;omega
        go_wp2;go_ret;exact⟨rfl,hb⟩
       ·have e1:decide (hi>1)=false:=by simp;omega
        go_wp2;go_ret;exact⟨rfl,hb⟩
    ·rw [if_neg hk]at hR
     subst hR
     have e4:(k==4)=false:=by simp [hk]
     go_wp2;go_ret;exact⟨rfl,hb⟩
def Tree.heavy (T:Tree):Bool:=T.great||decide (20000<T.weight5)
set_option maxHeartbeats 1000000 in
theorem xzvl (T:Tree)(v:Value)(w:World)(hat:T.At w v):Calls Tryz.prog 32 #[v] w fun e w'=>e=.returned (.bool T.heavy)/\Below w.heap.size w w':=by
 have H1:=zd (fun W (h:T.At W v)=>xzqk T v W h);have H2:=zd (fun W (h:T.At W v)=>xzte T v W h);unfold Tree.heavy
 cases T with
 |node k m l lo hi=>
 have HAT:=zd hat;obtain⟨A,c,rfl,_,_⟩:=hat.open;generalize(Tree.node k m l lo hi).great=q at*;generalize(Tree.node k m l lo hi).weight5=n at*;clear hat;unfold reV reL at*;have hB0:Below w.heap.size w (w.alloc (.cells (reL k m A l.length c lo hi).toArray 49)):=(Below.refl _ _).alloc (Nat.le_refl _) _;have hX0:=BlkIs.new w 49 (reL k m A l.length c lo hi).toArray;have hc:=H1.out _ (HAT.out.step hB0)
 have hc2:=fun u (hu:Below w.heap.size w u)=>H2.out u (HAT.out.step hu)
 unfold reL at hc hc2 hB0 hX0;have HC:=zd hc;have HC2:=zd hc2;clear hc hc2 HAT
 have hgt:decide ((n:Int)>20000)=decide (20000<n):=by apply decide_eq_decide.2;omega
 cases q with
 |true=>
  go_enter Tryz.func32,Tryz.ntmps32
  go_wp2_with fail
  refine HC.out.mono ?_;rintro e w1 ⟨rfl,hb1⟩;have HB1:=zd (hB0.trans (hb1.mono hB0.size));clear hb1 hB0;go_wp2;go_ret;exact⟨rfl,HB1.out⟩
 |false=>
  rw [Bool.false_or];generalize decide (20000<n)=b at*
  go_enter Tryz.func32,Tryz.ntmps32
  go_wp2_with fail
  refine HC.out.mono ?_;rintro e w1 ⟨rfl,hb1⟩;have HB1:=zd (hB0.trans (hb1.mono hB0.size));obtain⟨c0,c1,c2,c3,c4,c5,c6,c7⟩:=(hX0.step hb1).eight;clear hb1 hB0 hX0
  go_wp2_with fail
  refine(HC2.out _ HB1.out).mono ?_;rintro e w2 ⟨rfl,hb2⟩;have HB2:=zd (HB1.out.trans (hb2.mono HB1.out.size));clear hb2;go_wp2;go_ret;exact⟨rfl,HB2.out⟩
set_option maxHeartbeats 1000000 in
theorem xzql (T:Tree)(v:Value)(w:World)(hat:T.At w v):Calls Tryz.prog 16 #[v] w fun e w'=>e=.returned (.bool T.heavy)/\Below w.heap.size w w':=by
 have H1:=zd (fun W (h:T.At W v)=>xzvl T v W h)
 cases T with
 |node k m l lo hi=>
 have HAT:=zd hat;obtain⟨A,c,rfl,_,_⟩:=hat.open;generalize(Tree.node k m l lo hi).heavy=q at*;clear hat;unfold reV reL at*;have hB0:Below w.heap.size w (w.alloc (.cells (reL k m A l.length c lo hi).toArray 49)):=(Below.refl _ _).alloc (Nat.le_refl _) _;have hX0:=BlkIs.new w 49 (reL k m A l.length c lo hi).toArray;have hc:=H1.out _ (HAT.out.step hB0);unfold reL at hc hB0 hX0;have HC:=zd hc;clear hc HAT
 go_enter Tryz.func16,Tryz.ntmps16
 go_wp2_with fail
 refine HC.out.mono ?_;rintro e w1 ⟨rfl,hb1⟩;have HB1:=zd (hB0.trans (hb1.mono hB0.size));clear hb1 hB0;go_wp2;go_ret;exact⟨rfl,HB1.out⟩
end
end Go.Proofs.YtgbljnnmhmlifaaGreatDoor
