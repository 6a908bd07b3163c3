/-
 WHAT hackleref08's Places ANSWERS, at every tree that may be: a contract: what nfa's places does. Condition: at most 2^20 nodes.
-/
import Derived.Test.YthoaaginadjaoaaQG10
import Derived.Test.YthoaaginadjaoaaQG09
namespace Go.Proofs.Ythoaaginadjaoaa
section
open Go.RowKit
def RPlacesIs (T:Tree):Prop:=∀ (v:Value) (w:World),T.At w v->Calls Try.prog 8 #[v] w fun e w'=>e=.returned (.int .i64 T.places)/\Below w.heap.size w w'
set_option maxRecDepth 20000 in
set_option maxHeartbeats 4000000 in
theorem xzet (k:Int)(hk:k=0\/k=2\/k=3)(m:Nat->Bool)(l:List Tree)(lo hi:Int)(hn:l.length<=1048576)(hok:∀ t∈l,t.ok=true)(IH0:∀ t∈l,RPlacesIs t):RPlacesIs (.node k m l lo hi):=by
 intro v w hat;obtain⟨A,c,rfl,hc,hs⟩:=hat.open;have hbox:=BlkIs.new w 39 (reL k m A l.length c lo hi).toArray;have hB0:Below w.heap.size w (w.alloc (.cells (reL k m A l.length c lo hi).toArray 39)):=(Below.refl _ _).alloc (Nat.le_refl _) _;have HB0:=zd (And.intro hB0 hbox);have HS:=zd hs
 have HSM:=zd (fun(j:Nat)=>(show 0<=sumP (l.take j)/\sumP (l.take j)<=1099511627776 from⟨sumP_pos _ fun t ht=>hok t (List.mem_of_mem_take ht),by
  have h1:=xzcc (l.take j);rw [List.length_take]at h1
  omega⟩))
 obtain⟨R,hR⟩:∃ R,R=Tree.places (.node k m l lo hi):=⟨_,rfl⟩;rw [<-hR];unfold Tree.places at hR;have IH:=zd IH0;unfold RPlacesIs at IH;have HPM:=zd (fun(j:Nat) (h:j<l.length)=>And.intro (xzav _ (hok _ (List.getElem_mem h))) (xzbg l[j]));clear hat hs hB0 IH0 hok
 have e1:(k==1)=false:=by simp;omega
 have e4:(k==4)=false:=by simp;omega
 rw [if_neg (by omega),if_neg (by omega)]at hR;have HR:=zd hR;obtain⟨d0,d1,d2,d3,d4,d5,d6,d7⟩:=(show BlkIs _ w.heap.size 39 #[.int .i64 k,.int .u64 (wd m 0:Nat),.int .u64 (wd m 1:Nat),.int .u64 (wd m 2:Nat),.int .u64 (wd m 3:Nat),.slice A l.length c,.int .i64 lo,.int .i64 hi]from hbox).eight;unfold reV reL;clear hR hk hbox
 go_enter Try.func8,Try.ntmps8
 go_wp2
 go_loopw [3,4] (fun s i wr=>∃ (j:Nat) (n:Int),s=.int .i64 n/\i=.int .i64 j/\j<=l.length/\Hid (n=sumP (l.take j)/\Below w.heap.size w wr/\BlkIs wr w.heap.size 39 (reL k m A l.length c lo hi).toArray)) (fun _ i _=>l.length - (intOf i).toNat)
 case atStart=>exact⟨0,0,rfl,rfl,Nat.zero_le _,zd ⟨by simp [sumP],HB0.out.1,HB0.out.2⟩⟩
 case round=>
  obtain⟨j,n,rfl,rfl,hj,HH⟩:=hrel;have hbl:=HH.out.2.2;unfold reL at hbl
  try clear d0 d1 d2 d3 d4 d5 d6 d7
  obtain⟨d0,d1,d2,d3,d4,d5,d6,d7⟩:=hbl.eight
  by_cases hp:j<l.length
  ·have hdl:decide ((j:Int)<(l.length:Int))=true:=by simp;omega
   obtain⟨b,o,rfl,hbw,hg⟩:=HS.out (by intro e;subst e;simp at hp);obtain⟨cs,hcat,hlen,hrow⟩:=hg j hp;obtain⟨A',n',c',rfl⟩:=hcat.eight;obtain⟨r0,r1,r2,r3,r4,r5,r6,r7⟩:=xzaj hrow HH.out.2.1
   have hk1:IntKind.i64.wrap ((j:Int)+1)=((j+1:Nat):Int):=by rw [IntKind.wrap_i64];omega
   have hcx:=IH.out _ (List.getElem_mem hp) _ wr (hcat.step HH.out.2.1)
   have hss:sumP (l.take (j+1))=sumP (l.take j)+(l[j]).places:=by rw [List.take_succ_eq_append_getElem hp,xzbq]
   have hm1:=HSM.out j;have hm2:=HSM.out (j+1);have hpm:=HPM.out j hp;rw [<-HH.out.1]at hss hm1;unfold reV reL at*;clear hcat hg hrow hlen;generalize(l[j]).places=pp at*;generalize(l[j]).kind=kx at*;generalize(l[j]).set=mx at*;generalize(l[j]).lo=lx at*;generalize(l[j]).hi=hx at*
   have hk2:IntKind.i64.wrap (n+pp)=n+pp:=by rw [IntKind.wrap_i64];omega
   have HC:=zd hcx;have HSS:=zd hss;clear hcx hss hm1 hm2 hpm
   go_wp2_with fail
   go_at_call 8
   refine HC.out.mono ?_;rintro e u ⟨rfl,hbu⟩;have HU:=zd (And.intro (HH.out.2.1.trans (hbu.mono HH.out.2.1.size)) (HH.out.2.2.step hbu));clear hbu r0 r1 r2 r3 r4 r5 r6 r7;go_wp2;exact⟨⟨j+1,n+pp,rfl,rfl,hp,zd ⟨HSS.out.symm,HU.out⟩⟩,by simp [intOf];omega⟩
  ·have hdl:decide ((j:Int)<(l.length:Int))=false:=by simp;omega
   obtain rfl:j=l.length:=by omega
   have hm1:=HSM.out l.length;have hnn:=HH.out.1;rw [List.take_length]at hnn hm1;have HV:=zd (show R=min n 1000000 by rw [HR.out,hnn];congr 1;omega);clear hnn hm1
   by_cases hbig:n>1000000
   ·have q1:decide (n>1000000)=true:=by simp;omega
    have q2:decide (1000000<n)=true:=by simp;omega
    have HF:=zd (show R=1000000 by rw [HV.out];omega);clear hbig;go_wp2;go_ret;exact⟨by rw [HF.out];rfl,HH.out.2.1⟩
   ·have q1:decide (n>1000000)=false:=by simp;omega
    have q2:decide (1000000<n)=false:=by simp;omega
    have HF:=zd (show R=n by rw [HV.out];omega);clear hbig;go_wp2;go_ret;exact⟨by rw [HF.out];rfl,HH.out.2.1⟩
set_option maxRecDepth 20000 in
set_option maxHeartbeats 4000000 in
theorem xzmu (k:Int)(hk:k=4)(m:Nat->Bool)(l:List Tree)(lo hi:Int)(hn:l.length<=1048576)(hok:∀ t∈l,t.ok=true)(h0:0<=lo/\lo<=64)(h1:hi= -1\/(lo<=hi/\hi<=64))(IH0:∀ t∈l,RPlacesIs t):RPlacesIs (.node k m l lo hi):=by
 intro v w hat;obtain⟨A,c,rfl,hc,hs⟩:=hat.open;have hbox:=BlkIs.new w 39 (reL k m A l.length c lo hi).toArray;have hB0:Below w.heap.size w (w.alloc (.cells (reL k m A l.length c lo hi).toArray 39)):=(Below.refl _ _).alloc (Nat.le_refl _) _;have HB0:=zd (And.intro hB0 hbox);have HS:=zd hs
 have HSM:=zd (fun(j:Nat)=>(show 0<=sumP (l.take j)/\sumP (l.take j)<=1099511627776 from⟨sumP_pos _ fun t ht=>hok t (List.mem_of_mem_take ht),by
  have h1:=xzcc (l.take j);rw [List.length_take]at h1
  omega⟩))
 obtain⟨R,hR⟩:∃ R,R=Tree.places (.node k m l lo hi):=⟨_,rfl⟩;rw [<-hR];unfold Tree.places at hR;have IH:=zd IH0;unfold RPlacesIs at IH;have HPM:=zd (fun(j:Nat) (h:j<l.length)=>And.intro (xzav _ (hok _ (List.getElem_mem h))) (xzbg l[j]));clear hat hs hB0 IH0 hok
 have e1:(k==1)=false:=by simp;omega
 have e4:(k==4)=true:=by simp;omega
 rw [if_neg (by omega),if_pos hk]at hR;have HR:=zd hR;obtain⟨d0,d1,d2,d3,d4,d5,d6,d7⟩:=(show BlkIs _ w.heap.size 39 #[.int .i64 k,.int .u64 (wd m 0:Nat),.int .u64 (wd m 1:Nat),.int .u64 (wd m 2:Nat),.int .u64 (wd m 3:Nat),.slice A l.length c,.int .i64 lo,.int .i64 hi]from hbox).eight;unfold reV reL;clear hR hk hbox
 go_enter Try.func8,Try.ntmps8
 go_wp2
 go_loopw [3,4] (fun s i wr=>∃ (j:Nat) (n:Int),s=.int .i64 n/\i=.int .i64 j/\j<=l.length/\Hid (n=sumP (l.take j)/\Below w.heap.size w wr/\BlkIs wr w.heap.size 39 (reL k m A l.length c lo hi).toArray)) (fun _ i _=>l.length - (intOf i).toNat)
 case atStart=>exact⟨0,0,rfl,rfl,Nat.zero_le _,zd ⟨by simp [sumP],HB0.out.1,HB0.out.2⟩⟩
 case round=>
  obtain⟨j,n,rfl,rfl,hj,HH⟩:=hrel;have hbl:=HH.out.2.2;unfold reL at hbl
  try clear d0 d1 d2 d3 d4 d5 d6 d7
  obtain⟨d0,d1,d2,d3,d4,d5,d6,d7⟩:=hbl.eight
  by_cases hp:j<l.length
  ·have hdl:decide ((j:Int)<(l.length:Int))=true:=by simp;omega
   obtain⟨b,o,rfl,hbw,hg⟩:=HS.out (by intro e;subst e;simp at hp);obtain⟨cs,hcat,hlen,hrow⟩:=hg j hp;obtain⟨A',n',c',rfl⟩:=hcat.eight;obtain⟨r0,r1,r2,r3,r4,r5,r6,r7⟩:=xzaj hrow HH.out.2.1
   have hk1:IntKind.i64.wrap ((j:Int)+1)=((j+1:Nat):Int):=by rw [IntKind.wrap_i64];omega
   have hcx:=IH.out _ (List.getElem_mem hp) _ wr (hcat.step HH.out.2.1)
   have hss:sumP (l.take (j+1))=sumP (l.take j)+(l[j]).places:=by rw [List.take_succ_eq_append_getElem hp,xzbq]
   have hm1:=HSM.out j;have hm2:=HSM.out (j+1);have hpm:=HPM.out j hp;rw [<-HH.out.1]at hss hm1;unfold reV reL at*;clear hcat hg hrow hlen;generalize(l[j]).places=pp at*;generalize(l[j]).kind=kx at*;generalize(l[j]).set=mx at*;generalize(l[j]).lo=lx at*;generalize(l[j]).hi=hx at*
   have hk2:IntKind.i64.wrap (n+pp)=n+pp:=by rw [IntKind.wrap_i64];omega
   have HC:=zd hcx;have HSS:=zd hss;clear hcx hss hm1 hm2 hpm
   go_wp2_with fail
   go_at_call 8
   refine HC.out.mono ?_;rintro e u ⟨rfl,hbu⟩;have HU:=zd (And.intro (HH.out.2.1.trans (hbu.mono HH.out.2.1.size)) (HH.out.2.2.step hbu));clear hbu r0 r1 r2 r3 r4 r5 r6 r7;go_wp2;exact⟨⟨j+1,n+pp,rfl,rfl,hp,zd ⟨HSS.out.symm,HU.out⟩⟩,by simp [intOf];omega⟩
  ·have hdl:decide ((j:Int)<(l.length:Int))=false:=by simp;omega
   obtain rfl:j=l.length:=by omega
   have hm1:=HSM.out l.length;have hnn:=HH.out.1;rw [List.take_length]at hnn hm1
   by_cases hh:hi>=0
   ·have q5:decide (hi>=0)=true:=by simp;omega
    have q6:decide (0<=hi)=true:=by simp;omega
    have hmul:0<=n*hi/\n*hi<=1099511627776*64:=⟨Int.mul_nonneg (by omega) (by omega),Int.mul_le_mul (by omega) (by omega) (by omega) (by omega)⟩
    have hk2:IntKind.i64.wrap (n*hi)=n*hi:=by rw [IntKind.wrap_i64];omega
    have hcop:copiesI lo hi=hi:=by unfold copiesI;rw [if_neg (by omega)]
    have HV:=zd (show R=min (n*hi) 1000000 by rw [HR.out,hnn,hcop,Int.zero_add]);clear hnn hm1 hmul hh hcop
    by_cases hbig:n*hi>1000000
    ·have q1:decide (n*hi>1000000)=true:=by simp;omega
     have q2:decide (1000000<n*hi)=true:=by simp;omega
     have HF:=zd (show R=1000000 by rw [HV.out];omega);clear hbig;go_wp2;go_ret;exact⟨by rw [HF.out];rfl,HH.out.2.1⟩
    ·have q1:decide (n*hi>1000000)=false:=by simp;omega
     have q2:decide (1000000<n*hi)=false:=by simp;omega
     have HF:=zd (show R=n*hi by rw [HV.out];omega);clear hbig;go_wp2;go_ret;exact⟨by rw [HF.out];rfl,HH.out.2.1⟩
   ·have q5:decide (hi>=0)=false:=by simp;omega
    have q6:decide (0<=hi)=false:=by simp;omega
    by_cases hl:lo>1
    ·have q7:decide (lo>1)=true:=by simp;omega
     have q8:decide (1<lo)=true:=by simp;omega
     have hmul:0<=n*lo/\n*lo<=1099511627776*64:=⟨Int.mul_nonneg (by omega) (by omega),Int.mul_le_mul (by omega) (by omega) (by omega) (by omega)⟩
     have hk2:IntKind.i64.wrap (n*lo)=n*lo:=by rw [IntKind.wrap_i64];omega
     have hcop:copiesI lo hi=lo:=by unfold copiesI;rw [if_pos (by omega)];omega
     have HV:=zd (show R=min (n*lo) 1000000 by rw [HR.out,hnn,hcop,Int.zero_add]);clear hnn hm1 hmul hh hl hcop
     by_cases hbig:n*lo>1000000
     ·have q1:decide (n*lo>1000000)=true:=by simp;omega
      have q2:decide (1000000<n*lo)=true:=by simp;omega
      have HF:=zd (show R=1000000 by rw [HV.out];omega);clear hbig;go_wp2;go_ret;exact⟨by rw [HF.out];rfl,HH.out.2.1⟩
     ·have q1:decide (n*lo>1000000)=false:=by simp;omega
      have q2:decide (1000000<n*lo)=false:=by simp;omega
      have HF:=zd (show R=n*lo by rw [HV.out];omega);clear hbig;go_wp2;go_ret;exact⟨by rw [HF.out];rfl,HH.out.2.1⟩
    ·have q7:decide (lo>1)=false:=by simp;omega
     have q8:decide (1<lo)=false:=by simp;omega
     have hcop:copiesI lo hi=1:=by unfold copiesI;rw [if_pos (by omega)];omega
     have HV:=zd (show R=min n 1000000 by rw [HR.out,hnn,hcop,Int.zero_add,Int.mul_one]);clear hnn hm1 hh hl hcop
     by_cases hbig:n>1000000
     ·have q1:decide (n>1000000)=true:=by simp;omega
      have q2:decide (1000000<n)=true:=by simp;omega
      have HF:=zd (show R=1000000 by rw [HV.out];omega);clear hbig;go_wp2;go_ret;exact⟨by rw [HF.out];rfl,HH.out.2.1⟩
     ·have q1:decide (n>1000000)=false:=by simp;omega
      have q2:decide (1000000<n)=false:=by simp;omega
      have HF:=zd (show R=n by rw [HV.out];omega);clear hbig;go_wp2;go_ret;exact⟨by rw [HF.out];rfl,HH.out.2.1⟩
set_option maxHeartbeats 2000000 in
theorem xzjz (m:Nat->Bool)(lo hi:Int):RPlacesIs (.node 1 m [] lo hi):=by
 intro v w hat;obtain⟨A,c,rfl,hc,hs⟩:=hat.open
 have hp:Tree.places (.node 1 m [] lo hi)=1:=by unfold Tree.places;simp [sumP];omega
 rw [hp];have hB0:Below w.heap.size w (w.alloc (.cells (reL 1 m A 0 c lo hi).toArray 39)):=(Below.refl _ _).alloc (Nat.le_refl _) _;have HB:=zd hB0;simp only [List.length_nil]at*;unfold reV reL;clear hat hs hp hB0
 go_enter Try.func8,Try.ntmps8
 go_wp2;go_ret;exact⟨rfl,HB.out⟩
theorem xzbt (T:Tree)(h:T.ok=true)(hn:T.nodes<=1048576):RPlacesIs T:=by
 induction T using Tree.ind with
 |h k m l lo hi ih=>
  have hop:=xzcb h;have hkind:=xzas hop.2;simp only [Tree.nodes]at hn;have hl:=xzcj l
  have IH:∀ t∈l,RPlacesIs t:=fun t ht=>by
   obtain⟨j,hj,rfl⟩:=List.getElem_of_mem ht;exact ih _ ht (hop.1 _ ht) (Nat.le_trans (xzck l j hj) (by omega))
  rcases hkind with⟨rfl,hl⟩|⟨rfl,hl⟩|⟨rfl,hl⟩|⟨rfl,hl⟩|⟨rfl,hl,hlo⟩
  ·exact xzet 0 (.inl rfl) m l lo hi (by omega) hop.1 IH
  ·obtain rfl:=List.eq_nil_of_length_eq_zero hl
   exact xzjz m lo hi
  ·exact xzet 2 (.inr (.inl rfl)) m l lo hi (by omega) hop.1 IH
  ·exact xzet 3 (.inr (.inr rfl)) m l lo hi (by omega) hop.1 IH
  ·exact xzmu 4 rfl m l lo hi (by omega) hop.1 ⟨hlo.1,hlo.2.1⟩ hlo.2.2 IH
end
section
open Go.RowKit
mutual
def Tree.weight:Tree->Nat
 | .node k _ l _ hi=>weightEnd k hi (weightL l 1)
def weightL:List Tree->Nat->Nat
 |[],n=>n
 |t::r,n=>weightL r (min (n+t.weight) 1000000)
def weightEnd (k hi:Int)(n:Nat):Nat:=
 if k=4 then(if 1<hi/\hi<=64 then min (n*hi.toNat) 1000000 else if hi<0 then min (n*70) 1000000 else n)else n
end
def Tree.great (T:Tree):Bool:=decide (400<wrap64 (T.nodes:Int))
set_option maxHeartbeats 1000000 in
theorem xzld (T:Tree)(v:Value)(w:World)(hat:T.At w v):Calls Try.prog 18 #[v] w fun e w'=>e=.returned (.bool T.great)/\Below w.heap.size w w':=by
 have H1:=zd (fun W (h:T.At W v)=>xzfs T v W h);simp only [xznx]at H1;unfold Tree.great
 cases T with
 |node k m l lo hi=>
 have HAT:=zd hat;obtain⟨A,c,rfl,_,_⟩:=hat.open;generalize wrap64 ((Tree.node k m l lo hi).nodes:Int)=n at*;clear hat;unfold reV reL at*;have hB0:Below w.heap.size w (w.alloc (.cells (reL k m A l.length c lo hi).toArray 39)):=(Below.refl _ _).alloc (Nat.le_refl _) _;have hc:=H1.out _ (HAT.out.step hB0);unfold reL at hc hB0;have HC:=zd hc;clear hc HAT;have hgt:decide (n>400)=decide (400<n):=rfl
 go_enter Try.func18,Try.ntmps18
 go_wp2_with fail
 refine HC.out.mono ?_;rintro e w1 ⟨rfl,hb1⟩;have HB1:=zd (hB0.trans (hb1.mono hB0.size));clear hb1 hB0;go_wp2;go_ret;exact⟨rfl,HB1.out⟩
end
section
open Go.RowKit
mutual
def Tree.weight5:Tree->Nat
 | .node k _ l _ hi=>weight5End k hi (weight5L l 1)
def weight5L:List Tree->Nat->Nat
 |[],n=>n
 |t::r,n=>weight5L r (min (n+t.weight5) 1000000)
def weight5End (k hi:Int)(n:Nat):Nat:=
 if k=4 then(if 1<hi/\hi<=64 then min (n*hi.toNat) 1000000 else if hi<0 then min (n*40) 1000000 else n)else n
end
theorem xzdp:∀ (l r:List Tree) (n:Nat),weight5L (l++r) n=weight5L r (weight5L l n)
 |[],r,n=>rfl
 |a::l,r,n=>by simp only [List.cons_append,weight5L,xzdp l r]
theorem xziv {l:List Tree}{i n:Nat}(h:i<l.length):weight5L (l.take (i+1)) n=min (weight5L (l.take i) n+(l[i]).weight5) 1000000:=by
 rw [<-List.take_append_getElem h,xzdp];rfl
theorem xzeu:∀ (l:List Tree) (n:Nat),n<=1000000->weight5L l n<=1000000
 |[],n,h=>h
 |t::r,n,h=>by unfold weight5L;exact xzeu r _ (Nat.min_le_right _ _)
theorem xzpe (T:Tree):T.weight5<=1000000:=by
 cases T with
 |node k m l lo hi=>
  unfold Tree.weight5 weight5End;have:=xzeu l 1 (by omega)
  split
  ·split
   ·exact Nat.min_le_right _ _
   ·split
    ·exact Nat.min_le_right _ _
    ·exact this
  ·exact this
set_option maxHeartbeats 4000000 in
theorem xzmv:∀ (T:Tree) (v:Value) (w:World),T.At w v->Calls Try.prog 46 #[v] w fun e w'=>e=.returned (.int .i64 (T.weight5:Nat))/\Below w.heap.size w w':=by
 intro T
 induction T using Tree.ind with
 |h k m l lo hi ih=>
  intro v w hat;obtain⟨A,c,rfl,hc,hs⟩:=hat.open;have HS:=zd hs;have IH:=zd ih;clear hat hs ih;unfold reV reL;obtain⟨R,hR⟩:∃ R,Tree.weight5 (.node k m l lo hi)=R:=⟨_,rfl⟩;rw [hR];have HR:=zd (show weight5End k hi (weight5L l 1)=R from hR);clear hR;have hbox:=BlkIs.new w 39 (reL k m A l.length c lo hi).toArray;unfold reL at hbox
  go_enter Try.func46,Try.ntmps46
  go_wp2
  go_loopw [3,4] (fun n i wr=>∃ j:Nat,n=.int .i64 (weight5L (l.take j) 1:Nat)/\i=.int .i64 j/\j<=l.length/\Hid (Below w.heap.size w wr/\BlkIs wr w.heap.size 39 (reL k m A l.length c lo hi).toArray)) (fun _ i _=>l.length - (intOf i).toNat)
  case atStart=>exact⟨0,rfl,rfl,Nat.zero_le _,zd ⟨(Below.refl _ _).alloc (Nat.le_refl _) _,hbox⟩⟩
  case round=>
   obtain⟨j,rfl,rfl,hj,HH⟩:=hrel;obtain⟨hb,hbl⟩:=HH.out;have HB:=zd HH.out;clear hbox;unfold reL at hbl;obtain⟨c0,c1,c2,c3,c4,c5,c6,c7⟩:=hbl.eight;have hle:=xzeu (l.take j) 1 (by omega)
   by_cases hp:j<l.length
   ·have hdl:decide ((j:Int)<(l.length:Int))=true:=by simp;omega
    obtain⟨b,o,rfl,hbw,hg⟩:=HS.out (by intro e;subst e;simp at hp);obtain⟨cs,hcat,hlen,hrow⟩:=hg j hp;obtain⟨A',n',c',rfl⟩:=hcat.eight;obtain⟨r0,r1,r2,r3,r4,r5,r6,r7⟩:=xzaj hrow hb;have hcall:=IH.out _ (List.getElem_mem hp) _ wr (hcat.step hb)
    have hk1:IntKind.i64.wrap ((j:Int)+1)=((j+1:Nat):Int):=by rw [IntKind.wrap_i64];omega
    have hwl:=xzpe l[j];have hst:=xziv (n:=1) hp;generalize(l[j]).weight5=x at*;generalize weight5L (l.take j) 1=y at*
    have hw:IntKind.i64.wrap ((y:Int)+(x:Int))=((y+x:Nat):Int):=by rw [IntKind.wrap_i64];omega
    have HC:=zd hcall;have HST:=zd hst;clear hrow hcat hcall hg hb hbl c0 c1 c2 c3 c4 c6 c7 hst
    go_wp2_with fail
    refine HC.out.mono ?_;rintro e w1 ⟨rfl,hb1⟩;have HB1:=zd hb1;clear hb1;go_wp2;refine⟨⟨j+1,?_,by go_num,hp,zd ?_⟩,by simp [intOf];omega⟩
    ·rw [HST.out]
     refine congrArg (Value.int .i64) ?_
     split<;>omega
    ·exact⟨HB.out.1.trans (HB1.out.mono HB.out.1.size),HB.out.2.step HB1.out⟩
   ·have hdl:decide ((j:Int)<(l.length:Int))=false:=by simp;omega
    obtain rfl:j=l.length:=by omega
    rw [List.take_length]at hle;rw [List.take_length];have hR:=HR.out;clear HR HH HB hbl;generalize weight5L l 1=y at*;unfold weight5End at hR
    by_cases hk:k=4
    ·subst hk
     rw [if_pos rfl]at hR
     by_cases h1:1<hi/\hi<=64
     ·rw [if_pos h1]at hR
      have e1:decide (hi>1)=true:=by simp;omega
      have e2:decide (hi<=64)=true:=by simp;omega
      have e3:decide (hi<0)=false:=by simp;omega
      obtain⟨z,rfl⟩:∃ z:Nat,hi=(z:Int):=⟨hi.toNat,by omega⟩;have hm:y*z<=1000000*64:=Nat.mul_le_mul hle (by omega)
      have hw:IntKind.i64.wrap ((y:Int)*(z:Int))=((y*z:Nat):Int):=by rw [<-Int.natCast_mul,IntKind.wrap_i64];omega
      rw [Int.toNat_natCast]at hR;have HR:=zd hR;clear hR;go_wp2
      all_goals
       go_ret;rw [<-HR.out];refine⟨congrArg (fun z=>Ending.returned (Value.int .i64 z)) ?_,hb⟩;have em:=Int.natCast_mul y z;omega
     ·rw [if_neg h1]at hR
      by_cases h2:hi<0
      ·rw [if_pos h2]at hR
       have e1:decide (hi>1)=false:=by simp;omega
       have e3:decide (hi<0)=true:=by simp;omega
       have hw:IntKind.i64.wrap ((y:Int)*40)=((y*40:Nat):Int):=by rw [IntKind.wrap_i64];omega
       have HR:=zd hR;clear hR;go_wp2
       all_goals
        go_ret;rw [<-HR.out];refine⟨congrArg (fun z=>Ending.returned (Value.int .i64 z)) ?_,hb⟩;omega
      ·rw [if_neg h2]at hR
       subst hR
       have e3:decide (hi<0)=false:=by simp;omega
       by_cases h3:1<hi
       ·have e1:decide (hi>1)=true:=by simp;omega
        have e2:decide (hi<=64)=false:=by simp;omega
        go_wp2;go_ret;exact⟨rfl,hb⟩
       ·have e1:decide (hi>1)=false:=by simp;omega
        go_wp2;go_ret;exact⟨rfl,hb⟩
    ·rw [if_neg hk]at hR
     subst hR
     have e4:(k==4)=false:=by simp [hk]
     go_wp2;go_ret;exact⟨rfl,hb⟩
def Tree.heavy (T:Tree):Bool:=T.great||decide (20000<T.weight5)
set_option maxHeartbeats 1000000 in
theorem xzpf (T:Tree)(v:Value)(w:World)(hat:T.At w v):Calls Try.prog 38 #[v] w fun e w'=>e=.returned (.bool T.heavy)/\Below w.heap.size w w':=by
 have H1:=zd (fun W (h:T.At W v)=>xzld T v W h);have H2:=zd (fun W (h:T.At W v)=>xzmv T v W h);unfold Tree.heavy
 cases T with
 |node k m l lo hi=>
 have HAT:=zd hat;obtain⟨A,c,rfl,_,_⟩:=hat.open;generalize(Tree.node k m l lo hi).great=q at*;generalize(Tree.node k m l lo hi).weight5=n at*;clear hat;unfold reV reL at*;have hB0:Below w.heap.size w (w.alloc (.cells (reL k m A l.length c lo hi).toArray 39)):=(Below.refl _ _).alloc (Nat.le_refl _) _;have hX0:=BlkIs.new w 39 (reL k m A l.length c lo hi).toArray;have hc:=H1.out _ (HAT.out.step hB0)
 have hc2:=fun u (hu:Below w.heap.size w u)=>H2.out u (HAT.out.step hu)
 unfold reL at hc hc2 hB0 hX0;have HC:=zd hc;have HC2:=zd hc2;clear hc hc2 HAT
 have hgt:decide ((n:Int)>20000)=decide (20000<n):=by apply decide_eq_decide.2;omega
 cases q with
 |true=>
  go_enter Try.func38,Try.ntmps38
  go_wp2_with fail
  refine HC.out.mono ?_;rintro e w1 ⟨rfl,hb1⟩;have HB1:=zd (hB0.trans (hb1.mono hB0.size));clear hb1 hB0;go_wp2;go_ret;exact⟨rfl,HB1.out⟩
 |false=>
  rw [Bool.false_or];generalize decide (20000<n)=b at*
  go_enter Try.func38,Try.ntmps38
  go_wp2_with fail
  refine HC.out.mono ?_;rintro e w1 ⟨rfl,hb1⟩;have HB1:=zd (hB0.trans (hb1.mono hB0.size));obtain⟨c0,c1,c2,c3,c4,c5,c6,c7⟩:=(hX0.step hb1).eight;clear hb1 hB0 hX0
  go_wp2_with fail
  refine(HC2.out _ HB1.out).mono ?_;rintro e w2 ⟨rfl,hb2⟩;have HB2:=zd (HB1.out.trans (hb2.mono HB1.out.size));clear hb2;go_wp2;go_ret;exact⟨rfl,HB2.out⟩
set_option maxHeartbeats 1000000 in
theorem xzse (T:Tree)(v:Value)(w:World)(hat:T.At w v):Calls Try.prog 19 #[v] w fun e w'=>e=.returned (.bool T.heavy)/\Below w.heap.size w w':=by
 have H1:=zd (fun W (h:T.At W v)=>xzpf T v W h)
 cases T with
 |node k m l lo hi=>
 have HAT:=zd hat;obtain⟨A,c,rfl,_,_⟩:=hat.open;generalize(Tree.node k m l lo hi).heavy=q at*;clear hat;unfold reV reL at*;have hB0:Below w.heap.size w (w.alloc (.cells (reL k m A l.length c lo hi).toArray 39)):=(Below.refl _ _).alloc (Nat.le_refl _) _;have hX0:=BlkIs.new w 39 (reL k m A l.length c lo hi).toArray;have hc:=H1.out _ (HAT.out.step hB0);unfold reL at hc hB0 hX0;have HC:=zd hc;clear hc HAT
 go_enter Try.func19,Try.ntmps19
 go_wp2_with fail
 refine HC.out.mono ?_;rintro e w1 ⟨rfl,hb1⟩;have HB1:=zd (hB0.trans (hb1.mono hB0.size));clear hb1 hB0;go_wp2;go_ret;exact⟨rfl,HB1.out⟩
end
section
open Go.RowKit
attribute [local irreducible] FreeW
def SomeI (w:World):Ending->World->Prop:=fun e w'=>(∃ z:Int,e=.returned (.int .i64 z))/\Below w.heap.size w w'
set_option maxRecDepth 20000 in
set_option maxHeartbeats 8000000 in
theorem xzka:∀ (T:Tree) (v:Value) (w:World),T.At w v->Calls Try.prog 8 #[v] w (SomeI w):=by
 intro T
 induction T using Tree.ind with
 |h k m l lo hi ih=>
  intro v w hat;obtain⟨A,c,rfl,hc,hs⟩:=hat.open;have HS:=zd hs;have IH:=zd ih;clear hat hs ih;unfold reV reL;have hbox:=BlkIs.new w 39 (reL k m A l.length c lo hi).toArray;unfold reL at hbox
  by_cases hk1:k=1
  ·subst hk1
   go_enter Try.func8,Try.ntmps8
   go_wp2;go_ret;exact⟨⟨_,rfl⟩,(Below.refl _ _).alloc (Nat.le_refl _) _⟩
  have e1:(k==1)=false:=by simp [hk1]
  go_enter Try.func8,Try.ntmps8
  go_wp2
  go_loopw [3,4] (fun n i wr=>∃ (j:Nat) (z:Int),n=.int .i64 z/\i=.int .i64 j/\j<=l.length/\Hid (Below w.heap.size w wr/\BlkIs wr w.heap.size 39 (reL k m A l.length c lo hi).toArray)) (fun _ i _=>l.length - (intOf i).toNat)
  case atStart=>exact⟨0,0,rfl,rfl,Nat.zero_le _,zd ⟨(Below.refl _ _).alloc (Nat.le_refl _) _,hbox⟩⟩
  case round=>
   obtain⟨j,z,rfl,rfl,hj,HH⟩:=hrel;obtain⟨hb,hbl⟩:=HH.out;have HB:=zd HH.out;clear hbox;unfold reL at hbl;obtain⟨c0,c1,c2,c3,c4,c5,c6,c7⟩:=hbl.eight
   by_cases hp:j<l.length
   ·have hdl:decide ((j:Int)<(l.length:Int))=true:=by simp;omega
    obtain⟨b,o,rfl,hbw,hg⟩:=HS.out (by intro e;subst e;simp at hp);obtain⟨cs,hcat,hlen,hrow⟩:=hg j hp;obtain⟨A',n',c',rfl⟩:=hcat.eight;obtain⟨r0,r1,r2,r3,r4,r5,r6,r7⟩:=xzaj hrow hb;have hcall:=IH.out _ (List.getElem_mem hp) _ wr (hcat.step hb)
    have hk1:IntKind.i64.wrap ((j:Int)+1)=((j+1:Nat):Int):=by rw [IntKind.wrap_i64];omega
    have HC:=zd hcall;clear hrow hcat hcall hg hb hbl c0 c1 c2 c3 c4 c6 c7
    go_wp2_with fail
    refine HC.out.mono ?_;rintro e w1 ⟨⟨y,rfl⟩,hb1⟩;have HB1:=zd hb1;clear hb1;go_wp2;exact⟨⟨j+1,_,rfl,by go_num,hp,zd ⟨HB.out.1.trans (HB1.out.mono HB.out.1.size),HB.out.2.step HB1.out⟩⟩,by simp [intOf];omega⟩
   ·have hdl:decide ((j:Int)<(l.length:Int))=false:=by simp;omega
    obtain rfl:j=l.length:=by omega
    clear HH hbl
    have fin:∀ x:Int,(∃ z:Int,(Ending.returned (Value.int .i64 x))=.returned (.int .i64 z)):=fun x=>⟨x,rfl⟩
    by_cases hk:k=4
    ·subst hk
     by_cases h1:0<=hi
     ·have q1:decide (hi>=0)=true:=by simp;omega
      have q2:decide (0<=hi)=true:=by simp;omega
      obtain⟨y,hy⟩:∃ y,IntKind.i64.wrap (z*hi)=y:=⟨_,rfl⟩
      by_cases h3:y>1000000
      ·have q3:decide (y>1000000)=true:=by simp;omega
       have q4:decide (1000000<y)=true:=by simp;omega
       go_wp2;go_ret;exact⟨⟨_,rfl⟩,hb⟩
      ·have q3:decide (y>1000000)=false:=by simp;omega
       have q4:decide (1000000<y)=false:=by simp;omega
       go_wp2;go_ret;exact⟨⟨_,rfl⟩,hb⟩
     ·have q1:decide (hi>=0)=false:=by simp;omega
      have q2:decide (0<=hi)=false:=by simp;omega
      by_cases h2:1<lo
      ·have q5:decide (lo>1)=true:=by simp;omega
       have q6:decide (1<lo)=true:=by simp;omega
       obtain⟨y,hy⟩:∃ y,IntKind.i64.wrap (z*lo)=y:=⟨_,rfl⟩
       by_cases h3:y>1000000
       ·have q3:decide (y>1000000)=true:=by simp;omega
        have q4:decide (1000000<y)=true:=by simp;omega
        go_wp2;go_ret;exact⟨⟨_,rfl⟩,hb⟩
       ·have q3:decide (y>1000000)=false:=by simp;omega
        have q4:decide (1000000<y)=false:=by simp;omega
        go_wp2;go_ret;exact⟨⟨_,rfl⟩,hb⟩
      ·have q5:decide (lo>1)=false:=by simp;omega
       have q6:decide (1<lo)=false:=by simp;omega
       by_cases h3:z>1000000
       ·have q3:decide (z>1000000)=true:=by simp;omega
        have q4:decide (1000000<z)=true:=by simp;omega
        go_wp2;go_ret;exact⟨⟨_,rfl⟩,hb⟩
       ·have q3:decide (z>1000000)=false:=by simp;omega
        have q4:decide (1000000<z)=false:=by simp;omega
        go_wp2;go_ret;exact⟨⟨_,rfl⟩,hb⟩
    ·have e4:(k==4)=false:=by simp [hk]
     by_cases h3:z>1000000
     ·have q3:decide (z>1000000)=true:=by simp;omega
      have q4:decide (1000000<z)=true:=by simp;omega
      go_wp2;go_ret;exact⟨⟨_,rfl⟩,hb⟩
     ·have q3:decide (z>1000000)=false:=by simp;omega
      have q4:decide (1000000<z)=false:=by simp;omega
      go_wp2;go_ret;exact⟨⟨_,rfl⟩,hb⟩
def TreesV (W:World)(l:List Tree)(v:Value):Prop:=∃ A c,v=.slice A l.length c/\(l.length<=c/\c<=9223372036854775807)/\(l≠[]->∃ b o,A=some ⟨b,o,none⟩/\b<W.heap.size/\AllAt W l b o)
theorem rangeT {W:World}{l:List Tree}{b o:Nat}(h:AllAt W l b o){j:Nat}(hj:j<l.length):∃ A n c,Tree.At W l[j] (.agg (reL l[j].kind l[j].set A n c l[j].lo l[j].hi).toArray)/\W.rangeAt b (o+j*8) (reL l[j].kind l[j].set A n c l[j].lo l[j].hi):=by
 obtain⟨cs,hcat,hlen,hrow⟩:=AllAt.get l b o h j hj;obtain⟨A',n',c',rfl⟩:=hcat.eight;exact⟨A',n',c',hcat,hrow⟩
end
end Go.Proofs.Ythoaaginadjaoaa
