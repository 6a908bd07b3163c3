/-
 hackleref08's Build: a contract. Condition: each rule may be, at most 2^20 nodes; at most 2000 places.
-/
import Derived.Laws.ResultCell
import Derived.Test.YthoaaginadjaoaaQG42
namespace Go.Proofs.Ythoaaginadjaoaa
open Go.RowKit
attribute [local irreducible] FreeW textFrame
set_option maxRecDepth 20000 in
set_option maxHeartbeats 16000000 in
theorem xzqj (l:List Tree)(h40:l.length<=40)(hok:∀ t∈l,t.ok=true)(hnod:∀ t∈l,t.nodes<=1048576)(hsN:sumN l<=2000)(A:Option Addr)(c:Nat)(w:World)(hat:l≠[]->∃ b o,A=some ⟨b,o,none⟩/\AllAt w l b o):
 Calls Try.prog 13 #[.slice A l.length c] w fun x w'=>∃ v,x=.returned v/\NfaAt w' (buildN l) v/\Below w.heap.size w w':=by
 have hz1:(Try.prog.info? 42).isSome=true:=by kernel_rfl
 have HAT:=zd (fun(j:Nat) (hj:j<l.length)=>(show ∃ b o,A=some ⟨b,o,none⟩/\∃ cs:List Value,Tree.At w l[j] (.agg cs.toArray)/\cs.length=8/\w.rangeAt b (o+j*8) cs from by
  obtain⟨b,o,e,hall⟩:=hat (by intro e;rw [e]at hj;simp at hj)
  exact⟨b,o,e,AllAt.get l b o hall j hj⟩))
 have HOT:=zd (fun(j:Nat) (hj:j<l.length)=>xzvd l[j] (hok _ (List.getElem_mem hj)) (hnod _ (List.getElem_mem hj)))
 have HBR:=zd (fun(j:Nat) (hj:j<l.length)=>(show _/\_/\_/\_ from
  ⟨(xzqe l hok j (by omega)).ln,(xztm (xzqe l hok j (by omega)) l[j] (fun y hy=>hok y (List.mem_of_mem_take hy)) (hok _ (List.getElem_mem hj)) ((0:Int)+((l.take j).length:Nat))).2,
    (show Bs.all Bs.none 0 (l.take (j+1))=(Bs.all Bs.none 0 (l.take j)).add (0+((l.take j).length:Nat)) l[j]by rw [List.take_succ_eq_append_getElem hj,Bs.all_snoc]),
    (show(outs (l.take (j+1)) 0).1=(outs (l.take j) 0).1++[(outT l[j] (sumN (l.take j))).1]/\sumN (l.take (j+1))=sumN (l.take j)+(l[j]).plN/\sumN (l.take j)+(l[j]).plN<=2000 by
     have h1:=xzdm l (j+1);have h2:=(outs_n (l.take j) 0 (xzey _ fun y hy=>hok y (List.mem_of_mem_take hy))).1;rw [List.take_succ_eq_append_getElem hj]at h1 ⊢;rw [xzdl]at h1 ⊢;rw [xzfq,h2,Nat.zero_add]
     exact⟨rfl,rfl,by omega⟩)⟩))
 have HOK:=zd (And.intro hok hsN);clear hat hok hnod hsN
 go_enter Try.func13,Try.ntmps13
 go_wp2
 have hA:BldA w (((w.alloc (.cells #[.slice none 0 0,.slice none 0 0,.slice none 0 0,.slice none 0 0,.slice none 0 0,.int .i64 0] 42)).alloc (.cells #[.slice none 0 0,.slice none 0 0,.slice none 0 0,.slice none 0 0,.slice none 0 0,.int .i64 (-1)] 42)).alloc (.cells #[.int .i64 0] 3)) 0 0 (-1) [] [] (.slice none 0 0) (.slice none 0 0):=by
  refine⟨(((Below.refl _ _).alloc (Nat.le_refl _) _).alloc (by rw [World.size_alloc];omega) _).alloc (by simp only [World.size_alloc];omega) _,((BlkIs.new w _ _).alloc _).alloc _,?_,?_,⟨[],World.ownsRow_nil _ _ _ _,NdL.nil _⟩,RowI.nil _ _,by simp only [World.size_alloc];omega⟩
  ·have:=(BlkIs.new (w.alloc (.cells #[.slice none 0 0,.slice none 0 0,.slice none 0 0,.slice none 0 0,.slice none 0 0,.int .i64 0] 42)) 42 #[.slice none 0 0,.slice none 0 0,.slice none 0 0,.slice none 0 0,.slice none 0 0,.int .i64 (-1)]).alloc (.cells #[.int .i64 0] 3)
   simpa only [World.size_alloc]using this
  ·have:=BlkIs.new ((w.alloc (.cells #[.slice none 0 0,.slice none 0 0,.slice none 0 0,.slice none 0 0,.slice none 0 0,.int .i64 0] 42)).alloc (.cells #[.slice none 0 0,.slice none 0 0,.slice none 0 0,.slice none 0 0,.slice none 0 0,.int .i64 (-1)] 42)) 3 #[.int .i64 0]
   simp only [World.size_alloc]at this;exact this
 have HA:=zd hA;clear hA
 go_loopw [5,6] (fun r i wr=>∃ (j:Nat) (vr:Value),i=.int .i64 j/\j<=l.length/\Hid (BldA w wr j (sumN (l.take j)) (Bs.all Bs.none 0 (l.take j)).em (Bs.all Bs.none 0 (l.take j)).R (outs (l.take j) 0).1 r vr)) (fun _ i _=>l.length - (intOf i).toNat)
 case atStart=>exact⟨0,_,rfl,Nat.zero_le _,HA⟩
 case round=>
  obtain⟨j,vr,rfl,hj,HH⟩:=hrel;clear HA
  by_cases hp:j<l.length
  ·have hk1:IntKind.i64.wrap ((j:Int)+1)=((j+1:Nat):Int):=by rw [IntKind.wrap_i64];omega
   have hdl:decide ((j:Int)<(l.length:Int))=true:=by simp;omega
   have hji:(j:Int)<(l.length:Int):=by omega
   obtain⟨b,o,rfl,cs,hcat,hlen,hrow⟩:=HAT.out j hp;obtain⟨A',n',c',rfl⟩:=hcat.eight;obtain⟨r0,r1,r2,r3,r4,r5,r6,r7⟩:=xzaj (W':=wr) (fun i x hi=>(HH.out.below.cell (World.block_lt_of_cell? w _ (hrow i x hi))).trans (hrow i x hi)) (Below.refl _ _);have c2:=HH.out.b2.cell 0;have hcx:=HOT.out j hp _ wr (w.heap.size+2) (sumN (l.take j)) (Tree.At.step HH.out.below _ hcat) HH.out.b2 (by have:=(HBR.out j hp).2.2.2.2.2;omega);unfold OutsIs at hcx;have HCX:=zd hcx;clear hcx hcat hlen hrow;unfold reV reL at*
   go_wp2_with fail
   go_at_call 27
   refine HCX.out.mono ?_;rintro e u2 ⟨⟨x2,rfl,hx2⟩,ho2,hc2⟩;obtain⟨A2,rfl⟩:=hx2.form;clear r0 r1 r2 r3 r4 r5 r6 r7 c2;obtain⟨W9,hW9⟩:∃ W9,u2.alloc (.cells #[.pointer A2] 55)=W9:=⟨_,rfl⟩
   have hbA:Below u2.heap.size u2 W9:=by rw [<-hW9];exact(Below.refl _ _).alloc (Nat.le_refl _) _
   have hnewc:W9.cell? ⟨u2.heap.size,0,none⟩=some (.pointer A2):=by rw [<-hW9];exact(BlkIs.new u2 55 #[.pointer A2]).cell 0
   have hb9:=(HH.out.on ho2 hc2).step hbA;obtain⟨xs,hown9,hnd9⟩:=hb9.own;obtain⟨v5,W5,hrun,hown5,hgr⟩:=xzlr (c:=1) hown9 hnewc rfl (by omega) hb9.sz;have h5:=hb9.node (hx2.step hbA) hown9 hnd9 hown5 hgr;rw [<-(HBR.out j hp).2.2.2.1,<-(HBR.out j hp).2.2.2.2.1]at h5;have H5:=zd h5;have hlast:∃ ys A9,W5.ownsRow (w.heap.size+3) 55 1 v5 (j+1) (ys++[.pointer A9])/\ys.length=j:=⟨xs,A2,hown5,by have:=hown9.1;omega⟩;rw [<-hW9]at hrun;clear hbA hnewc hb9 hown9 hnd9 hown5 hgr h5 hlast hW9 ho2 hc2 hx2 HCX
   go_wp2_with(refine xzal rfl _ _ 54 54 rfl rfl rfl hrun ?_)
   clear hrun;obtain⟨Rj,hRj⟩:∃ Rj,(Bs.all Bs.none 0 (l.take j)).R=Rj:=⟨_,rfl⟩;obtain⟨ej,hej⟩:∃ ej,(Bs.all Bs.none 0 (l.take j)).em=ej:=⟨_,rfl⟩;obtain⟨m0,hm0⟩:∃ m0,sumN (l.take j)=m0:=⟨_,rfl⟩;obtain⟨m1,hm1⟩:∃ m1,sumN (l.take (j+1))=m1:=⟨_,rfl⟩
   have hm2:m1<=2000:=by have:=(HBR.out j hp).2.2.2.2;omega
   have hm3:m1=m0+(l[j]).plN:=by have:=(HBR.out j hp).2.2.2.2.1;omega
   have hRl:Rj.length<=2000:=by
    obtain⟨ps,hb⟩:=xzsg (l.take j) (fun y hy=>HOK.out.1 y (List.mem_of_mem_take hy));have h1:=hb.lr;have h2:=(HBR.out j hp).1;rw [<-hRj];omega
   rw [hRj,hej,hm1]at H5;have HNM:=zd (And.intro hRj (And.intro hej (And.intro hm0 (And.intro hm1 hm3))));rw [hm0];clear hRj hej hm0 hm1 hm3 HH
   go_loopw [8] (fun i wz=>∃ (q:Nat) (vq:Value),i=.int .i64 q/\m0<=q/\q<=m1/\Hid (BldA w wz (j+1) m1 ej (Rj++List.replicate (q - m0) (j:Int)) (outs (l.take (j+1)) 0).1 v5 vq)) (fun i _=>m1 - (intOf i).toNat)
   case atStart=>exact⟨m0,vr,rfl,Nat.le_refl _,by have:=HNM.out.2.2.2.2;omega,zd (by rw [Nat.sub_self,List.replicate_zero,List.append_nil];exact H5.out)⟩
   case round=>
    obtain⟨q,vq,rfl,hq0,hq1,HQ⟩:=hrel;clear H5;have c2:=HQ.out.b2.cell 0
    by_cases hqm:q<m1
    ·have hk2:IntKind.i64.wrap ((q:Int)+1)=((q+1:Nat):Int):=by rw [IntKind.wrap_i64];omega
     have hdq:decide ((q:Int)<(m1:Int))=true:=by simp;omega
     have c1:=HQ.out.b1.cell 1;obtain⟨W7,hW7⟩:∃ W7,wr.alloc (.cells #[.int .i64 (j:Int)] 3)=W7:=⟨_,rfl⟩
     have hbA:Below wr.heap.size wr W7:=by rw [<-hW7];exact(Below.refl _ _).alloc (Nat.le_refl _) _
     have hnewc:W7.cell? ⟨wr.heap.size,0,none⟩=some (.int .i64 (j:Int)):=by rw [<-hW7];exact(BlkIs.new wr 3 #[.int .i64 (j:Int)]).cell 0
     have h7:=HQ.out.step hbA
     obtain⟨v6,W6,hrun,hown6,hgr⟩:=RowI.pushes h7.rul h7.sz (b:=[(j:Int)]) (g:=wr.heap.size) (o:=0) (c:=1) ⟨⟨by simp,by omega⟩,fun i hi=>by
      obtain rfl:i=0:=by simp at hi;omega
      simpa using hnewc⟩ (by simp;omega)
     obtain⟨A6,c6,e6,_⟩:=xzak (show W6.ownsRow _ _ _ _ _ _ from hown6);obtain⟨n6,hn6⟩:∃ n6,n6=(Rj++List.replicate (q - m0) (j:Int)++[(j:Int)]).length:=⟨_,rfl⟩;rw [<-hn6]at e6;subst e6;clear hn6;have h6:=h7.rule hown6 hgr;rw [List.append_assoc,show List.replicate (q - m0) (j:Int)++[(j:Int)]=List.replicate (q+1 - m0) (j:Int)by rw [show q+1 - m0=q - m0+1 by omega,List.replicate_succ']]at h6;have H6:=zd h6;have hst:=(h7.b1.grown hgr (fun e=>by have:=(World.ownsRow.lt h7.rul _ e.symm).1;omega)).cell 1;have hsf:=(h7.b1.grown hgr (fun e=>by have:=(World.ownsRow.lt h7.rul _ e.symm).1;omega)).frozen 1;rw [<-hW7]at hrun;clear hbA hnewc h7 hown6 hgr h6 hW7 HQ
     go_wp2_with(refine xzal rfl _ _ 26 26 rfl rfl rfl hrun ?_)
     exact⟨⟨q+1,_,rfl,by omega,hqm,H6⟩,by simp [intOf];omega⟩
    ·have hdq:decide ((q:Int)<(m1:Int))=false:=by simp;omega
     obtain rfl:m1=q:=by omega
     have hadd:=(HBR.out j hp).2.2.1;have hem:=(HBR.out j hp).2.1
     have hlj:(0:Int)+((l.take j).length:Nat)=(j:Int):=by rw [List.length_take];omega
     rw [hlj]at hadd
     have hR':(Bs.all Bs.none 0 (l.take (j+1))).R=Rj++List.replicate (m1 - m0) (j:Int):=by
      rw [hadd,<-HNM.out.1]
      show _++List.replicate (l[j]).plN (j:Int)=_
      rw [show m1 - m0=(l[j]).plN by have:=HNM.out.2.2.2.2;omega]
     have hE':(Bs.all Bs.none 0 (l.take (j+1))).em=if(outT l[j] m0).1.em&&ej== -1 then(j:Int)else ej:=by
      rw [hadd,<-HNM.out.2.1,<-HNM.out.2.2.1,<-hem]
      rfl
     have hNs:=(HBR.out j hp).2.2.2.1;rw [HNM.out.2.2.1]at hNs;obtain⟨xs,g5,g6⟩:=HQ.out.own
     have hNl:(outs (l.take j) 0).1.length=j:=by
      have:=(outs_n (l.take j) 0 (xzey _ fun y hy=>HOK.out.1 y (List.mem_of_mem_take hy))).2;rw [this,List.length_take];omega
     obtain⟨AN,hx1,hx2⟩:=g6.2 j (by rw [hNs,List.length_append,hNl];simp);simp only [hNs,List.getElem_append_right (Nat.le_of_eq hNl),hNl,Nat.sub_self,List.getElem_cons_zero]at hx2;obtain⟨g,cap,e7,hg7,hnc,hcap,hrow⟩:=RowB.of g5 (Nat.succ_pos j);subst e7;have hrc:=hrow.at hx1;have HQ2:=HQ;rw [<-hR',<-HNM.out.2.2.2.1]at HQ2;have HEM:=zd (xzdi _ _ _ hx2);have c5:=HQ.out.b1.cell 5;have f5:=HQ.out.b1.frozen 5
     have hji2:(j:Int)<((j+1:Nat):Int):=by omega
     have hji3:(j:Int)<(j:Int)+1:=by omega
     clear hadd hem hlj hR' hNs g5 g6 hNl hx1 hx2 hrow hg7
     by_cases hej:ej= -1
     ·obtain⟨bm,hbm⟩:∃ bm,(outT l[j] m0).1.em=bm:=⟨_,rfl⟩
      rw [hbm]at HEM hE';subst hej
      cases bm with
      |true=>
       simp only [Bool.true_and,beq_self_eq_true,if_true]at hE';have HF:=zd (show BldA w (wr.setCell ⟨w.heap.size+1,5,none⟩ (.int .i64 (j:Int))) (j+1) (sumN (l.take (j+1))) (Bs.all Bs.none 0 (l.take (j+1))).em (Bs.all Bs.none 0 (l.take (j+1))).R (outs (l.take (j+1)) 0).1 _ vq from by rw [hE'];exact HQ2.out.emp);have HE:=zd hE';clear hE' HQ HQ2
       go_wp2_with(go_at_call 28;refine HEM.out.mono ?_;rintro e u9 ⟨rfl,rfl⟩)
       exact⟨⟨j+1,vq,rfl,hp,HF⟩,by simp [intOf];omega⟩
      |false=>
       simp only [Bool.false_and,Bool.false_eq_true,if_false]at hE';rw [<-hE']at HQ2;have HE:=zd hE';clear hE' HQ
       go_wp2_with(go_at_call 28;refine HEM.out.mono ?_;rintro e u9 ⟨rfl,rfl⟩)
       exact⟨⟨j+1,vq,rfl,hp,HQ2⟩,by simp [intOf];omega⟩
     ·have hb:(ej== -1)=false:=by simpa using hej
      rw [hb,Bool.and_false]at hE';simp only [Bool.false_eq_true,if_false]at hE'
      have hge:0<=ej:=by
       obtain⟨ps,hbs⟩:=xzsg (l.take j) (fun y hy=>HOK.out.1 y (List.mem_of_mem_take hy));have h1:=HNM.out.2.1
       rcases hbs.em with⟨e1,_⟩|⟨k,hk,e1,_⟩<;>omega
      have hde:decide (ej<0)=false:=by simp;omega
      rw [<-hE']at HQ2;have HE:=zd hE';clear hE' HQ hb hej;go_wp2;exact⟨⟨j+1,vq,rfl,hp,HQ2⟩,by simp [intOf];omega⟩
  ·have hdl:decide ((j:Int)<(l.length:Int))=false:=by simp;omega
   obtain rfl:j=l.length:=by omega
   have hh:=HH.out;rw [List.take_length]at hh;have HE:=zd hh;clear HH hh HAT HOT HBR;obtain⟨n,hn⟩:∃ n,sumN l=n:=⟨_,rfl⟩
   have hn2:n<=2000:=by have:=HOK.out.2;omega
   rw [hn]at HE;have HN:=zd hn;clear hn
   have hm1:=fun u=>xzst n (by omega) u
   have hm2:=fun u=>xzbd n (by omega) u
   have hm3:=fun u=>xzqg n (by omega) u
   have c2:=HE.out.b2.cell 0
   have c20:∀ o,(wr.alloc o).cell? ⟨w.heap.size+2,0,none⟩=some (.int .i64 (n:Int)):=fun o=>(HE.out.b2.alloc o).cell 0
   have c10:∀ o,(wr.alloc o).cell? ⟨w.heap.size+1,0,none⟩=some (.slice none 0 0):=fun o=>(HE.out.b1.alloc o).cell 0
   have f10:∀ o,(wr.alloc o).frozen? ⟨w.heap.size+1,0,none⟩=false:=fun o=>(HE.out.b1.alloc o).frozen 0
   have n21:w.heap.size+2≠w.heap.size+1:=by omega
   have c20b:∀ o v,((wr.alloc o).setCell ⟨w.heap.size+1,0,none⟩ v).cell? ⟨w.heap.size+2,0,none⟩=some (.int .i64 (n:Int)):=fun o v=>((HE.out.b2.alloc o).far n21 v).cell 0
   have c14:∀ o v o2,(((wr.alloc o).setCell ⟨w.heap.size+1,0,none⟩ v).alloc o2).cell? ⟨w.heap.size+1,4,none⟩=some (.slice none 0 0):=fun o v o2=>(((HE.out.b1.alloc o).put 0 v).alloc o2).cell 4
   have f14:∀ o v o2,(((wr.alloc o).setCell ⟨w.heap.size+1,0,none⟩ v).alloc o2).frozen? ⟨w.heap.size+1,4,none⟩=false:=fun o v o2=>(((HE.out.b1.alloc o).put 0 v).alloc o2).frozen 4
   have c20c:∀ o v o2 v2,((((wr.alloc o).setCell ⟨w.heap.size+1,0,none⟩ v).alloc o2).setCell ⟨w.heap.size+1,4,none⟩ v2).cell? ⟨w.heap.size+2,0,none⟩=some (.int .i64 (n:Int)):=fun o v o2 v2=>((((HE.out.b2.alloc o).far n21 v).alloc o2).far n21 v2).cell 0
   have c20d:∀ o v o2 v2 o3,(((((wr.alloc o).setCell ⟨w.heap.size+1,0,none⟩ v).alloc o2).setCell ⟨w.heap.size+1,4,none⟩ v2).alloc o3).cell? ⟨w.heap.size+2,0,none⟩=some (.int .i64 (n:Int)):=fun o v o2 v2 o3=>(((((HE.out.b2.alloc o).far n21 v).alloc o2).far n21 v2).alloc o3).cell 0
   have c20e:∀ o v o2 v2 o3 o4,((((((wr.alloc o).setCell ⟨w.heap.size+1,0,none⟩ v).alloc o2).setCell ⟨w.heap.size+1,4,none⟩ v2).alloc o3).alloc o4).cell? ⟨w.heap.size+2,0,none⟩=some (.int .i64 (n:Int)):=fun o v o2 v2 o3 o4=>((((((HE.out.b2.alloc o).far n21 v).alloc o2).far n21 v2).alloc o3).alloc o4).cell 0
   go_wp2;obtain⟨s,hs⟩:∃ s,wr.heap.size=s:=⟨_,rfl⟩;generalize hW6:World.alloc (World.alloc (World.setCell (World.alloc (World.setCell (World.alloc wr _) _ _) _) _ _) _) _=W6;have hMD:=BldA.made HE.out _ _ _ _ _ _ _ hW6;rw [hs,xzsu (fun k=>s+4+k) n]at hMD;rw [show wr.heap.size+1+1+1=s+3 by omega,show wr.heap.size+1+1=s+2 by omega]
   have hs3:w.heap.size+3<=s:=by have:=HE.out.sz;omega
   obtain⟨em,hem⟩:∃ em,(Bs.all Bs.none 0 l).em=em:=⟨_,rfl⟩;obtain⟨R,hR⟩:∃ R,(Bs.all Bs.none 0 l).R=R:=⟨_,rfl⟩;obtain⟨Ns,hNs⟩:∃ Ns,(outs l 0).1=Ns:=⟨_,rfl⟩;rw [hem,hR,hNs]at hMD;have HSP:=zd (And.intro hem (And.intro hR hNs));obtain⟨xs5,ho5,_⟩:=HE.out.own;obtain⟨A5,c5,rfl,hc5⟩:=xzak ho5;have HMD:=zd hMD;have HS3:=zd hs3;have hM0:BldM W6 W6 s n 0:=⟨On.refl _ _,hMD.2.2.2.2.2.2,hMD.2.2.2.2.2.1,fun k h=>absurd h (Nat.not_lt_zero _)⟩;have HM0:=zd hM0;clear hem hR hNs hMD hs hs3 hW6 hm1 hm3 c2 c20 c10 f10 n21 c20b c14 f14 c20c c20d c20e ho5 hM0 HE
   go_loopw [11] (fun i wz=>∃ q:Nat,i=.int .i64 q/\q<=n/\Hid (BldM W6 wz s n q)) (fun i _=>n - (intOf i).toNat)
   case atStart=>exact⟨0,rfl,Nat.zero_le _,HM0⟩
   case round=>
    obtain⟨q,rfl,hq,HH3⟩:=hrel;clear HM0;have c2:=(HH3.out.on.blk (by have:=HS3.out;omega) HMD.out.1.b2).cell 0
    by_cases hqn:q<n
    ·have hk2:IntKind.i64.wrap ((q:Int)+1)=((q+1:Nat):Int):=by rw [IntKind.wrap_i64];omega
     have hdq:decide ((q:Int)<(n:Int))=true:=by simp;omega
     have hi2:(q:Int)<(n:Int):=by omega
     have r3:∀ o,(wr.alloc o).cell? ⟨s+3,q,none⟩=some (.slice none 0 0):=fun o=>((HH3.out.row.alloc o).cell q).trans (xzvj _ (Nat.le_refl _) hqn)
     have f3:∀ o,(wr.alloc o).frozen? ⟨s+3,q,none⟩=false:=fun o=>(HH3.out.row.alloc o).frozen q
     go_wp2;exact⟨⟨q+1,rfl,hqn,zd (HH3.out.more hqn)⟩,by simp [intOf];omega⟩
    ·have hdq:decide ((q:Int)<(n:Int))=false:=by simp;omega
     obtain rfl:n=q:=by omega
     have hD:=BldM.done HH3.out HS3.out HMD.out.1 HMD.out.2.1 HMD.out.2.2.1 HMD.out.2.2.2.1 HMD.out.2.2.2.2.1 HMD.out.2.2.2.2.2.1;have HD0:=zd (show BldD w wr s n l.length em R Ns (.slice A5 l.length c5) vr (sq (Ns.take 0) (List.replicate n no8)) (fun q=>(Ns.take 0).any fun N=>N.fi q) (fun q=>(Ns.take 0).any fun N=>N.la q) (fun p q=>(Ns.take 0).any fun N=>N.pr p q)from hD);clear hD HH3 HMD;have hokT:=xzey l HOK.out.1
     have hrng:=fun N hN=>xzmz (outs_rng l 0 hokT N hN)
     rw [HSP.out.2.2,Nat.zero_add,HN.out]at hrng;have hNl:=(outs_n l 0 hokT).2;rw [HSP.out.2.2]at hNl;have HRG:=zd hrng;have HNL:=zd hNl;clear hokT hrng hNl;go_wp2
     go_loopw [12] (fun i wz=>∃ j:Nat,i=.int .i64 j/\j<=l.length/\Hid (BldD w wz s n l.length em R Ns (.slice A5 l.length c5) vr (sq (Ns.take j) (List.replicate n no8)) (fun q=>(Ns.take j).any fun N=>N.fi q) (fun q=>(Ns.take j).any fun N=>N.la q) (fun p q=>(Ns.take j).any fun N=>N.pr p q))) (fun i _=>l.length - (intOf i).toNat)
     case atStart=>exact⟨0,rfl,Nat.zero_le _,HD0⟩
     case round=>
      obtain⟨j,rfl,hj,HD⟩:=hrel;clear HD0
      by_cases hp:j<l.length
      ·have hk1:IntKind.i64.wrap ((j:Int)+1)=((j+1:Nat):Int):=by rw [IntKind.wrap_i64];omega
       have hdl:decide ((j:Int)<(l.length:Int))=true:=by simp;omega
       have hji:(j:Int)<(l.length:Int):=by omega
       obtain⟨g,c,e5⟩:=HD.out.form (by omega)
       obtain⟨rfl,rfl⟩:A5=some ⟨g,0,none⟩/\c5=c:=by injection e5 with a _ b;exact⟨a,b⟩
       clear e5
       have hjN:j<Ns.length:=by rw [HNL.out];exact hp
       have hin:=HRG.out _ (List.getElem_mem hjN);have HT:=zd (show Ns.take (j+1)=Ns.take j++[Ns[j]]from List.take_succ_eq_append_getElem hjN);have HND:=zd (fun(u:World) L fi la G (h:BldD w u s n l.length em R Ns (.slice (some ⟨g,0,none⟩) l.length c5) vr L fi la G)=>h.node hjN (by omega));obtain⟨N,hN⟩:∃ N,Ns[j]=N:=⟨_,rfl⟩;rw [hN]at hin HT HND;have HIN:=zd hin;clear hN hin hjN;obtain⟨A1,hc1,hb1⟩:=HND.out _ _ _ _ _ HD.out;have hc2:=HD.out.b1.cell 0;have HLT:=zd (And.intro (World.block_lt_of_cell? wr _ hc1) (World.block_lt_of_cell? wr _ hc2));have HC1:=zd hc1;have HC2:=zd hc2;have HB1:=zd hb1;clear hc1 hc2 hb1
       go_wp2_with fail
       refine xzat 6 6 125 (fun u=>Hid (Below wr.heap.size wr u)) (fun _=>#[]) (fun _=>0) (by kernel_rfl) (by kernel_rfl) rfl (zd (Below.refl _ _).drew) (fun u u' h hb=>zd (h.out.trans (hb.mono h.out.size))) (fun i o h1 h2=>absurd h1 (by omega)) ?_;simp only [List.take_succ_cons,List.take_zero,List.drop_succ_cons,List.drop_zero]
       repeat
        refine xzae fun K hK=>?_
        go_simp
        apply Exists.intro
        refine⟨fun u h1=>?_,hK _ ?_⟩
        ·have q1:=(h1.out.cell (p:=⟨g,j,none⟩) HLT.out.1).trans HC1.out
         have q2:=(h1.out.cell (p:=⟨w.heap.size+1,0,none⟩) HLT.out.2).trans HC2.out;unfold freeAt;go_simp;exact xzah
        clear hK K
       refine xzay ?_;intro gg u2 hC hb2 _ _;have HW2:=zd (And.intro (HD.out.step hC.out) (HB1.out.step hC.out));clear hC hb2;rw [Nat.sub_self,List.take_zero];unfold putNews;have hcs:=xzsl n N _ u2 s _ HW2.out.1.ln HW2.out.2 HIN.out HW2.out.1.sets;unfold SetsIs at hcs;have HCS:=zd hcs;clear hcs
       go_wp2_with fail
       go_at_call 29
       refine HCS.out.mono ?_;rintro e u3 ⟨⟨x3,rfl⟩,ho3,hb3⟩;have HD3:=zd (HW2.out.1.set ho3 hb3 (by rw [xzgm];exact HW2.out.1.ln));clear ho3 hb3 HCS HW2 HB1 HC1 HC2 HLT HD;obtain⟨A2,hc1,hbu⟩:=HND.out _ _ _ _ _ HD3.out;have hcs:=xzev n false N _ u3 (s+2) _ hbu HIN.out HD3.out.first;unfold RimIs at hcs;have HCS:=zd hcs;clear hcs hbu
       go_wp2_with fail
       go_at_call 30
       refine HCS.out.mono ?_;rintro e u4 ⟨⟨x4,rfl⟩,ho4,hb4⟩;have HD:=zd (HD3.out.begin ho4 hb4);clear ho4 hb4 HCS HD3 hc1;obtain⟨wr,rfl⟩:∃ wr,wr=u4:=⟨_,rfl⟩;obtain⟨A1,hc1,hb1⟩:=HND.out _ _ _ _ _ HD.out;have hc2:=HD.out.b1.cell 4;have HLT:=zd (And.intro (World.block_lt_of_cell? wr _ hc1) (World.block_lt_of_cell? wr _ hc2));have HC1:=zd hc1;have HC2:=zd hc2;have HB1:=zd hb1;clear hc1 hc2 hb1
       go_wp2_with fail
       refine xzat 6 6 125 (fun u=>Hid (Below wr.heap.size wr u)) (fun _=>#[]) (fun _=>0) (by kernel_rfl) (by kernel_rfl) rfl (zd (Below.refl _ _).drew) (fun u u' h hb=>zd (h.out.trans (hb.mono h.out.size))) (fun i o h1 h2=>absurd h1 (by omega)) ?_;simp only [List.take_succ_cons,List.take_zero,List.drop_succ_cons,List.drop_zero]
       repeat
        refine xzae fun K hK=>?_
        go_simp
        apply Exists.intro
        refine⟨fun u h1=>?_,hK _ ?_⟩
        ·have q1:=(h1.out.cell (p:=⟨g,j,none⟩) HLT.out.1).trans HC1.out
         have q2:=(h1.out.cell (p:=⟨w.heap.size+1,4,none⟩) HLT.out.2).trans HC2.out;unfold freeAt;go_simp;exact xzah
        clear hK K
       refine xzay ?_;intro gg u2 hC hb2 _ _;have HW2:=zd (And.intro (HD.out.step hC.out) (HB1.out.step hC.out));clear hC hb2;rw [Nat.sub_self,List.take_zero];unfold putNews;have hcs:=xzev n true N _ u2 (s+1) _ HW2.out.2 HIN.out HW2.out.1.ends;unfold RimIs at hcs;have HCS:=zd hcs;clear hcs
       go_wp2_with fail
       go_at_call 30
       refine HCS.out.mono ?_;rintro e u5 ⟨⟨x5,rfl⟩,ho5,hb5⟩;have HD5:=zd (HW2.out.1.close ho5 hb5);clear ho5 hb5 HCS HW2 HB1 HC1 HC2 HLT HD;obtain⟨A3,hc1,hbu⟩:=HND.out _ _ _ _ _ HD5.out;have hcs:=xzpy n (s+3) (fun k=>s+4+k) (by omega) N _ u5 _ hbu HIN.out HD5.out.mat;unfold PairsIs at hcs;have HCS:=zd hcs;clear hcs hbu
       go_wp2_with fail
       go_at_call 31
       refine HCS.out.mono ?_;rintro e u6 ⟨⟨x6,rfl⟩,ho6,hm6⟩;have hd6:=HD5.out.pair ho6 hm6
       have HD6:=zd (show BldD w u6 s n l.length em R Ns (.slice (some ⟨g,0,none⟩) l.length c5) vr (sq (Ns.take (j+1)) (List.replicate n no8)) (fun q=>(Ns.take (j+1)).any fun N=>N.fi q) (fun q=>(Ns.take (j+1)).any fun N=>N.la q) (fun p q=>(Ns.take (j+1)).any fun N=>N.pr p q)from by
        rw [HT.out,sq_snoc];simp only [xzvi]
        exact hd6)
       clear ho6 hm6 hd6 HCS HD5 hc1;go_wp2;exact⟨⟨j+1,rfl,hp,HD6⟩,by simp [intOf];omega⟩
      ·have hdl:decide ((j:Int)<(l.length:Int))=false:=by simp;omega
       obtain rfl:j=l.length:=by omega
       have hd:=HD.out;rw [List.take_of_length_le (by rw [HNL.out];exact Nat.le_refl _)]at hd;obtain⟨L,hL⟩:∃ L,sq Ns (List.replicate n no8)=L:=⟨_,rfl⟩;obtain⟨fi,hfi⟩:∃ fi:Nat->Bool,(fun q=>Ns.any fun N=>N.fi q)=fi:=⟨_,rfl⟩;obtain⟨la,hla⟩:∃ la:Nat->Bool,(fun q=>Ns.any fun N=>N.la q)=la:=⟨_,rfl⟩;obtain⟨G,hG⟩:∃ G:Nat->Nat->Bool,(fun p q=>Ns.any fun N=>N.pr p q)=G:=⟨_,rfl⟩;rw [hL,hfi,hla,hG]at hd;have HD4:=zd hd;have HQ:=zd (And.intro hL (And.intro hfi (And.intro hla hG)));have hcl:=xzjp ((List.range n).map fi) _ wr (xzcv hd.first (by omega)) (by simp;omega);rw [xzgn]at hcl;have HCL:=zd hcl;clear hL hfi hla hG hd hcl HD
       go_wp2_with fail
       go_at_call 32
       refine HCL.out.mono ?_;rintro e u7 ⟨v7,rfl,hr7,hb7⟩;obtain⟨A7,c7,rfl,_⟩:=xzak (show u7.ownsRow _ _ _ _ _ _ from hr7);obtain⟨n7,hn7⟩:∃ n7,(numsF n fi).length=n7:=⟨_,rfl⟩;rw [hn7]at hr7;rw [hn7];have hb1:=HD4.out.b1.step hb7;have c2:=hb1.cell 2;have f2:=hb1.frozen 2;obtain⟨wy,hwy⟩:∃ wy,u7.setCell ⟨w.heap.size+1,2,none⟩ (.slice A7 n7 c7)=wy:=⟨_,rfl⟩
       have hoy:On (w.heap.size+1) wr wy:=by rw [<-hwy];exact(On.of hb7).trans (On.put _)
       have hby:=hb1.put 2 (.slice A7 n7 c7)
       rw [hwy]at hby
       have hsr:=HD4.out.bse.sz
       have hry:RowI wr.heap.size wy (.slice A7 n7 c7) (numsF n fi):=by
        rw [<-hwy]
        refine xzaq (show u7.ownsRow _ _ _ _ _ _ from hr7) fun k hk=>Below.heap_setCell _ _ _ _ ?_
        have:=(World.ownsRow.lt (show u7.ownsRow _ _ _ _ _ _ from hr7) k hk).1
        show k≠w.heap.size+1
        omega
       have HY:=zd (And.intro (HD4.out.turn hoy) (hry.lowB hsr));have HF0:=zd (show BldF w wy wy s n 0 em vr (.slice A7 n7 c7) (.slice none 0 0) (fun p=>numsF n (G p))from⟨On.refl _ _,by simpa using hby,Nat.le_trans hsr hoy.size,[],World.ownsRow_nil _ _ _ _,RwL.nil _ _ _⟩);have HLN:=zd HD4.out.ln;clear hr7 hb7 hn7 hb1 hoy hby hsr hry HD4 HCL;go_wp2;clear hwy c2 f2
       go_loopw [13] (fun i wz=>∃ (q:Nat) (vfo:Value),i=.int .i64 q/\q<=n/\Hid (BldF w wy wz s n q em vr (.slice A7 n7 c7) vfo (fun p=>numsF n (G p)))) (fun i _=>n - (intOf i).toNat)
       case atStart=>exact⟨0,_,rfl,Nat.zero_le _,HF0⟩
       case round=>
        obtain⟨q,vfo,rfl,hq,HF⟩:=hrel;clear HF0;have hs3:=HS3.out;have c2:=(HF.out.on.blk (by omega) HY.out.1.1.b2).cell 0
        by_cases hqn:q<n
        ·have hk2:IntKind.i64.wrap ((q:Int)+1)=((q+1:Nat):Int):=by rw [IntKind.wrap_i64];omega
         have hdq:decide ((q:Int)<(n:Int))=true:=by simp;omega
         have hi2:(q:Int)<(n:Int):=by omega
         have hm:=HY.out.1.2.2.2.on HF.out.on (by omega) fun i _=>by omega
         have d1:=HF.out.b1.cell 3;have d2:=hm.at hqn;have HLC:=zd (And.intro (World.block_lt_of_cell? wr _ d1) (World.block_lt_of_cell? wr _ d2));have HDD:=zd (And.intro d1 d2);have hcl:=xzjp ((List.range n).map (G q)) _ wr.drew (xzcv (hm.cell q hqn).drew (by omega)) (by simp;omega);rw [xzgn]at hcl;have HCL:=zd hcl;have HLO:=zd HF.out.on.size;have HMT:=zd (fun(u:World) (h:BldF w wy u s n q em vr (.slice A7 n7 c7) vfo (fun p=>numsF n (G p)))=>HY.out.1.2.2.2.on h.on (by omega) fun i _=>by omega);have HI2:=zd hi2;have HNQ:=zd (show n<=2000/\q<n by omega);have HFV:=zd (fun(u:World) (h:BldF w wy u s n q em vr (.slice A7 n7 c7) vfo (fun p=>numsF n (G p)))=>(show ∃ xs,u.ownsRow wy.heap.size 26 1 vfo q xs from by obtain⟨xs,h1,_⟩:=h.own;exact⟨xs,h1⟩));clear hm d1 d2 hcl hs3 HLC HDD HCL HLO hqn hq;have HP0:=zd (show(0:Int)<=(q:Int)by omega)
         go_wp2_with fail
         refine xzan 10 125 (fun u=>Hid (BldF w wy u s n q em vr (.slice A7 n7 c7) vfo (fun p=>numsF n (G p)))) (fun i u u'=>(i=8->TurnF vfo u u'/\BldF w wy u' s n q em vr (.slice A7 n7 c7) vfo (fun p=>numsF n (G p)))/\(i≠8->Below u.heap.size u u'))
          (fun i v u=>match i with
           |0=>v=.pointer (some ⟨w.heap.size+1,3,none⟩)
           |1=>v=vfo
           |2=>v=.slice (some ⟨s+3,0,none⟩) n n
           |3=>v=.int .i64 (q:Nat)
           |4=>v=.pointer (some ⟨s+3,q,none⟩)
           |5=>v=.slice (some ⟨s+4+q,0,none⟩) n n
           |6=>RowI wy.heap.size u v (numsF n (G q))
           |7=>∃ g x,v=.slice (some ⟨g,0,none⟩) 1 1/\BlkIs u g 26 #[x]/\vfo.ownBlock≠some g/\RowI wy.heap.size u x (numsF n (G q))
           |8=>∃ A c,v=.slice A (q+1) c/\∃ ys,u.ownsRow wy.heap.size 26 1 (.slice A (q+1) c) (q+1) ys/\RwL u wy.heap.size (q+1) (fun p=>numsF n (G p)) ys
           |9=>v=.pointer (some ⟨w.heap.size+1,3,none⟩)
           |_=>True) (by kernel_rfl) (by kernel_rfl) rfl (zd (HF.out.step (Below.refl _ _).drew)) ?_ ?_ ?_ ?_
         ·intro i u u' hix hC hr
          by_cases ej:i=8
          ·exact zd (hr.1 ej).2
          ·exact zd (hC.out.step (hr.2 ej))
         ·intro i j v u u' hix hj hne hv hr
          match i,hix,hne,hv with
          |0,_,_,hv=>exact hv
          |1,_,_,hv=>exact hv
          |2,_,_,hv=>exact hv
          |3,_,_,hv=>exact hv
          |4,_,_,hv=>exact hv
          |5,_,_,hv=>exact hv
          |6,_,hne,hv=>
           by_cases ej:j=8
           ·exact hv.turnF ((hr.1 ej).1)
           ·exact hv.step (hr.2 ej)
          |7,_,hne,hv=>
           obtain⟨g,x,e,h1,h2,h3⟩:=hv
           by_cases ej:j=8
           ·exact⟨g,x,e,((hr.1 ej).1).1.blk (fun e2=>h2 e2) h1,h2,h3.turnF ((hr.1 ej).1)⟩
           ·exact⟨g,x,e,h1.step (hr.2 ej),h2,h3.step (hr.2 ej)⟩
          |8,_,hne,hv=>
           obtain⟨A,c,e,ys,h1,h2⟩:=hv;have hb:=hr.2 (fun e=>hne e.symm);exact⟨A,c,e,ys,xzaq h1 fun k hk=>hb.block k (World.ownsRow.lt h1 k hk).2,h2.step hb⟩
          |9,_,_,hv=>exact hv
          |i+10,hix,_,_=>omega
         ·intro i hix vs u hC hw oq ho
          match i,hix,hw,ho with
          |0,_,hw,ho=>
           simp only [zq,zh]at ho;subst ho;refine⟨rfl,?_⟩
           have q1:u.cell? ⟨w.heap.size+1,3,none⟩=some vfo:=by simpa using hC.out.b1.cell 3
           have q2:=(HMT.out u hC.out).at HNQ.out.2;clear hw;simp only [xzaa,tmpsTo];go_simp;exact xzab (Below.refl _ _) rfl
          |1,_,hw,ho=>
           have e0:vs 0=.pointer (some ⟨w.heap.size+1,3,none⟩):=hw 0 (by omega) (by kernel_rfl);simp only [zq,zh]at ho;subst ho;refine⟨rfl,?_⟩
           have q1:u.cell? ⟨w.heap.size+1,3,none⟩=some vfo:=by simpa using hC.out.b1.cell 3
           have q2:=(HMT.out u hC.out).at HNQ.out.2;clear hw;simp only [xzaa,tmpsTo,putT,zr];rw [e0];clear e0;go_simp;exact xzab (Below.refl _ _) rfl
          |2,_,hw,ho=>
           simp only [zq,zh]at ho;subst ho;refine⟨rfl,?_⟩
           have q1:u.cell? ⟨w.heap.size+1,3,none⟩=some vfo:=by simpa using hC.out.b1.cell 3
           have q2:=(HMT.out u hC.out).at HNQ.out.2;clear hw;simp only [xzaa,tmpsTo,putT,zr];go_simp;exact xzab (Below.refl _ _) rfl
          |3,_,hw,ho=>
           simp only [zq,zh]at ho;subst ho;refine⟨rfl,?_⟩
           have q1:u.cell? ⟨w.heap.size+1,3,none⟩=some vfo:=by simpa using hC.out.b1.cell 3
           have q2:=(HMT.out u hC.out).at HNQ.out.2;clear hw;simp only [xzaa,tmpsTo,putT,zr];go_simp;exact xzab (Below.refl _ _) rfl
          |4,_,hw,ho=>
           have e2:vs 2=.slice (some ⟨s+3,0,none⟩) n n:=hw 2 (by omega) (by kernel_rfl);have e3:vs 3=.int .i64 (q:Nat):=hw 3 (by omega) (by kernel_rfl);simp only [zq,zh]at ho;subst ho;refine⟨rfl,?_⟩
           have q1:u.cell? ⟨w.heap.size+1,3,none⟩=some vfo:=by simpa using hC.out.b1.cell 3
           have q2:=(HMT.out u hC.out).at HNQ.out.2;clear hw;simp only [xzaa,tmpsTo,putT,zr];rw [e2,e3];clear e2 e3;have hi2:=HI2.out;have hp0:=HP0.out;go_simp;exact xzab (Below.refl _ _) rfl
          |5,_,hw,ho=>
           have e4:vs 4=.pointer (some ⟨s+3,q,none⟩):=hw 4 (by omega) (by kernel_rfl);simp only [zq,zh]at ho;subst ho;refine⟨rfl,?_⟩
           have q1:u.cell? ⟨w.heap.size+1,3,none⟩=some vfo:=by simpa using hC.out.b1.cell 3
           have q2:=(HMT.out u hC.out).at HNQ.out.2;clear hw;simp only [xzaa,tmpsTo,putT,zr];rw [e4];clear e4;go_simp;exact xzab (Below.refl _ _) rfl
          |6,_,hw,ho=>
           have e5:vs 5=.slice (some ⟨s+4+q,0,none⟩) n n:=hw 5 (by omega) (by kernel_rfl);simp only [zq,zh]at ho;subst ho;refine⟨rfl,?_⟩
           have q1:u.cell? ⟨w.heap.size+1,3,none⟩=some vfo:=by simpa using hC.out.b1.cell 3
           have q2:=(HMT.out u hC.out).at HNQ.out.2;clear hw;simp only [xzaa,tmpsTo,putT,zr];rw [e5];clear e5;go_simp;have hcl:=xzjp ((List.range n).map (G q)) _ u (xzcv ((HMT.out u hC.out).cell q HNQ.out.2) (by have:=HNQ.out.1;omega)) (by simp;have:=HNQ.out.1;omega);rw [xzgn]at hcl;have hos:=hC.out.on.size;refine xzbv (hcl.mono ?_);rintro e u' ⟨v',rfl,hr',hb'⟩;exact⟨_,rfl,hb',hr'.lowB hos⟩
          |7,_,hw,ho=>
           have e6:RowI wy.heap.size u (vs 6) (numsF n (G q)):=hw 6 (by omega) (by kernel_rfl);simp only [zq,zh]at ho;subst ho;refine⟨rfl,?_⟩
           have q1:u.cell? ⟨w.heap.size+1,3,none⟩=some vfo:=by simpa using hC.out.b1.cell 3
           have q2:=(HMT.out u hC.out).at HNQ.out.2;clear hw;simp only [xzaa,tmpsTo,putT,zr];obtain⟨A6,c6,f6,_⟩:=xzak (show u.ownsRow _ _ _ _ _ _ from e6);rw [f6]at e6;rw [f6];obtain⟨k6,hk6⟩:∃ k6,(numsF n (G q)).length=k6:=⟨_,rfl⟩;rw [hk6]at e6;rw [hk6];go_simp;have hbu:Below u.heap.size u (u.alloc (.cells #[.slice A6 k6 c6] 26)):=(Below.refl _ _).alloc (Nat.le_refl _) _;refine xzab hbu ⟨_,rfl,_,BlkIs.new u _ _,fun e=>?_,e6.step hbu⟩;obtain⟨xs,hxs⟩:=HFV.out u hC.out;have:=(World.ownsRow.lt hxs _ e).2;omega
          |8,_,hw,ho=>
           have e1:vs 1=vfo:=hw 1 (by omega) (by kernel_rfl);obtain⟨g7,x7,f7,h71,h72,h73⟩:=hw 7 (by omega) (by kernel_rfl);simp only [zq,zh]at ho;subst ho;refine⟨rfl,?_⟩
           have q1:u.cell? ⟨w.heap.size+1,3,none⟩=some vfo:=by simpa using hC.out.b1.cell 3
           have q2:=(HMT.out u hC.out).at HNQ.out.2;clear hw;simp only [xzaa,tmpsTo,putT,zr];rw [e1];clear e1;rw [f7];obtain⟨A8,c8,U8,hrun,hF8,ht8,ys,h81,h82⟩:=hC.out.append (c:=1) h71 h73 (by have:=HNQ.out;omega);rw [xzdx (v:=vfo) (xv:=.slice (some ⟨g7,0,none⟩) 1 1) _ _ 27 27 rfl rfl rfl hrun];exact xzab ⟨fun _=>⟨ht8,hF8⟩,fun e=>absurd rfl e⟩ ⟨A8,c8,rfl,ys,h81,h82⟩
          |9,_,hw,ho=>
           simp only [zq,zh]at ho;subst ho;refine⟨rfl,?_⟩
           have q1:u.cell? ⟨w.heap.size+1,3,none⟩=some vfo:=by simpa using hC.out.b1.cell 3
           have q2:=(HMT.out u hC.out).at HNQ.out.2;clear hw;simp only [xzaa,tmpsTo,putT,zr];go_simp;exact xzab (Below.refl _ _) rfl
          |i+10,hix,_,_=>omega
         intro vs u hC hV;have e9:vs 9=_:=hV 9 (by omega);obtain⟨A9,c9,e8,ys,h8,h9⟩:=hV 8 (by omega);have HST:=zd (hC.out.stored h8 h9);have d3:=hC.out.b1.cell 3;have f3:=hC.out.b1.frozen 3;clear hV h8 h9 hC;simp only [xzaa,tmpsTo,putT,zr,List.drop_succ_cons,List.drop_zero];rw [e8,e9];clear e8 e9;go_wp2;exact⟨⟨q+1,_,rfl,HNQ.out.2,HST⟩,by simp [intOf];omega⟩
        ·have hdq:decide ((q:Int)<(n:Int))=false:=by simp;omega
         obtain rfl:n=q:=by omega
         obtain⟨d0,d1,d2,d3,d4,d5⟩:=six HF.out.b1;obtain⟨xf,hof,hrf⟩:=HF.out.own;obtain⟨Af,cf,rfl,_⟩:=xzak hof;obtain⟨xr,cr,rfl,_⟩:=xzak (show wy.ownsRow _ _ _ _ _ _ from HY.out.1.1.rul);have hb0:=HF.out.on.blk (by omega) HY.out.1.1.b0;have hth:World.there wr w.heap.size 0 ([Value.slice (some ⟨s,0,none⟩) n n,.slice xr R.length cr,.slice A7 n7 c7,.slice Af n cf,.slice (some ⟨s+1,0,none⟩) n n,.int .i64 em]).toArray.size:=hb0.there
         have hal:([Value.slice (some ⟨s,0,none⟩) n n,.slice xr R.length cr,.slice A7 n7 c7,.slice Af n cf,.slice (some ⟨s+1,0,none⟩) n n,.int .i64 em]).toArray.all (·.oneCell')=true:=by simp [Value.oneCell']
         have hin:(Try.prog.info? 42).map (·.size)=some ([Value.slice (some ⟨s,0,none⟩) n n,.slice xr R.length cr,.slice A7 n7 c7,.slice Af n cf,.slice (some ⟨s+1,0,none⟩) n n,.int .i64 em]).toArray.size:=xzhw;have hfl:=hb0.fill (new:=([Value.slice (some ⟨s,0,none⟩) n n,.slice xr R.length cr,.slice A7 n7 c7,.slice Af n cf,.slice (some ⟨s+1,0,none⟩) n n,.int .i64 em]).toArray) rfl;have hl:=xzqi hfl;have hou:On w.heap.size wr (wr.setCells w.heap.size 0 [Value.slice (some ⟨s,0,none⟩) n n,.slice xr R.length cr,.slice A7 n7 c7,.slice Af n cf,.slice (some ⟨s+1,0,none⟩) n n,.int .i64 em]):=On.cells _ _ _;have hbel:Below w.heap.size w (wr.setCells w.heap.size 0 [Value.slice (some ⟨s,0,none⟩) n n,.slice xr R.length cr,.slice A7 n7 c7,.slice Af n cf,.slice (some ⟨s+1,0,none⟩) n n,.int .i64 em]):=hou.below (HF.out.on.below HY.out.1.1.below (Nat.le_refl _) (by omega)) (Nat.le_refl _) (Nat.le_refl _)
         have hN:NfaAt (wr.setCells w.heap.size 0 [Value.slice (some ⟨s,0,none⟩) n n,.slice xr R.length cr,.slice A7 n7 c7,.slice Af n cf,.slice (some ⟨s+1,0,none⟩) n n,.int .i64 em]) (buildN l) (.agg #[.slice (some ⟨s,0,none⟩) n n,.slice xr R.length cr,.slice A7 n7 c7,.slice Af n cf,.slice (some ⟨s+1,0,none⟩) n n,.int .i64 em]):=by
          obtain⟨b1,b2,b3,b4,b5⟩:=xzna l HOK.out.1;have hokT:=xzey l HOK.out.1;have hpt:=outs_puts l 0 hokT (List.replicate n no8) (by rw [setsL_len l hokT,List.length_replicate,HN.out];omega);rw [HSP.out.2.2,HQ.out.1]at hpt
          have hLs:L=setsL l:=by
           rw [hpt,List.take_zero,List.nil_append,List.drop_of_length_le (by rw [setsL_len l hokT,List.length_replicate,HN.out];omega),List.append_nil]
          rw [HSP.out.2.2,HN.out]at b3 b4 b5
          have e3:numsF n fi=(buildN l).first:=by rw [<-b3,<-HQ.out.2.1]
          have e4:(List.range n).map la=(buildN l).ends:=by rw [<-b4,<-HQ.out.2.2.1]
          have e5:((List.range n).map fun p=>numsF n (G p))=(buildN l).follow:=by rw [<-b5,<-HQ.out.2.2.2]
          have hlow:∀ {v:Value} {ll:List Int},RowI (w.heap.size+3) wy v ll->IntsV (wr.setCells w.heap.size 0 [Value.slice (some ⟨s,0,none⟩) n n,.slice xr R.length cr,.slice A7 n7 c7,.slice Af n cf,.slice (some ⟨s+1,0,none⟩) n n,.int .i64 em]) ll v:=fun {v ll} h=>by
           have h1:RowI (w.heap.size+3) wr v ll:=xzaq (show wy.ownsRow _ _ _ _ _ _ from h) fun k hk=>HF.out.on.block k (World.ownsRow.lt (show wy.ownsRow _ _ _ _ _ _ from h) k hk).2 (by have:=(World.ownsRow.lt (show wy.ownsRow _ _ _ _ _ _ from h) k hk).1;omega)
           have h2:RowI (w.heap.size+3) (wr.setCells w.heap.size 0 [Value.slice (some ⟨s,0,none⟩) n n,.slice xr R.length cr,.slice A7 n7 c7,.slice Af n cf,.slice (some ⟨s+1,0,none⟩) n n,.int .i64 em]) v ll:=xzaq (show wr.ownsRow _ _ _ _ _ _ from h1) fun k hk=>hou.block k (World.ownsRow.lt (show wr.ownsRow _ _ _ _ _ _ from h1) k hk).2 (by have:=(World.ownsRow.lt (show wr.ownsRow _ _ _ _ _ _ from h1) k hk).1;omega)
           exact h2.ints
          have hwy:=HF.out.lo;refine⟨_,_,_,_,_,by rw [show(buildN l).empty=em from HSP.out.1],?_,?_,?_,?_,?_⟩
          ·rw [b1,<-hLs]
           exact xznb (hou.blk (by omega) (HF.out.on.blk (by omega) HY.out.1.2.1)) HLN.out (by omega)
          ·rw [show(buildN l).rules=R from HSP.out.2.1]
           exact hlow HY.out.1.1.rul
          ·rw [<-e3];exact hlow HY.out.2
          ·rw [<-e5]
           exact xznc (xzaq hof fun k hk=>hou.block k (World.ownsRow.lt hof k hk).2 (by have:=(World.ownsRow.lt hof k hk).1;omega)) (hrf.kept fun k cs hk hb=>hou.block k hb.lt (by omega))
          ·rw [<-e4]
           exact xzcv (hou.blk (by omega) (HF.out.on.blk (by omega) HY.out.1.2.2.1)) (by omega)
         have HFIN:=zd (And.intro hN hbel);clear hN hbel hou hfl hrf hof
         go_wp2_with((with_reducible refine wpList_store_mid ?_ 42 (.tmp 2) (.tmp 124) ?_ w.heap.size 0 ([Value.slice (some ⟨s,0,none⟩) n n,.slice xr R.length cr,.slice A7 n7 c7,.slice Af n cf,.slice (some ⟨s+1,0,none⟩) n n,.int .i64 em]).toArray ?_ ?_ hth hin hal ?_);exact rfl;exact rfl;exact rfl;exact rfl)
         exact⟨rfl,_,xzaf rfl rfl hl,_,rfl,HFIN.out.1,HFIN.out.2⟩
end Go.Proofs.Ythoaaginadjaoaa
