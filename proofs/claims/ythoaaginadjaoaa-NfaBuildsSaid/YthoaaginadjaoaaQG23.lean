/-
 WHAT nfa's add ANSWERS: its walk. Condition: at most 2^20 places.
-/
import Derived.Test.YthoaaginadjaoaaQG22
namespace Go.Proofs.Ythoaaginadjaoaa
open Go.RowKit
attribute [local irreducible] FreeW textFrame
def marksE:List Bool->List Int->List Bool
 |E,[]=>E
 |E,x::l=>marksE (E.set x.toNat true) l
theorem xzhf (x:Int):∀ (l:List Int) (E:List Bool),marksE E (l++[x])=(marksE E l).set x.toNat true
 |[],E=>rfl
 |y::l,E=>by simp only [List.cons_append,marksE,xzhf x l]
theorem xzdh:∀ (l:List Int) (E:List Bool),(marksE E l).length=E.length
 |[],E=>rfl
 |y::l,E=>by simp only [marksE,xzdh l,List.length_set]
theorem xzoq {α:Type}(l:List α)(x:α)(j:Nat):l++List.replicate j x++[x]=l++List.replicate (j+1) x:=by
 rw [List.append_assoc,List.replicate_succ']
theorem AddI.cells {B:Nat}{w W:World}{M K:Nat->Bool}{pb:Nat}{S:Mk}{R F:List Int}{E:List Bool}{em:Int}{r f e:Value}{b:Nat}{p:Prt}{p1 p2:Value}(h:AddI B w W M K pb S R F E em r f e b p p1 p2):
 ∃ A0 c0 A1 c1 A2 c2 A3 c3 A4 c4,r=.slice A1 R.length c1/\f=.slice A2 F.length c2/\e=.slice A4 E.length c4/\BlkIs W pb 51 #[.slice A0 S.sets.length c0,.slice A1 R.length c1,.slice A2 F.length c2,.slice A3 S.follow.length c3,.slice A4 E.length c4,.int .i64 em]:=by
 obtain⟨vs,vf,ws,hmk⟩:=h.fk.mka;obtain⟨A0,c0,rfl,_⟩:=xzak hmk.own0;obtain⟨A3,c3,rfl,_⟩:=xzak hmk.own3;obtain⟨A1,c1,rfl,_⟩:=xzak h.fk.rr;obtain⟨A2,c2,rfl,_⟩:=xzak h.fk.rf;obtain⟨A4,c4,rfl,_⟩:=xzak h.fk.re;exact⟨A0,c0,A1,c1,A2,c2,A3,c3,A4,c4,rfl,rfl,rfl,hmk.blk⟩
set_option maxRecDepth 20000 in
set_option maxHeartbeats 16000000 in
theorem add_any (T:Tree)(HP:PartIs T)(hok:T.okT)(B pb:Nat)(i:Int)(S:Mk)(R F:List Int)(E:List Bool)(em:Int)(r f e:Value)(M K:Nat->Bool)(v:Value)(w:World)(h:FkI M K w pb S R F E em r f e)(hb:FkB B w M K w r f e)(hB:B<=w.heap.size)
 (hat:T.At (hide w M) v)(hS:S.Ok)(hR:R.length=S.sets.length)(hE:E.length=S.sets.length)(hF:F.length<=1048576)(hn:S.sets.length+T.plN<=1048576):
 Calls Try.prog 20 #[.pointer (some ⟨pb,0,none⟩),.int .i64 i,v] w fun x w'=>∃ y,x=.returned y/\∃ M' K' r' f' e',FkI M' K' w' pb (partP T S).1 (R++List.replicate T.plN i) (F++(partP T S).2.first) (marksE (E++List.replicate T.plN false) (partP T S).2.ends) (if(partP T S).2.empty&&em== -1 then i else em) r' f' e'/\FkB B w M' K' w' r' f' e':=by
 obtain⟨A,n,c,rfl⟩:∃ A n c,v=reV T.kind T.set A n c T.lo T.hi:=by
  cases T with
  |node k m l lo hi=>
   obtain⟨A,c,e,_,_⟩:=hat.open;exact⟨A,l.length,c,e⟩
 have hbx:Below w.heap.size w (w.alloc (.cells (reL T.kind T.set A n c T.lo T.hi).toArray 39)):=(Below.refl _ _).alloc (Nat.le_refl _) _;have hx:=BlkIs.new w 39 (reL T.kind T.set A n c T.lo T.hi).toArray;obtain⟨hpo1,hpo2,hpo3⟩:=xzbj T S hok hS;have HC:=zd (HP M K S _ pb r f e (.int .i64 em) _ (h.mka.step hbx) (hat.sub (xzad _ hbx)) hS hn (fun k hk=>Nat.lt_of_lt_of_le (hb.mm k hk).2 hbx.size) (fun k hk=>Nat.lt_of_lt_of_le (hb.kk k hk) hbx.size));have H0:=zd (And.intro (h.step hbx) (And.intro (hb.step hbx hB) hbx));have HO:=zd (And.intro hpo1 hpo2);have HKW:=zd hb.kk;obtain⟨d0,d1,d2,d3,d4,d5,d6,d7⟩:=hx.eight
 have hsz:(w.alloc (.cells (reL T.kind T.set A n c T.lo T.hi).toArray 39)).heap.size=w.heap.size+1:=by simp
 obtain⟨W1,hW1⟩:∃ W1,w.alloc (.cells (reL T.kind T.set A n c T.lo T.hi).toArray 39)=W1:=⟨_,rfl⟩;rw [hW1]at H0 HC hsz d0 d1 d2 d3 d4 d5 d6 d7;have HSZ:=zd hsz;unfold reV reL at*;clear hbx hx h hb hat hS hok HP hsz hpo1 hpo2;generalize partP T S=TS at*;generalize T.plN=d at*;have HEQ:=zd (And.intro hR (And.intro hE (And.intro hpo3 hn)));clear hR hE hpo3 hn;generalize T.kind=kx at*;generalize T.set=mx at*;generalize T.lo=lx at*;generalize T.hi=hxx at*;obtain⟨EM,hEM⟩:∃ EM,EM=(if TS.2.empty&&em== -1 then i else em):=⟨_,rfl⟩;rw [<-hEM];have HEM:=zd hEM;clear hEM
 go_enter Try.func20,Try.ntmps20
 go_wp2_with fail
 go_at_call 39
 refine HC.out.mono ?_;rintro x u1 ⟨M1,v1,rfl,hnx,hlt1,hmk,p1,p2,rfl,hp1,hp2⟩;obtain⟨Y1,y1,rfl,_⟩:=hp1.form;obtain⟨Y2,y2,rfl,_⟩:=hp2.form;obtain⟨U2,hU2⟩:∃ U2,u1.alloc (.cells #[.slice Y1 TS.2.first.length y1,.slice Y2 TS.2.ends.length y2,.bool TS.2.empty] 73)=U2:=⟨_,rfl⟩
 have hb2:Below u1.heap.size u1 U2:=by rw [<-hU2];exact(Below.refl _ _).alloc (Nat.le_refl _) _
 have hf2:BlkIs U2 u1.heap.size 73 #[.slice Y1 TS.2.first.length y1,.slice Y2 TS.2.ends.length y2,.bool TS.2.empty]:=by rw [<-hU2];exact BlkIs.new _ _ _
 have hsz1:w.heap.size+1<=u1.heap.size:=by have:=hnx.size;have:=HSZ.out;omega
 have hadd:AddI B w U2 M1 K pb TS.1 R F E em r f e u1.heap.size TS.2 (.slice Y1 TS.2.first.length y1) (.slice Y2 TS.2.ends.length y2):=by
  have hm1:∀ k,M1 k=true->B<=k:=fun k hk=>by
   rcases Nat.lt_or_ge k W1.heap.size with g|g
   ·rw [hnx.mine k g]at hk;exact(H0.out.2.1.mm k hk).1
   ·have:=HSZ.out;omega
  exact⟨(H0.out.1.part hnx hmk).step hb2,⟨H0.out.2.1.low.trans ((hnx.low (by have:=HSZ.out;omega) fun k hk=>(H0.out.2.1.mm k hk).1).trans (hb2.mono (by omega))),fun k hk=>⟨hm1 k hk,Nat.lt_of_lt_of_le (hlt1 k hk) hb2.size⟩,fun k hk=>by have:=HKW.out k hk;have:=hf2.lt;omega,H0.out.2.1.r0,H0.out.2.1.f0,H0.out.2.1.e0⟩,hf2,hp1.sub (xzad _ hb2),hp2.sub (xzad _ hb2),
   by omega,by rw [Bool.eq_false_iff];intro e;have:=HKW.out _ e;omega,by rw [Bool.eq_false_iff];intro e;have:=hlt1 _ e;omega⟩
 have HA:=zd hadd;have HB1:=zd hsz1;clear hnx hlt1 hmk hp1 hp2 hb2 hf2 hsz1 hadd d0 d1 d2 d3 d4 d5 d6 d7;go_wp2
 go_loopw [] (fun wr=>Hid (∃ (j:Nat) (K1:Nat->Bool) (r1 e1:Value),j<=d/\AddI B w wr M1 K1 pb TS.1 (R++List.replicate j i) F (E++List.replicate j false) em r1 f e1 u1.heap.size TS.2 (.slice Y1 TS.2.first.length y1) (.slice Y2 TS.2.ends.length y2))) (fun wr=>TS.1.sets.length - lenV ((wr.cell? ⟨pb,1,none⟩).getD undef))
 case atStart=>exact zd ⟨0,K,r,e,Nat.zero_le _,by simpa using HA.out⟩
 case round=>
  obtain⟨j,K1,r1,e1,hj,hai⟩:=hrel.out;clear hrel;obtain⟨A0,c0,A1,c1,A2,c2,A3,c3,A4,c4,rfl,rfl,rfl,hblk⟩:=hai.cells
  have eR:(R++List.replicate j i).length=R.length+j:=by simp
  have eE:(E++List.replicate j false).length=E.length+j:=by simp
  rw [eR,eE]at hblk;rw [eR,eE]at hai;obtain⟨k0,k1,k2,k3,k4,k5⟩:=six hblk;have HAI:=zd hai
  by_cases hp:j<d
  ·have hdl:decide (((R.length+j:Nat):Int)<(TS.1.sets.length:Int))=true:=by have:=HEQ.out;simp;omega
   clear hai;simp only [Int.natCast_add]at hdl;go_wp2
   go_quiet (fail)
   have hq:=HAI.out.step (xzbb (Below.refl wr.heap.size wr) nq)
   have hRE:R.length+j+1<=1099511627776/\E.length+j+1<=1099511627776:=by have:=HEQ.out;omega
   obtain⟨r',U,hrun,⟨K2,hA2⟩,⟨Ar,cr,rfl⟩,hUk⟩:=hq.rule i (by rw [eR];exact hRE.1);rw [eR]at hrun hA2;obtain⟨vs5,vf5,ws5,hmk5⟩:=hq.fk.mka;have hq0:BlkIs (wr.drewN nq) pb 51 #[.slice A0 TS.1.sets.length c0,.slice A1 (R.length+j) c1,.slice A2 F.length c2,.slice A3 TS.1.follow.length c3,.slice A4 (E.length+j) c4,.int .i64 em]:=hblk;have hbU:BlkIs U pb 51 _:=(hUk pb hmk5.mine hmk5.blk.lt).trans hq0;obtain⟨U1,hU1⟩:∃ U1,U.setCell ⟨pb,1,none⟩ (.slice Ar (R.length+j+1) cr)=U1:=⟨_,rfl⟩;rw [hU1]at hA2
   have hbU1:BlkIs U1 pb 51 #[.slice A0 TS.1.sets.length c0,.slice Ar (R.length+j+1) cr,.slice A2 F.length c2,.slice A3 TS.1.follow.length c3,.slice A4 (E.length+j) c4,.int .i64 em]:=by rw [<-hU1];exact hbU.put 1 _
   obtain⟨e',U',hrun2,⟨K3,hA3⟩,⟨Ae,ce,rfl⟩,hUk2⟩:=hA2.end' (by rw [eE];exact hRE.2);rw [eE]at hrun2 hA3;obtain⟨vs6,vf6,ws6,hmk6⟩:=hA2.fk.mka;have hbU':BlkIs U' pb 51 _:=(hUk2 pb hmk6.mine hmk6.blk.lt).trans hbU1;have hfc:(U'.setCell ⟨pb,4,none⟩ (.slice Ae (E.length+j+1) ce)).cell? ⟨pb,1,none⟩=some (.slice Ar (R.length+j+1) cr):=(hbU'.put 4 (.slice Ae (E.length+j+1) ce)).cell 1;have HF:=zd (And.intro hA3 (And.intro hfc k1));obtain⟨g0,g1,g2,g3,g4,g5⟩:=six hbU;obtain⟨l0,l1,l2,l3,l4,l5⟩:=six hbU1;obtain⟨o0,o1,o2,o3,o4,o5⟩:=six hbU';have fz1:=hbU.frozen 1;have fz4:=hbU'.frozen 4;obtain⟨m0,m1,m2,m3,m4,m5⟩:=six hq0;clear hq hA2 hUk hmk5 hq0 hbU hbU1 hUk2 hmk6 hbU' hA3 hfc eR eE
   go_wp2_with(first|(refine xzal rfl _ _ 26 26 rfl rfl rfl hrun ?_)|(refine xzal rfl _ _ 28 28 rfl rfl rfl hrun2 ?_))
   refine⟨zd ⟨j+1,K3,_,_,hp,by rw [<-xzoq,<-xzoq];exact HF.out.1⟩,?_⟩;rw [HF.out.2.1,HF.out.2.2];have:=HEQ.out
   simp [lenV];omega
  ·obtain rfl:j=d:=by omega
   have hdl:decide (((R.length+j:Nat):Int)<(TS.1.sets.length:Int))=false:=by have:=HEQ.out;simp;omega
   obtain⟨y0,y1',y2',_,_,_⟩:=three hai.pt;clear hai eR eE hp hj;simp only [Int.natCast_add]at hdl
   have hst:∀ q,Below wr.heap.size wr (wr.drewN q):=fun q=>xzbb (Below.refl _ _) q
   go_wp2
   go_quiet (fail)
   obtain⟨V1,hV1⟩:∃ V1,V1=wr.drewN nq:=⟨_,rfl⟩;have hai1:=HAI.out.step (hst nq);have hb1:BlkIs (wr.drewN nq) pb 51 _:=hblk.step (hst nq);have HA1:=zd (And.intro hai1 hb1);obtain⟨z0,z1,z2,_,_,_⟩:=three hai1.pt;clear hai1 hb1 hblk HAI hst;go_wp2
   go_loopw [52] (fun s wz=>∃ q:Nat,s=.int .i64 q/\q<=TS.2.ends.length/\Hid (∃ EE,EE=marksE (E++List.replicate j false) (TS.2.ends.take q)/\AddI B w wz M1 K1 pb TS.1 (R++List.replicate j i) F EE em (.slice A1 (R.length+j) c1) (.slice A2 F.length c2) (.slice A4 (E.length+j) c4) u1.heap.size TS.2 (.slice Y1 TS.2.first.length y1) (.slice Y2 TS.2.ends.length y2)/\
    BlkIs wz pb 51 #[.slice A0 TS.1.sets.length c0,.slice A1 (R.length+j) c1,.slice A2 F.length c2,.slice A3 TS.1.follow.length c3,.slice A4 (E.length+j) c4,.int .i64 em])) (fun s _=>TS.2.ends.length - (intOf s).toNat)
   case atStart=>exact⟨0,rfl,Nat.zero_le _,zd ⟨_,rfl,by simpa [marksE]using HA1.out.1,HA1.out.2⟩⟩
   case round=>
    obtain⟨q,rfl,hq,HH⟩:=hrel;obtain⟨EE,hEE,hai,hbk⟩:=HH.out;clear HH;obtain⟨k0,k1,k2,k3,k4,k5⟩:=six hbk
    have hEl:EE.length=E.length+j:=by rw [hEE,xzdh];simp
    by_cases hp:q<TS.2.ends.length
    ·have hk1:IntKind.i64.wrap ((q:Int)+1)=((q+1:Nat):Int):=by rw [IntKind.wrap_i64];omega
     have hdl:decide ((q:Int)<(TS.2.ends.length:Int))=true:=by simp;omega
     obtain⟨b2,o2,c2',h1,hre⟩:=hai.h2.run (by intro e;rw [e]at hp;simp at hp)
     injection h1 with h1 _ h2
     subst h1 h2;have hcell:=xzar _ _ (hre.2 q hp);have hx:=xzau HO.out.2.2 _ (List.getElem_mem hp)
     have hsn:marksE (E++List.replicate j false) (TS.2.ends.take (q+1))=EE.set (TS.2.ends[q]).toNat true:=by rw [List.take_succ_eq_append_getElem hp,xzhf,hEE]
     generalize TS.2.ends[q]=x at*;obtain⟨xn,rfl⟩:=Int.eq_ofNat_of_zero_le (show 0<=x by omega)
     have hxn:xn<E.length+j:=by have:=HEQ.out;omega
     have hxi:(xn:Int)<((E.length+j:Nat):Int):=by omega
     simp only [Int.natCast_add]at hxi;rw [Int.toNat_natCast]at hsn
     obtain⟨g,rfl⟩:∃ g,A4=some ⟨g,0,none⟩:=by
      rcases hai.fk.re.2 with⟨h1,_⟩|⟨g,_,_,h1,_⟩
      ·injection h1 with _ h1;omega
      ·injection h1 with h1;exact⟨g,h1⟩
     have hown:=hai.fk.re;rw [hEl]at hown;have hce:wr.cell? ⟨g,xn,none⟩=(EE.map Value.bool)[xn]? :=World.ownsRow.cellAt hown xn (by omega);have hfz:=World.ownsRow.frozenAt hown xn;rw [List.getElem?_map,List.getElem?_eq_getElem (by omega),Option.map_some]at hce;have hm:=hai.mark xn;have hg:=hai.fk.be g rfl;obtain⟨_,_,_,hmk9⟩:=hai.fk.mka;have hbk2:BlkIs (wr.setCell ⟨g,xn,none⟩ (.bool true)) pb 51 _:=hbk.far (p:=⟨g,xn,none⟩) (fun e=>by have e:pb=g:=e;have:=hg.2;rw [<-e,hmk9.mine]at this;cases this) _;have HM:=zd (And.intro hsn (And.intro hm hbk2));clear hai hbk hre hown hm hbk2 hsn hEE hg hmk9 z0 z1 z2;go_wp2;exact⟨⟨q+1,rfl,hp,zd ⟨_,HM.out.1.symm,HM.out.2.1,HM.out.2.2⟩⟩,by simp [intOf];omega⟩
    ·obtain rfl:q=TS.2.ends.length:=by omega
     have hdl:decide ((TS.2.ends.length:Int)<(TS.2.ends.length:Int))=false:=by simp
     rw [List.take_length]at hEE;have HEE:=zd hEE;have HA4:=zd (And.intro hai hbk);have HLF:=zd (show F.length+TS.2.first.length<=2097152 by have h1:=xzai HO.out.2.1;have:=HEQ.out;omega);clear z0 z1 z2;obtain⟨z0,z1,z2,_,_,_⟩:=three hai.pt;clear hai hbk hEE hEl
     go_wp2_with fail
     refine xzan 13 92 (fun u=>Hid (AddI B w u M1 K1 pb TS.1 (R++List.replicate j i) F EE em (.slice A1 (R.length+j) c1) (.slice A2 F.length c2) (.slice A4 (E.length+j) c4) u1.heap.size TS.2 (.slice Y1 TS.2.first.length y1) (.slice Y2 TS.2.ends.length y2)/\BlkIs u pb 51 #[.slice A0 TS.1.sets.length c0,.slice A1 (R.length+j) c1,.slice A2 F.length c2,.slice A3 TS.1.follow.length c3,.slice A4 (E.length+j) c4,.int .i64 em]/\wr.grownBy u (Value.slice A2 F.length c2).ownBlock)) (fun i u u'=>(i=9->u.grownBy u' (Value.slice A2 F.length c2).ownBlock/\u'.ownsRow 0 3 1 (.slice A2 F.length c2) F.length (F.map (Value.int .i64)))/\(i≠9->u'=u))
      (fun i v u=>match i with
       |0=>v=.pointer (some ⟨pb,0,none⟩)
       |1=>v=.pointer (some ⟨pb,0,none⟩)
       |2=>v=.pointer (some ⟨pb,0,none⟩)
       |3=>v=.pointer (some ⟨pb,0,none⟩)
       |4=>v=.pointer (some ⟨pb,2,none⟩)
       |5=>v=.slice A2 F.length c2
       |6=>v=.pointer (some ⟨u1.heap.size,0,none⟩)
       |7=>v=.pointer (some ⟨u1.heap.size,0,none⟩)
       |8=>v=.slice Y1 TS.2.first.length y1
       |9=>u.ownsRow 0 3 1 v (F.length+TS.2.first.length) (F.map (Value.int .i64)++TS.2.first.map (Value.int .i64))/\(v.ownBlock=(Value.slice A2 F.length c2).ownBlock\/ ∃ g,v.ownBlock=some g/\wr.heap.size<=g/\g<u.heap.size)
       |10=>v=.pointer (some ⟨pb,0,none⟩)
       |11=>v=.pointer (some ⟨pb,0,none⟩)
       |12=>v=.pointer (some ⟨pb,2,none⟩)
       |_=>True) (by kernel_rfl) (by kernel_rfl) rfl (zd ⟨HA4.out.1.step (Below.refl _ _).drew,HA4.out.2.drew,⟨rfl,rfl,rfl,Nat.le_refl _,fun _ _ _=>rfl⟩⟩) ?_ ?_ ?_ ?_
     ·intro i u u' hix hC hr
      by_cases hi9:i=9
      ·obtain⟨g1,g2⟩:=hr.1 hi9
       obtain⟨_,_,_,hmk9⟩:=hC.out.1.fk.mka;exact zd ⟨hC.out.1.grownF g1 g2,(g1.block _ hC.out.2.1.lt (fun e=>by have:=(hC.out.1.fk.bf _ e.symm).2;rw [hmk9.mine]at this;cases this)).trans hC.out.2.1,hC.out.2.2.trans g1⟩
      ·rw [hr.2 hi9];exact hC
     ·intro i j v u u' hix hj hne hv hr
      match i,hix,hne,hv with
      |0,_,_,hv=>exact hv
      |1,_,_,hv=>exact hv
      |2,_,_,hv=>exact hv
      |3,_,_,hv=>exact hv
      |4,_,_,hv=>exact hv
      |5,_,_,hv=>exact hv
      |6,_,_,hv=>exact hv
      |7,_,_,hv=>exact hv
      |8,_,_,hv=>exact hv
      |9,_,hne,hv=>
       have hj9:=hr.2 (Ne.symm hne);subst hj9;exact hv
      |10,_,_,hv=>exact hv
      |11,_,_,hv=>exact hv
      |12,_,_,hv=>exact hv
      |i+13,hix,_,_=>omega
     ·intro i hix vs u hC hw oq ho
      match i,hix,hw,ho with
      |0,_,hw,ho=>
       simp only [zq,zh]at ho;subst ho;refine⟨rfl,?_⟩;obtain⟨k0,k1,k2,k3,k4,k5⟩:=six hC.out.2.1;obtain⟨y0,y1',y2',_,_,_⟩:=three hC.out.1.pt;clear hw;simp only [xzaa,tmpsTo];go_simp;exact xzab (rfl) rfl
      |1,_,hw,ho=>
       simp only [zq,zh]at ho;subst ho;refine⟨rfl,?_⟩;obtain⟨k0,k1,k2,k3,k4,k5⟩:=six hC.out.2.1;obtain⟨y0,y1',y2',_,_,_⟩:=three hC.out.1.pt;clear hw;simp only [xzaa,tmpsTo,putT,zr];go_simp;exact xzab (rfl) rfl
      |2,_,hw,ho=>
       have e1:vs 1=.pointer (some ⟨pb,0,none⟩):=hw 1 (by omega) (by kernel_rfl);simp only [zq,zh]at ho;subst ho;refine⟨rfl,?_⟩;obtain⟨k0,k1,k2,k3,k4,k5⟩:=six hC.out.2.1;obtain⟨y0,y1',y2',_,_,_⟩:=three hC.out.1.pt;clear hw;simp only [xzaa,tmpsTo,putT,zr];rw [e1];clear e1;go_simp;exact xzab (rfl) rfl
      |3,_,hw,ho=>
       have e2:vs 2=.pointer (some ⟨pb,0,none⟩):=hw 2 (by omega) (by kernel_rfl);simp only [zq,zh]at ho;subst ho;refine⟨rfl,?_⟩;obtain⟨k0,k1,k2,k3,k4,k5⟩:=six hC.out.2.1;obtain⟨y0,y1',y2',_,_,_⟩:=three hC.out.1.pt;clear hw;simp only [xzaa,tmpsTo,putT,zr];rw [e2];clear e2;go_simp;exact xzab (rfl) rfl
      |4,_,hw,ho=>
       have e3:vs 3=.pointer (some ⟨pb,0,none⟩):=hw 3 (by omega) (by kernel_rfl);simp only [zq,zh]at ho;subst ho;refine⟨rfl,?_⟩;obtain⟨k0,k1,k2,k3,k4,k5⟩:=six hC.out.2.1;obtain⟨y0,y1',y2',_,_,_⟩:=three hC.out.1.pt;clear hw;simp only [xzaa,tmpsTo,putT,zr];rw [e3];clear e3;go_simp;exact xzab (rfl) rfl
      |5,_,hw,ho=>
       have e4:vs 4=.pointer (some ⟨pb,2,none⟩):=hw 4 (by omega) (by kernel_rfl);simp only [zq,zh]at ho;subst ho;refine⟨rfl,?_⟩;obtain⟨k0,k1,k2,k3,k4,k5⟩:=six hC.out.2.1;obtain⟨y0,y1',y2',_,_,_⟩:=three hC.out.1.pt;clear hw;simp only [xzaa,tmpsTo,putT,zr];rw [e4];clear e4;go_simp;exact xzab (rfl) rfl
      |6,_,hw,ho=>
       simp only [zq,zh]at ho;subst ho;refine⟨rfl,?_⟩;obtain⟨k0,k1,k2,k3,k4,k5⟩:=six hC.out.2.1;obtain⟨y0,y1',y2',_,_,_⟩:=three hC.out.1.pt;clear hw;simp only [xzaa,tmpsTo,putT,zr];go_simp;exact xzab (rfl) rfl
      |7,_,hw,ho=>
       have e6:vs 6=.pointer (some ⟨u1.heap.size,0,none⟩):=hw 6 (by omega) (by kernel_rfl);simp only [zq,zh]at ho;subst ho;refine⟨rfl,?_⟩;obtain⟨k0,k1,k2,k3,k4,k5⟩:=six hC.out.2.1;obtain⟨y0,y1',y2',_,_,_⟩:=three hC.out.1.pt;clear hw;simp only [xzaa,tmpsTo,putT,zr];rw [e6];clear e6;go_simp;exact xzab (rfl) rfl
      |8,_,hw,ho=>
       have e7:vs 7=.pointer (some ⟨u1.heap.size,0,none⟩):=hw 7 (by omega) (by kernel_rfl);simp only [zq,zh]at ho;subst ho;refine⟨rfl,?_⟩;obtain⟨k0,k1,k2,k3,k4,k5⟩:=six hC.out.2.1;obtain⟨y0,y1',y2',_,_,_⟩:=three hC.out.1.pt;clear hw;simp only [xzaa,tmpsTo,putT,zr];rw [e7];clear e7;go_simp;exact xzab (rfl) rfl
      |9,_,hw,ho=>
       have e5:vs 5=.slice A2 F.length c2:=hw 5 (by omega) (by kernel_rfl);have e8:vs 8=.slice Y1 TS.2.first.length y1:=hw 8 (by omega) (by kernel_rfl);simp only [zq,zh]at ho;subst ho;refine⟨rfl,?_⟩;obtain⟨k0,k1,k2,k3,k4,k5⟩:=six hC.out.2.1;obtain⟨y0,y1',y2',_,_,_⟩:=three hC.out.1.pt;clear hw;simp only [xzaa,tmpsTo,putT,zr];rw [e5,e8];clear e5 e8;obtain⟨v',W',hrun,k1,k2,k3,k4⟩:=xzhe hC.out.1.fk.rf hC.out.1.h1.bare (by have:=HLF.out;omega);rw [xzdx (.tmp 69) (.tmp 72) 26 26 rfl rfl rfl hrun];refine xzab ?_ ?_
       ·exact⟨fun _=>⟨k2,k3⟩,fun h=>absurd rfl h⟩
       ·refine⟨k1,?_⟩
        rcases k4 with k4|k4
        ·exact .inl k4
        ·exact .inr ⟨_,k4,hC.out.2.2.size,(World.ownsRow.lt k1 _ k4).2⟩
      |10,_,hw,ho=>
       have e0:vs 0=.pointer (some ⟨pb,0,none⟩):=hw 0 (by omega) (by kernel_rfl);simp only [zq,zh]at ho;subst ho;refine⟨rfl,?_⟩;obtain⟨k0,k1,k2,k3,k4,k5⟩:=six hC.out.2.1;obtain⟨y0,y1',y2',_,_,_⟩:=three hC.out.1.pt;clear hw;simp only [xzaa,tmpsTo,putT,zr];rw [e0];clear e0;go_simp;exact xzab (rfl) rfl
      |11,_,hw,ho=>
       have e10:vs 10=.pointer (some ⟨pb,0,none⟩):=hw 10 (by omega) (by kernel_rfl);simp only [zq,zh]at ho;subst ho;refine⟨rfl,?_⟩;obtain⟨k0,k1,k2,k3,k4,k5⟩:=six hC.out.2.1;obtain⟨y0,y1',y2',_,_,_⟩:=three hC.out.1.pt;clear hw;simp only [xzaa,tmpsTo,putT,zr];rw [e10];clear e10;go_simp;exact xzab (rfl) rfl
      |12,_,hw,ho=>
       have e11:vs 11=.pointer (some ⟨pb,0,none⟩):=hw 11 (by omega) (by kernel_rfl);simp only [zq,zh]at ho;subst ho;refine⟨rfl,?_⟩;obtain⟨k0,k1,k2,k3,k4,k5⟩:=six hC.out.2.1;obtain⟨y0,y1',y2',_,_,_⟩:=three hC.out.1.pt;clear hw;simp only [xzaa,tmpsTo,putT,zr];rw [e11];clear e11;go_simp;exact xzab (rfl) rfl
      |i+13,hix,_,_=>omega
     intro vs1 u hC hV;obtain⟨v9,h9⟩:∃ v,v=vs1 9:=⟨_,rfl⟩
     have hv9:u.ownsRow 0 3 1 v9 (F.length+TS.2.first.length) (F.map (Value.int .i64)++TS.2.first.map (Value.int .i64))/\(v9.ownBlock=(Value.slice A2 F.length c2).ownBlock\/ ∃ g,v9.ownBlock=some g/\wr.heap.size<=g/\g<u.heap.size):=by rw [h9];exact hV 9 (by omega)
     have h12:vs1 12=.pointer (some ⟨pb,2,none⟩):=hV 12 (by omega);clear hV;simp only [xzaa,tmpsTo,putT,zr,List.drop_succ_cons,List.drop_zero];rw [h12,<-h9];clear h9 h12;generalize vs1 0=q0;generalize vs1 1=q1;generalize vs1 2=q2;generalize vs1 3=q3;generalize vs1 4=q4;generalize vs1 5=q5;generalize vs1 6=q6;generalize vs1 7=q7;generalize vs1 8=q8;generalize vs1 10=q10;generalize vs1 11=q11;have hfk:=HA4.out.1.fk.newF (U:=u) (x':=v9) (L':=F++TS.2.first) (fun k hk hn=>hC.out.2.2.block k hk hn) (by rw [List.length_append,List.map_append];exact hv9.1) (fun k hk=>(HA4.out.1.fb.mm k hk).2) (hv9.2.imp id fun⟨g,g1,g2,_⟩=>⟨g,g1,g2⟩)
     have hB2:B<=wr.heap.size:=by have:=HA4.out.1.hb.1;have:=HA4.out.1.pt.lt;omega
     have hai5:=HA4.out.1.next (y:=.slice A2 F.length c2) hC.out.2.2 (fun k hk=>⟨HA4.out.1.fb.f0 k hk,(HA4.out.1.fk.bf k hk).1⟩) hv9.2 hfk HA4.out.1.fb.r0 (fun k hk=>by
      rcases hv9.2 with g|⟨g,g1,g2,_⟩
      ·exact HA4.out.1.fb.f0 k (g▸hk)
      ·rw [hk]at g1;injection g1 with g1;omega) HA4.out.1.fb.e0
     have hbu:=hC.out.2.1;obtain⟨A9,c9,rfl,_⟩:=xzak hv9.1;obtain⟨U5,hU5⟩:∃ U5,u.setCell ⟨pb,2,none⟩ (.slice A9 (F.length+TS.2.first.length) c9)=U5:=⟨_,rfl⟩;rw [hU5]at hai5
     have hb5:BlkIs U5 pb 51 #[.slice A0 TS.1.sets.length c0,.slice A1 (R.length+j) c1,.slice A9 (F.length+TS.2.first.length) c9,.slice A3 TS.1.follow.length c3,.slice A4 (E.length+j) c4,.int .i64 em]:=by rw [<-hU5];exact hbu.put 2 (.slice A9 (F.length+TS.2.first.length) c9)
     obtain⟨m0,m1,m2,m3,m4,m5⟩:=six hbu;have fz2:=hbu.frozen 2;clear k0 k1 k2 k3 k4 k5 z0 z1 z2;obtain⟨k0,k1,k2,k3,k4,k5⟩:=six hb5;have fz5:=hb5.frozen 5;obtain⟨z0,z1,z2,_,_,_⟩:=three hai5.pt;have H5:=zd hai5;clear hfk hai5 hbu hb5 hv9 hC
     cases hpe:TS.2.empty with
     |false=>
      rw [hpe]at z2;have HFM:=zd (show EM=em by rw [HEM.out,hpe];rfl);go_wp2
      go_end0
      exact⟨_,rfl,_,_,_,_,_,by rw [HFM.out,<-HEE.out];exact H5.out.fk,H5.out.fb⟩
     |true=>
      rw [hpe]at z2
      by_cases hem:em= -1
      ·have e1:(em== -1)=true:=by simp [hem]
       have HFM:=zd (show EM=i by rw [HEM.out,hpe,e1];rfl);have ht:=zd (H5.out.tell i);clear hem;go_wp2
       go_end0
       exact⟨_,rfl,_,_,_,_,_,by rw [HFM.out,<-HEE.out];exact ht.out.1,ht.out.2⟩
      ·have e1:(em== -1)=false:=by simp [hem]
       have HFM:=zd (show EM=em by rw [HEM.out,hpe,e1];rfl);clear hem;go_wp2
       go_end0
       exact⟨_,rfl,_,_,_,_,_,by rw [HFM.out,<-HEE.out];exact H5.out.fk,H5.out.fb⟩
end Go.Proofs.Ythoaaginadjaoaa
