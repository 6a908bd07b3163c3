/-
 WHAT nfa's part ANSWERS of every tree that may be: a contract. Condition: at most 2^20 places, at most 2^20 nodes.
-/
import Derived.Test.YthoaaginadjaoaaQG34
import Derived.Test.YthoaaginadjaoaaQG32
import Derived.Test.YthoaaginadjaoaaQG11
import Derived.Test.YthoaaginadjaoaaQG10
import Derived.Test.YthoaaginadjaoaaQG13
import Derived.Test.YthoaaginadjaoaaQG31
namespace Go.Proofs.Ythoaaginadjaoaa
section
open Go.RowKit
attribute [local irreducible] FreeW textFrame
set_option maxRecDepth 20000 in
set_option maxHeartbeats 16000000 in
theorem xzsi (ms:Nat->Bool)(l:List Tree)(lo hi:Int)(IH:∀ t∈l,PartIs t)(hokT:okTs l)(hl1:l.length=1)(h0:0<=copiesI lo hi)(hcm:copiesI lo hi<=1048576):PartIs (.node 4 ms l lo hi):=by
 intro M K S v pb r f e m w hm hat hS hn hM hK;obtain⟨A,c,rfl,hc,hrows⟩:=hat.open;obtain⟨SS,PP,hSS⟩:∃ SS PP,(SS,PP)=(if(copiesI lo hi).toNat=0 then(S,[])else(⟨(copyN ((partsP l S).2.headD ⟨[],[],true⟩) S.sets.length (partsP l S).1.sets.length ((copiesI lo hi).toNat - 1) (partsP l S).1 [(partsP l S).2.headD ⟨[],[],true⟩]).1.sets,if hi= -1 then linkF (copyN ((partsP l S).2.headD ⟨[],[],true⟩) S.sets.length (partsP l S).1.sets.length ((copiesI lo hi).toNat - 1) (partsP l S).1 [(partsP l S).2.headD ⟨[],[],true⟩]).1.follow ((copyN ((partsP l S).2.headD ⟨[],[],true⟩) S.sets.length (partsP l S).1.sets.length ((copiesI lo hi).toNat - 1) (partsP l S).1 [(partsP l S).2.headD ⟨[],[],true⟩]).2.getLastD ⟨[],[],true⟩).ends ((copyN ((partsP l S).2.headD ⟨[],[],true⟩) S.sets.length (partsP l S).1.sets.length ((copiesI lo hi).toNat - 1) (partsP l S).1 [(partsP l S).2.headD ⟨[],[],true⟩]).2.getLastD ⟨[],[],true⟩).first else(copyN ((partsP l S).2.headD ⟨[],[],true⟩) S.sets.length (partsP l S).1.sets.length ((copiesI lo hi).toNat - 1) (partsP l S).1 [(partsP l S).2.headD ⟨[],[],true⟩]).1.follow⟩,(copyN ((partsP l S).2.headD ⟨[],[],true⟩) S.sets.length (partsP l S).1.sets.length ((copiesI lo hi).toNat - 1) (partsP l S).1 [(partsP l S).2.headD ⟨[],[],true⟩]).2):Mk×List Prt):=⟨_,_,rfl⟩
 have hp1:partP (.node 4 ms l lo hi) S=(⟨SS.sets,(inRowP lo 0 PP SS.follow).1⟩,(inRowP lo 0 PP SS.follow).2):=by
  unfold partP
  by_cases hz:(copiesI lo hi).toNat=0
  ·rw [if_pos hz]at hSS
   injection hSS with h1 h2
   subst h1 h2
   simp [hz,inRowP]
  ·rw [if_neg hz]at hSS
   injection hSS with h1 h2
   subst h1 h2
   simp [hz]
 rw [hp1];obtain⟨w2,hw2⟩:∃ w2,(w.alloc (.cells #[.int .i64 4,.int .u64 (wd ms 0:Nat),.int .u64 (wd ms 1:Nat),.int .u64 (wd ms 2:Nat),.int .u64 (wd ms 3:Nat),.slice A l.length c,.int .i64 lo,.int .i64 hi] 39)).alloc (.cells #[.slice none 0 0,.slice none 0 0,.bool false] 73)=w2:=⟨_,rfl⟩
 have hb2:Below w.heap.size w w2:=by rw [<-hw2];exact((Below.refl _ _).alloc (Nat.le_refl _) _).alloc (by simp) _
 have hs2:w2.heap.size=w.heap.size+2:=by rw [<-hw2];simp
 have hx0:BlkIs w2 w.heap.size 39 #[.int .i64 4,.int .u64 (wd ms 0:Nat),.int .u64 (wd ms 1:Nat),.int .u64 (wd ms 2:Nat),.int .u64 (wd ms 3:Nat),.slice A l.length c,.int .i64 lo,.int .i64 hi]:=by rw [<-hw2];exact(BlkIs.new w _ _).alloc _
 have hx1:BlkIs w2 (w.heap.size+1) 73 #[.slice none 0 0,.slice none 0 0,.bool false]:=by
  rw [<-hw2];have h:=BlkIs.new (w.alloc (.cells #[.int .i64 4,.int .u64 (wd ms 0:Nat),.int .u64 (wd ms 1:Nat),.int .u64 (wd ms 2:Nat),.int .u64 (wd ms 3:Nat),.slice A l.length c,.int .i64 lo,.int .i64 hi] 39)) 73 #[.slice none 0 0,.slice none 0 0,.bool false];rw [World.size_alloc]at h;exact h
 have hMf:∀ k,w.heap.size<=k->M k=false:=fun k hk=>by
  rw [Bool.eq_false_iff];intro e;have:=hM k e;omega
 have hK2:∀ k,Kor K (w.heap.size+1) k=true->k<w2.heap.size:=xzdr (fun k hk=>by have:=hK k hk;omega) (by omega)
 have hM2:∀ k,M k=true->k<w2.heap.size:=fun k hk=>by have:=hM k hk;omega
 have hm2:MkAt M (Kor K (w.heap.size+1)) w2 pb S r f e m:=hm.new hb2 (by omega);have HBX:=zd (And.intro hx0 hx1);have HMF:=zd hMf;have HW2:=zd (And.intro hb2 hs2)
 have hHO:SS.Ok/\(∀ p∈PP,p.Ok SS.sets.length)/\SS.sets.length<=1048576/\PP.length<=1048576:=by
  obtain⟨t,rfl⟩:=List.length_eq_one_iff.1 hl1;simp only [Tree.plN,sumN]at hn
  by_cases hz:(copiesI lo hi).toNat=0
  ·rw [if_pos hz]at hSS
   injection hSS with h1 h2
   subst h1 h2;exact⟨hS,fun p hp=>by simp at hp,by omega,by simp⟩
  ·rw [if_neg hz]at hSS
   injection hSS with h1 h2
   have hokt:=xzer hokT t (by simp);obtain⟨g1,g2,g3⟩:=xzbj t S hokt hS;simp only [partsP,List.headD_cons]at h1 h2
   have hle:S.sets.length<=(partP t S).1.sets.length:=by omega
   obtain⟨k1,k2,k3,k4⟩:=xzdq hle g2 ((copiesI lo hi).toNat - 1) (partP t S).1 [(partP t S).2] g1 (Nat.le_refl _) (fun r hr=>g1.2 r (List.mem_of_mem_drop (List.mem_of_mem_take hr))) (fun q hq=>by obtain rfl:=List.mem_singleton.1 hq;exact g2);obtain⟨C,hC⟩:∃ C,copyN (partP t S).2 S.sets.length (partP t S).1.sets.length ((copiesI lo hi).toNat - 1) (partP t S).1 [(partP t S).2]=C:=⟨_,rfl⟩;rw [hC]at k1 k2 k3 k4 h1 h2
   have hlz:C.2.getLastD ⟨[],[],true⟩∈C.2:=by
    have hne:C.2≠[]:=by intro e;rw [e]at k3;simp only [List.length_nil,List.length_singleton]at k3;omega
    rw [List.getLastD_eq_getLast?,List.getLast?_eq_some_getLast hne];exact List.getLast_mem hne
   have hzo:=k4 _ hlz
   have hsz:SS.sets.length=C.1.sets.length:=by rw [h1]
   have hd:(partP t S).1.sets.length - S.sets.length=t.plN:=by omega
   have hss:SS.sets.length<=1048576:=by
    rw [hsz,k2,hd,g3];obtain⟨n9,hn9⟩:∃ n9,(copiesI lo hi).toNat=n9+1:=⟨(copiesI lo hi).toNat - 1,by omega⟩;rw [hn9]at hn ⊢
    have hn':S.sets.length+(n9+1)*t.plN<=1048576:=by simpa [Nat.mul_comm]using hn
    rw [Nat.succ_mul]at hn';simp only [Nat.add_sub_cancel];omega
   refine⟨?_,fun q hq=>by rw [hsz];rw [h2]at hq;exact k4 q hq,hss,by rw [h2,k3];simp;omega⟩;rw [h1]
   split
   ·exact⟨(xzbl _ _ _).trans k1.1,xzgb _ k1.2 hzo.1⟩
   ·exact k1
 have HPA:=zd (show Calls Try.prog 51 #[.pointer (some ⟨pb,0,none⟩),reV 4 ms A l.length c lo hi] w2.drew fun x w'=>∃ M' v',x=.returned v'/\Nx M M' w2.drew w'/\(∀ k,M' k=true->k<w'.heap.size)/\MkAt M' (Kor K (w.heap.size+1)) w' pb SS r f e m/\PrtsAt (hide w' (MK M' (Kor K (w.heap.size+1)))) (hide w' M') PP v' from by
  have hmd:=hm2.step (Below.refl w2.heap.size w2).drew;obtain⟨t,rfl⟩:=List.length_eq_one_iff.1 hl1
  by_cases hz:(copiesI lo hi).toNat=0
  ·rw [if_pos hz]at hSS
   injection hSS with h1 h2
   subst h1 h2;refine(xziq ms A 1 c lo hi (by omega) pb w2.drew).mono ?_;rintro x u ⟨rfl,hu⟩;exact⟨M,_,rfl,Nx.below hu,fun k hk=>Nat.lt_of_lt_of_le (hM2 k hk) hu.size,hmd.step hu,⟨none,0,rfl,⟨by simp,by decide⟩,fun h=>absurd rfl h⟩⟩
  ·rw [if_neg hz]at hSS
   injection hSS with h1 h2
   simp only [partsP,List.headD_cons]at h1 h2;have hbd:Below w.heap.size w w2.drew:=hb2.drew;obtain⟨n9,hn9⟩:∃ n9,(copiesI lo hi).toNat=n9+1:=⟨(copiesI lo hi).toNat - 1,by omega⟩;rw [hn9]at h1 h2;simp only [Nat.add_sub_cancel]at h1 h2;refine(xziu t (IH t (by simp)) (xzer hokT t (by simp)) M (Kor K (w.heap.size+1)) S ms A c lo hi n9 (by omega) (by omega) pb r f e m w2.drew hmd ?_ hS ?_ hM2 hK2).mono ?_
   ·obtain⟨b,o,e1,_,hg⟩:=hrows (by simp)
    obtain⟨cs,h1,h2,h3⟩:=hg 0 (by simp);exact⟨b,o,e1,cs,h1.sub (xzad _ hbd),h2,fun j x hx=>xzad _ hbd _ _ (by have:=h3 j x hx;simpa using this)⟩
   ·simp only [Tree.plN,sumN]at hn
    rw [hn9]at hn
    simpa [Nat.mul_comm]using hn
   ·rintro x u ⟨M',v',rfl,a1,a2,C,L,hCL,a3,a4⟩
    rw [hCL]at h1 h2;subst h1 h2
    exact⟨M',v',rfl,a1,a2,a3,a4⟩)
 have HO:=zd hHO;have HK2:=zd hK2;obtain⟨d0,d1,d2,d3,d4,d5,d6,d7⟩:=hx0.eight;unfold reV reL at*;clear hb2 hs2 hx0 hx1 hMf hK2 hM2 hm2 hm hat hS hn hM hK hp1 hrows IH hokT hSS hHO h0 hcm hl1
 go_enter Try.func39,Try.ntmps39
 go_wp2_with fail
 refine xzed 6 41 3 (fun cph u=>match cph with|false=>u=w2.drew|true=>BlkIs u w.heap.size 39 #[.int .i64 4,.int .u64 (wd ms 0:Nat),.int .u64 (wd ms 1:Nat),.int .u64 (wd ms 2:Nat),.int .u64 (wd ms 3:Nat),.slice A l.length c,.int .i64 lo,.int .i64 hi]) (fun i u u'=>(i=3->BlkIs u' w.heap.size 39 #[.int .i64 4,.int .u64 (wd ms 0:Nat),.int .u64 (wd ms 1:Nat),.int .u64 (wd ms 2:Nat),.int .u64 (wd ms 3:Nat),.slice A l.length c,.int .i64 lo,.int .i64 hi])/\(i≠3->u'=u))
  (fun i v u=>match i with
   |0=>v=.pointer (some ⟨pb,0,none⟩)
   |1=>v=.pointer (some ⟨pb,0,none⟩)
   |2=>v=.agg #[.int .i64 4,.int .u64 (wd ms 0:Nat),.int .u64 (wd ms 1:Nat),.int .u64 (wd ms 2:Nat),.int .u64 (wd ms 3:Nat),.slice A l.length c,.int .i64 lo,.int .i64 hi]
   |3=>∃ M1,Nx M M1 w2 u/\(∀ k,M1 k=true->k<u.heap.size)/\MkAt M1 (Kor K (w.heap.size+1)) u pb SS r f e m/\PrtsAt (hide u (MK M1 (Kor K (w.heap.size+1)))) (hide u M1) PP v/\BlkIs u (w.heap.size+1) 73 #[.slice none 0 0,.slice none 0 0,.bool false]
   |4=>v=.pointer (some ⟨w.heap.size,6,none⟩)
   |5=>v=.int .i64 lo
   |_=>True) (by kernel_rfl) (by kernel_rfl) rfl rfl ?_ ?_ ?_ ?_
 ·intro i cph u u' hix hcx hC hr
  by_cases hi3:i=3
  ·rw [show(cph||decide (i=3))=true by simp [hi3]]
   exact hr.1 hi3
  ·rw [show(cph||decide (i=3))=cph by simp [hi3],hr.2 hi3]
   exact hC
 ·intro i j v u u' hix hj hne hv hr
  match i,hix,hne,hv with
  |0,_,_,hv=>exact hv
  |1,_,_,hv=>exact hv
  |2,_,_,hv=>exact hv
  |3,_,hne,hv=>
   rw [hr.2 (Ne.symm hne)];exact hv
  |4,_,_,hv=>exact hv
  |5,_,_,hv=>exact hv
  |i+6,hix,_,_=>omega
 ·intro i hix cph vs u hcx hC hw oq ho
  match i,hix,hcx,hw,ho with
  |0,_,hcx,hw,ho=>
   simp only [zq,zh]at ho;subst ho;refine⟨rfl,?_⟩;clear hw hcx;simp only [xzaa,tmpsTo];go_simp;exact xzab (rfl) rfl
  |1,_,hcx,hw,ho=>
   simp only [zq,zh]at ho;subst ho;refine⟨rfl,?_⟩;clear hw hcx;simp only [xzaa,tmpsTo,putT,zr];go_simp;exact xzab (rfl) rfl
  |2,_,hcx,hw,ho=>
   simp only [zq,zh]at ho;subst ho;refine⟨rfl,?_⟩
   have hbx:BlkIs u w.heap.size 39 #[.int .i64 4,.int .u64 (wd ms 0:Nat),.int .u64 (wd ms 1:Nat),.int .u64 (wd ms 2:Nat),.int .u64 (wd ms 3:Nat),.slice A l.length c,.int .i64 lo,.int .i64 hi]:=by
    cases cph with
    |false=>have hC:u=w2.drew:=hC;rw [hC];exact HBX.out.1.drew
    |true=>exact hC
   obtain⟨d0,d1,d2,d3,d4,d5,d6,d7⟩:=hbx.eight;clear hbx hC;clear hw hcx;simp only [xzaa,tmpsTo,putT,zr];go_simp;exact xzab (rfl) rfl
  |3,_,hcx,hw,ho=>
   have e1:vs 1=.pointer (some ⟨pb,0,none⟩):=hw 1 (by omega) (by kernel_rfl);have e2:vs 2=.agg #[.int .i64 4,.int .u64 (wd ms 0:Nat),.int .u64 (wd ms 1:Nat),.int .u64 (wd ms 2:Nat),.int .u64 (wd ms 3:Nat),.slice A l.length c,.int .i64 lo,.int .i64 hi]:=hw 2 (by omega) (by kernel_rfl);simp only [zq,zh]at ho;subst ho;refine⟨rfl,?_⟩;clear hw;simp only [xzaa,tmpsTo,putT,zr];rw [e1,e2];clear e1 e2;have hc:=hcx rfl;subst hc;have hC:u=w2.drew:=hC;subst hC;clear hcx;go_simp;refine xzbv (HPA.out.mono ?_);rintro e u' ⟨M1,v1,rfl,h1,h2,h3,h4⟩;refine⟨v1,rfl,?_,M1,(Nx.below ((Below.refl _ w2).drew)).trans h1,h2,h3,h4,(HBX.out.2.drew).nx h1 (HMF.out _ (by omega))⟩
   first|exact(HBX.out.1.drew).nx h1 (HMF.out _ (Nat.le_refl _))|exact⟨fun _=>(HBX.out.1.drew).nx h1 (HMF.out _ (Nat.le_refl _)),fun h=>absurd rfl h⟩
  |4,_,hcx,hw,ho=>
   simp only [zq,zh]at ho;subst ho;refine⟨rfl,?_⟩;clear hw hcx;simp only [xzaa,tmpsTo,putT,zr];go_simp;exact xzab (rfl) rfl
  |5,_,hcx,hw,ho=>
   have e4:vs 4=.pointer (some ⟨w.heap.size,6,none⟩):=hw 4 (by omega) (by kernel_rfl);simp only [zq,zh]at ho;subst ho;refine⟨rfl,?_⟩
   have hbx:BlkIs u w.heap.size 39 #[.int .i64 4,.int .u64 (wd ms 0:Nat),.int .u64 (wd ms 1:Nat),.int .u64 (wd ms 2:Nat),.int .u64 (wd ms 3:Nat),.slice A l.length c,.int .i64 lo,.int .i64 hi]:=by
    cases cph with
    |false=>have hC:u=w2.drew:=hC;rw [hC];exact HBX.out.1.drew
    |true=>exact hC
   obtain⟨d0,d1,d2,d3,d4,d5,d6,d7⟩:=hbx.eight;clear hbx hC;clear hw hcx;simp only [xzaa,tmpsTo,putT,zr];rw [e4];clear e4;go_simp;exact xzab (rfl) rfl
  |i+6,hix,_,_,_=>omega
 intro vs1 u hC hV;obtain⟨v4,h4⟩:∃ v,v=vs1 3:=⟨_,rfl⟩
 have hV4:∃ M1,Nx M M1 w2 u/\(∀ k,M1 k=true->k<u.heap.size)/\MkAt M1 (Kor K (w.heap.size+1)) u pb SS r f e m/\PrtsAt (hide u (MK M1 (Kor K (w.heap.size+1)))) (hide u M1) PP v4/\BlkIs u (w.heap.size+1) 73 #[.slice none 0 0,.slice none 0 0,.bool false]:=by rw [h4];exact hV 3 (by omega)
 obtain⟨M1,hn1,hlt1,hmk,hps,hb1⟩:=hV4;have e0:vs1 0=.pointer (some ⟨pb,0,none⟩):=hV 0 (by omega);have eL:vs1 5=.int .i64 lo:=hV 5 (by omega);clear hV hC;simp only [xzaa,tmpsTo,putT,zr,List.drop_succ_cons,List.drop_zero];rw [e0,eL,<-h4];clear e0 eL h4;generalize vs1 1=q1;generalize vs1 2=q2;generalize vs1 4=q4
 have hkk:∀ k,Kor K (w.heap.size+1) k=true->k<u.heap.size:=fun k hk=>Nat.lt_of_lt_of_le (HK2.out k hk) hn1.size
 have HIR:=zd (xzkx M1 (Kor K (w.heap.size+1)) SS PP v4 lo pb r f e m u hmk hps HO.out.1 HO.out.2.1 HO.out.2.2.1 HO.out.2.2.2 hlt1 hkk);obtain⟨k0,k1,k2,l0,l1,l2⟩:=three hb1;have HN1:=zd (And.intro hn1 (And.intro hlt1 (And.intro hb1 (hn1.keeps (by have:=HW2.out.2;omega) (HMF.out (w.heap.size+1) (by omega))))));clear hn1 hlt1 hmk hps hb1 hkk
 go_wp2_with fail
 go_at_call 48
 refine HIR.out.mono ?_;rintro x u2 ⟨v2,rfl,hnx,hmk2,p1,p2,rfl,hp1,hp2⟩;have hb2:=HN1.out.2.2.1.nx hnx HN1.out.2.2.2;have hfin:=xzgh hb2 ((Nx.below HW2.out.1).trans (HN1.out.1.trans hnx)) (by omega) HN1.out.2.2.2 (fun k hk=>Nat.lt_of_lt_of_le (HN1.out.2.1 k hk) hnx.size) hmk2 hp1 hp2 _ rfl;obtain⟨Y1,y1,rfl,_⟩:=hp1.form;obtain⟨Y2,y2,rfl,_⟩:=hp2.form;clear k0 k1 k2 l0 l1 l2;obtain⟨k0,k1,k2,l0,l1,l2⟩:=three hb2;have HFN:=zd hfin;have hlt:=hb2.lt;clear hfin hb2 hnx hmk2 hp1 hp2;go_wp2;obtain⟨hl,M2,v',hv,h1,h2,h3,h4⟩:=HFN.out;exact⟨rfl,_,xzaf rfl rfl hl,M2,_,congrArg Ending.returned hv,h1,h2,h3,h4⟩
theorem xzhs (T:Tree)(h:T.ok=true)(hn:T.nodes<=1048576):PartIs T:=by
 induction T using Tree.ind with
 |h k m l lo hi ih=>
  have hokT:=xzcw _ h;have hop:=xzcb h;have hkind:=xzas hop.2;simp only [Tree.nodes]at hn;unfold Tree.okT at hokT;have hl:=xzcj l
  have IH:∀ t∈l,PartIs t:=fun t ht=>by
   obtain⟨j,hj,rfl⟩:=List.getElem_of_mem ht;exact ih _ ht (hop.1 _ ht) (Nat.le_trans (xzck l j hj) (by omega))
  rcases hkind with⟨rfl,hl⟩|⟨rfl,hl⟩|⟨rfl,hl⟩|⟨rfl,hl⟩|⟨rfl,hl,hlo⟩
  ·obtain rfl:=List.eq_nil_of_length_eq_zero hl
   exact xzsa m lo hi
  ·obtain rfl:=List.eq_nil_of_length_eq_zero hl
   exact xzrz m lo hi
  ·exact xzun m l lo hi IH hokT.2 (by omega)
  ·exact xzum m l lo hi IH hokT.2 (by omega)
  ·exact xzsi m l lo hi IH hokT.2 hl (by unfold copiesI;split<;>omega) (by unfold copiesI;split<;>omega)
end
section
open Go.RowKit
attribute [local irreducible] FreeW textFrame
theorem xzli {T:Tree}(h:T.mayN=true):T.ok=true:=by
 unfold Tree.mayN at h;simp only [Bool.and_eq_true]at h;exact h.2.2
theorem xzbz {B:Nat}{w0:World}(g:Nat):∀ (vs:List Value) (o:Nat) (w:World),B<=g->Below B w0 w->Below B w0 (w.setCells g o vs)
 |[],_,_,_,h=>h
 |x::vs,o,_,hB,h=>xzbz g vs (o+1) _ hB (h.setCell (p:=⟨g,o,none⟩) hB x)
mutual
theorem xzds:∀ T:Tree,T.ok=true->T.places<=2000->(T.plN:Int)=T.places
 | .node k m l lo hi=>fun h h2=>by
  have hop:=xzcb h;have hk:=xzas hop.2;have hp:=sumP_pos l hop.1;unfold Tree.places at h2 ⊢;unfold Tree.plN
  have hc:0<=(if k=4 then copiesI lo hi else 1):=by
   unfold copiesI
   split
   ·split<;>omega
   ·omega
  have he:((if k=4 then(copiesI lo hi).toNat else 1:Nat):Int)=(if k=4 then copiesI lo hi else 1):=by
   split
   ·rename_i h4
    rw [if_pos h4]at hc;omega
   ·rfl
  have hone:(((if k=1 then 1 else 0)+sumN l:Nat):Int)=(if k=1 then 1 else 0)+(sumN l:Int):=by split<;>omega
  rw [Int.natCast_mul,he,hone];generalize(if k=4 then copiesI lo hi else 1)=c at*
  have hx:0<=((if k=1 then 1 else 0)+sumP l):=by split<;>omega
  by_cases h0:c<1
  ·obtain rfl:c=0:=by omega
   rw [Int.mul_zero,Int.mul_zero];decide
  ·have hm:((if k=1 then 1 else 0)+sumP l)<=((if k=1 then 1 else 0)+sumP l)*c:=by
    have:=Int.mul_le_mul_of_nonneg_left (show 1<=c by omega) hx
    rwa [Int.mul_one]at this
   have hs:sumP l<=2000:=by
    have h9:sumP l<=((if k=1 then 1 else 0)+sumP l):=by split<;>omega
    omega
   rw [sumP_exact l hop.1 hs];omega
theorem sumP_exact:∀ l:List Tree,(∀ t∈l,t.ok=true)->sumP l<=2000->(sumN l:Int)=sumP l
 |[]=>fun _ _=>rfl
 |t::r=>fun h h2=>by
  simp only [sumP]at h2;have h3:=xzav t (h t (by simp))
  have h4:=sumP_pos r fun x hx=>h x (by simp [hx])
  have h5:=xzds t (h t (by simp)) (by omega);have h6:=sumP_exact r (fun x hx=>h x (by simp [hx])) (by omega);simp only [sumN,sumP];omega
end
set_option maxRecDepth 20000 in
set_option maxHeartbeats 16000000 in
theorem xzpl (l:List Tree)(h1:1<=l.length)(h40:l.length<=40)(hmay:∀ t∈l,t.mayN=true)(hnod:∀ t∈l,t.nodes<=1048576)(hsN:2000<sumP l)
 (A:Option Addr)(c:Nat)(w:World)(hat:l≠[]->∃ b o,A=some ⟨b,o,none⟩/\AllAt w l b o):
 Calls Try.prog 6 #[.slice A l.length c] w fun x w'=>x=.returned (.tuple #[.agg #[.slice none 0 0,.slice none 0 0,.slice none 0 0,.slice none 0 0,.slice none 0 0,.int .i64 0],.int .i64 4])/\Below w.heap.size w w':=by
 have hsP:∀ j,0<=sumP (l.take j)/\sumP (l.take j)<=40000000:=fun j=>by
  have q1:=sumP_pos (l.take j) fun t ht=>xzli (hmay t (List.mem_of_mem_take ht))
  have q2:=xzcc (l.take j)
  have q3:(l.take j).length<=40:=by rw [List.length_take];omega
  exact⟨q1,by omega⟩
 have hb1:Below w.heap.size w (w.alloc (.cells #[.slice none 0 0,.slice none 0 0,.slice none 0 0,.slice none 0 0,.slice none 0 0,.int .i64 0] 30)):=(Below.refl _ _).alloc (Nat.le_refl _) _;have hx1:=BlkIs.new w 30 #[.slice none 0 0,.slice none 0 0,.slice none 0 0,.slice none 0 0,.slice none 0 0,.int .i64 0];have H0:=zd (And.intro hb1 hx1);obtain⟨b,o,rfl,hall⟩:=hat (by intro e;rw [e]at h1;simp at h1);have HALL:=zd (fun(j:Nat) (hj:j<l.length)=>AllAt.get l b o hall j hj);have HM:=zd (fun(j:Nat) (hj:j<l.length)=>And.intro (hmay _ (List.getElem_mem hj)) (hnod _ (List.getElem_mem hj)))
 have HSP:=zd (fun(j:Nat) (hj:j<l.length)=>(show sumP (l.take (j+1))=sumP (l.take j)+placesZ l[j]by
  rw [List.take_succ_eq_append_getElem hj,xzbq];unfold placesZ;rw [if_pos (hmay _ (List.getElem_mem hj))]))
 have HSB:=zd hsP;have HSN:=zd hsN
 have e1:decide ((l.length:Int)<1)=false:=by simp;omega
 have e2:decide ((l.length:Int)>40)=false:=by simp;omega
 have e2b:decide (40<(l.length:Int))=false:=by simp;omega
 clear hb1 hx1 hat hall hmay hnod hsN hsP h1
 go_enter Try.func6,Try.ntmps6
 go_wp2
 go_loopw [4,22] (fun s i wr=>∃ (j:Nat) (n:Int),s=.int .i64 n/\i=.int .i64 (j:Int)/\j<=l.length/\Hid (n=sumP (l.take j)/\Below w.heap.size w wr/\BlkIs wr w.heap.size 30 #[.slice none 0 0,.slice none 0 0,.slice none 0 0,.slice none 0 0,.slice none 0 0,.int .i64 0])) (fun _ i _=>l.length - (intOf i).toNat)
 case atStart=>exact⟨0,0,rfl,rfl,Nat.zero_le _,zd ⟨by simp [sumP],H0.out⟩⟩
 case round=>
  obtain⟨j,n,rfl,rfl,hj,HH⟩:=hrel
  by_cases hp:j<l.length
  ·have hk1:IntKind.i64.wrap ((j:Int)+1)=((j+1:Nat):Int):=by rw [IntKind.wrap_i64];omega
   have hdl:decide ((j:Int)<(l.length:Int))=true:=by simp;omega
   obtain⟨cs,hcat,hlen,hrow⟩:=HALL.out j hp;obtain⟨A',n',c',rfl⟩:=hcat.eight;obtain⟨r0,r1,r2,r3,r4,r5,r6,r7⟩:=xzaj (W':=wr) (fun i x hi=>(HH.out.2.1.cell (World.block_lt_of_cell? w _ (hrow i x hi))).trans (hrow i x hi)) (Below.refl _ _);have hxb:=BlkIs.new wr 39 (reL (l[j]).kind (l[j]).set A' n' c' (l[j]).lo (l[j]).hi).toArray;have hxw:Below wr.heap.size wr (wr.alloc (.cells (reL (l[j]).kind (l[j]).set A' n' c' (l[j]).lo (l[j]).hi).toArray 39)):=(Below.refl _ _).alloc (Nat.le_refl _) _;obtain⟨W9,hW9⟩:∃ W9,wr.alloc (.cells (reL (l[j]).kind (l[j]).set A' n' c' (l[j]).lo (l[j]).hi).toArray 39)=W9:=⟨_,rfl⟩;rw [hW9]at hxb hxw;have hcx:=xzdd l[j] _ W9 ((hcat.step HH.out.2.1).step hxw) (HM.out j hp).2;have hss:=HSP.out j hp;have hs1:=HSB.out (j+1);have hs0:=HSB.out j
   have hpz:0<=placesZ l[j]:=by
    have hm:=(HM.out j hp).1;unfold placesZ;rw [if_pos hm];unfold Tree.mayN at hm;simp only [Bool.and_eq_true]at hm;exact xzav _ hm.2.2
   have hen:=HH.out.1;simp only [reL]at hW9;unfold reV reL at*;rw [<-hen]at hss hs0;have HX:=zd (And.intro (HH.out.2.1.trans (hxw.mono HH.out.2.1.size)) (HH.out.2.2.step hxw));have HC:=zd hcx;have HSS:=zd hss;generalize placesZ l[j]=pz at*;generalize(l[j]).kind=kx at*;generalize(l[j]).set=mx at*;generalize(l[j]).lo=lx at*;generalize(l[j]).hi=hx at*
   have hk2:IntKind.i64.wrap (n+pz)=n+pz:=by rw [IntKind.wrap_i64];omega
   have hneg:decide (pz<0)=false:=by simp;omega
   obtain⟨x0,x1,x2,x3,x4,x5,x6,x7⟩:=hxb.eight;clear hcat hrow hlen hcx hss hs1 hs0 hpz hen hxb hxw
   go_wp2_with fail
   go_at_call 9
   refine HC.out.mono ?_;rintro x u ⟨rfl,hbu⟩;have HU:=zd (And.intro (HX.out.1.trans (hbu.mono HX.out.1.size)) (HX.out.2.step hbu));clear hbu x0 x1 x2 x3 x4 x5 x6 x7 r0 r1 r2 r3 r4 r5 r6 r7;go_wp2;exact⟨⟨j+1,n+pz,rfl,rfl,hp,zd ⟨HSS.out.symm,HU.out⟩⟩,by simp [intOf];omega⟩
  ·have hdl:decide ((j:Int)<(l.length:Int))=false:=by simp;omega
   obtain rfl:j=l.length:=by omega
   have hen:=HH.out.1;rw [List.take_length]at hen;have hsn:=HSN.out;rw [<-hen]at hsn
   have hgt:decide (n>2000)=true:=by simp;omega
   have hgt2:decide (2000<n)=true:=by simp;omega
   have HX:=zd HH.out;have hth:World.there wr w.heap.size 0 ([Value.slice none 0 0,.slice none 0 0,.slice none 0 0,.slice none 0 0,.slice none 0 0,.int .i64 0]).toArray.size:=HH.out.2.2.there
   have hal:([Value.slice none 0 0,.slice none 0 0,.slice none 0 0,.slice none 0 0,.slice none 0 0,.int .i64 0]).toArray.all (·.oneCell')=true:=by simp [Value.oneCell']
   have hin:(Try.prog.info? 30).map (·.size)=some ([Value.slice none 0 0,.slice none 0 0,.slice none 0 0,.slice none 0 0,.slice none 0 0,.int .i64 0]).toArray.size:=xzeh;have hl:=xzfo (HH.out.2.2.fill (new:=([Value.slice none 0 0,.slice none 0 0,.slice none 0 0,.slice none 0 0,.slice none 0 0,.int .i64 0]).toArray) rfl);have hb9:Below w.heap.size w _:=xzbz (w0:=w) (B:=w.heap.size) w.heap.size [Value.slice none 0 0,.slice none 0 0,.slice none 0 0,.slice none 0 0,.slice none 0 0,.int .i64 0] 0 _ (Nat.le_refl _) HH.out.2.1;clear hen hsn
   go_wp2_with((with_reducible refine wpList_store_mid ?_ 30 (.tmp 2) (.tmp 37) ?_ w.heap.size 0 ([Value.slice none 0 0,.slice none 0 0,.slice none 0 0,.slice none 0 0,.slice none 0 0,.int .i64 0]).toArray ?_ ?_ hth hin hal ?_);exact rfl;exact rfl;exact rfl;exact rfl)
   exact⟨rfl,_,xzbc rfl rfl hl,rfl,hb9⟩
end
section
open Go.RowKit
mutual
theorem xzlj:∀ T:Tree,T.deepN<=1099511627776->T.deepW=(T.deepN:Int)
 | .node k m l lo hi=>fun h=>by
  have h1:=deepM_few l (by simp only [Tree.deepN]at h;omega)
  have h2:Tree.deepW (.node k m l lo hi)=wrap64 (deepM l+1):=by unfold Tree.deepW deepM;rfl
  rw [h2,h1];simp only [Tree.deepN]at h ⊢;unfold wrap64;omega
theorem deepM_few:∀ l:List Tree,deepL l<=1099511627776->deepM l=(deepL l:Int)
 |[]=>fun _=>rfl
 |t::r=>fun h=>by
  simp only [deepL]at h;have h1:=deepM_few r (by omega);have h2:=xzlj t (by omega)
  have h3:∀ (xs:List Int) (a b:Int),0<=a->0<=b->(xs.foldl (fun d x=>if d<x then x else d) (max a b))=max a (xs.foldl (fun d x=>if d<x then x else d) b):=by
   intro xs
   induction xs with
   |nil=>intro a b _ _;rfl
   |cons y ys ih=>
    intro a b ha hb;simp only [List.foldl_cons]
    by_cases hy:b<y
    ·rw [if_pos hy]
     by_cases hy2:max a b<y
     ·rw [if_pos hy2]
      have:=ih a y ha (by omega);rw [show max a y=y by omega]at this;exact this
     ·rw [if_neg hy2]
      have:=ih a y ha (by omega);rw [<-this];congr 1;omega
    ·rw [if_neg hy,if_neg (by omega)]
     exact ih a b ha hb
  unfold deepM at h1 ⊢;simp only [deepsW,List.foldl_cons]
  have h4:(if(0:Int)<t.deepW then t.deepW else 0)=max t.deepW 0:=by rw [h2];split<;>omega
  rw [h4,h3 _ _ _ (by rw [h2];omega) (Int.le_refl _),h1,h2];simp only [deepL];omega
end
theorem xzpm {T:Tree}(h:T.nodes<=1099511627776):T.may=T.mayN:=by
 unfold Tree.may Tree.mayN;have h1:=xzlj T (Nat.le_trans (xzik T) h);rw [h1]
 have h2:wrap64 (T.nodes:Int)=(T.nodes:Int):=by unfold wrap64;omega
 rw [h2]
 congr 1
 ·exact decide_eq_decide.2 (by omega)
 ·congr 1
  exact decide_eq_decide.2 (by omega)
mutual
theorem xzsj:∀ T:Tree,T.same T=true
 | .node k m l lo hi=>by
  unfold Tree.same
  simp [xzhx,likeL_self l]
theorem likeL_self:∀ l:List Tree,sameL l l=true
 |[]=>by unfold sameL;rfl
 |t::r=>by unfold sameL;rw [xzsj t,likeL_self r];rfl
end
end
section
open Go.RowKit
attribute [local irreducible] FreeW
theorem TreesV.step {W W':World}{l:List Tree}{v:Value}(h:TreesV W l v)(hb:Below W.heap.size W W'):TreesV W' l v:=by
 obtain⟨A,c,e,hc,hs⟩:=h;refine⟨A,c,e,hc,fun hne=>?_⟩;obtain⟨b,o,e2,hlt,hg⟩:=hs hne
 exact⟨b,o,e2,Nat.lt_of_lt_of_le hlt hb.size,AllAt.mk l b o fun i hi=>by
  obtain⟨cs,h1,h2,h3⟩:=AllAt.get l b o hg i hi
  exact⟨cs,h1.step hb,h2,xzbu h3 (by intro e;rw [e]at h2;cases h2) hb⟩⟩
theorem xzhk:∀ (l:List Tree) (n:Nat),n<=1000000->(∀ t∈l,min t.nodes 1000000<=t.weight5)->min (n+nodesL l) 1000000<=weight5L l n
 |[],n,hn,_=>by simp [nodesL,weight5L];omega
 |t::r,n,hn,h=>by
  have h1:=h t (by simp);have h2:=xzhk r (min (n+t.weight5) 1000000) (Nat.min_le_right _ _) (fun x hx=>h x (by simp [hx]));unfold weight5L nodesL;omega
theorem xziy (T:Tree):min T.nodes 1000000<=T.weight5:=by
 induction T using Tree.ind with
 |h k m l lo hi ih=>
  have h1:=xzhk l 1 (by omega) ih
  have h3:min (nodesL l+1) 1000000<=weight5L l 1:=by omega
  unfold Tree.nodes Tree.weight5 weight5End
  split
  ·split
   ·rename_i h
    have h4:1<=hi.toNat:=by omega
    have h5:weight5L l 1*1<=weight5L l 1*hi.toNat:=Nat.mul_le_mul_left _ h4;omega
   ·split
    ·omega
    ·exact h3
  ·exact h3
theorem xzhl {T:Tree}(h:T.heavy=false):T.nodes<=20000:=by
 unfold Tree.heavy at h;rw [Bool.or_eq_false_iff]at h;have h1:=of_decide_eq_false h.2;have h2:=xziy T;omega
theorem light {l:List Tree}(hh:∀ t∈l,t.great=false/\t.heavy=false)(hm:mayL l=true):1<=l.length/\l.length<=40/\∀ t∈l,t.mayN=true/\t.ok=true/\t.nodes<=1048576:=by
 unfold mayL at hm;rw [Bool.and_eq_true,Bool.and_eq_true,decide_eq_true_eq,decide_eq_true_eq,List.all_eq_true]at hm;refine⟨hm.2.1,hm.2.2,fun t ht=>?_⟩;have hn:=xzhl (hh t ht).2;have h1:=hm.1 t ht;rw [xzpm (by omega)]at h1;exact⟨h1,xzli h1,by omega⟩
theorem xzmx {l:List Tree}(hh:∀ t∈l,t.great=false/\t.heavy=false)(hm:mayL l=true)(hs:sumP l<=150)(v:Value)(w:World)(hat:TreesV w l v):
 Calls Try.prog 6 #[v] w fun x w'=>∃ v,x=.returned (.tuple #[v,.int .i64 0])/\NfaAt w' (buildN l) v/\Below w.heap.size w w':=by
 obtain⟨h1,h40,hall⟩:=light hh hm;obtain⟨A,c,rfl,hc,hs'⟩:=hat
 have hok:∀ t∈l,t.ok=true:=fun t ht=>(hall t ht).2.1
 have hx:=sumP_exact l hok (by omega)
 refine xzlc l h1 h40 (fun t ht=>(hall t ht).1) (fun t ht=>xzhs t (hok t ht) (hall t ht).2.2) (xzlh hok) (fun t ht=>(hall t ht).2.2) (by omega) (fun j=>?_) A c w fun hne=>?_
 ·have q1:=sumP_pos (l.take j) fun t ht=>hok t (List.mem_of_mem_take ht)
  have q2:=sumP_pos (l.drop j) fun t ht=>hok t (List.mem_of_mem_drop ht)
  have q3:sumP l=sumP (l.take j)+sumP (l.drop j):=by
   have:∀ a b:List Tree,sumP (a++b)=sumP a+sumP b:=by
    intro a b
    induction a with
    |nil=>simp [sumP]
    |cons x a ih=>simp only [List.cons_append,sumP,ih];omega
   rw [<-this,List.take_append_drop]
  omega
 ·obtain⟨b,o,e,_,h⟩:=hs' hne
  exact⟨b,o,e,h⟩
theorem xzpn {l:List Tree}(hh:∀ t∈l,t.great=false/\t.heavy=false)(hm:mayL l=true)(hs:2000<sumP l)(v:Value)(w:World)(hat:TreesV w l v):
 Calls Try.prog 6 #[v] w fun x w'=>x=.returned (.tuple #[.agg #[.slice none 0 0,.slice none 0 0,.slice none 0 0,.slice none 0 0,.slice none 0 0,.int .i64 0],.int .i64 4])/\Below w.heap.size w w':=by
 obtain⟨h1,h40,hall⟩:=light hh hm;obtain⟨A,c,rfl,hc,hs'⟩:=hat
 refine xzpl l h1 h40 (fun t ht=>(hall t ht).1) (fun t ht=>(hall t ht).2.2) hs A c w fun hne=>?_
 obtain⟨b,o,e,_,h⟩:=hs' hne;exact⟨b,o,e,h⟩
end
end Go.Proofs.Ythoaaginadjaoaa
