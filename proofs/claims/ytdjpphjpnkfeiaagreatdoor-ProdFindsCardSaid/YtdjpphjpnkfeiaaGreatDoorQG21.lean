/-
 WHAT nfa's part ANSWERS, kind by kind: contracts. Condition: one copy at most of what is repeated; at most 2^20 places.
-/
import Derived.Test.YtdjpphjpnkfeiaaGreatDoorQG20
namespace Go.Proofs.YtdjpphjpnkfeiaaGreatDoor
section
open Go.RowKit
attribute [local irreducible] FreeW textFrame
theorem xzic {M M' K:Nat->Bool}{w U:World}{pb b:Nat}{S:Mk}{r f e m x1 x2:Value}{p:Prt}(hb:BlkIs U b 149 #[.slice none 0 0,.slice none 0 0,.bool false])(hn:Nx M M' w U)(hw:w.heap.size<=b)(hM:M' b=false)(hlt:∀ k,M' k=true->k<U.heap.size)
 (hmk:MkAt M' (Kor K b) U pb S r f e m)(h1:IntsV (hide U (MK M' (Kor K b))) p.first x1)(h2:IntsV (hide U (MK M' (Kor K b))) p.ends x2)(z:Bool)(hz:z=p.empty):
 (loadVar 149 ⟨b,0,none⟩).run Tryz.prog (((U.setCell ⟨b,0,none⟩ x1).setCell ⟨b,1,none⟩ x2).setCell ⟨b,2,none⟩ (.bool z))=.ok (.agg #[x1,x2,.bool z]) (((U.setCell ⟨b,0,none⟩ x1).setCell ⟨b,1,none⟩ x2).setCell ⟨b,2,none⟩ (.bool z))/\
 ∃ M2 v',Value.agg #[x1,x2,.bool z]=v'/\Nx M M2 w (((U.setCell ⟨b,0,none⟩ x1).setCell ⟨b,1,none⟩ x2).setCell ⟨b,2,none⟩ (.bool z))/\(∀ k,M2 k=true->k<(((U.setCell ⟨b,0,none⟩ x1).setCell ⟨b,1,none⟩ x2).setCell ⟨b,2,none⟩ (.bool z)).heap.size)/\
  MkAt M2 K (((U.setCell ⟨b,0,none⟩ x1).setCell ⟨b,1,none⟩ x2).setCell ⟨b,2,none⟩ (.bool z)) pb S r f e m/\PrtV (hide (((U.setCell ⟨b,0,none⟩ x1).setCell ⟨b,1,none⟩ x2).setCell ⟨b,2,none⟩ (.bool z)) (MK M2 K)) p v':=by
 subst hz;have hk:Kor K b b=true:=xzkm K b;have hs:=(((xzbg (M:=M') (W:=U) (i:=0) hk x1).trans (xzbg (M:=M') (i:=1) hk x2)).trans (xzbg (M:=M') (i:=2) hk (.bool p.empty))).trans xzgc;exact⟨xzez (xzeb hb),M',_,rfl,((hn.far hw).far hw).far hw,fun k hk=>by simpa [World.setCell]using hlt k hk,(((hmk.far hk hM).far hk hM).far hk hM).less,_,_,rfl,h1.sub hs,h2.sub hs⟩
theorem Nx.keeps {M M':Nat->Bool}{W W':World}{k:Nat}(h:Nx M M' W W')(hk:k<W.heap.size)(hm:M k=false):M' k=false:=(h.mine k hk).trans hm
set_option maxRecDepth 20000 in
set_option maxHeartbeats 16000000 in
theorem yzao (ms:Nat->Bool)(lo hi:Int):PartIs (.node 1 ms [] lo hi):=by
 intro M K S v pb r f e m w hm hat hS hn hM hK;obtain⟨A,c,rfl,hc,_⟩:=hat.open
 have hp1:partP (.node 1 ms [] lo hi) S=(placeS S ms,⟨[(S.sets.length:Int)],[(S.sets.length:Int)],false⟩):=by unfold partP;rw [if_pos rfl]
 rw [hp1];obtain⟨w2,hw2⟩:∃ w2,(w.alloc (.cells #[.int .i64 1,.int .u64 (wd ms 0:Nat),.int .u64 (wd ms 1:Nat),.int .u64 (wd ms 2:Nat),.int .u64 (wd ms 3:Nat),.slice A 0 c,.int .i64 lo,.int .i64 hi] 55)).alloc (.cells #[.slice none 0 0,.slice none 0 0,.bool false] 149)=w2:=⟨_,rfl⟩
 have hb2:Below w.heap.size w w2:=by rw [<-hw2];exact((Below.refl _ _).alloc (Nat.le_refl _) _).alloc (by simp) _
 have hs2:w2.heap.size=w.heap.size+2:=by rw [<-hw2];simp
 have hx0:BlkIs w2 w.heap.size 55 #[.int .i64 1,.int .u64 (wd ms 0:Nat),.int .u64 (wd ms 1:Nat),.int .u64 (wd ms 2:Nat),.int .u64 (wd ms 3:Nat),.slice A 0 c,.int .i64 lo,.int .i64 hi]:=by rw [<-hw2];exact(BlkIs.new w _ _).alloc _
 have hx1:BlkIs w2 (w.heap.size+1) 149 #[.slice none 0 0,.slice none 0 0,.bool false]:=by
  rw [<-hw2];have h:=BlkIs.new (w.alloc (.cells #[.int .i64 1,.int .u64 (wd ms 0:Nat),.int .u64 (wd ms 1:Nat),.int .u64 (wd ms 2:Nat),.int .u64 (wd ms 3:Nat),.slice A 0 c,.int .i64 lo,.int .i64 hi] 55)) 149 #[.slice none 0 0,.slice none 0 0,.bool false];rw [World.size_alloc]at h;exact h
 have hMf:∀ k,w.heap.size<=k->M k=false:=fun k hk=>by
  rw [Bool.eq_false_iff];intro e;have:=hM k e;omega
 have hK2:∀ k,Kor K (w.heap.size+1) k=true->k<w2.heap.size:=xzhz (fun k hk=>by have:=hK k hk;omega) (by omega)
 have hM2:∀ k,M k=true->k<w2.heap.size:=fun k hk=>by have:=hM k hk;omega
 have hm2:MkAt M (Kor K (w.heap.size+1)) w2 pb S r f e m:=hm.new hb2 (by omega);have HBX:=zd (And.intro hx0 hx1);have HMF:=zd hMf;have HW2:=zd (And.intro hb2 hs2);have HPL:=zd (yzan M (Kor K (w.heap.size+1)) S ms pb r f e m w2 hm2 hS.1 (by omega) hM2 hK2);obtain⟨d0,d1,d2,d3,d4,d5,d6,d7⟩:=hx0.eight;unfold reV reL;clear hb2 hs2 hx0 hx1 hMf hK2 hM2 hm2 hm hat hS hn hM hK hp1
 go_enter Tryz.func80,Tryz.ntmps80
 go_wp2_with fail
 go_at_call 96
 refine HPL.out.mono ?_;rintro x u1 ⟨M1,v1,rfl,hnx,hlt1,hmk,p1,p2,rfl,hp1,hp2⟩;have hb1:=HBX.out.2.nx hnx (HMF.out _ (by omega));have hfin:=xzic (p:=⟨[(S.sets.length:Int)],[(S.sets.length:Int)],false⟩) hb1 ((Nx.below HW2.out.1).trans hnx) (by omega) (hnx.keeps (by have:=HW2.out.2;omega) (HMF.out _ (by omega))) hlt1 hmk hp1 hp2 false rfl;obtain⟨Y1,y1,rfl,_⟩:=hp1.form;obtain⟨Y2,y2,rfl,_⟩:=hp2.form;obtain⟨k0,k1,k2,l0,l1,l2⟩:=three hb1;have HFN:=zd hfin;have hlt:=hb1.lt;clear hfin hb1 hnx hlt1 hmk hp1 hp2 d0 d1 d2 d3 d4 d5 d6 d7;go_wp2;obtain⟨hl,M2,v',hv,h1,h2,h3,h4⟩:=HFN.out;exact⟨rfl,_,xzae rfl rfl hl,M2,_,congrArg Ending.returned hv,h1,h2,h3,h4⟩
set_option maxRecDepth 20000 in
set_option maxHeartbeats 16000000 in
theorem yzap (ms:Nat->Bool)(lo hi:Int):PartIs (.node 0 ms [] lo hi):=by
 intro M K S v pb r f e m w hm hat hS hn hM hK;obtain⟨A,c,rfl,hc,_⟩:=hat.open
 have hp1:partP (.node 0 ms [] lo hi) S=(S,⟨[],[],true⟩):=by unfold partP;simp
 rw [hp1];obtain⟨w2,hw2⟩:∃ w2,(w.alloc (.cells #[.int .i64 0,.int .u64 (wd ms 0:Nat),.int .u64 (wd ms 1:Nat),.int .u64 (wd ms 2:Nat),.int .u64 (wd ms 3:Nat),.slice A 0 c,.int .i64 lo,.int .i64 hi] 55)).alloc (.cells #[.slice none 0 0,.slice none 0 0,.bool false] 149)=w2:=⟨_,rfl⟩
 have hb2:Below w.heap.size w w2:=by rw [<-hw2];exact((Below.refl _ _).alloc (Nat.le_refl _) _).alloc (by simp) _
 have hs2:w2.heap.size=w.heap.size+2:=by rw [<-hw2];simp
 have hx0:BlkIs w2 w.heap.size 55 #[.int .i64 0,.int .u64 (wd ms 0:Nat),.int .u64 (wd ms 1:Nat),.int .u64 (wd ms 2:Nat),.int .u64 (wd ms 3:Nat),.slice A 0 c,.int .i64 lo,.int .i64 hi]:=by rw [<-hw2];exact(BlkIs.new w _ _).alloc _
 have hx1:BlkIs w2 (w.heap.size+1) 149 #[.slice none 0 0,.slice none 0 0,.bool false]:=by
  rw [<-hw2];have h:=BlkIs.new (w.alloc (.cells #[.int .i64 0,.int .u64 (wd ms 0:Nat),.int .u64 (wd ms 1:Nat),.int .u64 (wd ms 2:Nat),.int .u64 (wd ms 3:Nat),.slice A 0 c,.int .i64 lo,.int .i64 hi] 55)) 149 #[.slice none 0 0,.slice none 0 0,.bool false];rw [World.size_alloc]at h;exact h
 have hMf:∀ k,w.heap.size<=k->M k=false:=fun k hk=>by
  rw [Bool.eq_false_iff];intro e;have:=hM k e;omega
 have hK2:∀ k,Kor K (w.heap.size+1) k=true->k<w2.heap.size:=xzhz (fun k hk=>by have:=hK k hk;omega) (by omega)
 have hM2:∀ k,M k=true->k<w2.heap.size:=fun k hk=>by have:=hM k hk;omega
 have hm2:MkAt M (Kor K (w.heap.size+1)) w2 pb S r f e m:=hm.new hb2 (by omega);have HBX:=zd (And.intro hx0 hx1);have HMF:=zd hMf;have HW2:=zd (And.intro hb2 hs2);obtain⟨d0,d1,d2,d3,d4,d5,d6,d7⟩:=hx0.eight;obtain⟨k0,k1,k2,l0,l1,l2⟩:=three hx1;have hlt:=hx1.lt;have HFN:=zd (xzic (p:=⟨[],[],true⟩) (x1:=.slice none 0 0) (x2:=.slice none 0 0) hx1 (Nx.below hb2) (by omega) (hMf _ (by omega)) hM2 hm2 (IntsV.nil _) (IntsV.nil _) true rfl);unfold reV reL;clear hb2 hs2 hx0 hx1 hMf hK2 hM2 hm2 hm hat hS hn hM hK hp1
 go_enter Tryz.func80,Tryz.ntmps80
 go_wp2;obtain⟨hl,M2,v',hv,h1,h2,h3,h4⟩:=HFN.out;exact⟨rfl,_,xzae rfl rfl hl,M2,_,congrArg Ending.returned hv,h1,h2,h3,h4⟩
set_option maxRecDepth 20000 in
set_option maxHeartbeats 16000000 in
theorem yzev (ms:Nat->Bool)(l:List Tree)(lo hi:Int)(IH:∀ t∈l,PartIs t)(hokT:okTs l)(hll:l.length<=1048576):PartIs (.node 3 ms l lo hi):=by
 intro M K S v pb r f e m w hm hat hS hn hM hK;obtain⟨A,c,rfl,hc,hrows⟩:=hat.open
 have hp1:partP (.node 3 ms l lo hi) S=((partsP l S).1,eitherP ⟨[],[],false⟩ (partsP l S).2):=by unfold partP;simp
 have hnn:S.sets.length+sumN l<=1048576:=by simp only [Tree.plN]at hn;simpa using hn
 obtain⟨ho1,ho2,ho3,ho4⟩:=partsP_ok l S hokT hS;rw [hp1];obtain⟨w2,hw2⟩:∃ w2,(w.alloc (.cells #[.int .i64 3,.int .u64 (wd ms 0:Nat),.int .u64 (wd ms 1:Nat),.int .u64 (wd ms 2:Nat),.int .u64 (wd ms 3:Nat),.slice A l.length c,.int .i64 lo,.int .i64 hi] 55)).alloc (.cells #[.slice none 0 0,.slice none 0 0,.bool false] 149)=w2:=⟨_,rfl⟩
 have hb2:Below w.heap.size w w2:=by rw [<-hw2];exact((Below.refl _ _).alloc (Nat.le_refl _) _).alloc (by simp) _
 have hs2:w2.heap.size=w.heap.size+2:=by rw [<-hw2];simp
 have hx0:BlkIs w2 w.heap.size 55 #[.int .i64 3,.int .u64 (wd ms 0:Nat),.int .u64 (wd ms 1:Nat),.int .u64 (wd ms 2:Nat),.int .u64 (wd ms 3:Nat),.slice A l.length c,.int .i64 lo,.int .i64 hi]:=by rw [<-hw2];exact(BlkIs.new w _ _).alloc _
 have hx1:BlkIs w2 (w.heap.size+1) 149 #[.slice none 0 0,.slice none 0 0,.bool false]:=by
  rw [<-hw2];have h:=BlkIs.new (w.alloc (.cells #[.int .i64 3,.int .u64 (wd ms 0:Nat),.int .u64 (wd ms 1:Nat),.int .u64 (wd ms 2:Nat),.int .u64 (wd ms 3:Nat),.slice A l.length c,.int .i64 lo,.int .i64 hi] 55)) 149 #[.slice none 0 0,.slice none 0 0,.bool false];rw [World.size_alloc]at h;exact h
 have hMf:∀ k,w.heap.size<=k->M k=false:=fun k hk=>by
  rw [Bool.eq_false_iff];intro e;have:=hM k e;omega
 have hK2:∀ k,Kor K (w.heap.size+1) k=true->k<w2.heap.size:=xzhz (fun k hk=>by have:=hK k hk;omega) (by omega)
 have hM2:∀ k,M k=true->k<w2.heap.size:=fun k hk=>by have:=hM k hk;omega
 have hm2:MkAt M (Kor K (w.heap.size+1)) w2 pb S r f e m:=hm.new hb2 (by omega);have HBX:=zd (And.intro hx0 hx1);have HMF:=zd hMf;have HW2:=zd (And.intro hb2 hs2)
 have HPA:=zd (xzpx l IH hokT M (Kor K (w.heap.size+1)) S A c pb r f e m w2 hm2 (fun hne=>by
  obtain⟨b,o,e1,_,hg⟩:=hrows hne;refine⟨b,o,e1,fun i hi=>?_⟩;obtain⟨cs,h1,h2,h3⟩:=hg i hi
  exact⟨cs,h1.sub (xzai _ hb2),h2,fun j x hx=>xzai _ hb2 _ _ (h3 j x hx)⟩) hS hnn hll hM2 hK2)
 have HO:=zd (And.intro ho2 (show(partsP l S).1.sets.length<=1048576 by omega));have HK2:=zd hK2;obtain⟨d0,d1,d2,d3,d4,d5,d6,d7⟩:=hx0.eight;unfold reV reL;clear hb2 hs2 hx0 hx1 hMf hK2 hM2 hm2 hm hat hS hn hM hK hp1 hrows IH hokT hnn ho1 ho2 ho3 ho4;generalize partsP l S=PS at*
 go_enter Tryz.func80,Tryz.ntmps80
 go_wp2_with fail
 go_at_call 98
 refine HPA.out.mono ?_;rintro x u1 ⟨M1,v1,rfl,hnx,hlt1,hmk,hps⟩
 have hkk:∀ k,MK M1 (Kor K (w.heap.size+1)) k=true->k<u1.heap.size:=fun k hk=>by
  unfold MK at hk;simp only [Bool.or_eq_true]at hk
  rcases hk with hk|hk
  ·exact hlt1 k hk
  ·exact Nat.lt_of_lt_of_le (HK2.out k hk) hnx.size
 have HEI:=zd (xzvl PS.2 v1 u1 (MK M1 (Kor K (w.heap.size+1))) PS.1.sets.length hkk (hps.sub (fun _ _ h=>h) xzba) HO.out.1 HO.out.2);have HN1:=zd (And.intro hnx (And.intro hlt1 hmk));clear hnx hlt1 hmk hps hkk
 go_wp2_with fail
 go_at_call 99
 refine HEI.out.mono ?_;rintro x u2 ⟨v2,rfl,⟨p1,p2,rfl,hp1,hp2⟩,hb⟩;have hb1:=(HBX.out.2.nx HN1.out.1 (HMF.out _ (by omega))).step hb;have hfin:=xzic hb1 ((Nx.below HW2.out.1).trans (HN1.out.1.trans (Nx.below hb))) (by omega) (HN1.out.1.keeps (by have:=HW2.out.2;omega) (HMF.out _ (by omega))) (fun k hk=>Nat.lt_of_lt_of_le (HN1.out.2.1 k hk) hb.size) (HN1.out.2.2.step hb) hp1 hp2 (eitherP ⟨[],[],false⟩ PS.2).empty rfl;obtain⟨Y1,y1,rfl,_⟩:=hp1.form;obtain⟨Y2,y2,rfl,_⟩:=hp2.form;obtain⟨k0,k1,k2,l0,l1,l2⟩:=three hb1;have HFN:=zd hfin;have hlt:=hb1.lt;clear hfin hb1 hb hp1 hp2 d0 d1 d2 d3 d4 d5 d6 d7;go_wp2;obtain⟨hl,M2,v',hv,h1,h2,h3,h4⟩:=HFN.out;exact⟨rfl,_,xzae rfl rfl hl,M2,_,congrArg Ending.returned hv,h1,h2,h3,h4⟩
end
section
open Go.RowKit
attribute [local irreducible] FreeW textFrame
set_option maxRecDepth 20000 in
set_option maxHeartbeats 16000000 in
theorem yzew (ms:Nat->Bool)(l:List Tree)(lo hi:Int)(IH:∀ t∈l,PartIs t)(hokT:okTs l)(hll:l.length<=1048576):PartIs (.node 2 ms l lo hi):=by
 intro M K S v pb r f e m w hm hat hS hn hM hK;obtain⟨A,c,rfl,hc,hrows⟩:=hat.open
 have hp1:partP (.node 2 ms l lo hi) S=(⟨(partsP l S).1.sets,(inRowP l.length 0 (partsP l S).2 (partsP l S).1.follow).1⟩,(inRowP l.length 0 (partsP l S).2 (partsP l S).1.follow).2):=by unfold partP;simp
 have hnn:S.sets.length+sumN l<=1048576:=by simp only [Tree.plN]at hn;simpa using hn
 obtain⟨ho1,ho2,ho3,ho4⟩:=partsP_ok l S hokT hS;rw [hp1];obtain⟨w2,hw2⟩:∃ w2,(w.alloc (.cells #[.int .i64 2,.int .u64 (wd ms 0:Nat),.int .u64 (wd ms 1:Nat),.int .u64 (wd ms 2:Nat),.int .u64 (wd ms 3:Nat),.slice A l.length c,.int .i64 lo,.int .i64 hi] 55)).alloc (.cells #[.slice none 0 0,.slice none 0 0,.bool false] 149)=w2:=⟨_,rfl⟩
 have hb2:Below w.heap.size w w2:=by rw [<-hw2];exact((Below.refl _ _).alloc (Nat.le_refl _) _).alloc (by simp) _
 have hs2:w2.heap.size=w.heap.size+2:=by rw [<-hw2];simp
 have hx0:BlkIs w2 w.heap.size 55 #[.int .i64 2,.int .u64 (wd ms 0:Nat),.int .u64 (wd ms 1:Nat),.int .u64 (wd ms 2:Nat),.int .u64 (wd ms 3:Nat),.slice A l.length c,.int .i64 lo,.int .i64 hi]:=by rw [<-hw2];exact(BlkIs.new w _ _).alloc _
 have hx1:BlkIs w2 (w.heap.size+1) 149 #[.slice none 0 0,.slice none 0 0,.bool false]:=by
  rw [<-hw2];have h:=BlkIs.new (w.alloc (.cells #[.int .i64 2,.int .u64 (wd ms 0:Nat),.int .u64 (wd ms 1:Nat),.int .u64 (wd ms 2:Nat),.int .u64 (wd ms 3:Nat),.slice A l.length c,.int .i64 lo,.int .i64 hi] 55)) 149 #[.slice none 0 0,.slice none 0 0,.bool false];rw [World.size_alloc]at h;exact h
 have hMf:∀ k,w.heap.size<=k->M k=false:=fun k hk=>by
  rw [Bool.eq_false_iff];intro e;have:=hM k e;omega
 have hK2:∀ k,Kor K (w.heap.size+1) k=true->k<w2.heap.size:=xzhz (fun k hk=>by have:=hK k hk;omega) (by omega)
 have hM2:∀ k,M k=true->k<w2.heap.size:=fun k hk=>by have:=hM k hk;omega
 have hm2:MkAt M (Kor K (w.heap.size+1)) w2 pb S r f e m:=hm.new hb2 (by omega);have HBX:=zd (And.intro hx0 hx1);have HMF:=zd hMf;have HW2:=zd (And.intro hb2 hs2)
 have HPA:=zd (xzpx l IH hokT M (Kor K (w.heap.size+1)) S A c pb r f e m w2.drew (hm2.step (Below.refl _ _).drew) (fun hne=>by
  obtain⟨b,o,e1,_,hg⟩:=hrows hne;refine⟨b,o,e1,fun i hi=>?_⟩;obtain⟨cs,h1,h2,h3⟩:=hg i hi;have hbd:Below w.heap.size w w2.drew:=hb2.drew
  exact⟨cs,h1.sub (xzai _ hbd),h2,fun j x hx=>xzai _ hbd _ _ (h3 j x hx)⟩) hS hnn hll hM2 hK2)
 have HO:=zd (And.intro ho1 (And.intro ho2 (And.intro (show(partsP l S).1.sets.length<=1048576 by omega) (show(partsP l S).2.length<=1048576 by omega))));have HK2:=zd hK2;obtain⟨d0,d1,d2,d3,d4,d5,d6,d7⟩:=hx0.eight;unfold reV reL;clear hb2 hs2 hx0 hx1 hMf hK2 hM2 hm2 hm hat hS hn hM hK hp1 hrows IH hokT hnn ho1 ho2 ho3 ho4;generalize partsP l S=PS at*
 go_enter Tryz.func80,Tryz.ntmps80
 go_wp2_with fail
 refine xzck 8 41 4 (fun cph u=>match cph with|false=>u=w2.drew|true=>BlkIs u w.heap.size 55 #[.int .i64 2,.int .u64 (wd ms 0:Nat),.int .u64 (wd ms 1:Nat),.int .u64 (wd ms 2:Nat),.int .u64 (wd ms 3:Nat),.slice A l.length c,.int .i64 lo,.int .i64 hi]) (fun i u u'=>(i=4->BlkIs u' w.heap.size 55 #[.int .i64 2,.int .u64 (wd ms 0:Nat),.int .u64 (wd ms 1:Nat),.int .u64 (wd ms 2:Nat),.int .u64 (wd ms 3:Nat),.slice A l.length c,.int .i64 lo,.int .i64 hi])/\(i≠4->u'=u))
  (fun i v u=>match i with
   |0=>v=.pointer (some ⟨pb,0,none⟩)
   |1=>v=.pointer (some ⟨pb,0,none⟩)
   |2=>v=.pointer (some ⟨w.heap.size,5,none⟩)
   |3=>v=.slice A l.length c
   |4=>∃ M1,Nx M M1 w2 u/\(∀ k,M1 k=true->k<u.heap.size)/\MkAt M1 (Kor K (w.heap.size+1)) u pb PS.1 r f e m/\PrtsAt (hide u (MK M1 (Kor K (w.heap.size+1)))) (hide u M1) PS.2 v/\BlkIs u (w.heap.size+1) 149 #[.slice none 0 0,.slice none 0 0,.bool false]
   |5=>v=.pointer (some ⟨w.heap.size,5,none⟩)
   |6=>v=.slice A l.length c
   |7=>v=.int .i64 (l.length:Int)
   |_=>True) (by kernel_rfl) (by kernel_rfl) rfl rfl ?_ ?_ ?_ ?_
 ·intro i cph u u' hix hcx hC hr
  by_cases hi4:i=4
  ·rw [show(cph||decide (i=4))=true by simp [hi4]]
   exact hr.1 hi4
  ·rw [show(cph||decide (i=4))=cph by simp [hi4],hr.2 hi4]
   exact hC
 ·intro i j v u u' hix hj hne hv hr
  match i,hix,hne,hv with
  |0,_,_,hv=>exact hv
  |1,_,_,hv=>exact hv
  |2,_,_,hv=>exact hv
  |3,_,_,hv=>exact hv
  |4,_,hne,hv=>
   rw [hr.2 (Ne.symm hne)];exact hv
  |5,_,_,hv=>exact hv
  |6,_,_,hv=>exact hv
  |7,_,_,hv=>exact hv
  |i+8,hix,_,_=>omega
 ·intro i hix cph vs u hcx hC hw oq ho
  match i,hix,hcx,hw,ho with
  |0,_,hcx,hw,ho=>
   simp only [zq,zh]at ho;subst ho;refine⟨rfl,?_⟩;clear hw hcx;simp only [xzaa,tmpsTo];go_simp;exact xzab (rfl) rfl
  |1,_,hcx,hw,ho=>
   simp only [zq,zh]at ho;subst ho;refine⟨rfl,?_⟩;clear hw hcx;simp only [xzaa,tmpsTo,putT,zr];go_simp;exact xzab (rfl) rfl
  |2,_,hcx,hw,ho=>
   simp only [zq,zh]at ho;subst ho;refine⟨rfl,?_⟩;clear hw hcx;simp only [xzaa,tmpsTo,putT,zr];go_simp;exact xzab (rfl) rfl
  |3,_,hcx,hw,ho=>
   have e2:vs 2=.pointer (some ⟨w.heap.size,5,none⟩):=hw 2 (by omega) (by kernel_rfl);simp only [zq,zh]at ho;subst ho;refine⟨rfl,?_⟩
   have hbx:BlkIs u w.heap.size 55 #[.int .i64 2,.int .u64 (wd ms 0:Nat),.int .u64 (wd ms 1:Nat),.int .u64 (wd ms 2:Nat),.int .u64 (wd ms 3:Nat),.slice A l.length c,.int .i64 lo,.int .i64 hi]:=by
    cases cph with
    |false=>have hC:u=w2.drew:=hC;rw [hC];exact HBX.out.1.drew
    |true=>exact hC
   obtain⟨d0,d1,d2,d3,d4,d5,d6,d7⟩:=hbx.eight;clear hbx hC;clear hw hcx;simp only [xzaa,tmpsTo,putT,zr];rw [e2];clear e2;go_simp;exact xzab (rfl) rfl
  |4,_,hcx,hw,ho=>
   have e1:vs 1=.pointer (some ⟨pb,0,none⟩):=hw 1 (by omega) (by kernel_rfl);have e3:vs 3=.slice A l.length c:=hw 3 (by omega) (by kernel_rfl);simp only [zq,zh]at ho;subst ho;refine⟨rfl,?_⟩;clear hw;simp only [xzaa,tmpsTo,putT,zr];rw [e1,e3];clear e1 e3;have hc:=hcx rfl;subst hc;have hC:u=w2.drew:=hC;subst hC;clear hcx;go_simp;refine xzak (HPA.out.mono ?_);rintro e u' ⟨M1,v1,rfl,h1,h2,h3,h4⟩;refine⟨v1,rfl,?_,M1,(Nx.below ((Below.refl _ w2).drew)).trans h1,h2,h3,h4,(HBX.out.2.drew).nx h1 (HMF.out _ (by omega))⟩
   first|exact(HBX.out.1.drew).nx h1 (HMF.out _ (Nat.le_refl _))|exact⟨fun _=>(HBX.out.1.drew).nx h1 (HMF.out _ (Nat.le_refl _)),fun h=>absurd rfl h⟩
  |5,_,hcx,hw,ho=>
   simp only [zq,zh]at ho;subst ho;refine⟨rfl,?_⟩;clear hw hcx;simp only [xzaa,tmpsTo,putT,zr];go_simp;exact xzab (rfl) rfl
  |6,_,hcx,hw,ho=>
   have e5:vs 5=.pointer (some ⟨w.heap.size,5,none⟩):=hw 5 (by omega) (by kernel_rfl);simp only [zq,zh]at ho;subst ho;refine⟨rfl,?_⟩
   have hbx:BlkIs u w.heap.size 55 #[.int .i64 2,.int .u64 (wd ms 0:Nat),.int .u64 (wd ms 1:Nat),.int .u64 (wd ms 2:Nat),.int .u64 (wd ms 3:Nat),.slice A l.length c,.int .i64 lo,.int .i64 hi]:=by
    cases cph with
    |false=>have hC:u=w2.drew:=hC;rw [hC];exact HBX.out.1.drew
    |true=>exact hC
   obtain⟨d0,d1,d2,d3,d4,d5,d6,d7⟩:=hbx.eight;clear hbx hC;clear hw hcx;simp only [xzaa,tmpsTo,putT,zr];rw [e5];clear e5;go_simp;exact xzab (rfl) rfl
  |7,_,hcx,hw,ho=>
   have e6:vs 6=.slice A l.length c:=hw 6 (by omega) (by kernel_rfl);simp only [zq,zh]at ho;subst ho;refine⟨rfl,?_⟩;clear hw hcx;simp only [xzaa,tmpsTo,putT,zr];rw [e6];clear e6;go_simp;exact xzab (rfl) rfl
  |i+8,hix,_,_,_=>omega
 intro vs1 u hC hV;obtain⟨v4,h4⟩:∃ v,v=vs1 4:=⟨_,rfl⟩
 have hV4:∃ M1,Nx M M1 w2 u/\(∀ k,M1 k=true->k<u.heap.size)/\MkAt M1 (Kor K (w.heap.size+1)) u pb PS.1 r f e m/\PrtsAt (hide u (MK M1 (Kor K (w.heap.size+1)))) (hide u M1) PS.2 v4/\BlkIs u (w.heap.size+1) 149 #[.slice none 0 0,.slice none 0 0,.bool false]:=by rw [h4];exact hV 4 (by omega)
 obtain⟨M1,hn1,hlt1,hmk,hps,hb1⟩:=hV4;have e0:vs1 0=.pointer (some ⟨pb,0,none⟩):=hV 0 (by omega);have eL:vs1 7=.int .i64 (l.length:Int):=hV 7 (by omega);clear hV hC;simp only [xzaa,tmpsTo,putT,zr,List.drop_succ_cons,List.drop_zero];rw [e0,eL,<-h4];clear e0 eL h4;generalize vs1 1=q1;generalize vs1 2=q2;generalize vs1 3=q3;generalize vs1 5=q5;generalize vs1 6=q6
 have hkk:∀ k,Kor K (w.heap.size+1) k=true->k<u.heap.size:=fun k hk=>Nat.lt_of_lt_of_le (HK2.out k hk) hn1.size
 have HIR:=zd (xzpv M1 (Kor K (w.heap.size+1)) PS.1 PS.2 v4 (l.length:Int) pb r f e m u hmk hps HO.out.1 HO.out.2.1 HO.out.2.2.1 HO.out.2.2.2 hlt1 hkk);obtain⟨k0,k1,k2,l0,l1,l2⟩:=three hb1;have HN1:=zd (And.intro hn1 (And.intro hlt1 (And.intro hb1 (hn1.keeps (by have:=HW2.out.2;omega) (HMF.out (w.heap.size+1) (by omega))))));clear hn1 hlt1 hmk hps hb1 hkk
 go_wp2_with fail
 go_at_call 97
 refine HIR.out.mono ?_;rintro x u2 ⟨v2,rfl,hnx,hmk2,p1,p2,rfl,hp1,hp2⟩;have hb2:=HN1.out.2.2.1.nx hnx HN1.out.2.2.2;have hfin:=xzic hb2 ((Nx.below HW2.out.1).trans (HN1.out.1.trans hnx)) (by omega) HN1.out.2.2.2 (fun k hk=>Nat.lt_of_lt_of_le (HN1.out.2.1 k hk) hnx.size) hmk2 hp1 hp2 _ rfl;obtain⟨Y1,y1,rfl,_⟩:=hp1.form;obtain⟨Y2,y2,rfl,_⟩:=hp2.form;clear k0 k1 k2 l0 l1 l2;obtain⟨k0,k1,k2,l0,l1,l2⟩:=three hb2;have HFN:=zd hfin;have hlt:=hb2.lt;clear hfin hb2 hnx hmk2 hp1 hp2;go_wp2;obtain⟨hl,M2,v',hv,h1,h2,h3,h4⟩:=HFN.out;exact⟨rfl,_,xzae rfl rfl hl,M2,_,congrArg Ending.returned hv,h1,h2,h3,h4⟩
theorem xzob {lo hi:Int}(h:copiesI lo hi<=1)(h0:0<=copiesI lo hi):copiesI lo hi=0\/copiesI lo hi=1:=by omega
set_option maxRecDepth 20000 in
set_option maxHeartbeats 16000000 in
theorem yzex (ms:Nat->Bool)(l:List Tree)(lo hi:Int)(IH:∀ t∈l,PartIs t)(hokT:okTs l)(hl1:l.length=1)(hcp:copiesI lo hi=0\/copiesI lo hi=1):PartIs (.node 4 ms l lo hi):=by
 intro M K S v pb r f e m w hm hat hS hn hM hK;obtain⟨A,c,rfl,hc,hrows⟩:=hat.open;obtain⟨SS,PP,hSS⟩:∃ SS PP,(SS,PP)=(if copiesI lo hi=0 then(S,[])else(⟨(partsP l S).1.sets,if hi= -1 then linkF (partsP l S).1.follow ((partsP l S).2.headD ⟨[],[],true⟩).ends ((partsP l S).2.headD ⟨[],[],true⟩).first else(partsP l S).1.follow⟩,[(partsP l S).2.headD ⟨[],[],true⟩]):Mk×List Prt):=⟨_,_,rfl⟩
 have hp1:partP (.node 4 ms l lo hi) S=(⟨SS.sets,(inRowP lo 0 PP SS.follow).1⟩,(inRowP lo 0 PP SS.follow).2):=by
  unfold partP
  rcases hcp with h|h
  ·rw [if_pos h]at hSS
   injection hSS with h1 h2
   subst h1 h2
   simp [h,inRowP]
  ·rw [if_neg (by omega)]at hSS
   injection hSS with h1 h2
   subst h1 h2
   simp [h,copyN]
 rw [hp1];obtain⟨w2,hw2⟩:∃ w2,(w.alloc (.cells #[.int .i64 4,.int .u64 (wd ms 0:Nat),.int .u64 (wd ms 1:Nat),.int .u64 (wd ms 2:Nat),.int .u64 (wd ms 3:Nat),.slice A l.length c,.int .i64 lo,.int .i64 hi] 55)).alloc (.cells #[.slice none 0 0,.slice none 0 0,.bool false] 149)=w2:=⟨_,rfl⟩
 have hb2:Below w.heap.size w w2:=by rw [<-hw2];exact((Below.refl _ _).alloc (Nat.le_refl _) _).alloc (by simp) _
 have hs2:w2.heap.size=w.heap.size+2:=by rw [<-hw2];simp
 have hx0:BlkIs w2 w.heap.size 55 #[.int .i64 4,.int .u64 (wd ms 0:Nat),.int .u64 (wd ms 1:Nat),.int .u64 (wd ms 2:Nat),.int .u64 (wd ms 3:Nat),.slice A l.length c,.int .i64 lo,.int .i64 hi]:=by rw [<-hw2];exact(BlkIs.new w _ _).alloc _
 have hx1:BlkIs w2 (w.heap.size+1) 149 #[.slice none 0 0,.slice none 0 0,.bool false]:=by
  rw [<-hw2];have h:=BlkIs.new (w.alloc (.cells #[.int .i64 4,.int .u64 (wd ms 0:Nat),.int .u64 (wd ms 1:Nat),.int .u64 (wd ms 2:Nat),.int .u64 (wd ms 3:Nat),.slice A l.length c,.int .i64 lo,.int .i64 hi] 55)) 149 #[.slice none 0 0,.slice none 0 0,.bool false];rw [World.size_alloc]at h;exact h
 have hMf:∀ k,w.heap.size<=k->M k=false:=fun k hk=>by
  rw [Bool.eq_false_iff];intro e;have:=hM k e;omega
 have hK2:∀ k,Kor K (w.heap.size+1) k=true->k<w2.heap.size:=xzhz (fun k hk=>by have:=hK k hk;omega) (by omega)
 have hM2:∀ k,M k=true->k<w2.heap.size:=fun k hk=>by have:=hM k hk;omega
 have hm2:MkAt M (Kor K (w.heap.size+1)) w2 pb S r f e m:=hm.new hb2 (by omega);have HBX:=zd (And.intro hx0 hx1);have HMF:=zd hMf;have HW2:=zd (And.intro hb2 hs2)
 have hHO:SS.Ok/\(∀ p∈PP,p.Ok SS.sets.length)/\SS.sets.length<=1048576/\PP.length<=1048576:=by
  obtain⟨t,rfl⟩:=List.length_eq_one_iff.1 hl1;simp only [Tree.plN,sumN]at hn
  rcases hcp with h|h
  ·rw [if_pos h]at hSS
   injection hSS with h1 h2
   subst h1 h2;exact⟨hS,fun p hp=>by simp at hp,by omega,by simp⟩
  ·rw [if_neg (by omega)]at hSS
   injection hSS with h1 h2
   obtain⟨g1,g2,g3,g4⟩:=partsP_ok [t] S hokT hS;obtain⟨p,hp⟩:=List.length_eq_one_iff.1 g4;rw [hp]at g2 h1 h2;have hpo:=g2 p (by simp);simp only [List.headD_cons]at h1 h2;subst h2
   have hsz:SS.sets.length=(partsP [t] S).1.sets.length:=by rw [h1]
   rw [h]at hn
   have hss:SS.sets.length<=1048576:=by
    rw [hsz,g3];simp only [sumN]
    simp at hn;omega
   refine⟨?_,fun q hq=>by rw [hsz];exact g2 q hq,hss,by simp⟩;rw [h1]
   split
   ·exact⟨(xzey _ _ _).trans g1.1,xzhw _ g1.2 hpo.1⟩
   ·exact g1
 have HPA:=zd (show Calls Tryz.prog 100 #[.pointer (some ⟨pb,0,none⟩),reV 4 ms A l.length c lo hi] w2.drew fun x w'=>∃ M' v',x=.returned v'/\Nx M M' w2.drew w'/\(∀ k,M' k=true->k<w'.heap.size)/\MkAt M' (Kor K (w.heap.size+1)) w' pb SS r f e m/\PrtsAt (hide w' (MK M' (Kor K (w.heap.size+1)))) (hide w' M') PP v' from by
  have hmd:=hm2.step (Below.refl w2.heap.size w2).drew;obtain⟨t,rfl⟩:=List.length_eq_one_iff.1 hl1
  rcases hcp with h|h
  ·rw [if_pos h]at hSS
   injection hSS with h1 h2
   subst h1 h2;refine(xzml ms A 1 c lo hi h pb w2.drew).mono ?_;rintro x u ⟨rfl,hu⟩;exact⟨M,_,rfl,Nx.below hu,fun k hk=>Nat.lt_of_lt_of_le (hM2 k hk) hu.size,hmd.step hu,⟨none,0,rfl,⟨by simp,by decide⟩,fun h=>absurd rfl h⟩⟩
  ·rw [if_neg (by omega)]at hSS
   injection hSS with h1 h2
   simp only [partsP,List.headD_cons]at h1 h2;subst h1 h2;have hbd:Below w.heap.size w w2.drew:=hb2.drew;refine(xzoa t (IH t (by simp)) (xznz hokT t (by simp)) M (Kor K (w.heap.size+1)) S ms A c lo hi h pb r f e m w2.drew hmd ?_ hS ?_ hM2 hK2)
   ·obtain⟨b,o,e1,_,hg⟩:=hrows (by simp)
    obtain⟨cs,h1,h2,h3⟩:=hg 0 (by simp);exact⟨b,o,e1,cs,h1.sub (xzai _ hbd),h2,fun j x hx=>xzai _ hbd _ _ (by have:=h3 j x hx;simpa using this)⟩
   ·simp only [Tree.plN,sumN]at hn
    rw [h]at hn
    simp at hn;omega)
 have HO:=zd hHO;have HK2:=zd hK2;obtain⟨d0,d1,d2,d3,d4,d5,d6,d7⟩:=hx0.eight;unfold reV reL at*;clear hb2 hs2 hx0 hx1 hMf hK2 hM2 hm2 hm hat hS hn hM hK hp1 hrows IH hokT hSS hHO hcp hl1
 go_enter Tryz.func80,Tryz.ntmps80
 go_wp2_with fail
 refine xzck 6 41 3 (fun cph u=>match cph with|false=>u=w2.drew|true=>BlkIs u w.heap.size 55 #[.int .i64 4,.int .u64 (wd ms 0:Nat),.int .u64 (wd ms 1:Nat),.int .u64 (wd ms 2:Nat),.int .u64 (wd ms 3:Nat),.slice A l.length c,.int .i64 lo,.int .i64 hi]) (fun i u u'=>(i=3->BlkIs u' w.heap.size 55 #[.int .i64 4,.int .u64 (wd ms 0:Nat),.int .u64 (wd ms 1:Nat),.int .u64 (wd ms 2:Nat),.int .u64 (wd ms 3:Nat),.slice A l.length c,.int .i64 lo,.int .i64 hi])/\(i≠3->u'=u))
  (fun i v u=>match i with
   |0=>v=.pointer (some ⟨pb,0,none⟩)
   |1=>v=.pointer (some ⟨pb,0,none⟩)
   |2=>v=.agg #[.int .i64 4,.int .u64 (wd ms 0:Nat),.int .u64 (wd ms 1:Nat),.int .u64 (wd ms 2:Nat),.int .u64 (wd ms 3:Nat),.slice A l.length c,.int .i64 lo,.int .i64 hi]
   |3=>∃ M1,Nx M M1 w2 u/\(∀ k,M1 k=true->k<u.heap.size)/\MkAt M1 (Kor K (w.heap.size+1)) u pb SS r f e m/\PrtsAt (hide u (MK M1 (Kor K (w.heap.size+1)))) (hide u M1) PP v/\BlkIs u (w.heap.size+1) 149 #[.slice none 0 0,.slice none 0 0,.bool false]
   |4=>v=.pointer (some ⟨w.heap.size,6,none⟩)
   |5=>v=.int .i64 lo
   |_=>True) (by kernel_rfl) (by kernel_rfl) rfl rfl ?_ ?_ ?_ ?_
 ·intro i cph u u' hix hcx hC hr
  by_cases hi3:i=3
  ·rw [show(cph||decide (i=3))=true by simp [hi3]]
   exact hr.1 hi3
  ·rw [show(cph||decide (i=3))=cph by simp [hi3],hr.2 hi3]
   exact hC
 ·intro i j v u u' hix hj hne hv hr
  match i,hix,hne,hv with
  |0,_,_,hv=>exact hv
  |1,_,_,hv=>exact hv
  |2,_,_,hv=>exact hv
  |3,_,hne,hv=>
   rw [hr.2 (Ne.symm hne)];exact hv
  |4,_,_,hv=>exact hv
  |5,_,_,hv=>exact hv
  |i+6,hix,_,_=>omega
 ·intro i hix cph vs u hcx hC hw oq ho
  match i,hix,hcx,hw,ho with
  |0,_,hcx,hw,ho=>
   simp only [zq,zh]at ho;subst ho;refine⟨rfl,?_⟩;clear hw hcx;simp only [xzaa,tmpsTo];go_simp;exact xzab (rfl) rfl
  |1,_,hcx,hw,ho=>
   simp only [zq,zh]at ho;subst ho;refine⟨rfl,?_⟩;clear hw hcx;simp only [xzaa,tmpsTo,putT,zr];go_simp;exact xzab (rfl) rfl
  |2,_,hcx,hw,ho=>
   simp only [zq,zh]at ho;subst ho;refine⟨rfl,?_⟩
   have hbx:BlkIs u w.heap.size 55 #[.int .i64 4,.int .u64 (wd ms 0:Nat),.int .u64 (wd ms 1:Nat),.int .u64 (wd ms 2:Nat),.int .u64 (wd ms 3:Nat),.slice A l.length c,.int .i64 lo,.int .i64 hi]:=by
    cases cph with
    |false=>have hC:u=w2.drew:=hC;rw [hC];exact HBX.out.1.drew
    |true=>exact hC
   obtain⟨d0,d1,d2,d3,d4,d5,d6,d7⟩:=hbx.eight;clear hbx hC;clear hw hcx;simp only [xzaa,tmpsTo,putT,zr];go_simp;exact xzab (rfl) rfl
  |3,_,hcx,hw,ho=>
   have e1:vs 1=.pointer (some ⟨pb,0,none⟩):=hw 1 (by omega) (by kernel_rfl);have e2:vs 2=.agg #[.int .i64 4,.int .u64 (wd ms 0:Nat),.int .u64 (wd ms 1:Nat),.int .u64 (wd ms 2:Nat),.int .u64 (wd ms 3:Nat),.slice A l.length c,.int .i64 lo,.int .i64 hi]:=hw 2 (by omega) (by kernel_rfl);simp only [zq,zh]at ho;subst ho;refine⟨rfl,?_⟩;clear hw;simp only [xzaa,tmpsTo,putT,zr];rw [e1,e2];clear e1 e2;have hc:=hcx rfl;subst hc;have hC:u=w2.drew:=hC;subst hC;clear hcx;go_simp;refine xzak (HPA.out.mono ?_);rintro e u' ⟨M1,v1,rfl,h1,h2,h3,h4⟩;refine⟨v1,rfl,?_,M1,(Nx.below ((Below.refl _ w2).drew)).trans h1,h2,h3,h4,(HBX.out.2.drew).nx h1 (HMF.out _ (by omega))⟩
   first|exact(HBX.out.1.drew).nx h1 (HMF.out _ (Nat.le_refl _))|exact⟨fun _=>(HBX.out.1.drew).nx h1 (HMF.out _ (Nat.le_refl _)),fun h=>absurd rfl h⟩
  |4,_,hcx,hw,ho=>
   simp only [zq,zh]at ho;subst ho;refine⟨rfl,?_⟩;clear hw hcx;simp only [xzaa,tmpsTo,putT,zr];go_simp;exact xzab (rfl) rfl
  |5,_,hcx,hw,ho=>
   have e4:vs 4=.pointer (some ⟨w.heap.size,6,none⟩):=hw 4 (by omega) (by kernel_rfl);simp only [zq,zh]at ho;subst ho;refine⟨rfl,?_⟩
   have hbx:BlkIs u w.heap.size 55 #[.int .i64 4,.int .u64 (wd ms 0:Nat),.int .u64 (wd ms 1:Nat),.int .u64 (wd ms 2:Nat),.int .u64 (wd ms 3:Nat),.slice A l.length c,.int .i64 lo,.int .i64 hi]:=by
    cases cph with
    |false=>have hC:u=w2.drew:=hC;rw [hC];exact HBX.out.1.drew
    |true=>exact hC
   obtain⟨d0,d1,d2,d3,d4,d5,d6,d7⟩:=hbx.eight;clear hbx hC;clear hw hcx;simp only [xzaa,tmpsTo,putT,zr];rw [e4];clear e4;go_simp;exact xzab (rfl) rfl
  |i+6,hix,_,_,_=>omega
 intro vs1 u hC hV;obtain⟨v4,h4⟩:∃ v,v=vs1 3:=⟨_,rfl⟩
 have hV4:∃ M1,Nx M M1 w2 u/\(∀ k,M1 k=true->k<u.heap.size)/\MkAt M1 (Kor K (w.heap.size+1)) u pb SS r f e m/\PrtsAt (hide u (MK M1 (Kor K (w.heap.size+1)))) (hide u M1) PP v4/\BlkIs u (w.heap.size+1) 149 #[.slice none 0 0,.slice none 0 0,.bool false]:=by rw [h4];exact hV 3 (by omega)
 obtain⟨M1,hn1,hlt1,hmk,hps,hb1⟩:=hV4;have e0:vs1 0=.pointer (some ⟨pb,0,none⟩):=hV 0 (by omega);have eL:vs1 5=.int .i64 lo:=hV 5 (by omega);clear hV hC;simp only [xzaa,tmpsTo,putT,zr,List.drop_succ_cons,List.drop_zero];rw [e0,eL,<-h4];clear e0 eL h4;generalize vs1 1=q1;generalize vs1 2=q2;generalize vs1 4=q4
 have hkk:∀ k,Kor K (w.heap.size+1) k=true->k<u.heap.size:=fun k hk=>Nat.lt_of_lt_of_le (HK2.out k hk) hn1.size
 have HIR:=zd (xzpv M1 (Kor K (w.heap.size+1)) SS PP v4 lo pb r f e m u hmk hps HO.out.1 HO.out.2.1 HO.out.2.2.1 HO.out.2.2.2 hlt1 hkk);obtain⟨k0,k1,k2,l0,l1,l2⟩:=three hb1;have HN1:=zd (And.intro hn1 (And.intro hlt1 (And.intro hb1 (hn1.keeps (by have:=HW2.out.2;omega) (HMF.out (w.heap.size+1) (by omega))))));clear hn1 hlt1 hmk hps hb1 hkk
 go_wp2_with fail
 go_at_call 97
 refine HIR.out.mono ?_;rintro x u2 ⟨v2,rfl,hnx,hmk2,p1,p2,rfl,hp1,hp2⟩;have hb2:=HN1.out.2.2.1.nx hnx HN1.out.2.2.2;have hfin:=xzic hb2 ((Nx.below HW2.out.1).trans (HN1.out.1.trans hnx)) (by omega) HN1.out.2.2.2 (fun k hk=>Nat.lt_of_lt_of_le (HN1.out.2.1 k hk) hnx.size) hmk2 hp1 hp2 _ rfl;obtain⟨Y1,y1,rfl,_⟩:=hp1.form;obtain⟨Y2,y2,rfl,_⟩:=hp2.form;clear k0 k1 k2 l0 l1 l2;obtain⟨k0,k1,k2,l0,l1,l2⟩:=three hb2;have HFN:=zd hfin;have hlt:=hb2.lt;clear hfin hb2 hnx hmk2 hp1 hp2;go_wp2;obtain⟨hl,M2,v',hv,h1,h2,h3,h4⟩:=HFN.out;exact⟨rfl,_,xzae rfl rfl hl,M2,_,congrArg Ending.returned hv,h1,h2,h3,h4⟩
mutual
def Tree.once:Tree->Bool
 | .node k _ l lo hi=>(k != 4||(decide (copiesI lo hi<=1)))&&onceL l
def onceL:List Tree->Bool
 |[]=>true
 |t::r=>t.once&&onceL r
end
theorem xzpy:∀ {l:List Tree},onceL l=true->∀ t∈l,t.once=true
 |[],_,t,ht=>by simp at ht
 |x::l,h,t,ht=>by
  simp only [onceL,Bool.and_eq_true]at h
  rcases List.mem_cons.1 ht with rfl|ht
  ·exact h.1
  ·exact xzpy h.2 t ht
theorem xzvr (T:Tree)(h:T.ok=true):T.okT:=by
 induction T using Tree.ind with
 |h k m l lo hi ih=>
  have hop:=xzph h;have hkind:=xzdy hop.2;unfold Tree.okT;refine⟨⟨fun e=>?_,fun e=>?_,fun e1 e2 e3 e4=>?_⟩,?_⟩
  ·apply List.eq_nil_of_length_eq_zero;omega
  ·omega
  ·apply List.eq_nil_of_length_eq_zero;omega
  ·have:∀ (r:List Tree),(∀ t∈r,t.okT)->okTs r:=fun r=>by
    induction r with
    |nil=>intro _;unfold okTs;trivial
    |cons x r ihr=>intro hr;unfold okTs;exact⟨hr x (by simp),ihr fun t ht=>hr t (by simp [ht])⟩
   exact this l fun t ht=>ih t ht (hop.1 t ht)
theorem xzgp (T:Tree)(h:T.ok=true)(ho:T.once=true)(hn:T.nodes<=1048576):PartIs T:=by
 induction T using Tree.ind with
 |h k m l lo hi ih=>
  have hokT:=xzvr _ h;have hop:=xzph h;have hkind:=xzdy hop.2;simp only [Tree.nodes]at hn;unfold Tree.okT at hokT;simp only [Tree.once,Bool.and_eq_true]at ho;have hl:=xzfm l
  have IH:∀ t∈l,PartIs t:=fun t ht=>by
   obtain⟨j,hj,rfl⟩:=List.getElem_of_mem ht;exact ih _ ht (hop.1 _ ht) (xzpy ho.2 _ ht) (Nat.le_trans (xzfn l j hj) (by omega))
  rcases hkind with⟨rfl,hl⟩|⟨rfl,hl⟩|⟨rfl,hl⟩|⟨rfl,hl⟩|⟨rfl,hl,hlo⟩
  ·obtain rfl:=List.eq_nil_of_length_eq_zero hl
   exact yzap m lo hi
  ·obtain rfl:=List.eq_nil_of_length_eq_zero hl
   exact yzao m lo hi
  ·exact yzew m l lo hi IH hokT.2 (by omega)
  ·exact yzev m l lo hi IH hokT.2 (by omega)
  ·have h1:copiesI lo hi<=1:=by simpa using ho.1
   exact yzex m l lo hi IH hokT.2 hl (xzob h1 (by unfold copiesI;split<;>omega))
end
section
open Go.RowKit
theorem xzrr {P:Program}{W:World}{B n z c:Nat}{t ty e:TypeId}{i:TypeInfo}{v:Value}{A:Option Addr}{xs:List Value}(ht:P.underlying t=some (.slice e))(hi:P.info? e=some i)(h:W.ownsRow B e z v n xs):
 (Builtin.append_ #[t,t] ty #[v,.slice A 0 c]).run P W=.ok v W:=by
 rcases h.2 with⟨rfl,rfl⟩|⟨g,cap,cur,rfl,_,_,hnc,_,_⟩
 ·cases A<;>simp [Builtin.append_,run_underlying ht,sizeOf,typeInfo,hi,Builtin.lenOf,Builtin.firstCells,loadCells,loadCellsFrom,Result.andThen]
 ·cases A<;>simp [Builtin.append_,run_underlying ht,sizeOf,typeInfo,hi,Builtin.lenOf,Builtin.firstCells,loadCells,loadCellsFrom,storeCells,hnc,Result.andThen]
section
variable {W : World} {v : Value} {n : Nat} {xs : List Value}
theorem xzjm (hown:W.ownsRow 0 3 1 v n xs){l:List Int}{vb:Value}(hb:IntsV W l vb)(hl:n+l.length<=1099511627776):
 ∃ v' W',(Builtin.append_ #[26,26] 26 #[v,vb]).run Tryz.prog W=.ok v' W'/\W'.ownsRow 0 3 1 v' (n+l.length) (xs++l.map (Value.int .i64))/\W.grownBy W' v.ownBlock/\
  W'.ownsRow 0 3 1 v n xs/\(v'.ownBlock=v.ownBlock\/v'.ownBlock=some W.heap.size):=by
 obtain⟨i0,hi0,hz0,hz1,hz2⟩:=info_parts xzdi
 by_cases hne:l=[]
 ·subst hne
  obtain⟨A,c,rfl,_⟩:=hb.form;exact⟨v,W,xzrr (P:=Tryz.prog) Tryz.underlying26 hi0 hown,by simpa using hown,⟨rfl,rfl,rfl,Nat.le_refl _,fun _ _ _=>rfl⟩,hown,.inl rfl⟩
 ·obtain⟨b,o,c,rfl,hr⟩:=hb.run hne
  have hnw:∀ j u,(l.map (Value.int .i64))[j]? =some u->W.cell? ((⟨b,o,none⟩:Addr).add j)=some u:=fun j u hu=>by
   rw [List.getElem?_map]at hu
   cases e:l[j]? with
   |none=>rw [e]at hu;cases hu
   |some x=>
    rw [e]at hu;obtain⟨hj,rfl⟩:=List.getElem?_eq_some_iff.1 e;rw [Addr.add_lit];exact(hr.2 j hj).trans hu
  obtain⟨v',W',h1,h2,h3,_,h4⟩:=run_append_own_at (P:=Tryz.prog) (w:=W) 0 26 26 3 i0 (.int .i64 0) 1 8 Tryz.underlying26 hi0 hz0 hz1 hz2 rfl (by decide) v n xs hown
   ⟨b,o,none⟩ l.length c (l.map (Value.int .i64)) (by simp) hnw (yzaj l) (by unfold maxLen;omega) (by omega) (Nat.zero_le _)
  exact⟨v',W',h1,h2,h3,xzdk (P:=Tryz.prog) Tryz.underlying26 hi0 hz0 hz1 hz2 hown (by simp) hnw (yzaj l) (by unfold maxLen;omega) (by omega) h1,h4⟩
theorem xzrs (hown:W.ownsRow 0 4 1 v n xs){a:Addr}{c:Nat}{x:Bool}(hnews:W.cell? a=some (.bool x))(hl:n+1<=1099511627776):
 ∃ v' W',(Builtin.append_ #[81,81] 81 #[v,.slice (some a) 1 c]).run Tryz.prog W=.ok v' W'/\W'.ownsRow 0 4 1 v' (n+1) (xs++[.bool x])/\W.grownBy W' v.ownBlock/\
  W'.ownsRow 0 4 1 v n xs/\(v'.ownBlock=v.ownBlock\/v'.ownBlock=some W.heap.size):=by
 obtain⟨i0,hi0,hz0,hz1,hz2⟩:=info_parts xzpi
 have hnw:∀ j u,[Value.bool x][j]? =some u->W.cell? (a.add j)=some u:=fun j u hu=>by
  cases j with
  |zero=>
   simp only [List.getElem?_cons_zero,zh]at hu;subst hu
   have e:a.add 0=a:=by unfold Addr.add;split<;>simp_all
   rw [e];exact hnews
  |succ j=>simp at hu
 have hone:∀ u∈[Value.bool x],u.oneCell'=true:=fun u hu=>by rw [List.mem_singleton.1 hu];rfl
 obtain⟨v',W',h1,h2,h3,_,h4⟩:=run_append_own_at (P:=Tryz.prog) (w:=W) 0 81 81 4 i0 _ 1 1 Tryz.underlying81 hi0 hz0 hz1 hz2 rfl (by decide) v n xs hown
  a 1 c [.bool x] rfl hnw hone (by unfold maxLen;omega) (by omega) (Nat.zero_le _)
 exact⟨v',W',h1,h2,h3,xzdk (P:=Tryz.prog) Tryz.underlying81 hi0 hz0 hz1 hz2 hown (by rfl) hnw hone (by unfold maxLen;omega) (by omega) h1,h4⟩
end
def Beside (M K:Nat->Bool)(v:Value):Prop:=∀ k,v.ownBlock=some k->K k=true/\M k=false
structure FkI (M K:Nat->Bool)(W:World)(pb:Nat)(S:Mk)(R F:List Int)(E:List Bool)(em:Int)(r f e:Value):Prop where
 mka:MkAt M K W pb S r f e (.int .i64 em)
 rr:W.ownsRow 0 3 1 r R.length (R.map (Value.int .i64))
 rf:W.ownsRow 0 3 1 f F.length (F.map (Value.int .i64))
 re:W.ownsRow 0 4 1 e E.length (E.map Value.bool)
 br:Beside M K r
 bf:Beside M K f
 be:Beside M K e
 nrf:∀ k,r.ownBlock=some k->f.ownBlock≠some k
 nre:∀ k,r.ownBlock=some k->e.ownBlock≠some k
 nfe:∀ k,f.ownBlock=some k->e.ownBlock≠some k
end
section
open Go.RowKit
section
variable {M K : Nat → Bool} {W U : World} {pb : Nat} {S : Mk} {R F : List Int} {E : List Bool} {em : Int} {r f e : Value}
theorem FkI.newR (h:FkI M K W pb S R F E em r f e)(hk:∀ k,k<W.heap.size->some k≠r.ownBlock->U.heap[k]? =W.heap[k]?){L':List Int}{x':Value}(hx:U.ownsRow 0 3 1 x' L'.length (L'.map (Value.int .i64)))
 (hMb:∀ k,M k=true->k<W.heap.size)(hv:x'.ownBlock=r.ownBlock\/ ∃ g,x'.ownBlock=some g/\W.heap.size<=g):
 FkI M (Mv K x') (U.setCell ⟨pb,1,none⟩ x') pb S L' F E em x' f e:=by
 have hM:∀ k,x'.ownBlock=some k->k<W.heap.size->K k=true/\M k=false:=fun k e1 e2=>by
  rcases hv with h1|⟨g,h1,h2⟩
  ·exact h.br k (h1▸e1)
  ·rw [e1]at h1;injection h1 with h1;omega
 have hnew:∀ k,x'.ownBlock=some k->r.ownBlock=some k\/W.heap.size<=k:=fun k e1=>by
  rcases hv with h1|⟨g,h1,h2⟩
  ·exact .inl (h1▸e1)
  ·rw [e1]at h1;injection h1 with h1;exact .inr (by omega)
 obtain⟨vs,vf,ws,hmk⟩:=h.mka;have hpb:=hmk.blk.lt
 have hMlt:∀ k,k<W.heap.size->M k=true->some k≠r.ownBlock:=fun k _ hm e=>by have:=(h.br k e.symm).2;rw [hm]at this;cases this
 have hUM:∀ k,k<W.heap.size->M k=true->k≠pb->(U.setCell ⟨pb,1,none⟩ x').heap[k]? =W.heap[k]? :=fun k h1 h2 h3=>(Below.heap_setCell _ _ _ _ h3).trans (hk k h1 (hMlt k h1 h2))
 have hold:∀ {y:Value} {n:Nat} {t:TypeId} {ys:List Value},W.ownsRow 0 t 1 y n ys->(∀ k,y.ownBlock=some k->M k=false/\some k≠r.ownBlock)->(U.setCell ⟨pb,1,none⟩ x').ownsRow 0 t 1 y n ys:=fun ho hy=>xzad ho fun k e=>by
  have hm:=hy k e;have hlt:=(World.ownsRow.lt ho k e).2;exact(Below.heap_setCell _ _ _ _ (fun e2=>by have e2:k=pb:=e2;rw [e2,hmk.mine]at hm;cases hm.1)).trans (hk k hlt hm.2)
 have hsub:Sub (hide W (MK M K)) (hide (U.setCell ⟨pb,1,none⟩ x') (MK M (Mv K x'))):=xzbf fun k h1 h2=>by
  rw [MK_no]at h1
  have hne:some k≠r.ownBlock:=fun e=>by have:=(h.br k e.symm).1;rw [h1.2]at this;cases this
  refine⟨MK_no.2 ⟨h1.1,Mv_no.2 ⟨h1.2,fun e=>?_⟩⟩,(Below.heap_setCell _ _ _ _ (fun e2=>by have e2:k=pb:=e2;rw [e2,hmk.mine]at h1;cases h1.1)).trans (hk k h2 hne)⟩
  rcases hnew k e with g|g
  ·exact hne g.symm
  ·omega
 refine⟨⟨vs,vf,ws,?_,hmk.mine,xzad hmk.own0 fun k e=>hUM k (World.ownsRow.lt hmk.own0 k e).2 (hmk.far0 k e).1 (hmk.far0 k e).2,xzad hmk.own3 fun k e=>hUM k (World.ownsRow.lt hmk.own3 k e).2 (hmk.far3 k e).1 (hmk.far3 k e).2.1,hmk.far0,hmk.far3,fun i hi=>?_⟩,xzad hx fun k e=>Below.heap_setCell _ _ _ _ (fun e2=>by have e2:k=pb:=e2;rcases hnew k e with g|g;(have:=(h.br k g).2;rw [e2,hmk.mine]at this;cases this);(omega)),hold h.rf fun k e=>⟨(h.bf k e).2,fun e3=>h.nrf k e3.symm e⟩,hold h.re fun k e=>⟨(h.be k e).2,fun e3=>h.nre k e3.symm e⟩,fun k e=>⟨Mv_me e,by rcases hnew k e with g|g;(exact(h.br k g).2);(rw [Bool.eq_false_iff];intro hm;have:=hMb k hm;omega)⟩,fun k e=>⟨xzvn (h.bf k e).1,(h.bf k e).2⟩,fun k e=>⟨xzvn (h.be k e).1,(h.be k e).2⟩,fun k e e2=>by rcases hnew k e with g|g;(exact h.nrf k g e2);(have:=(World.ownsRow.lt h.rf k e2).2;omega),fun k e e2=>by rcases hnew k e with g|g;(exact h.nre k g e2);(have:=(World.ownsRow.lt h.re k e2).2;omega),h.nfe⟩
 ·have h1:BlkIs U pb 117 _:=(hk pb hpb (hMlt pb hpb hmk.mine)).trans hmk.blk
  exact h1.put 1 x'
 ·obtain⟨x,h1,h2⟩:=hmk.rows i hi
  exact⟨x,h1,h2.sub hsub⟩
theorem FkI.newF (h:FkI M K W pb S R F E em r f e)(hk:∀ k,k<W.heap.size->some k≠f.ownBlock->U.heap[k]? =W.heap[k]?){L':List Int}{x':Value}(hx:U.ownsRow 0 3 1 x' L'.length (L'.map (Value.int .i64)))
 (hMb:∀ k,M k=true->k<W.heap.size)(hv:x'.ownBlock=f.ownBlock\/ ∃ g,x'.ownBlock=some g/\W.heap.size<=g):
 FkI M (Mv K x') (U.setCell ⟨pb,2,none⟩ x') pb S R L' E em r x' e:=by
 have hM:∀ k,x'.ownBlock=some k->k<W.heap.size->K k=true/\M k=false:=fun k e1 e2=>by
  rcases hv with h1|⟨g,h1,h2⟩
  ·exact h.bf k (h1▸e1)
  ·rw [e1]at h1;injection h1 with h1;omega
 have hnew:∀ k,x'.ownBlock=some k->f.ownBlock=some k\/W.heap.size<=k:=fun k e1=>by
  rcases hv with h1|⟨g,h1,h2⟩
  ·exact .inl (h1▸e1)
  ·rw [e1]at h1;injection h1 with h1;exact .inr (by omega)
 obtain⟨vs,vf,ws,hmk⟩:=h.mka;have hpb:=hmk.blk.lt
 have hMlt:∀ k,k<W.heap.size->M k=true->some k≠f.ownBlock:=fun k _ hm e=>by have:=(h.bf k e.symm).2;rw [hm]at this;cases this
 have hUM:∀ k,k<W.heap.size->M k=true->k≠pb->(U.setCell ⟨pb,2,none⟩ x').heap[k]? =W.heap[k]? :=fun k h1 h2 h3=>(Below.heap_setCell _ _ _ _ h3).trans (hk k h1 (hMlt k h1 h2))
 have hold:∀ {y:Value} {n:Nat} {t:TypeId} {ys:List Value},W.ownsRow 0 t 1 y n ys->(∀ k,y.ownBlock=some k->M k=false/\some k≠f.ownBlock)->(U.setCell ⟨pb,2,none⟩ x').ownsRow 0 t 1 y n ys:=fun ho hy=>xzad ho fun k e=>by
  have hm:=hy k e;have hlt:=(World.ownsRow.lt ho k e).2;exact(Below.heap_setCell _ _ _ _ (fun e2=>by have e2:k=pb:=e2;rw [e2,hmk.mine]at hm;cases hm.1)).trans (hk k hlt hm.2)
 have hsub:Sub (hide W (MK M K)) (hide (U.setCell ⟨pb,2,none⟩ x') (MK M (Mv K x'))):=xzbf fun k h1 h2=>by
  rw [MK_no]at h1
  have hne:some k≠f.ownBlock:=fun e=>by have:=(h.bf k e.symm).1;rw [h1.2]at this;cases this
  refine⟨MK_no.2 ⟨h1.1,Mv_no.2 ⟨h1.2,fun e=>?_⟩⟩,(Below.heap_setCell _ _ _ _ (fun e2=>by have e2:k=pb:=e2;rw [e2,hmk.mine]at h1;cases h1.1)).trans (hk k h2 hne)⟩
  rcases hnew k e with g|g
  ·exact hne g.symm
  ·omega
 refine⟨⟨vs,vf,ws,?_,hmk.mine,xzad hmk.own0 fun k e=>hUM k (World.ownsRow.lt hmk.own0 k e).2 (hmk.far0 k e).1 (hmk.far0 k e).2,xzad hmk.own3 fun k e=>hUM k (World.ownsRow.lt hmk.own3 k e).2 (hmk.far3 k e).1 (hmk.far3 k e).2.1,hmk.far0,hmk.far3,fun i hi=>?_⟩,hold h.rr fun k e=>⟨(h.br k e).2,fun e3=>h.nrf k e e3.symm⟩,xzad hx fun k e=>Below.heap_setCell _ _ _ _ (fun e2=>by have e2:k=pb:=e2;rcases hnew k e with g|g;(have:=(h.bf k g).2;rw [e2,hmk.mine]at this;cases this);(omega)),hold h.re fun k e=>⟨(h.be k e).2,fun e3=>h.nfe k e3.symm e⟩,fun k e=>⟨xzvn (h.br k e).1,(h.br k e).2⟩,fun k e=>⟨Mv_me e,by rcases hnew k e with g|g;(exact(h.bf k g).2);(rw [Bool.eq_false_iff];intro hm;have:=hMb k hm;omega)⟩,fun k e=>⟨xzvn (h.be k e).1,(h.be k e).2⟩,fun k e e2=>by rcases hnew k e2 with g|g;(exact h.nrf k e g);(have:=(World.ownsRow.lt h.rr k e).2;omega),h.nre,fun k e e2=>by rcases hnew k e with g|g;(exact h.nfe k g e2);(have:=(World.ownsRow.lt h.re k e2).2;omega)⟩
 ·have h1:BlkIs U pb 117 _:=(hk pb hpb (hMlt pb hpb hmk.mine)).trans hmk.blk
  exact h1.put 2 x'
 ·obtain⟨x,h1,h2⟩:=hmk.rows i hi
  exact⟨x,h1,h2.sub hsub⟩
theorem FkI.newE (h:FkI M K W pb S R F E em r f e)(hk:∀ k,k<W.heap.size->some k≠e.ownBlock->U.heap[k]? =W.heap[k]?){L':List Bool}{x':Value}(hx:U.ownsRow 0 4 1 x' L'.length (L'.map Value.bool))
 (hMb:∀ k,M k=true->k<W.heap.size)(hv:x'.ownBlock=e.ownBlock\/ ∃ g,x'.ownBlock=some g/\W.heap.size<=g):
 FkI M (Mv K x') (U.setCell ⟨pb,4,none⟩ x') pb S R F L' em r f x':=by
 have hM:∀ k,x'.ownBlock=some k->k<W.heap.size->K k=true/\M k=false:=fun k e1 e2=>by
  rcases hv with h1|⟨g,h1,h2⟩
  ·exact h.be k (h1▸e1)
  ·rw [e1]at h1;injection h1 with h1;omega
 have hnew:∀ k,x'.ownBlock=some k->e.ownBlock=some k\/W.heap.size<=k:=fun k e1=>by
  rcases hv with h1|⟨g,h1,h2⟩
  ·exact .inl (h1▸e1)
  ·rw [e1]at h1;injection h1 with h1;exact .inr (by omega)
 obtain⟨vs,vf,ws,hmk⟩:=h.mka;have hpb:=hmk.blk.lt
 have hMlt:∀ k,k<W.heap.size->M k=true->some k≠e.ownBlock:=fun k _ hm e=>by have:=(h.be k e.symm).2;rw [hm]at this;cases this
 have hUM:∀ k,k<W.heap.size->M k=true->k≠pb->(U.setCell ⟨pb,4,none⟩ x').heap[k]? =W.heap[k]? :=fun k h1 h2 h3=>(Below.heap_setCell _ _ _ _ h3).trans (hk k h1 (hMlt k h1 h2))
 have hold:∀ {y:Value} {n:Nat} {t:TypeId} {ys:List Value},W.ownsRow 0 t 1 y n ys->(∀ k,y.ownBlock=some k->M k=false/\some k≠e.ownBlock)->(U.setCell ⟨pb,4,none⟩ x').ownsRow 0 t 1 y n ys:=fun ho hy=>xzad ho fun k e=>by
  have hm:=hy k e;have hlt:=(World.ownsRow.lt ho k e).2;exact(Below.heap_setCell _ _ _ _ (fun e2=>by have e2:k=pb:=e2;rw [e2,hmk.mine]at hm;cases hm.1)).trans (hk k hlt hm.2)
 have hsub:Sub (hide W (MK M K)) (hide (U.setCell ⟨pb,4,none⟩ x') (MK M (Mv K x'))):=xzbf fun k h1 h2=>by
  rw [MK_no]at h1
  have hne:some k≠e.ownBlock:=fun e=>by have:=(h.be k e.symm).1;rw [h1.2]at this;cases this
  refine⟨MK_no.2 ⟨h1.1,Mv_no.2 ⟨h1.2,fun e=>?_⟩⟩,(Below.heap_setCell _ _ _ _ (fun e2=>by have e2:k=pb:=e2;rw [e2,hmk.mine]at h1;cases h1.1)).trans (hk k h2 hne)⟩
  rcases hnew k e with g|g
  ·exact hne g.symm
  ·omega
 refine⟨⟨vs,vf,ws,?_,hmk.mine,xzad hmk.own0 fun k e=>hUM k (World.ownsRow.lt hmk.own0 k e).2 (hmk.far0 k e).1 (hmk.far0 k e).2,xzad hmk.own3 fun k e=>hUM k (World.ownsRow.lt hmk.own3 k e).2 (hmk.far3 k e).1 (hmk.far3 k e).2.1,hmk.far0,hmk.far3,fun i hi=>?_⟩,hold h.rr fun k e=>⟨(h.br k e).2,fun e3=>h.nre k e e3.symm⟩,hold h.rf fun k e=>⟨(h.bf k e).2,fun e3=>h.nfe k e e3.symm⟩,xzad hx fun k e=>Below.heap_setCell _ _ _ _ (fun e2=>by have e2:k=pb:=e2;rcases hnew k e with g|g;(have:=(h.be k g).2;rw [e2,hmk.mine]at this;cases this);(omega)),fun k e=>⟨xzvn (h.br k e).1,(h.br k e).2⟩,fun k e=>⟨xzvn (h.bf k e).1,(h.bf k e).2⟩,fun k e=>⟨Mv_me e,by rcases hnew k e with g|g;(exact(h.be k g).2);(rw [Bool.eq_false_iff];intro hm;have:=hMb k hm;omega)⟩,h.nrf,fun k e e2=>by rcases hnew k e2 with g|g;(exact h.nre k e g);(have:=(World.ownsRow.lt h.rr k e).2;omega),fun k e e2=>by rcases hnew k e2 with g|g;(exact h.nfe k e g);(have:=(World.ownsRow.lt h.rf k e).2;omega)⟩
 ·have h1:BlkIs U pb 117 _:=(hk pb hpb (hMlt pb hpb hmk.mine)).trans hmk.blk
  exact h1.put 4 x'
 ·obtain⟨x,h1,h2⟩:=hmk.rows i hi
  exact⟨x,h1,h2.sub hsub⟩
theorem FkI.part {M':Nat->Bool}{S':Mk}(h:FkI M K W pb S R F E em r f e)(hn:Nx M M' W U)(hm:MkAt M' K U pb S' r f e (.int .i64 em)):FkI M' K U pb S' R F E em r f e:=
 ⟨hm,xzad h.rr fun k hk=>hn.block k (World.ownsRow.lt h.rr k hk).2 (h.br k hk).2,xzad h.rf fun k hk=>hn.block k (World.ownsRow.lt h.rf k hk).2 (h.bf k hk).2,xzad h.re fun k hk=>hn.block k (World.ownsRow.lt h.re k hk).2 (h.be k hk).2,
  fun k hk=>⟨(h.br k hk).1,(hn.mine k (World.ownsRow.lt h.rr k hk).2).trans (h.br k hk).2⟩,fun k hk=>⟨(h.bf k hk).1,(hn.mine k (World.ownsRow.lt h.rf k hk).2).trans (h.bf k hk).2⟩,fun k hk=>⟨(h.be k hk).1,(hn.mine k (World.ownsRow.lt h.re k hk).2).trans (h.be k hk).2⟩,
  h.nrf,h.nre,h.nfe⟩
theorem FkI.step (h:FkI M K W pb S R F E em r f e)(hb:Below W.heap.size W U):FkI M K U pb S R F E em r f e:=h.part (Nx.below hb) (h.mka.step hb)
theorem FkI.mark {g n c:Nat}(h:FkI M K W pb S R F E em r f (.slice (some ⟨g,0,none⟩) n c))(i:Nat):FkI M K (W.setCell ⟨g,i,none⟩ (.bool true)) pb S R F (E.set i true) em r f (.slice (some ⟨g,0,none⟩) n c):=by
 have hg:=h.be g rfl
 have hne:∀ {y:Value} {m:Nat} {t:TypeId} {ys:List Value},W.ownsRow 0 t 1 y m ys->(∀ k,y.ownBlock=some k->k≠g)->(W.setCell ⟨g,i,none⟩ (.bool true)).ownsRow 0 t 1 y m ys:=fun ho hy=>xzad ho fun k e=>Below.heap_setCell _ _ _ _ (hy k e)
 have hlen:n=E.length:=by
  rcases h.re.2 with⟨h1,_⟩|⟨_,_,_,h1,_⟩
  ·cases h1
  ·injection h1
 refine⟨h.mka.far hg.1 hg.2,hne h.rr fun k e e2=>h.nre k e (by rw [e2];rfl),hne h.rf fun k e e2=>h.nfe k e (by rw [e2];rfl),?_,h.br,h.bf,h.be,h.nrf,h.nre,h.nfe⟩;have h1:=h.re;rw [<-hlen]at h1;have:=(World.ownsRow.stored h1 i (.bool true)).1;rw [<-List.map_set]at this
 simpa [hlen]using this
end
end
end Go.Proofs.YtdjpphjpnkfeiaaGreatDoor
