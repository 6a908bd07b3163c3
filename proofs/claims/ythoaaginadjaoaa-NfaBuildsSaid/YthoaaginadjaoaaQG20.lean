/-
 WHAT nfa's part ANSWERS, kind by kind: contracts. Condition: one copy at most of what is repeated; at most 2^20 places.
-/
import Derived.Test.YthoaaginadjaoaaQG19
namespace Go.Proofs.Ythoaaginadjaoaa
open Go.RowKit
attribute [local irreducible] FreeW textFrame
theorem xzgh {M M' K:Nat->Bool}{w U:World}{pb b:Nat}{S:Mk}{r f e m x1 x2:Value}{p:Prt}(hb:BlkIs U b 73 #[.slice none 0 0,.slice none 0 0,.bool false])(hn:Nx M M' w U)(hw:w.heap.size<=b)(hM:M' b=false)(hlt:∀ k,M' k=true->k<U.heap.size)
 (hmk:MkAt M' (Kor K b) U pb S r f e m)(h1:IntsV (hide U (MK M' (Kor K b))) p.first x1)(h2:IntsV (hide U (MK M' (Kor K b))) p.ends x2)(z:Bool)(hz:z=p.empty):
 (loadVar 73 ⟨b,0,none⟩).run Try.prog (((U.setCell ⟨b,0,none⟩ x1).setCell ⟨b,1,none⟩ x2).setCell ⟨b,2,none⟩ (.bool z))=.ok (.agg #[x1,x2,.bool z]) (((U.setCell ⟨b,0,none⟩ x1).setCell ⟨b,1,none⟩ x2).setCell ⟨b,2,none⟩ (.bool z))/\
 ∃ M2 v',Value.agg #[x1,x2,.bool z]=v'/\Nx M M2 w (((U.setCell ⟨b,0,none⟩ x1).setCell ⟨b,1,none⟩ x2).setCell ⟨b,2,none⟩ (.bool z))/\(∀ k,M2 k=true->k<(((U.setCell ⟨b,0,none⟩ x1).setCell ⟨b,1,none⟩ x2).setCell ⟨b,2,none⟩ (.bool z)).heap.size)/\
  MkAt M2 K (((U.setCell ⟨b,0,none⟩ x1).setCell ⟨b,1,none⟩ x2).setCell ⟨b,2,none⟩ (.bool z)) pb S r f e m/\PrtV (hide (((U.setCell ⟨b,0,none⟩ x1).setCell ⟨b,1,none⟩ x2).setCell ⟨b,2,none⟩ (.bool z)) (MK M2 K)) p v':=by
 subst hz;have hk:Kor K b b=true:=xzff K b;have hs:=(((xzap (M:=M') (W:=U) (i:=0) hk x1).trans (xzap (M:=M') (i:=1) hk x2)).trans (xzap (M:=M') (i:=2) hk (.bool p.empty))).trans xzdg;exact⟨xzcd (xzbs hb),M',_,rfl,((hn.far hw).far hw).far hw,fun k hk=>by simpa [World.setCell]using hlt k hk,(((hmk.far hk hM).far hk hM).far hk hM).less,_,_,rfl,h1.sub hs,h2.sub hs⟩
theorem Nx.keeps {M M':Nat->Bool}{W W':World}{k:Nat}(h:Nx M M' W W')(hk:k<W.heap.size)(hm:M k=false):M' k=false:=(h.mine k hk).trans hm
set_option maxRecDepth 20000 in
set_option maxHeartbeats 16000000 in
theorem xzrz (ms:Nat->Bool)(lo hi:Int):PartIs (.node 1 ms [] lo hi):=by
 intro M K S v pb r f e m w hm hat hS hn hM hK;obtain⟨A,c,rfl,hc,_⟩:=hat.open
 have hp1:partP (.node 1 ms [] lo hi) S=(placeS S ms,⟨[(S.sets.length:Int)],[(S.sets.length:Int)],false⟩):=by unfold partP;rw [if_pos rfl]
 rw [hp1];obtain⟨w2,hw2⟩:∃ w2,(w.alloc (.cells #[.int .i64 1,.int .u64 (wd ms 0:Nat),.int .u64 (wd ms 1:Nat),.int .u64 (wd ms 2:Nat),.int .u64 (wd ms 3:Nat),.slice A 0 c,.int .i64 lo,.int .i64 hi] 39)).alloc (.cells #[.slice none 0 0,.slice none 0 0,.bool false] 73)=w2:=⟨_,rfl⟩
 have hb2:Below w.heap.size w w2:=by rw [<-hw2];exact((Below.refl _ _).alloc (Nat.le_refl _) _).alloc (by simp) _
 have hs2:w2.heap.size=w.heap.size+2:=by rw [<-hw2];simp
 have hx0:BlkIs w2 w.heap.size 39 #[.int .i64 1,.int .u64 (wd ms 0:Nat),.int .u64 (wd ms 1:Nat),.int .u64 (wd ms 2:Nat),.int .u64 (wd ms 3:Nat),.slice A 0 c,.int .i64 lo,.int .i64 hi]:=by rw [<-hw2];exact(BlkIs.new w _ _).alloc _
 have hx1:BlkIs w2 (w.heap.size+1) 73 #[.slice none 0 0,.slice none 0 0,.bool false]:=by
  rw [<-hw2];have h:=BlkIs.new (w.alloc (.cells #[.int .i64 1,.int .u64 (wd ms 0:Nat),.int .u64 (wd ms 1:Nat),.int .u64 (wd ms 2:Nat),.int .u64 (wd ms 3:Nat),.slice A 0 c,.int .i64 lo,.int .i64 hi] 39)) 73 #[.slice none 0 0,.slice none 0 0,.bool false];rw [World.size_alloc]at h;exact h
 have hMf:∀ k,w.heap.size<=k->M k=false:=fun k hk=>by
  rw [Bool.eq_false_iff];intro e;have:=hM k e;omega
 have hK2:∀ k,Kor K (w.heap.size+1) k=true->k<w2.heap.size:=xzdr (fun k hk=>by have:=hK k hk;omega) (by omega)
 have hM2:∀ k,M k=true->k<w2.heap.size:=fun k hk=>by have:=hM k hk;omega
 have hm2:MkAt M (Kor K (w.heap.size+1)) w2 pb S r f e m:=hm.new hb2 (by omega);have HBX:=zd (And.intro hx0 hx1);have HMF:=zd hMf;have HW2:=zd (And.intro hb2 hs2);have HPL:=zd (xzrx M (Kor K (w.heap.size+1)) S ms pb r f e m w2 hm2 hS.1 (by omega) hM2 hK2);obtain⟨d0,d1,d2,d3,d4,d5,d6,d7⟩:=hx0.eight;unfold reV reL;clear hb2 hs2 hx0 hx1 hMf hK2 hM2 hm2 hm hat hS hn hM hK hp1
 go_enter Try.func39,Try.ntmps39
 go_wp2_with fail
 go_at_call 47
 refine HPL.out.mono ?_;rintro x u1 ⟨M1,v1,rfl,hnx,hlt1,hmk,p1,p2,rfl,hp1,hp2⟩;have hb1:=HBX.out.2.nx hnx (HMF.out _ (by omega));have hfin:=xzgh (p:=⟨[(S.sets.length:Int)],[(S.sets.length:Int)],false⟩) hb1 ((Nx.below HW2.out.1).trans hnx) (by omega) (hnx.keeps (by have:=HW2.out.2;omega) (HMF.out _ (by omega))) hlt1 hmk hp1 hp2 false rfl;obtain⟨Y1,y1,rfl,_⟩:=hp1.form;obtain⟨Y2,y2,rfl,_⟩:=hp2.form;obtain⟨k0,k1,k2,l0,l1,l2⟩:=three hb1;have HFN:=zd hfin;have hlt:=hb1.lt;clear hfin hb1 hnx hlt1 hmk hp1 hp2 d0 d1 d2 d3 d4 d5 d6 d7;go_wp2;obtain⟨hl,M2,v',hv,h1,h2,h3,h4⟩:=HFN.out;exact⟨rfl,_,xzaf rfl rfl hl,M2,_,congrArg Ending.returned hv,h1,h2,h3,h4⟩
set_option maxRecDepth 20000 in
set_option maxHeartbeats 16000000 in
theorem xzsa (ms:Nat->Bool)(lo hi:Int):PartIs (.node 0 ms [] lo hi):=by
 intro M K S v pb r f e m w hm hat hS hn hM hK;obtain⟨A,c,rfl,hc,_⟩:=hat.open
 have hp1:partP (.node 0 ms [] lo hi) S=(S,⟨[],[],true⟩):=by unfold partP;simp
 rw [hp1];obtain⟨w2,hw2⟩:∃ w2,(w.alloc (.cells #[.int .i64 0,.int .u64 (wd ms 0:Nat),.int .u64 (wd ms 1:Nat),.int .u64 (wd ms 2:Nat),.int .u64 (wd ms 3:Nat),.slice A 0 c,.int .i64 lo,.int .i64 hi] 39)).alloc (.cells #[.slice none 0 0,.slice none 0 0,.bool false] 73)=w2:=⟨_,rfl⟩
 have hb2:Below w.heap.size w w2:=by rw [<-hw2];exact((Below.refl _ _).alloc (Nat.le_refl _) _).alloc (by simp) _
 have hs2:w2.heap.size=w.heap.size+2:=by rw [<-hw2];simp
 have hx0:BlkIs w2 w.heap.size 39 #[.int .i64 0,.int .u64 (wd ms 0:Nat),.int .u64 (wd ms 1:Nat),.int .u64 (wd ms 2:Nat),.int .u64 (wd ms 3:Nat),.slice A 0 c,.int .i64 lo,.int .i64 hi]:=by rw [<-hw2];exact(BlkIs.new w _ _).alloc _
 have hx1:BlkIs w2 (w.heap.size+1) 73 #[.slice none 0 0,.slice none 0 0,.bool false]:=by
  rw [<-hw2];have h:=BlkIs.new (w.alloc (.cells #[.int .i64 0,.int .u64 (wd ms 0:Nat),.int .u64 (wd ms 1:Nat),.int .u64 (wd ms 2:Nat),.int .u64 (wd ms 3:Nat),.slice A 0 c,.int .i64 lo,.int .i64 hi] 39)) 73 #[.slice none 0 0,.slice none 0 0,.bool false];rw [World.size_alloc]at h;exact h
 have hMf:∀ k,w.heap.size<=k->M k=false:=fun k hk=>by
  rw [Bool.eq_false_iff];intro e;have:=hM k e;omega
 have hK2:∀ k,Kor K (w.heap.size+1) k=true->k<w2.heap.size:=xzdr (fun k hk=>by have:=hK k hk;omega) (by omega)
 have hM2:∀ k,M k=true->k<w2.heap.size:=fun k hk=>by have:=hM k hk;omega
 have hm2:MkAt M (Kor K (w.heap.size+1)) w2 pb S r f e m:=hm.new hb2 (by omega);have HBX:=zd (And.intro hx0 hx1);have HMF:=zd hMf;have HW2:=zd (And.intro hb2 hs2);obtain⟨d0,d1,d2,d3,d4,d5,d6,d7⟩:=hx0.eight;obtain⟨k0,k1,k2,l0,l1,l2⟩:=three hx1;have hlt:=hx1.lt;have HFN:=zd (xzgh (p:=⟨[],[],true⟩) (x1:=.slice none 0 0) (x2:=.slice none 0 0) hx1 (Nx.below hb2) (by omega) (hMf _ (by omega)) hM2 hm2 (IntsV.nil _) (IntsV.nil _) true rfl);unfold reV reL;clear hb2 hs2 hx0 hx1 hMf hK2 hM2 hm2 hm hat hS hn hM hK hp1
 go_enter Try.func39,Try.ntmps39
 go_wp2;obtain⟨hl,M2,v',hv,h1,h2,h3,h4⟩:=HFN.out;exact⟨rfl,_,xzaf rfl rfl hl,M2,_,congrArg Ending.returned hv,h1,h2,h3,h4⟩
set_option maxRecDepth 20000 in
set_option maxHeartbeats 16000000 in
theorem xzum (ms:Nat->Bool)(l:List Tree)(lo hi:Int)(IH:∀ t∈l,PartIs t)(hokT:okTs l)(hll:l.length<=1048576):PartIs (.node 3 ms l lo hi):=by
 intro M K S v pb r f e m w hm hat hS hn hM hK;obtain⟨A,c,rfl,hc,hrows⟩:=hat.open
 have hp1:partP (.node 3 ms l lo hi) S=((partsP l S).1,eitherP ⟨[],[],false⟩ (partsP l S).2):=by unfold partP;simp
 have hnn:S.sets.length+sumN l<=1048576:=by simp only [Tree.plN]at hn;simpa using hn
 obtain⟨ho1,ho2,ho3,ho4⟩:=partsP_ok l S hokT hS;rw [hp1];obtain⟨w2,hw2⟩:∃ w2,(w.alloc (.cells #[.int .i64 3,.int .u64 (wd ms 0:Nat),.int .u64 (wd ms 1:Nat),.int .u64 (wd ms 2:Nat),.int .u64 (wd ms 3:Nat),.slice A l.length c,.int .i64 lo,.int .i64 hi] 39)).alloc (.cells #[.slice none 0 0,.slice none 0 0,.bool false] 73)=w2:=⟨_,rfl⟩
 have hb2:Below w.heap.size w w2:=by rw [<-hw2];exact((Below.refl _ _).alloc (Nat.le_refl _) _).alloc (by simp) _
 have hs2:w2.heap.size=w.heap.size+2:=by rw [<-hw2];simp
 have hx0:BlkIs w2 w.heap.size 39 #[.int .i64 3,.int .u64 (wd ms 0:Nat),.int .u64 (wd ms 1:Nat),.int .u64 (wd ms 2:Nat),.int .u64 (wd ms 3:Nat),.slice A l.length c,.int .i64 lo,.int .i64 hi]:=by rw [<-hw2];exact(BlkIs.new w _ _).alloc _
 have hx1:BlkIs w2 (w.heap.size+1) 73 #[.slice none 0 0,.slice none 0 0,.bool false]:=by
  rw [<-hw2];have h:=BlkIs.new (w.alloc (.cells #[.int .i64 3,.int .u64 (wd ms 0:Nat),.int .u64 (wd ms 1:Nat),.int .u64 (wd ms 2:Nat),.int .u64 (wd ms 3:Nat),.slice A l.length c,.int .i64 lo,.int .i64 hi] 39)) 73 #[.slice none 0 0,.slice none 0 0,.bool false];rw [World.size_alloc]at h;exact h
 have hMf:∀ k,w.heap.size<=k->M k=false:=fun k hk=>by
  rw [Bool.eq_false_iff];intro e;have:=hM k e;omega
 have hK2:∀ k,Kor K (w.heap.size+1) k=true->k<w2.heap.size:=xzdr (fun k hk=>by have:=hK k hk;omega) (by omega)
 have hM2:∀ k,M k=true->k<w2.heap.size:=fun k hk=>by have:=hM k hk;omega
 have hm2:MkAt M (Kor K (w.heap.size+1)) w2 pb S r f e m:=hm.new hb2 (by omega);have HBX:=zd (And.intro hx0 hx1);have HMF:=zd hMf;have HW2:=zd (And.intro hb2 hs2)
 have HPA:=zd (xzkz l IH hokT M (Kor K (w.heap.size+1)) S A c pb r f e m w2 hm2 (fun hne=>by
  obtain⟨b,o,e1,_,hg⟩:=hrows hne;refine⟨b,o,e1,fun i hi=>?_⟩;obtain⟨cs,h1,h2,h3⟩:=hg i hi
  exact⟨cs,h1.sub (xzad _ hb2),h2,fun j x hx=>xzad _ hb2 _ _ (h3 j x hx)⟩) hS hnn hll hM2 hK2)
 have HO:=zd (And.intro ho2 (show(partsP l S).1.sets.length<=1048576 by omega));have HK2:=zd hK2;obtain⟨d0,d1,d2,d3,d4,d5,d6,d7⟩:=hx0.eight;unfold reV reL;clear hb2 hs2 hx0 hx1 hMf hK2 hM2 hm2 hm hat hS hn hM hK hp1 hrows IH hokT hnn ho1 ho2 ho3 ho4;generalize partsP l S=PS at*
 go_enter Try.func39,Try.ntmps39
 go_wp2_with fail
 go_at_call 49
 refine HPA.out.mono ?_;rintro x u1 ⟨M1,v1,rfl,hnx,hlt1,hmk,hps⟩
 have hkk:∀ k,MK M1 (Kor K (w.heap.size+1)) k=true->k<u1.heap.size:=fun k hk=>by
  unfold MK at hk;simp only [Bool.or_eq_true]at hk
  rcases hk with hk|hk
  ·exact hlt1 k hk
  ·exact Nat.lt_of_lt_of_le (HK2.out k hk) hnx.size
 have HEI:=zd (xzom PS.2 v1 u1 (MK M1 (Kor K (w.heap.size+1))) PS.1.sets.length hkk (hps.sub (fun _ _ h=>h) xzar) HO.out.1 HO.out.2);have HN1:=zd (And.intro hnx (And.intro hlt1 hmk));clear hnx hlt1 hmk hps hkk
 go_wp2_with fail
 go_at_call 50
 refine HEI.out.mono ?_;rintro x u2 ⟨v2,rfl,⟨p1,p2,rfl,hp1,hp2⟩,hb⟩;have hb1:=(HBX.out.2.nx HN1.out.1 (HMF.out _ (by omega))).step hb;have hfin:=xzgh hb1 ((Nx.below HW2.out.1).trans (HN1.out.1.trans (Nx.below hb))) (by omega) (HN1.out.1.keeps (by have:=HW2.out.2;omega) (HMF.out _ (by omega))) (fun k hk=>Nat.lt_of_lt_of_le (HN1.out.2.1 k hk) hb.size) (HN1.out.2.2.step hb) hp1 hp2 (eitherP ⟨[],[],false⟩ PS.2).empty rfl;obtain⟨Y1,y1,rfl,_⟩:=hp1.form;obtain⟨Y2,y2,rfl,_⟩:=hp2.form;obtain⟨k0,k1,k2,l0,l1,l2⟩:=three hb1;have HFN:=zd hfin;have hlt:=hb1.lt;clear hfin hb1 hb hp1 hp2 d0 d1 d2 d3 d4 d5 d6 d7;go_wp2;obtain⟨hl,M2,v',hv,h1,h2,h3,h4⟩:=HFN.out;exact⟨rfl,_,xzaf rfl rfl hl,M2,_,congrArg Ending.returned hv,h1,h2,h3,h4⟩
end Go.Proofs.Ythoaaginadjaoaa
