/-
 WHAT nfa's then ANSWERS: its walk.
-/
import Derived.Test.YthoaaginadjaoaaQG16
namespace Go.Proofs.Ythoaaginadjaoaa
section
open Go.RowKit
attribute [local irreducible] FreeW textFrame
set_option maxRecDepth 20000 in
set_option maxHeartbeats 16000000 in
theorem xzuk (M K:Nat->Bool)(S:Mk)(p q:Prt)(vp vq:Value)(pb:Nat)(r f e m:Value)(w:World)(hm:MkAt M K w pb S r f e m)(hp:PrtV (hide w (MK M K)) p vp)(hq:PrtV (hide w (MK M K)) q vq)
 (hS:S.Ok)(hpo:p.Ok S.sets.length)(hqo:q.Ok S.sets.length)(hn:S.sets.length<=1048576)(hM:∀ k,M k=true->k<w.heap.size)(hK:∀ k,K k=true->k<w.heap.size):
 Calls Try.prog 57 #[.pointer (some ⟨pb,0,none⟩),vp,vq] w fun x w'=>∃ v',x=.returned v'/\Nx M M w w'/\MkAt M K w' pb ⟨S.sets,linkF S.follow p.ends q.first⟩ r f e m/\PrtV (hide w' (MK M K)) (bothP p q) v':=by
 obtain⟨p1,p2,rfl,hp1,hp2⟩:=hp;obtain⟨q1,q2,rfl,hq1,hq2⟩:=hq;obtain⟨P1,cp1,rfl,_⟩:=hp1.form;obtain⟨P2,cp2,rfl,_⟩:=hp2.form;obtain⟨Q1,cq1,rfl,_⟩:=hq1.form;obtain⟨Q2,cq2,rfl,_⟩:=hq2.form
 obtain⟨w3,hw3⟩:∃ w3,((w.alloc (.cells #[.slice P1 p.first.length cp1,.slice P2 p.ends.length cp2,.bool p.empty] 73)).alloc (.cells #[.slice Q1 q.first.length cq1,.slice Q2 q.ends.length cq2,.bool q.empty] 73)).alloc (.cells #[.slice none 0 0,.slice none 0 0,.bool false] 73)=w3:=⟨_,rfl⟩
 have hb3:Below w.heap.size w w3:=by rw [<-hw3];exact(((Below.refl _ _).alloc (Nat.le_refl _) _).alloc (by simp) _).alloc (by simp;omega) _
 have hs3:w3.heap.size=w.heap.size+3:=by rw [<-hw3];simp
 have hx0:BlkIs w3 w.heap.size 73 #[.slice P1 p.first.length cp1,.slice P2 p.ends.length cp2,.bool p.empty]:=by rw [<-hw3];exact((BlkIs.new w _ _).alloc _).alloc _
 have hx1:BlkIs w3 (w.heap.size+1) 73 #[.slice Q1 q.first.length cq1,.slice Q2 q.ends.length cq2,.bool q.empty]:=by
  rw [<-hw3];have h:=BlkIs.new (w.alloc (.cells #[.slice P1 p.first.length cp1,.slice P2 p.ends.length cp2,.bool p.empty] 73)) 73 #[.slice Q1 q.first.length cq1,.slice Q2 q.ends.length cq2,.bool q.empty];rw [World.size_alloc]at h;exact h.alloc _
 have hx2:BlkIs w3 (w.heap.size+2) 73 #[.slice none 0 0,.slice none 0 0,.bool false]:=by
  rw [<-hw3];have h:=BlkIs.new ((w.alloc (.cells #[.slice P1 p.first.length cp1,.slice P2 p.ends.length cp2,.bool p.empty] 73)).alloc (.cells #[.slice Q1 q.first.length cq1,.slice Q2 q.ends.length cq2,.bool q.empty] 73)) 73 #[.slice none 0 0,.slice none 0 0,.bool false];rw [World.size_alloc,World.size_alloc]at h;exact h
 have hup:Sub (hide w (MK M K)) (hide w3 (MK M (Kor K (w.heap.size+2)))):=xzrw (Nx.below hb3) (by omega)
 have hMf:∀ k,w.heap.size<=k->M k=false:=fun k hk=>by
  rw [Bool.eq_false_iff];intro e;have:=hM k e;omega
 have HLK:=zd (xzon M (Kor K (w.heap.size+2)) S p.ends q.first _ _ pb r f e m w3 (hm.new hb3 (by omega)) (hp2.sub hup) (hq1.sub hup) hS hpo.2 hqo.1 hn (fun k hk=>by have:=hM k hk;omega) (xzdr (fun k hk=>by have:=hK k hk;omega) (by omega)));have HX:=zd (And.intro hx0 (And.intro hx1 hx2));have HB3:=zd (And.intro hb3 hs3);have HMF:=zd hMf;have HK:=zd hK;have HM:=zd hM;have HR:=zd (And.intro (And.intro (hp1.sub hup) (hp2.sub hup)) (And.intro (hq1.sub hup) (hq2.sub hup)));have HO:=zd (show(p.first.length<=1048576/\p.ends.length<=1048576)/\(q.first.length<=1048576/\q.ends.length<=1048576)from⟨⟨Nat.le_trans (xzai hpo.1) hn,Nat.le_trans (xzai hpo.2) hn⟩,⟨Nat.le_trans (xzai hqo.1) hn,Nat.le_trans (xzai hqo.2) hn⟩⟩);obtain⟨d0,d1,d2,_,_,_⟩:=three hx0;obtain⟨e0,e1,e2,_,_,_⟩:=three hx1;clear hp1 hp2 hq1 hq2 hb3 hx0 hx1 hx2 hup hMf hK hM hS hpo hqo hm hn;obtain⟨pe,hpe⟩:∃ pe,p.empty=pe:=⟨_,rfl⟩;obtain⟨qe,hqe⟩:∃ qe,q.empty=qe:=⟨_,rfl⟩;rw [hpe]at hw3 d2 HX ⊢;rw [hqe]at hw3 e2 HX ⊢;have HPQ:=zd (And.intro hpe hqe);clear hpe hqe
 go_enter Try.func57,Try.ntmps57
 go_wp2_with fail
 go_at_call 60
 refine HLK.out.mono ?_;rintro x u1 ⟨y,rfl,hnx,hmk⟩
 have hbl:∀ k,w.heap.size<=k->k<w3.heap.size->u1.heap[k]? =w3.heap[k]? :=fun k hk hk2=>hnx.block k hk2 (HMF.out k hk)
 have hx0:BlkIs u1 w.heap.size 73 _:=(hbl _ (Nat.le_refl _) HX.out.1.lt).trans HX.out.1;have hx1:BlkIs u1 (w.heap.size+1) 73 _:=(hbl _ (by omega) HX.out.2.1.lt).trans HX.out.2.1;have hx2:BlkIs u1 (w.heap.size+2) 73 _:=(hbl _ (by omega) HX.out.2.2.lt).trans HX.out.2.2
 have hsz:w.heap.size+3<=u1.heap.size:=by have:=hnx.size;have:=HB3.out.2;omega
 have HTH:=zd (fun z=>(show ThenI M K w (u1.alloc (.cells #[.slice P1 p.first.length cp1,.slice Q2 q.ends.length cq2,.bool z] 73)) pb ⟨S.sets,linkF S.follow p.ends q.first⟩ r f e m w.heap.size u1.heap.size p q _ _ _ _ p.first q.ends (.slice P1 p.first.length cp1) (.slice Q2 q.ends.length cq2) (.bool z)from by
  have hb:Below u1.heap.size u1 (u1.alloc (.cells #[.slice P1 p.first.length cp1,.slice Q2 q.ends.length cq2,.bool z] 73)):=(Below.refl _ _).alloc (Nat.le_refl _) _;have hs:=(hnx.sub (Kor K (w.heap.size+2))).trans (xzrw (K:=Kor K (w.heap.size+2)) (Nx.below hb) (Nat.le_refl _));refine⟨(hx0.step hb).trans ?_,(hx1.step hb).trans ?_,hx2.step hb,BlkIs.new _ _ _,hmk.new hb (Nat.le_refl _),(Nx.below HB3.out.1).trans (hnx.trans (Nx.below hb)),HR.out.1.1.sub hs,HR.out.1.2.sub hs,HR.out.2.1.sub hs,HR.out.2.2.sub hs,HR.out.1.1.sub hs,HR.out.2.2.sub hs⟩
  ·rw [HPQ.out.1]
  ·rw [HPQ.out.2]))
 clear d0 d1 d2 e0 e1 e2;obtain⟨d0,d1,d2,_,_,_⟩:=three hx0;obtain⟨e0,e1,e2,_,_,_⟩:=three hx1;have HSZ:=zd hsz;have HMU:=zd (HMF.out u1.heap.size (by omega));have HM2:=zd (HMF.out (w.heap.size+2) (by omega))
 have HKK:=zd (show ∀ k,MK M (Kor (Kor K (w.heap.size+2)) u1.heap.size) k=true->k<u1.heap.size+1 from fun k hk=>by
  unfold MK at hk;simp only [Bool.or_eq_true]at hk
  rcases hk with hk|hk
  ·have:=HM.out k hk;omega
  ·exact xzdr (xzdr (fun k hk=>by have:=HK.out k hk;omega) (by omega)) (by omega) k hk)
 clear hnx hmk hbl hx0 hx1 hx2 hsz hw3
 cases pe with
 |false=>
  cases qe with
  |false=>
   have hth:=(HTH.out false).put2 (Nat.le_refl _) (by have:=HSZ.out;omega) HMU.out (.bool false);obtain⟨U0,hU0⟩:∃ U0,(u1.alloc (.cells #[.slice P1 p.first.length cp1,.slice Q2 q.ends.length cq2,.bool false] 73)).setCell ⟨u1.heap.size,2,none⟩ (.bool false)=U0:=⟨_,rfl⟩;clear HTH;rw [hU0]at hth;have hsU:u1.heap.size+1<=U0.heap.size:=hth.at3.lt;obtain⟨d0',d1',d2',_,_,_⟩:=three hth.at0;obtain⟨e0',e1',e2',_,_,_⟩:=three hth.at1;obtain⟨g0,g1,g2,l0,l1,l2⟩:=three hth.at3;obtain⟨k0,k1,k2,m0,m1,m2⟩:=three hth.at2;have hlt1:=hth.at2.lt;have hlt2:=hth.at3.lt;rw [HPQ.out.1]at d2';rw [HPQ.out.2]at e2';have HT0:=zd hth;clear hth;go_wp2;obtain⟨hl,hn1,hm1,hp1⟩:=HT0.out.fin (Nat.le_refl _) HM2.out;refine⟨rfl,_,xzaf rfl rfl hl,_,rfl,hn1,hm1,?_⟩;unfold bothP;rw [HPQ.out.1,HPQ.out.2];exact hp1
  |true=>
   have hth:=(HTH.out false).put2 (Nat.le_refl _) (by have:=HSZ.out;omega) HMU.out (.bool false);obtain⟨U0,hU0⟩:∃ U0,(u1.alloc (.cells #[.slice P1 p.first.length cp1,.slice Q2 q.ends.length cq2,.bool false] 73)).setCell ⟨u1.heap.size,2,none⟩ (.bool false)=U0:=⟨_,rfl⟩;clear HTH;rw [hU0]at hth;have hsU:u1.heap.size+1<=U0.heap.size:=hth.at3.lt;obtain⟨d0',d1',d2',_,_,_⟩:=three hth.at0;obtain⟨e0',e1',e2',_,_,_⟩:=three hth.at1;obtain⟨g0,g1,g2,l0,l1,l2⟩:=three hth.at3;obtain⟨k0,k1,k2,m0,m1,m2⟩:=three hth.at2;have hlt1:=hth.at2.lt;have hlt2:=hth.at3.lt;rw [HPQ.out.1]at d2';rw [HPQ.out.2]at e2';have HT0:=zd hth;clear hth
   go_wp2_with fail
   go_at_call 58
   have HC1:=zd (xzbw p.ends q.ends _ _ U0 _ (fun k hk=>by have:=HKK.out k hk;omega) HT0.out.r1 HT0.out.r3 (by have:=HO.out;omega));refine HC1.out.mono ?_;rintro x c1 ⟨v1,rfl,hv1,hb1⟩;have ht1:=HT0.out.step hb1;obtain⟨U1,hU1⟩:∃ U1,c1.setCell ⟨u1.heap.size,1,none⟩ v1=U1:=⟨_,rfl⟩;have hth:=(ht1.put (Nat.le_refl _) (by have:=HSZ.out;omega) HMU.out hv1).2;rw [hU1]at hth
   have hsU1:U0.heap.size<=U1.heap.size:=by rw [<-hU1];simpa [World.setCell]using hb1.size
   clear d0 d1 d2 e0 e1 e2 d0' d1' d2' e0' e1' e2' g0 g1 g2 l0 l1 l2 k0 k1 k2 m0 m1 m2 hlt1 hlt2;obtain⟨B1,z1,rfl,_⟩:=hv1.form;obtain⟨dd0,dd1,dd2,l0,l1,l2⟩:=three ht1.at3;have HT1:=zd hth;obtain⟨d0,d1,d2,_,_,_⟩:=three hth.at0;obtain⟨e0,e1,e2,_,_,_⟩:=three hth.at1;obtain⟨g0,g1,g2,_,_,_⟩:=three hth.at3;obtain⟨k0,k1,k2,m0,m1,m2⟩:=three hth.at2;have hlt1:=hth.at2.lt;have hlt2:=hth.at3.lt;rw [HPQ.out.1]at d2;rw [HPQ.out.2]at e2;clear hth ht1 hv1 hb1;go_wp2;obtain⟨hl,hn1,hm1,hp1⟩:=HT1.out.fin (Nat.le_refl _) HM2.out;refine⟨rfl,_,xzaf rfl rfl hl,_,rfl,hn1,hm1,?_⟩;unfold bothP;rw [HPQ.out.1,HPQ.out.2];exact hp1
 |true=>
  cases qe with
  |false=>
   have hth:=(HTH.out false).put2 (Nat.le_refl _) (by have:=HSZ.out;omega) HMU.out (.bool false);obtain⟨U0,hU0⟩:∃ U0,(u1.alloc (.cells #[.slice P1 p.first.length cp1,.slice Q2 q.ends.length cq2,.bool false] 73)).setCell ⟨u1.heap.size,2,none⟩ (.bool false)=U0:=⟨_,rfl⟩;clear HTH;rw [hU0]at hth;have hsU:u1.heap.size+1<=U0.heap.size:=hth.at3.lt;obtain⟨d0',d1',d2',_,_,_⟩:=three hth.at0;obtain⟨e0',e1',e2',_,_,_⟩:=three hth.at1;obtain⟨g0,g1,g2,l0,l1,l2⟩:=three hth.at3;obtain⟨k0,k1,k2,m0,m1,m2⟩:=three hth.at2;have hlt1:=hth.at2.lt;have hlt2:=hth.at3.lt;rw [HPQ.out.1]at d2';rw [HPQ.out.2]at e2';have HT0:=zd hth;clear hth
   go_wp2_with fail
   go_at_call 58
   have HC1:=zd (xzbw p.first q.first _ _ U0 _ (fun k hk=>by have:=HKK.out k hk;omega) HT0.out.r0 HT0.out.r2 (by have:=HO.out;omega));refine HC1.out.mono ?_;rintro x c1 ⟨v1,rfl,hv1,hb1⟩;have ht1:=HT0.out.step hb1;obtain⟨U1,hU1⟩:∃ U1,c1.setCell ⟨u1.heap.size,0,none⟩ v1=U1:=⟨_,rfl⟩;have hth:=(ht1.put (Nat.le_refl _) (by have:=HSZ.out;omega) HMU.out hv1).1;rw [hU1]at hth
   have hsU1:U0.heap.size<=U1.heap.size:=by rw [<-hU1];simpa [World.setCell]using hb1.size
   clear d0 d1 d2 e0 e1 e2 d0' d1' d2' e0' e1' e2' g0 g1 g2 l0 l1 l2 k0 k1 k2 m0 m1 m2 hlt1 hlt2;obtain⟨B1,z1,rfl,_⟩:=hv1.form;obtain⟨dd0,dd1,dd2,l0,l1,l2⟩:=three ht1.at3;have HT1:=zd hth;obtain⟨d0,d1,d2,_,_,_⟩:=three hth.at0;obtain⟨e0,e1,e2,_,_,_⟩:=three hth.at1;obtain⟨g0,g1,g2,_,_,_⟩:=three hth.at3;obtain⟨k0,k1,k2,m0,m1,m2⟩:=three hth.at2;have hlt1:=hth.at2.lt;have hlt2:=hth.at3.lt;rw [HPQ.out.1]at d2;rw [HPQ.out.2]at e2;clear hth ht1 hv1 hb1;go_wp2;obtain⟨hl,hn1,hm1,hp1⟩:=HT1.out.fin (Nat.le_refl _) HM2.out;refine⟨rfl,_,xzaf rfl rfl hl,_,rfl,hn1,hm1,?_⟩;unfold bothP;rw [HPQ.out.1,HPQ.out.2];exact hp1
  |true=>
   have hth:=HTH.out true;obtain⟨U0,hU0⟩:∃ U0,u1.alloc (.cells #[.slice P1 p.first.length cp1,.slice Q2 q.ends.length cq2,.bool true] 73)=U0:=⟨_,rfl⟩;clear HTH;rw [hU0]at hth;have hsU:u1.heap.size+1<=U0.heap.size:=hth.at3.lt;obtain⟨d0',d1',d2',_,_,_⟩:=three hth.at0;obtain⟨e0',e1',e2',_,_,_⟩:=three hth.at1;obtain⟨g0,g1,g2,l0,l1,l2⟩:=three hth.at3;obtain⟨k0,k1,k2,m0,m1,m2⟩:=three hth.at2;have hlt1:=hth.at2.lt;have hlt2:=hth.at3.lt;rw [HPQ.out.1]at d2';rw [HPQ.out.2]at e2';have HT0:=zd hth;clear hth
   go_wp2_with fail
   go_at_call 58
   have HC1:=zd (xzbw p.first q.first _ _ U0 _ (fun k hk=>by have:=HKK.out k hk;omega) HT0.out.r0 HT0.out.r2 (by have:=HO.out;omega));refine HC1.out.mono ?_;rintro x c1 ⟨v1,rfl,hv1,hb1⟩;have ht1:=HT0.out.step hb1;obtain⟨U1,hU1⟩:∃ U1,c1.setCell ⟨u1.heap.size,0,none⟩ v1=U1:=⟨_,rfl⟩;have hth:=(ht1.put (Nat.le_refl _) (by have:=HSZ.out;omega) HMU.out hv1).1;rw [hU1]at hth
   have hsU1:U0.heap.size<=U1.heap.size:=by rw [<-hU1];simpa [World.setCell]using hb1.size
   clear d0 d1 d2 e0 e1 e2 d0' d1' d2' e0' e1' e2' g0 g1 g2 l0 l1 l2 k0 k1 k2 m0 m1 m2 hlt1 hlt2;obtain⟨B1,z1,rfl,_⟩:=hv1.form;obtain⟨dd0,dd1,dd2,l0,l1,l2⟩:=three ht1.at3;have HT1:=zd hth;obtain⟨d0,d1,d2,_,_,_⟩:=three hth.at0;obtain⟨e0,e1,e2,_,_,_⟩:=three hth.at1;obtain⟨g0,g1,g2,_,_,_⟩:=three hth.at3;obtain⟨k0,k1,k2,m0,m1,m2⟩:=three hth.at2;have hlt1:=hth.at2.lt;have hlt2:=hth.at3.lt;rw [HPQ.out.1]at d2;rw [HPQ.out.2]at e2;clear hth ht1 hv1 hb1
   go_wp2_with fail
   go_at_call 58
   have HC2:=zd (xzbw p.ends q.ends _ _ U1 _ (fun k hk=>by have:=HKK.out k hk;omega) HT1.out.r1 HT1.out.r3 (by have:=HO.out;omega));refine HC2.out.mono ?_;rintro x c2 ⟨v2,rfl,hv2,hb2⟩;have ht2:=HT1.out.step hb2;obtain⟨U2,hU2⟩:∃ U2,c2.setCell ⟨u1.heap.size,1,none⟩ v2=U2:=⟨_,rfl⟩;have hth:=(ht2.put (Nat.le_refl _) (by have:=HSZ.out;omega) HMU.out hv2).2;rw [hU2]at hth
   have hsU2:U1.heap.size<=U2.heap.size:=by rw [<-hU2];simpa [World.setCell]using hb2.size
   clear dd0 dd1 dd2 l0 l1 l2 d0 d1 d2 e0 e1 e2 g0 g1 g2 k0 k1 k2 m0 m1 m2 hlt1 hlt2;obtain⟨B2,z2,rfl,_⟩:=hv2.form;obtain⟨dd0,dd1,dd2,l0,l1,l2⟩:=three ht2.at3;have HT2:=zd hth;obtain⟨d0,d1,d2,_,_,_⟩:=three hth.at0;obtain⟨e0,e1,e2,_,_,_⟩:=three hth.at1;obtain⟨g0,g1,g2,_,_,_⟩:=three hth.at3;obtain⟨k0,k1,k2,m0,m1,m2⟩:=three hth.at2;have hlt1:=hth.at2.lt;have hlt2:=hth.at3.lt;rw [HPQ.out.1]at d2;rw [HPQ.out.2]at e2;clear hth ht2 hv2 hb2;go_wp2;obtain⟨hl,hn1,hm1,hp1⟩:=HT2.out.fin (Nat.le_refl _) HM2.out;refine⟨rfl,_,xzaf rfl rfl hl,_,rfl,hn1,hm1,?_⟩;unfold bothP;rw [HPQ.out.1,HPQ.out.2];exact hp1
end
section
open Go.RowKit
attribute [local irreducible] FreeW textFrame
theorem PrtsAt.sub {V V' W W':World}{l:List Prt}{v:Value}(h:PrtsAt V W l v)(hv:Sub V V')(hw:Sub W W'):PrtsAt V' W' l v:=by
 obtain⟨A,c,rfl,hc,hs⟩:=h;refine⟨A,c,rfl,hc,fun hne=>?_⟩;obtain⟨b,o,rfl,hg⟩:=hs hne;refine⟨b,o,rfl,fun i hi=>?_⟩;obtain⟨v1,v2,h0,h1,h2,h3,h4⟩:=hg i hi;exact⟨v1,v2,hw _ _ h0,hw _ _ h1,hw _ _ h2,h3.sub hv,h4.sub hv⟩
structure RestI (M K:Nat->Bool)(w W:World)(pb:Nat)(S:Mk)(r f e m:Value)(b:Nat)(Q:Prt)(a1 a2:Value):Prop where
 at0:BlkIs W b 73 #[.slice none 0 0,.slice none 0 0,.bool false]
 at1:BlkIs W (b+1) 73 #[a1,a2,.bool Q.empty]
 mkr:MkAt M (Kor (Kor K b) (b+1)) W pb S r f e m
 nx:Nx M M w W
 r0:IntsV (hide W (MK M (Kor (Kor K b) (b+1)))) Q.first a1
 r1:IntsV (hide W (MK M (Kor (Kor K b) (b+1)))) Q.ends a2
theorem BlkIs.nx {M M':Nat->Bool}{W W':World}{g:Nat}{t:TypeId}{cs:Array Value}(h:BlkIs W g t cs)(hn:Nx M M' W W')(hm:M g=false):BlkIs W' g t cs:=(hn.block g h.lt hm).trans h
theorem RestI.next {M K:Nat->Bool}{w W U:World}{pb:Nat}{S S':Mk}{r f e m:Value}{b:Nat}{Q Q':Prt}{a1 a2 x1 x2:Value}(h:RestI M K w W pb S r f e m b Q a1 a2)(hw:w.heap.size<=b)(hM0:M b=false)(hM1:M (b+1)=false)
 (hn:Nx M M W U)(hm:MkAt M (Kor (Kor K b) (b+1)) U pb S' r f e m)(h1:IntsV (hide U (MK M (Kor (Kor K b) (b+1)))) Q'.first x1)(h2:IntsV (hide U (MK M (Kor (Kor K b) (b+1)))) Q'.ends x2):
 RestI M K w (((U.setCell ⟨b+1,0,none⟩ x1).setCell ⟨b+1,1,none⟩ x2).setCell ⟨b+1,2,none⟩ (.bool Q'.empty)) pb S' r f e m b Q' x1 x2:=by
 have hk:=xzff (Kor K b) (b+1);have hs:=((xzap (M:=M) (W:=U) (i:=0) hk x1).trans (xzap (M:=M) (i:=1) hk x2)).trans (xzap (M:=M) (i:=2) hk (.bool Q'.empty))
 have hne:b≠b+1:=by omega
 exact⟨(((h.at0.nx hn hM0).far (p:=⟨b+1,0,none⟩) hne _).far (p:=⟨b+1,1,none⟩) hne _).far (p:=⟨b+1,2,none⟩) hne _,xzbs (h.at1.nx hn hM1),((hm.far hk hM1).far hk hM1).far hk hM1,(((h.nx.trans hn).far (by omega)).far (by omega)).far (by omega),h1.sub hs,h2.sub hs⟩
theorem RestI.put {M K:Nat->Bool}{w W:World}{pb:Nat}{S:Mk}{r f e m:Value}{b:Nat}{Q Q':Prt}{a1 a2:Value}(h:RestI M K w W pb S r f e m b Q a1 a2)(hw:w.heap.size<=b)(hM1:M (b+1)=false)(h1:Q'.first=Q.first)(h2:Q'.ends=Q.ends):
 RestI M K w (W.setCell ⟨b+1,2,none⟩ (.bool Q'.empty)) pb S r f e m b Q' a1 a2:=by
 have hk:=xzff (Kor K b) (b+1);have hs:=xzap (M:=M) (W:=W) (i:=2) hk (.bool Q'.empty);exact⟨h.at0.far (p:=⟨b+1,2,none⟩) (by show b≠b+1;omega) _,h.at1.put 2 _,h.mkr.far hk hM1,h.nx.far (by omega),by rw [h1];exact h.r0.sub hs,by rw [h2];exact h.r1.sub hs⟩
theorem RestI.fin {M K:Nat->Bool}{w W:World}{pb:Nat}{S:Mk}{r f e m:Value}{b:Nat}{Q:Prt}{a1 a2:Value}(h:RestI M K w W pb S r f e m b Q a1 a2)(hw:w.heap.size<=b)(hM:M b=false):
 (loadVar 73 ⟨b,0,none⟩).run Try.prog (((W.setCell ⟨b,0,none⟩ a1).setCell ⟨b,1,none⟩ a2).setCell ⟨b,2,none⟩ (.bool Q.empty))=.ok (.agg #[a1,a2,.bool Q.empty]) (((W.setCell ⟨b,0,none⟩ a1).setCell ⟨b,1,none⟩ a2).setCell ⟨b,2,none⟩ (.bool Q.empty))/\
 Nx M M w (((W.setCell ⟨b,0,none⟩ a1).setCell ⟨b,1,none⟩ a2).setCell ⟨b,2,none⟩ (.bool Q.empty))/\
 MkAt M K (((W.setCell ⟨b,0,none⟩ a1).setCell ⟨b,1,none⟩ a2).setCell ⟨b,2,none⟩ (.bool Q.empty)) pb S r f e m/\
 PrtV (hide (((W.setCell ⟨b,0,none⟩ a1).setCell ⟨b,1,none⟩ a2).setCell ⟨b,2,none⟩ (.bool Q.empty)) (MK M K)) Q (.agg #[a1,a2,.bool Q.empty]):=by
 have hk:Kor (Kor K b) (b+1) b=true:=Kor_or (xzff K b);have hs:=((((xzap (M:=M) (W:=W) (i:=0) hk a1).trans (xzap (M:=M) (i:=1) hk a2)).trans (xzap (M:=M) (i:=2) hk (.bool Q.empty))).trans xzdg).trans xzdg;exact⟨xzcd (xzbs h.at0),((h.nx.far hw).far hw).far hw,(((h.mkr.far hk hM).far hk hM).far hk hM).less.less,_,_,rfl,h.r0.sub hs,h.r1.sub hs⟩
set_option maxRecDepth 20000 in
set_option maxHeartbeats 16000000 in
theorem xzkx (M K:Nat->Bool)(S:Mk)(l:List Prt)(v:Value)(must:Int)(pb:Nat)(r f e m:Value)(w:World)(hm:MkAt M K w pb S r f e m)(hv:PrtsAt (hide w (MK M K)) (hide w M) l v)
 (hS:S.Ok)(hl:∀ p∈l,p.Ok S.sets.length)(hn:S.sets.length<=1048576)(hll:l.length<=1048576)(hM:∀ k,M k=true->k<w.heap.size)(hK:∀ k,K k=true->k<w.heap.size):
 Calls Try.prog 48 #[.pointer (some ⟨pb,0,none⟩),v,.int .i64 must] w fun x w'=>∃ v',x=.returned v'/\Nx M M w w'/\MkAt M K w' pb ⟨S.sets,(inRowP must 0 l S.follow).1⟩ r f e m/\PrtV (hide w' (MK M K)) (inRowP must 0 l S.follow).2 v':=by
 obtain⟨A,c,rfl,hc,hs⟩:=hv;obtain⟨w2,hw2⟩:∃ w2,(w.alloc (.cells #[.slice none 0 0,.slice none 0 0,.bool false] 73)).alloc (.cells #[.slice none 0 0,.slice none 0 0,.bool true] 73)=w2:=⟨_,rfl⟩
 have hb2:Below w.heap.size w w2:=by rw [<-hw2];exact((Below.refl _ _).alloc (Nat.le_refl _) _).alloc (by simp) _
 have hs2:w2.heap.size=w.heap.size+2:=by rw [<-hw2];simp
 have hx0:BlkIs w2 w.heap.size 73 #[.slice none 0 0,.slice none 0 0,.bool false]:=by rw [<-hw2];exact(BlkIs.new w _ _).alloc _
 have hx1:BlkIs w2 (w.heap.size+1) 73 #[.slice none 0 0,.slice none 0 0,.bool true]:=by
  rw [<-hw2];have h:=BlkIs.new (w.alloc (.cells #[.slice none 0 0,.slice none 0 0,.bool false] 73)) 73 #[.slice none 0 0,.slice none 0 0,.bool true];rw [World.size_alloc]at h;exact h
 have hMf:∀ k,w.heap.size<=k->M k=false:=fun k hk=>by
  rw [Bool.eq_false_iff];intro e;have:=hM k e;omega
 have HUP:=zd (fun u (h:Nx M M w u)=>(show Sub (hide w (MK M K)) (hide u (MK M (Kor (Kor K w.heap.size) (w.heap.size+1))))from xzaw fun k h1 h2=>by
  rw [MK_no]at h1
  exact⟨MK_no.2 ⟨h1.1,Kor_no.2 ⟨Kor_no.2 ⟨h1.2,by omega⟩,by omega⟩⟩,h.block k h2 h1.1⟩))
 have H0:=zd (show RestI M K w w2 pb S r f e m w.heap.size ⟨[],[],true⟩ (.slice none 0 0) (.slice none 0 0)from⟨hx0,hx1,hm.sub (fun k hk _=>hb2.block k hk) (HUP.out w2 (Nx.below hb2)),Nx.below hb2,IntsV.nil _,IntsV.nil _⟩);have HS:=zd hs;have HIN:=zd (fun k=>xzfj (n:=S.sets.length) must (l.drop k) k S.follow hS.2 fun p hp=>hl p (List.mem_of_mem_drop hp));have HL:=zd (fun(j:Nat) (h:j<l.length)=>hl _ (List.getElem_mem h));have HSO:=zd hS.1;have HMK:=zd (And.intro hMf (And.intro hM hK));have HS2:=zd hs2;clear hm hS hl hM hK hMf hx0 hx1 hb2 hs
 go_enter Try.func48,Try.ntmps48
 have hk0:IntKind.i64.wrap ((l.length:Int) - 1)=(l.length:Int) - 1:=by rw [IntKind.wrap_i64];omega
 go_wp2
 go_loopw [8] (fun i wr=>∃ k:Nat,i=.int .i64 ((k:Int) - 1)/\k<=l.length/\Hid (∃ a1 a2,RestI M K w wr pb ⟨S.sets,(inRowP must k (l.drop k) S.follow).1⟩ r f e m w.heap.size (inRowP must k (l.drop k) S.follow).2 a1 a2)) (fun i _=>(intOf i+1).toNat)
 case atStart=>exact⟨l.length,rfl,Nat.le_refl _,zd ⟨_,_,by rw [List.drop_length];exact H0.out⟩⟩
 case round=>
  obtain⟨k,rfl,hk,HH⟩:=hrel;clear hk0;obtain⟨a1,a2,hr⟩:=HH.out;clear HH
  by_cases hp:0<k
  ·obtain⟨n,rfl⟩:∃ n,k=n+1:=⟨k - 1,by omega⟩
   have hnl:n<l.length:=by omega
   have ei:((n+1:Nat):Int) - 1=(n:Int):=by omega
   rw [ei]
   have hk1:IntKind.i64.wrap ((n:Int) - 1)=(n:Int) - 1:=by rw [IntKind.wrap_i64];omega
   have hdl:decide ((n:Int)>=0)=true:=by simp
   have hdl2:decide ((0:Int)<=(n:Int))=true:=by simp
   obtain⟨b,o,rfl,hg⟩:=HS.out (by intro e;rw [e]at hnl;simp at hnl);obtain⟨x1,x2,hq0,hq1,hq2,hi1,hi2⟩:=hg n hnl
   have hdr:inRowP must (n:Int) (l.drop n) S.follow=(linkF (inRowP must (n+1:Nat) (l.drop (n+1)) S.follow).1 l[n].ends (inRowP must (n+1:Nat) (l.drop (n+1)) S.follow).2.first,{bothP l[n] (inRowP must (n+1:Nat) (l.drop (n+1)) S.follow).2 with empty:=(bothP l[n] (inRowP must (n+1:Nat) (l.drop (n+1)) S.follow).2).empty||decide ((n:Int)>=must)}):=by
    rw [List.drop_eq_getElem_cons hnl];rfl
   have hio:=HIN.out (n+1);have hpo:=HL.out n hnl
   have hcl:=fun q (x:Value) (hu:(hide w M).cell? q=some x)=>xzar _ _ (hr.nx.sub1 _ _ hu)
   have c0:=hcl _ _ hq0;have c1:=hcl _ _ hq1;have c2:=hcl _ _ hq2;have hup:=HUP.out wr hr.nx;have hj1:=hi1.sub hup;have hj2:=hi2.sub hup;generalize inRowP must ((n+1:Nat):Int) (l.drop (n+1)) S.follow=GQ at*;obtain⟨G,Q⟩:=GQ;simp only at hdr hr hio;generalize l[n]=P at*;obtain⟨X1,z1,rfl,_⟩:=hi1.form;obtain⟨X2,z2,rfl,_⟩:=hi2.form;obtain⟨Y1,y1,rfl,_⟩:=hr.r0.form;obtain⟨Y2,y2,rfl,_⟩:=hr.r1.form;obtain⟨d0,d1,d2,f0,f1,f2⟩:=three hr.at1;have hlt:=hr.at1.lt;have hkk:∀ k,Kor (Kor K w.heap.size) (w.heap.size+1) k=true->k<wr.drew.heap.size:=xzdr (xzdr (fun k hk=>by have:=HMK.out.2.2 k hk;show k<wr.heap.size;omega) (by show w.heap.size<wr.heap.size;omega)) hlt
   have HT:=zd (xzuk M (Kor (Kor K w.heap.size) (w.heap.size+1)) ⟨S.sets,G⟩ P Q (.agg #[.slice X1 P.first.length z1,.slice X2 P.ends.length z2,.bool P.empty]) (.agg #[.slice Y1 Q.first.length y1,.slice Y2 Q.ends.length y2,.bool Q.empty]) pb r f e m wr.drew (hr.mkr.step (Below.refl _ _).drew)
    ⟨_,_,rfl,hj1.sub (xzad _ (Below.refl _ _).drew),hj2.sub (xzad _ (Below.refl _ _).drew)⟩ ⟨_,_,rfl,hr.r0.sub (xzad _ (Below.refl _ _).drew),hr.r1.sub (xzad _ (Below.refl _ _).drew)⟩ ⟨hio.2.2.trans HSO.out,hio.1⟩ hpo hio.2.1 hn (fun k hk=>Nat.lt_of_lt_of_le (HMK.out.2.1 k hk) hr.nx.size) hkk)
   have HR:=zd hr;have HDR:=zd hdr;clear hr hup hj1 hj2 hi1 hi2 hq0 hq1 hq2 hg hcl hdr hio hpo hkk
   go_wp2_with fail
   refine xzan 6 33 (fun u=>u=wr.drew) (fun _ u u'=>u'=u)
    (fun i v u=>match i with
     |0=>v=.pointer (some ⟨pb,0,none⟩)
     |1=>v=.slice (some ⟨b,o,none⟩) l.length c
     |2=>v=.int .i64 (n:Int)
     |3=>v=.pointer (some ⟨b,o+n*3,none⟩)
     |4=>v=.agg #[.slice X1 P.first.length z1,.slice X2 P.ends.length z2,.bool P.empty]
     |5=>v=.agg #[.slice Y1 Q.first.length y1,.slice Y2 Q.ends.length y2,.bool Q.empty]
     |_=>True) (by kernel_rfl) (by kernel_rfl) rfl rfl ?_ ?_ ?_ ?_
   ·intro i u u' hi hC hr
    exact(show u'=u from hr).trans hC
   ·intro i j v u u' hi hj hne hv hr
    match i,hi,hne,hv with
    |0,_,_,hv=>exact hv
    |1,_,_,hv=>exact hv
    |2,_,_,hv=>exact hv
    |3,_,_,hv=>exact hv
    |4,_,_,hv=>exact hv
    |5,_,_,hv=>exact hv
    |i+6,hi,_,_=>omega
   ·intro i hi vs u hC hw oq ho
    match i,hi,hw,ho with
    |0,_,hw,ho=>
     simp only [zq,zh]at ho;subst ho;refine⟨rfl,?_⟩;have hC:u=wr.drew:=hC;subst hC;clear hw;simp only [xzaa,tmpsTo];go_simp;exact xzab (rfl) rfl
    |1,_,hw,ho=>
     simp only [zq,zh]at ho;subst ho;refine⟨rfl,?_⟩;have hC:u=wr.drew:=hC;subst hC;clear hw;simp only [xzaa,tmpsTo,putT,zr];go_simp;exact xzab (rfl) rfl
    |2,_,hw,ho=>
     simp only [zq,zh]at ho;subst ho;refine⟨rfl,?_⟩;have hC:u=wr.drew:=hC;subst hC;clear hw;simp only [xzaa,tmpsTo,putT,zr];go_simp;exact xzab (rfl) rfl
    |3,_,hw,ho=>
     have e1:vs 1=.slice (some ⟨b,o,none⟩) l.length c:=hw 1 (by omega) (by kernel_rfl);have e2:vs 2=.int .i64 (n:Int):=hw 2 (by omega) (by kernel_rfl);simp only [zq,zh]at ho;subst ho;refine⟨rfl,?_⟩;have hC:u=wr.drew:=hC;subst hC;clear hw;simp only [xzaa,tmpsTo,putT,zr];rw [e1,e2];clear e1 e2;go_simp;exact xzab (rfl) rfl
    |4,_,hw,ho=>
     have e3:vs 3=.pointer (some ⟨b,o+n*3,none⟩):=hw 3 (by omega) (by kernel_rfl);simp only [zq,zh]at ho;subst ho;refine⟨rfl,?_⟩;have hC:u=wr.drew:=hC;subst hC;clear hw;simp only [xzaa,tmpsTo,putT,zr];rw [e3];clear e3;go_simp;exact xzab (rfl) rfl
    |5,_,hw,ho=>
     simp only [zq,zh]at ho;subst ho;refine⟨rfl,?_⟩;have hC:u=wr.drew:=hC;subst hC;clear hw;simp only [xzaa,tmpsTo,putT,zr];go_simp;exact xzab (rfl) rfl
    |i+6,hi,_,_=>omega
   intro vs1 u hC hV;have hC:u=wr.drew:=hC;subst hC;have h0:vs1 0=.pointer (some ⟨pb,0,none⟩):=hV 0 (by omega);have h4:vs1 4=.agg #[.slice X1 P.first.length z1,.slice X2 P.ends.length z2,.bool P.empty]:=hV 4 (by omega);have h5:vs1 5=.agg #[.slice Y1 Q.first.length y1,.slice Y2 Q.ends.length y2,.bool Q.empty]:=hV 5 (by omega);clear hV;simp only [xzaa,tmpsTo,putT,zr,List.drop_succ_cons,List.drop_zero];rw [h0,h4,h5];clear h0 h4 h5;generalize vs1 1=q1;generalize vs1 2=q2;generalize vs1 3=q3
   go_wp2_with fail
   go_at_call 57
   refine HT.out.mono ?_;rintro x u1 ⟨v1,rfl,hnx,hmk,x1,x2,rfl,hx1,hx2⟩;have hnx1:Nx M M wr u1:=(Nx.below ((Below.refl wr.heap.size wr).drew)).trans hnx;have hne:=HR.out.next (Nat.le_refl _) (HMK.out.1 _ (Nat.le_refl _)) (HMK.out.1 _ (by omega)) hnx1 hmk hx1 hx2;obtain⟨U1,hU1⟩:∃ U1,((u1.setCell ⟨w.heap.size+1,0,none⟩ x1).setCell ⟨w.heap.size+1,1,none⟩ x2).setCell ⟨w.heap.size+1,2,none⟩ (.bool (bothP P Q).empty)=U1:=⟨_,rfl⟩;rw [hU1]at hne;have hat1:=HR.out.at1.nx hnx1 (HMK.out.1 _ (by omega));obtain⟨g0,g1,g2,m0,m1,m2⟩:=three hat1;obtain⟨B1,b1,rfl,_⟩:=hx1.form;obtain⟨B2,b2,rfl,_⟩:=hx2.form;clear d0 d1 d2 f0 f1 f2 c0 c1 c2 hat1 hnx hnx1 hmk hx1 hx2;obtain⟨d0,d1,d2,f0,f1,f2⟩:=three hne.at1;have HNE:=zd hne;clear hne
   have HFIN:=zd (fun(z:Bool) (hz:z=((bothP P Q).empty||decide ((n:Int)>=must)))=>(show ∃ a1 a2,RestI M K w (U1.setCell ⟨w.heap.size+1,2,none⟩ (.bool z)) pb ⟨S.sets,(inRowP must n (l.drop n) S.follow).1⟩ r f e m w.heap.size (inRowP must n (l.drop n) S.follow).2 a1 a2 from by
    rw [HDR.out,hz]
    exact⟨_,_,HNE.out.put (Q':={bothP P Q with empty:=(bothP P Q).empty||decide ((n:Int)>=must)}) (Nat.le_refl _) (HMK.out.1 _ (by omega)) rfl rfl⟩))
   have hlast:∃ j:Nat,(Value.int .i64 ((n:Int) - 1))=.int .i64 ((j:Int) - 1)/\j<=l.length/\j=n:=⟨n,rfl,by omega,rfl⟩
   cases hz:(bothP P Q).empty with
   |true=>
    rw [hz]at HFIN d2 hU1;go_wp2;exact⟨⟨n,rfl,by omega,zd (HFIN.out true (by simp))⟩,by simp [intOf]⟩
   |false=>
    rw [hz]at HFIN d2 hU1
    by_cases hq:(n:Int)>=must
    ·have hd1:decide ((n:Int)>=must)=true:=by simpa using hq
     have hd2:decide (must<=(n:Int))=true:=by simpa using hq
     go_wp2;exact⟨⟨n,rfl,by omega,zd (HFIN.out true (by rw [hd1];rfl))⟩,by simp [intOf]⟩
    ·have hd1:decide ((n:Int)>=must)=false:=by simpa using hq
     have hd2:decide (must<=(n:Int))=false:=by simpa using hq
     go_wp2;exact⟨⟨n,rfl,by omega,zd (HFIN.out false (by rw [hd1];rfl))⟩,by simp [intOf]⟩
  ·obtain rfl:k=0:=by omega
   have hdl:decide ((((0:Nat):Int) - 1)>=0)=false:=by decide
   obtain⟨Y1,y1,rfl,_⟩:=hr.r0.form;obtain⟨Y2,y2,rfl,_⟩:=hr.r1.form;obtain⟨d0,d1,d2,f0,f1,f2⟩:=three hr.at1;obtain⟨k0,k1,k2,l0,l1,l2⟩:=three hr.at0;have HR:=zd hr;have hlt:=hr.at0.lt
   have hdl3:decide ((-1:Int)>=0)=false:=by decide
   rw [show((0:Nat):Int) - 1= -1 from rfl];clear hr;go_wp2;obtain⟨hl,hn1,hm1,hp1⟩:=HR.out.fin (Nat.le_refl _) (HMK.out.1 _ (Nat.le_refl _));exact⟨rfl,_,xzaf rfl rfl hl,_,rfl,hn1,hm1,hp1⟩
end
end Go.Proofs.Ythoaaginadjaoaa
