/-
 WHAT nfa's then ANSWERS: a contract. Condition: the parts' rows rise, below 2^20.
-/
import Derived.Test.YtdjpphjpnkfeiaaGreatDoorQG18
namespace Go.Proofs.YtdjpphjpnkfeiaaGreatDoor
section
open Go.RowKit
attribute [local irreducible] FreeW textFrame
def Kor (K:Nat->Bool)(b k:Nat):Bool:=K k||decide (k=b)
theorem Kor_no {K:Nat->Bool}{b k:Nat}:Kor K b k=false↔K k=false/\k≠b:=by unfold Kor;simp
theorem xzkm (K:Nat->Bool)(b:Nat):Kor K b b=true:=by unfold Kor;simp
theorem Kor_or {K:Nat->Bool}{b k:Nat}(h:K k=true):Kor K b k=true:=by unfold Kor;simp [h]
theorem xzhz {K:Nat->Bool}{b s:Nat}(hK:∀ k,K k=true->k<s)(hb:b<s):∀ k,Kor K b k=true->k<s:=fun k h=>by
 unfold Kor at h;simp only [Bool.or_eq_true,decide_eq_true_eq]at h
 rcases h with h|rfl
 ·exact hK k h
 ·exact hb
theorem xzgc {M K:Nat->Bool}{W:World}{b:Nat}:Sub (hide W (MK M (Kor K b))) (hide W (MK M K)):=xzbf fun _ h1 _=>by
 rw [MK_no,Kor_no]at h1;exact⟨MK_no.2 ⟨h1.1,h1.2.1⟩,rfl⟩
theorem yzet {M M' K:Nat->Bool}{W W':World}{b:Nat}(h:Nx M M' W W')(hb:W.heap.size<=b):Sub (hide W (MK M K)) (hide W' (MK M' (Kor K b))):=xzbf fun k h1 h2=>by
 rw [MK_no]at h1;exact⟨MK_no.2 ⟨(h.mine k h2).trans h1.1,Kor_no.2 ⟨h1.2,by omega⟩⟩,h.block k h2 h1.1⟩
theorem MkAt.sub {M K K':Nat->Bool}{W W':World}{pb:Nat}{S:Mk}{r f e m:Value}(h:MkAt M K W pb S r f e m)(hk:∀ k,k<W.heap.size->M k=true->W'.heap[k]? =W.heap[k]?)(hs:Sub (hide W (MK M K)) (hide W' (MK M K'))):MkAt M K' W' pb S r f e m:=by
 obtain⟨vs,vf,xs,h⟩:=h
 exact⟨vs,vf,xs,(hk pb h.blk.lt h.mine).trans h.blk,h.mine,xzad h.own0 fun k hk'=>hk k (World.ownsRow.lt h.own0 k hk').2 (h.far0 k hk').1,xzad h.own3 fun k hk'=>hk k (World.ownsRow.lt h.own3 k hk').2 (h.far3 k hk').1,h.far0,h.far3,
  fun i hi=>by obtain⟨x,h1,h2⟩:=h.rows i hi;exact⟨x,h1,h2.sub hs⟩⟩
theorem MkAt.new {M K:Nat->Bool}{W W':World}{pb b:Nat}{S:Mk}{r f e m:Value}(h:MkAt M K W pb S r f e m)(hb:Below W.heap.size W W')(hb2:W.heap.size<=b):MkAt M (Kor K b) W' pb S r f e m:=
 h.sub (fun k hk _=>hb.block k hk) (yzet (Nx.below hb) hb2)
theorem MkAt.less {M K:Nat->Bool}{W:World}{pb b:Nat}{S:Mk}{r f e m:Value}(h:MkAt M (Kor K b) W pb S r f e m):MkAt M K W pb S r f e m:=h.sub (fun _ _ _=>rfl) xzgc
theorem MkAt.far {M K:Nat->Bool}{W:World}{pb b i:Nat}{S:Mk}{r f e m u:Value}(h:MkAt M K W pb S r f e m)(h1:K b=true)(h2:M b=false):MkAt M K (W.setCell ⟨b,i,none⟩ u) pb S r f e m:=
 h.sub (fun k _ hm=>Below.heap_setCell _ _ _ _ (by intro e;rw [e,h2]at hm;cases hm)) (xzcp (by unfold MK;simp [h1]) u)
theorem Nx.far {M M':Nat->Bool}{W W':World}{b i:Nat}{u:Value}(h:Nx M M' W W')(hb:W.heap.size<=b):Nx M M' W (W'.setCell ⟨b,i,none⟩ u):=
 ⟨h.os,h.tape,h.output,by rw [show(W'.setCell ⟨b,i,none⟩ u).heap.size=W'.heap.size by simp [World.setCell]];exact h.size,fun k hk hm=>(Below.heap_setCell _ _ _ _ (by show k≠b;omega)).trans (h.block k hk hm),h.mine⟩
theorem xzbg {M K:Nat->Bool}{W:World}{b i:Nat}(h:K b=true)(u:Value):Sub (hide W (MK M K)) (hide (W.setCell ⟨b,i,none⟩ u) (MK M K)):=xzcp (by unfold MK;simp [h]) u
structure ThenI (M K:Nat->Bool)(w W:World)(pb:Nat)(S:Mk)(r f e m:Value)(b b':Nat)(p q:Prt)(p1 p2 q1 q2:Value)(A1 A2:List Int)(a1 a2 a3:Value):Prop where
 at0:BlkIs W b 149 #[p1,p2,.bool p.empty]
 at1:BlkIs W (b+1) 149 #[q1,q2,.bool q.empty]
 at2:BlkIs W (b+2) 149 #[.slice none 0 0,.slice none 0 0,.bool false]
 at3:BlkIs W b' 149 #[a1,a2,a3]
 mkr:MkAt M (Kor (Kor K (b+2)) b') W pb S r f e m
 nx:Nx M M w W
 r0:IntsV (hide W (MK M (Kor (Kor K (b+2)) b'))) p.first p1
 r1:IntsV (hide W (MK M (Kor (Kor K (b+2)) b'))) p.ends p2
 r2:IntsV (hide W (MK M (Kor (Kor K (b+2)) b'))) q.first q1
 r3:IntsV (hide W (MK M (Kor (Kor K (b+2)) b'))) q.ends q2
 r4:IntsV (hide W (MK M (Kor (Kor K (b+2)) b'))) A1 a1
 r5:IntsV (hide W (MK M (Kor (Kor K (b+2)) b'))) A2 a2
theorem ThenI.step {M K:Nat->Bool}{w W W':World}{pb:Nat}{S:Mk}{r f e m:Value}{b b':Nat}{p q:Prt}{p1 p2 q1 q2:Value}{A1 A2:List Int}{a1 a2 a3:Value}(h:ThenI M K w W pb S r f e m b b' p q p1 p2 q1 q2 A1 A2 a1 a2 a3)
 (hb:Below W.heap.size W W'):ThenI M K w W' pb S r f e m b b' p q p1 p2 q1 q2 A1 A2 a1 a2 a3:=
 ⟨h.at0.step hb,h.at1.step hb,h.at2.step hb,h.at3.step hb,h.mkr.step hb,h.nx.trans (Nx.below hb),h.r0.sub (xzai _ hb),h.r1.sub (xzai _ hb),h.r2.sub (xzai _ hb),h.r3.sub (xzai _ hb),h.r4.sub (xzai _ hb),h.r5.sub (xzai _ hb)⟩
theorem ThenI.put {M K:Nat->Bool}{w W:World}{pb:Nat}{S:Mk}{r f e m:Value}{b b':Nat}{p q:Prt}{p1 p2 q1 q2:Value}{A1 A2 X:List Int}{a1 a2 a3 x:Value}(h:ThenI M K w W pb S r f e m b b' p q p1 p2 q1 q2 A1 A2 a1 a2 a3)
 (hw:w.heap.size<=b)(hb:b+2<b')(hM:M b'=false)(hx:IntsV (hide W (MK M (Kor (Kor K (b+2)) b'))) X x):
 ThenI M K w (W.setCell ⟨b',0,none⟩ x) pb S r f e m b b' p q p1 p2 q1 q2 X A2 x a2 a3/\ThenI M K w (W.setCell ⟨b',1,none⟩ x) pb S r f e m b b' p q p1 p2 q1 q2 A1 X a1 x a3:=by
 have hk:=xzkm (Kor K (b+2)) b'
 have hs:=fun i=>xzbg (M:=M) (W:=W) (i:=i) hk x
 exact⟨⟨h.at0.far (by show b≠b';omega) _,h.at1.far (by show b+1≠b';omega) _,h.at2.far (by show b+2≠b';omega) _,h.at3.put 0 x,h.mkr.far hk hM,h.nx.far (by omega),h.r0.sub (hs 0),h.r1.sub (hs 0),h.r2.sub (hs 0),h.r3.sub (hs 0),hx.sub (hs 0),h.r5.sub (hs 0)⟩,
  ⟨h.at0.far (by show b≠b';omega) _,h.at1.far (by show b+1≠b';omega) _,h.at2.far (by show b+2≠b';omega) _,h.at3.put 1 x,h.mkr.far hk hM,h.nx.far (by omega),h.r0.sub (hs 1),h.r1.sub (hs 1),h.r2.sub (hs 1),h.r3.sub (hs 1),h.r4.sub (hs 1),hx.sub (hs 1)⟩⟩
theorem ThenI.put2 {M K:Nat->Bool}{w W:World}{pb:Nat}{S:Mk}{r f e m:Value}{b b':Nat}{p q:Prt}{p1 p2 q1 q2:Value}{A1 A2:List Int}{a1 a2 a3:Value}(h:ThenI M K w W pb S r f e m b b' p q p1 p2 q1 q2 A1 A2 a1 a2 a3)
 (hw:w.heap.size<=b)(hb:b+2<b')(hM:M b'=false)(x:Value):ThenI M K w (W.setCell ⟨b',2,none⟩ x) pb S r f e m b b' p q p1 p2 q1 q2 A1 A2 a1 a2 x:=by
 have hk:=xzkm (Kor K (b+2)) b';have hs:=xzbg (M:=M) (W:=W) (i:=2) hk x;exact⟨h.at0.far (by show b≠b';omega) _,h.at1.far (by show b+1≠b';omega) _,h.at2.far (by show b+2≠b';omega) _,h.at3.put 2 x,h.mkr.far hk hM,h.nx.far (by omega),h.r0.sub hs,h.r1.sub hs,h.r2.sub hs,h.r3.sub hs,h.r4.sub hs,h.r5.sub hs⟩
theorem ThenI.fin {M K:Nat->Bool}{w W:World}{pb:Nat}{S:Mk}{r f e m:Value}{b b':Nat}{p q:Prt}{p1 p2 q1 q2:Value}{A1 A2:List Int}{a1 a2:Value}{z:Bool}(h:ThenI M K w W pb S r f e m b b' p q p1 p2 q1 q2 A1 A2 a1 a2 (.bool z))
 (hw:w.heap.size<=b)(hM:M (b+2)=false):
 (loadVar 149 ⟨b+2,0,none⟩).run Tryz.prog (((W.setCell ⟨b+2,0,none⟩ a1).setCell ⟨b+2,1,none⟩ a2).setCell ⟨b+2,2,none⟩ (.bool z))=.ok (.agg #[a1,a2,.bool z]) (((W.setCell ⟨b+2,0,none⟩ a1).setCell ⟨b+2,1,none⟩ a2).setCell ⟨b+2,2,none⟩ (.bool z))/\
 Nx M M w (((W.setCell ⟨b+2,0,none⟩ a1).setCell ⟨b+2,1,none⟩ a2).setCell ⟨b+2,2,none⟩ (.bool z))/\
 MkAt M K (((W.setCell ⟨b+2,0,none⟩ a1).setCell ⟨b+2,1,none⟩ a2).setCell ⟨b+2,2,none⟩ (.bool z)) pb S r f e m/\
 PrtV (hide (((W.setCell ⟨b+2,0,none⟩ a1).setCell ⟨b+2,1,none⟩ a2).setCell ⟨b+2,2,none⟩ (.bool z)) (MK M K)) ⟨A1,A2,z⟩ (.agg #[a1,a2,.bool z]):=by
 have hk:Kor (Kor K (b+2)) b' (b+2)=true:=Kor_or (xzkm K (b+2));have hs:=((((xzbg (M:=M) (W:=W) (i:=0) hk a1).trans (xzbg (M:=M) (i:=1) hk a2)).trans (xzbg (M:=M) (i:=2) hk (.bool z))).trans xzgc).trans xzgc;exact⟨xzez (xzeb h.at2),((h.nx.far (by omega)).far (by omega)).far (by omega),(((h.mkr.far hk hM).far hk hM).far hk hM).less.less,_,_,rfl,h.r4.sub hs,h.r5.sub hs⟩
end
section
open Go.RowKit
attribute [local irreducible] FreeW textFrame
set_option maxRecDepth 20000 in
set_option maxHeartbeats 16000000 in
theorem yzeu (M K:Nat->Bool)(S:Mk)(p q:Prt)(vp vq:Value)(pb:Nat)(r f e m:Value)(w:World)(hm:MkAt M K w pb S r f e m)(hp:PrtV (hide w (MK M K)) p vp)(hq:PrtV (hide w (MK M K)) q vq)
 (hS:S.Ok)(hpo:p.Ok S.sets.length)(hqo:q.Ok S.sets.length)(hn:S.sets.length<=1048576)(hM:∀ k,M k=true->k<w.heap.size)(hK:∀ k,K k=true->k<w.heap.size):
 Calls Tryz.prog 114 #[.pointer (some ⟨pb,0,none⟩),vp,vq] w fun x w'=>∃ v',x=.returned v'/\Nx M M w w'/\MkAt M K w' pb ⟨S.sets,linkF S.follow p.ends q.first⟩ r f e m/\PrtV (hide w' (MK M K)) (bothP p q) v':=by
 obtain⟨p1,p2,rfl,hp1,hp2⟩:=hp;obtain⟨q1,q2,rfl,hq1,hq2⟩:=hq;obtain⟨P1,cp1,rfl,_⟩:=hp1.form;obtain⟨P2,cp2,rfl,_⟩:=hp2.form;obtain⟨Q1,cq1,rfl,_⟩:=hq1.form;obtain⟨Q2,cq2,rfl,_⟩:=hq2.form
 obtain⟨w3,hw3⟩:∃ w3,((w.alloc (.cells #[.slice P1 p.first.length cp1,.slice P2 p.ends.length cp2,.bool p.empty] 149)).alloc (.cells #[.slice Q1 q.first.length cq1,.slice Q2 q.ends.length cq2,.bool q.empty] 149)).alloc (.cells #[.slice none 0 0,.slice none 0 0,.bool false] 149)=w3:=⟨_,rfl⟩
 have hb3:Below w.heap.size w w3:=by rw [<-hw3];exact(((Below.refl _ _).alloc (Nat.le_refl _) _).alloc (by simp) _).alloc (by simp;omega) _
 have hs3:w3.heap.size=w.heap.size+3:=by rw [<-hw3];simp
 have hx0:BlkIs w3 w.heap.size 149 #[.slice P1 p.first.length cp1,.slice P2 p.ends.length cp2,.bool p.empty]:=by rw [<-hw3];exact((BlkIs.new w _ _).alloc _).alloc _
 have hx1:BlkIs w3 (w.heap.size+1) 149 #[.slice Q1 q.first.length cq1,.slice Q2 q.ends.length cq2,.bool q.empty]:=by
  rw [<-hw3];have h:=BlkIs.new (w.alloc (.cells #[.slice P1 p.first.length cp1,.slice P2 p.ends.length cp2,.bool p.empty] 149)) 149 #[.slice Q1 q.first.length cq1,.slice Q2 q.ends.length cq2,.bool q.empty];rw [World.size_alloc]at h;exact h.alloc _
 have hx2:BlkIs w3 (w.heap.size+2) 149 #[.slice none 0 0,.slice none 0 0,.bool false]:=by
  rw [<-hw3];have h:=BlkIs.new ((w.alloc (.cells #[.slice P1 p.first.length cp1,.slice P2 p.ends.length cp2,.bool p.empty] 149)).alloc (.cells #[.slice Q1 q.first.length cq1,.slice Q2 q.ends.length cq2,.bool q.empty] 149)) 149 #[.slice none 0 0,.slice none 0 0,.bool false];rw [World.size_alloc,World.size_alloc]at h;exact h
 have hup:Sub (hide w (MK M K)) (hide w3 (MK M (Kor K (w.heap.size+2)))):=yzet (Nx.below hb3) (by omega)
 have hMf:∀ k,w.heap.size<=k->M k=false:=fun k hk=>by
  rw [Bool.eq_false_iff];intro e;have:=hM k e;omega
 have HLK:=zd (xzvm M (Kor K (w.heap.size+2)) S p.ends q.first _ _ pb r f e m w3 (hm.new hb3 (by omega)) (hp2.sub hup) (hq1.sub hup) hS hpo.2 hqo.1 hn (fun k hk=>by have:=hM k hk;omega) (xzhz (fun k hk=>by have:=hK k hk;omega) (by omega)));have HX:=zd (And.intro hx0 (And.intro hx1 hx2));have HB3:=zd (And.intro hb3 hs3);have HMF:=zd hMf;have HK:=zd hK;have HM:=zd hM;have HR:=zd (And.intro (And.intro (hp1.sub hup) (hp2.sub hup)) (And.intro (hq1.sub hup) (hq2.sub hup)));have HO:=zd (show(p.first.length<=1048576/\p.ends.length<=1048576)/\(q.first.length<=1048576/\q.ends.length<=1048576)from⟨⟨Nat.le_trans (xzay hpo.1) hn,Nat.le_trans (xzay hpo.2) hn⟩,⟨Nat.le_trans (xzay hqo.1) hn,Nat.le_trans (xzay hqo.2) hn⟩⟩);obtain⟨d0,d1,d2,_,_,_⟩:=three hx0;obtain⟨e0,e1,e2,_,_,_⟩:=three hx1;clear hp1 hp2 hq1 hq2 hb3 hx0 hx1 hx2 hup hMf hK hM hS hpo hqo hm hn;obtain⟨pe,hpe⟩:∃ pe,p.empty=pe:=⟨_,rfl⟩;obtain⟨qe,hqe⟩:∃ qe,q.empty=qe:=⟨_,rfl⟩;rw [hpe]at hw3 d2 HX ⊢;rw [hqe]at hw3 e2 HX ⊢;have HPQ:=zd (And.intro hpe hqe);clear hpe hqe
 go_enter Tryz.func114,Tryz.ntmps114
 go_wp2_with fail
 go_at_call 117
 refine HLK.out.mono ?_;rintro x u1 ⟨y,rfl,hnx,hmk⟩
 have hbl:∀ k,w.heap.size<=k->k<w3.heap.size->u1.heap[k]? =w3.heap[k]? :=fun k hk hk2=>hnx.block k hk2 (HMF.out k hk)
 have hx0:BlkIs u1 w.heap.size 149 _:=(hbl _ (Nat.le_refl _) HX.out.1.lt).trans HX.out.1;have hx1:BlkIs u1 (w.heap.size+1) 149 _:=(hbl _ (by omega) HX.out.2.1.lt).trans HX.out.2.1;have hx2:BlkIs u1 (w.heap.size+2) 149 _:=(hbl _ (by omega) HX.out.2.2.lt).trans HX.out.2.2
 have hsz:w.heap.size+3<=u1.heap.size:=by have:=hnx.size;have:=HB3.out.2;omega
 have HTH:=zd (fun z=>(show ThenI M K w (u1.alloc (.cells #[.slice P1 p.first.length cp1,.slice Q2 q.ends.length cq2,.bool z] 149)) pb ⟨S.sets,linkF S.follow p.ends q.first⟩ r f e m w.heap.size u1.heap.size p q _ _ _ _ p.first q.ends (.slice P1 p.first.length cp1) (.slice Q2 q.ends.length cq2) (.bool z)from by
  have hb:Below u1.heap.size u1 (u1.alloc (.cells #[.slice P1 p.first.length cp1,.slice Q2 q.ends.length cq2,.bool z] 149)):=(Below.refl _ _).alloc (Nat.le_refl _) _;have hs:=(hnx.sub (Kor K (w.heap.size+2))).trans (yzet (K:=Kor K (w.heap.size+2)) (Nx.below hb) (Nat.le_refl _));refine⟨(hx0.step hb).trans ?_,(hx1.step hb).trans ?_,hx2.step hb,BlkIs.new _ _ _,hmk.new hb (Nat.le_refl _),(Nx.below HB3.out.1).trans (hnx.trans (Nx.below hb)),HR.out.1.1.sub hs,HR.out.1.2.sub hs,HR.out.2.1.sub hs,HR.out.2.2.sub hs,HR.out.1.1.sub hs,HR.out.2.2.sub hs⟩
  ·rw [HPQ.out.1]
  ·rw [HPQ.out.2]))
 clear d0 d1 d2 e0 e1 e2;obtain⟨d0,d1,d2,_,_,_⟩:=three hx0;obtain⟨e0,e1,e2,_,_,_⟩:=three hx1;have HSZ:=zd hsz;have HMU:=zd (HMF.out u1.heap.size (by omega));have HM2:=zd (HMF.out (w.heap.size+2) (by omega))
 have HKK:=zd (show ∀ k,MK M (Kor (Kor K (w.heap.size+2)) u1.heap.size) k=true->k<u1.heap.size+1 from fun k hk=>by
  unfold MK at hk;simp only [Bool.or_eq_true]at hk
  rcases hk with hk|hk
  ·have:=HM.out k hk;omega
  ·exact xzhz (xzhz (fun k hk=>by have:=HK.out k hk;omega) (by omega)) (by omega) k hk)
 clear hnx hmk hbl hx0 hx1 hx2 hsz hw3
 cases pe with
 |false=>
  cases qe with
  |false=>
   have hth:=(HTH.out false).put2 (Nat.le_refl _) (by have:=HSZ.out;omega) HMU.out (.bool false);obtain⟨U0,hU0⟩:∃ U0,(u1.alloc (.cells #[.slice P1 p.first.length cp1,.slice Q2 q.ends.length cq2,.bool false] 149)).setCell ⟨u1.heap.size,2,none⟩ (.bool false)=U0:=⟨_,rfl⟩;clear HTH;rw [hU0]at hth;have hsU:u1.heap.size+1<=U0.heap.size:=hth.at3.lt;obtain⟨d0',d1',d2',_,_,_⟩:=three hth.at0;obtain⟨e0',e1',e2',_,_,_⟩:=three hth.at1;obtain⟨g0,g1,g2,l0,l1,l2⟩:=three hth.at3;obtain⟨k0,k1,k2,m0,m1,m2⟩:=three hth.at2;have hlt1:=hth.at2.lt;have hlt2:=hth.at3.lt;rw [HPQ.out.1]at d2';rw [HPQ.out.2]at e2';have HT0:=zd hth;clear hth;go_wp2;obtain⟨hl,hn1,hm1,hp1⟩:=HT0.out.fin (Nat.le_refl _) HM2.out;refine⟨rfl,_,xzae rfl rfl hl,_,rfl,hn1,hm1,?_⟩;unfold bothP;rw [HPQ.out.1,HPQ.out.2];exact hp1
  |true=>
   have hth:=(HTH.out false).put2 (Nat.le_refl _) (by have:=HSZ.out;omega) HMU.out (.bool false);obtain⟨U0,hU0⟩:∃ U0,(u1.alloc (.cells #[.slice P1 p.first.length cp1,.slice Q2 q.ends.length cq2,.bool false] 149)).setCell ⟨u1.heap.size,2,none⟩ (.bool false)=U0:=⟨_,rfl⟩;clear HTH;rw [hU0]at hth;have hsU:u1.heap.size+1<=U0.heap.size:=hth.at3.lt;obtain⟨d0',d1',d2',_,_,_⟩:=three hth.at0;obtain⟨e0',e1',e2',_,_,_⟩:=three hth.at1;obtain⟨g0,g1,g2,l0,l1,l2⟩:=three hth.at3;obtain⟨k0,k1,k2,m0,m1,m2⟩:=three hth.at2;have hlt1:=hth.at2.lt;have hlt2:=hth.at3.lt;rw [HPQ.out.1]at d2';rw [HPQ.out.2]at e2';have HT0:=zd hth;clear hth
   go_wp2_with fail
   go_at_call 115
   have HC1:=zd (xzco p.ends q.ends _ _ U0 _ (fun k hk=>by have:=HKK.out k hk;omega) HT0.out.r1 HT0.out.r3 (by have:=HO.out;omega));refine HC1.out.mono ?_;rintro x c1 ⟨v1,rfl,hv1,hb1⟩;have ht1:=HT0.out.step hb1;obtain⟨U1,hU1⟩:∃ U1,c1.setCell ⟨u1.heap.size,1,none⟩ v1=U1:=⟨_,rfl⟩;have hth:=(ht1.put (Nat.le_refl _) (by have:=HSZ.out;omega) HMU.out hv1).2;rw [hU1]at hth
   have hsU1:U0.heap.size<=U1.heap.size:=by rw [<-hU1];simpa [World.setCell]using hb1.size
   clear d0 d1 d2 e0 e1 e2 d0' d1' d2' e0' e1' e2' g0 g1 g2 l0 l1 l2 k0 k1 k2 m0 m1 m2 hlt1 hlt2;obtain⟨B1,z1,rfl,_⟩:=hv1.form;obtain⟨dd0,dd1,dd2,l0,l1,l2⟩:=three ht1.at3;have HT1:=zd hth;obtain⟨d0,d1,d2,_,_,_⟩:=three hth.at0;obtain⟨e0,e1,e2,_,_,_⟩:=three hth.at1;obtain⟨g0,g1,g2,_,_,_⟩:=three hth.at3;obtain⟨k0,k1,k2,m0,m1,m2⟩:=three hth.at2;have hlt1:=hth.at2.lt;have hlt2:=hth.at3.lt;rw [HPQ.out.1]at d2;rw [HPQ.out.2]at e2;clear hth ht1 hv1 hb1;go_wp2;obtain⟨hl,hn1,hm1,hp1⟩:=HT1.out.fin (Nat.le_refl _) HM2.out;refine⟨rfl,_,xzae rfl rfl hl,_,rfl,hn1,hm1,?_⟩;unfold bothP;rw [HPQ.out.1,HPQ.out.2];exact hp1
 |true=>
  cases qe with
  |false=>
   have hth:=(HTH.out false).put2 (Nat.le_refl _) (by have:=HSZ.out;omega) HMU.out (.bool false);obtain⟨U0,hU0⟩:∃ U0,(u1.alloc (.cells #[.slice P1 p.first.length cp1,.slice Q2 q.ends.length cq2,.bool false] 149)).setCell ⟨u1.heap.size,2,none⟩ (.bool false)=U0:=⟨_,rfl⟩;clear HTH;rw [hU0]at hth;have hsU:u1.heap.size+1<=U0.heap.size:=hth.at3.lt;obtain⟨d0',d1',d2',_,_,_⟩:=three hth.at0;obtain⟨e0',e1',e2',_,_,_⟩:=three hth.at1;obtain⟨g0,g1,g2,l0,l1,l2⟩:=three hth.at3;obtain⟨k0,k1,k2,m0,m1,m2⟩:=three hth.at2;have hlt1:=hth.at2.lt;have hlt2:=hth.at3.lt;rw [HPQ.out.1]at d2';rw [HPQ.out.2]at e2';have HT0:=zd hth;clear hth
   go_wp2_with fail
   go_at_call 115
   have HC1:=zd (xzco p.first q.first _ _ U0 _ (fun k hk=>by have:=HKK.out k hk;omega) HT0.out.r0 HT0.out.r2 (by have:=HO.out;omega));refine HC1.out.mono ?_;rintro x c1 ⟨v1,rfl,hv1,hb1⟩;have ht1:=HT0.out.step hb1;obtain⟨U1,hU1⟩:∃ U1,c1.setCell ⟨u1.heap.size,0,none⟩ v1=U1:=⟨_,rfl⟩;have hth:=(ht1.put (Nat.le_refl _) (by have:=HSZ.out;omega) HMU.out hv1).1;rw [hU1]at hth
   have hsU1:U0.heap.size<=U1.heap.size:=by rw [<-hU1];simpa [World.setCell]using hb1.size
   clear d0 d1 d2 e0 e1 e2 d0' d1' d2' e0' e1' e2' g0 g1 g2 l0 l1 l2 k0 k1 k2 m0 m1 m2 hlt1 hlt2;obtain⟨B1,z1,rfl,_⟩:=hv1.form;obtain⟨dd0,dd1,dd2,l0,l1,l2⟩:=three ht1.at3;have HT1:=zd hth;obtain⟨d0,d1,d2,_,_,_⟩:=three hth.at0;obtain⟨e0,e1,e2,_,_,_⟩:=three hth.at1;obtain⟨g0,g1,g2,_,_,_⟩:=three hth.at3;obtain⟨k0,k1,k2,m0,m1,m2⟩:=three hth.at2;have hlt1:=hth.at2.lt;have hlt2:=hth.at3.lt;rw [HPQ.out.1]at d2;rw [HPQ.out.2]at e2;clear hth ht1 hv1 hb1;go_wp2;obtain⟨hl,hn1,hm1,hp1⟩:=HT1.out.fin (Nat.le_refl _) HM2.out;refine⟨rfl,_,xzae rfl rfl hl,_,rfl,hn1,hm1,?_⟩;unfold bothP;rw [HPQ.out.1,HPQ.out.2];exact hp1
  |true=>
   have hth:=HTH.out true;obtain⟨U0,hU0⟩:∃ U0,u1.alloc (.cells #[.slice P1 p.first.length cp1,.slice Q2 q.ends.length cq2,.bool true] 149)=U0:=⟨_,rfl⟩;clear HTH;rw [hU0]at hth;have hsU:u1.heap.size+1<=U0.heap.size:=hth.at3.lt;obtain⟨d0',d1',d2',_,_,_⟩:=three hth.at0;obtain⟨e0',e1',e2',_,_,_⟩:=three hth.at1;obtain⟨g0,g1,g2,l0,l1,l2⟩:=three hth.at3;obtain⟨k0,k1,k2,m0,m1,m2⟩:=three hth.at2;have hlt1:=hth.at2.lt;have hlt2:=hth.at3.lt;rw [HPQ.out.1]at d2';rw [HPQ.out.2]at e2';have HT0:=zd hth;clear hth
   go_wp2_with fail
   go_at_call 115
   have HC1:=zd (xzco p.first q.first _ _ U0 _ (fun k hk=>by have:=HKK.out k hk;omega) HT0.out.r0 HT0.out.r2 (by have:=HO.out;omega));refine HC1.out.mono ?_;rintro x c1 ⟨v1,rfl,hv1,hb1⟩;have ht1:=HT0.out.step hb1;obtain⟨U1,hU1⟩:∃ U1,c1.setCell ⟨u1.heap.size,0,none⟩ v1=U1:=⟨_,rfl⟩;have hth:=(ht1.put (Nat.le_refl _) (by have:=HSZ.out;omega) HMU.out hv1).1;rw [hU1]at hth
   have hsU1:U0.heap.size<=U1.heap.size:=by rw [<-hU1];simpa [World.setCell]using hb1.size
   clear d0 d1 d2 e0 e1 e2 d0' d1' d2' e0' e1' e2' g0 g1 g2 l0 l1 l2 k0 k1 k2 m0 m1 m2 hlt1 hlt2;obtain⟨B1,z1,rfl,_⟩:=hv1.form;obtain⟨dd0,dd1,dd2,l0,l1,l2⟩:=three ht1.at3;have HT1:=zd hth;obtain⟨d0,d1,d2,_,_,_⟩:=three hth.at0;obtain⟨e0,e1,e2,_,_,_⟩:=three hth.at1;obtain⟨g0,g1,g2,_,_,_⟩:=three hth.at3;obtain⟨k0,k1,k2,m0,m1,m2⟩:=three hth.at2;have hlt1:=hth.at2.lt;have hlt2:=hth.at3.lt;rw [HPQ.out.1]at d2;rw [HPQ.out.2]at e2;clear hth ht1 hv1 hb1
   go_wp2_with fail
   go_at_call 115
   have HC2:=zd (xzco p.ends q.ends _ _ U1 _ (fun k hk=>by have:=HKK.out k hk;omega) HT1.out.r1 HT1.out.r3 (by have:=HO.out;omega));refine HC2.out.mono ?_;rintro x c2 ⟨v2,rfl,hv2,hb2⟩;have ht2:=HT1.out.step hb2;obtain⟨U2,hU2⟩:∃ U2,c2.setCell ⟨u1.heap.size,1,none⟩ v2=U2:=⟨_,rfl⟩;have hth:=(ht2.put (Nat.le_refl _) (by have:=HSZ.out;omega) HMU.out hv2).2;rw [hU2]at hth
   have hsU2:U1.heap.size<=U2.heap.size:=by rw [<-hU2];simpa [World.setCell]using hb2.size
   clear dd0 dd1 dd2 l0 l1 l2 d0 d1 d2 e0 e1 e2 g0 g1 g2 k0 k1 k2 m0 m1 m2 hlt1 hlt2;obtain⟨B2,z2,rfl,_⟩:=hv2.form;obtain⟨dd0,dd1,dd2,l0,l1,l2⟩:=three ht2.at3;have HT2:=zd hth;obtain⟨d0,d1,d2,_,_,_⟩:=three hth.at0;obtain⟨e0,e1,e2,_,_,_⟩:=three hth.at1;obtain⟨g0,g1,g2,_,_,_⟩:=three hth.at3;obtain⟨k0,k1,k2,m0,m1,m2⟩:=three hth.at2;have hlt1:=hth.at2.lt;have hlt2:=hth.at3.lt;rw [HPQ.out.1]at d2;rw [HPQ.out.2]at e2;clear hth ht2 hv2 hb2;go_wp2;obtain⟨hl,hn1,hm1,hp1⟩:=HT2.out.fin (Nat.le_refl _) HM2.out;refine⟨rfl,_,xzae rfl rfl hl,_,rfl,hn1,hm1,?_⟩;unfold bothP;rw [HPQ.out.1,HPQ.out.2];exact hp1
end
section
open Go.RowKit
attribute [local irreducible] FreeW textFrame
theorem PrtsAt.sub {V V' W W':World}{l:List Prt}{v:Value}(h:PrtsAt V W l v)(hv:Sub V V')(hw:Sub W W'):PrtsAt V' W' l v:=by
 obtain⟨A,c,rfl,hc,hs⟩:=h;refine⟨A,c,rfl,hc,fun hne=>?_⟩;obtain⟨b,o,rfl,hg⟩:=hs hne;refine⟨b,o,rfl,fun i hi=>?_⟩;obtain⟨v1,v2,h0,h1,h2,h3,h4⟩:=hg i hi;exact⟨v1,v2,hw _ _ h0,hw _ _ h1,hw _ _ h2,h3.sub hv,h4.sub hv⟩
structure RestI (M K:Nat->Bool)(w W:World)(pb:Nat)(S:Mk)(r f e m:Value)(b:Nat)(Q:Prt)(a1 a2:Value):Prop where
 at0:BlkIs W b 149 #[.slice none 0 0,.slice none 0 0,.bool false]
 at1:BlkIs W (b+1) 149 #[a1,a2,.bool Q.empty]
 mkr:MkAt M (Kor (Kor K b) (b+1)) W pb S r f e m
 nx:Nx M M w W
 r0:IntsV (hide W (MK M (Kor (Kor K b) (b+1)))) Q.first a1
 r1:IntsV (hide W (MK M (Kor (Kor K b) (b+1)))) Q.ends a2
theorem BlkIs.nx {M M':Nat->Bool}{W W':World}{g:Nat}{t:TypeId}{cs:Array Value}(h:BlkIs W g t cs)(hn:Nx M M' W W')(hm:M g=false):BlkIs W' g t cs:=(hn.block g h.lt hm).trans h
theorem RestI.next {M K:Nat->Bool}{w W U:World}{pb:Nat}{S S':Mk}{r f e m:Value}{b:Nat}{Q Q':Prt}{a1 a2 x1 x2:Value}(h:RestI M K w W pb S r f e m b Q a1 a2)(hw:w.heap.size<=b)(hM0:M b=false)(hM1:M (b+1)=false)
 (hn:Nx M M W U)(hm:MkAt M (Kor (Kor K b) (b+1)) U pb S' r f e m)(h1:IntsV (hide U (MK M (Kor (Kor K b) (b+1)))) Q'.first x1)(h2:IntsV (hide U (MK M (Kor (Kor K b) (b+1)))) Q'.ends x2):
 RestI M K w (((U.setCell ⟨b+1,0,none⟩ x1).setCell ⟨b+1,1,none⟩ x2).setCell ⟨b+1,2,none⟩ (.bool Q'.empty)) pb S' r f e m b Q' x1 x2:=by
 have hk:=xzkm (Kor K b) (b+1);have hs:=((xzbg (M:=M) (W:=U) (i:=0) hk x1).trans (xzbg (M:=M) (i:=1) hk x2)).trans (xzbg (M:=M) (i:=2) hk (.bool Q'.empty))
 have hne:b≠b+1:=by omega
 exact⟨(((h.at0.nx hn hM0).far (p:=⟨b+1,0,none⟩) hne _).far (p:=⟨b+1,1,none⟩) hne _).far (p:=⟨b+1,2,none⟩) hne _,xzeb (h.at1.nx hn hM1),((hm.far hk hM1).far hk hM1).far hk hM1,(((h.nx.trans hn).far (by omega)).far (by omega)).far (by omega),h1.sub hs,h2.sub hs⟩
theorem RestI.put {M K:Nat->Bool}{w W:World}{pb:Nat}{S:Mk}{r f e m:Value}{b:Nat}{Q Q':Prt}{a1 a2:Value}(h:RestI M K w W pb S r f e m b Q a1 a2)(hw:w.heap.size<=b)(hM1:M (b+1)=false)(h1:Q'.first=Q.first)(h2:Q'.ends=Q.ends):
 RestI M K w (W.setCell ⟨b+1,2,none⟩ (.bool Q'.empty)) pb S r f e m b Q' a1 a2:=by
 have hk:=xzkm (Kor K b) (b+1);have hs:=xzbg (M:=M) (W:=W) (i:=2) hk (.bool Q'.empty);exact⟨h.at0.far (p:=⟨b+1,2,none⟩) (by show b≠b+1;omega) _,h.at1.put 2 _,h.mkr.far hk hM1,h.nx.far (by omega),by rw [h1];exact h.r0.sub hs,by rw [h2];exact h.r1.sub hs⟩
theorem RestI.fin {M K:Nat->Bool}{w W:World}{pb:Nat}{S:Mk}{r f e m:Value}{b:Nat}{Q:Prt}{a1 a2:Value}(h:RestI M K w W pb S r f e m b Q a1 a2)(hw:w.heap.size<=b)(hM:M b=false):
 (loadVar 149 ⟨b,0,none⟩).run Tryz.prog (((W.setCell ⟨b,0,none⟩ a1).setCell ⟨b,1,none⟩ a2).setCell ⟨b,2,none⟩ (.bool Q.empty))=.ok (.agg #[a1,a2,.bool Q.empty]) (((W.setCell ⟨b,0,none⟩ a1).setCell ⟨b,1,none⟩ a2).setCell ⟨b,2,none⟩ (.bool Q.empty))/\
 Nx M M w (((W.setCell ⟨b,0,none⟩ a1).setCell ⟨b,1,none⟩ a2).setCell ⟨b,2,none⟩ (.bool Q.empty))/\
 MkAt M K (((W.setCell ⟨b,0,none⟩ a1).setCell ⟨b,1,none⟩ a2).setCell ⟨b,2,none⟩ (.bool Q.empty)) pb S r f e m/\
 PrtV (hide (((W.setCell ⟨b,0,none⟩ a1).setCell ⟨b,1,none⟩ a2).setCell ⟨b,2,none⟩ (.bool Q.empty)) (MK M K)) Q (.agg #[a1,a2,.bool Q.empty]):=by
 have hk:Kor (Kor K b) (b+1) b=true:=Kor_or (xzkm K b);have hs:=((((xzbg (M:=M) (W:=W) (i:=0) hk a1).trans (xzbg (M:=M) (i:=1) hk a2)).trans (xzbg (M:=M) (i:=2) hk (.bool Q.empty))).trans xzgc).trans xzgc;exact⟨xzez (xzeb h.at0),((h.nx.far hw).far hw).far hw,(((h.mkr.far hk hM).far hk hM).far hk hM).less.less,_,_,rfl,h.r0.sub hs,h.r1.sub hs⟩
set_option maxRecDepth 20000 in
set_option maxHeartbeats 16000000 in
theorem xzpv (M K:Nat->Bool)(S:Mk)(l:List Prt)(v:Value)(must:Int)(pb:Nat)(r f e m:Value)(w:World)(hm:MkAt M K w pb S r f e m)(hv:PrtsAt (hide w (MK M K)) (hide w M) l v)
 (hS:S.Ok)(hl:∀ p∈l,p.Ok S.sets.length)(hn:S.sets.length<=1048576)(hll:l.length<=1048576)(hM:∀ k,M k=true->k<w.heap.size)(hK:∀ k,K k=true->k<w.heap.size):
 Calls Tryz.prog 97 #[.pointer (some ⟨pb,0,none⟩),v,.int .i64 must] w fun x w'=>∃ v',x=.returned v'/\Nx M M w w'/\MkAt M K w' pb ⟨S.sets,(inRowP must 0 l S.follow).1⟩ r f e m/\PrtV (hide w' (MK M K)) (inRowP must 0 l S.follow).2 v':=by
 obtain⟨A,c,rfl,hc,hs⟩:=hv;obtain⟨w2,hw2⟩:∃ w2,(w.alloc (.cells #[.slice none 0 0,.slice none 0 0,.bool false] 149)).alloc (.cells #[.slice none 0 0,.slice none 0 0,.bool true] 149)=w2:=⟨_,rfl⟩
 have hb2:Below w.heap.size w w2:=by rw [<-hw2];exact((Below.refl _ _).alloc (Nat.le_refl _) _).alloc (by simp) _
 have hs2:w2.heap.size=w.heap.size+2:=by rw [<-hw2];simp
 have hx0:BlkIs w2 w.heap.size 149 #[.slice none 0 0,.slice none 0 0,.bool false]:=by rw [<-hw2];exact(BlkIs.new w _ _).alloc _
 have hx1:BlkIs w2 (w.heap.size+1) 149 #[.slice none 0 0,.slice none 0 0,.bool true]:=by
  rw [<-hw2];have h:=BlkIs.new (w.alloc (.cells #[.slice none 0 0,.slice none 0 0,.bool false] 149)) 149 #[.slice none 0 0,.slice none 0 0,.bool true];rw [World.size_alloc]at h;exact h
 have hMf:∀ k,w.heap.size<=k->M k=false:=fun k hk=>by
  rw [Bool.eq_false_iff];intro e;have:=hM k e;omega
 have HUP:=zd (fun u (h:Nx M M w u)=>(show Sub (hide w (MK M K)) (hide u (MK M (Kor (Kor K w.heap.size) (w.heap.size+1))))from xzbf fun k h1 h2=>by
  rw [MK_no]at h1
  exact⟨MK_no.2 ⟨h1.1,Kor_no.2 ⟨Kor_no.2 ⟨h1.2,by omega⟩,by omega⟩⟩,h.block k h2 h1.1⟩))
 have H0:=zd (show RestI M K w w2 pb S r f e m w.heap.size ⟨[],[],true⟩ (.slice none 0 0) (.slice none 0 0)from⟨hx0,hx1,hm.sub (fun k hk _=>hb2.block k hk) (HUP.out w2 (Nx.below hb2)),Nx.below hb2,IntsV.nil _,IntsV.nil _⟩);have HS:=zd hs;have HIN:=zd (fun k=>xzgn (n:=S.sets.length) must (l.drop k) k S.follow hS.2 fun p hp=>hl p (List.mem_of_mem_drop hp));have HL:=zd (fun(j:Nat) (h:j<l.length)=>hl _ (List.getElem_mem h));have HSO:=zd hS.1;have HMK:=zd (And.intro hMf (And.intro hM hK));have HS2:=zd hs2;clear hm hS hl hM hK hMf hx0 hx1 hb2 hs
 go_enter Tryz.func97,Tryz.ntmps97
 have hk0:IntKind.i64.wrap ((l.length:Int) - 1)=(l.length:Int) - 1:=by rw [IntKind.wrap_i64];omega
 go_wp2
 go_loopw [8] (fun i wr=>∃ k:Nat,i=.int .i64 ((k:Int) - 1)/\k<=l.length/\Hid (∃ a1 a2,RestI M K w wr pb ⟨S.sets,(inRowP must k (l.drop k) S.follow).1⟩ r f e m w.heap.size (inRowP must k (l.drop k) S.follow).2 a1 a2)) (fun i _=>(intOf i+1).toNat)
 case atStart=>exact⟨l.length,rfl,Nat.le_refl _,zd ⟨_,_,by rw [List.drop_length];exact H0.out⟩⟩
 case round=>
  obtain⟨k,rfl,hk,HH⟩:=hrel;clear hk0;obtain⟨a1,a2,hr⟩:=HH.out;clear HH
  by_cases hp:0<k
  ·obtain⟨n,rfl⟩:∃ n,k=n+1:=⟨k - 1,by omega⟩
   have hnl:n<l.length:=by omega
   have ei:((n+1:Nat):Int) - 1=(n:Int):=by omega
   rw [ei]
   have hk1:IntKind.i64.wrap ((n:Int) - 1)=(n:Int) - 1:=by rw [IntKind.wrap_i64];omega
   have hdl:decide ((n:Int)>=0)=true:=by simp
   have hdl2:decide ((0:Int)<=(n:Int))=true:=by simp
   obtain⟨b,o,rfl,hg⟩:=HS.out (by intro e;rw [e]at hnl;simp at hnl);obtain⟨x1,x2,hq0,hq1,hq2,hi1,hi2⟩:=hg n hnl
   have hdr:inRowP must (n:Int) (l.drop n) S.follow=(linkF (inRowP must (n+1:Nat) (l.drop (n+1)) S.follow).1 l[n].ends (inRowP must (n+1:Nat) (l.drop (n+1)) S.follow).2.first,{bothP l[n] (inRowP must (n+1:Nat) (l.drop (n+1)) S.follow).2 with empty:=(bothP l[n] (inRowP must (n+1:Nat) (l.drop (n+1)) S.follow).2).empty||decide ((n:Int)>=must)}):=by
    rw [List.drop_eq_getElem_cons hnl];rfl
   have hio:=HIN.out (n+1);have hpo:=HL.out n hnl
   have hcl:=fun q (x:Value) (hu:(hide w M).cell? q=some x)=>xzba _ _ (hr.nx.sub1 _ _ hu)
   have c0:=hcl _ _ hq0;have c1:=hcl _ _ hq1;have c2:=hcl _ _ hq2;have hup:=HUP.out wr hr.nx;have hj1:=hi1.sub hup;have hj2:=hi2.sub hup;generalize inRowP must ((n+1:Nat):Int) (l.drop (n+1)) S.follow=GQ at*;obtain⟨G,Q⟩:=GQ;simp only at hdr hr hio;generalize l[n]=P at*;obtain⟨X1,z1,rfl,_⟩:=hi1.form;obtain⟨X2,z2,rfl,_⟩:=hi2.form;obtain⟨Y1,y1,rfl,_⟩:=hr.r0.form;obtain⟨Y2,y2,rfl,_⟩:=hr.r1.form;obtain⟨d0,d1,d2,f0,f1,f2⟩:=three hr.at1;have hlt:=hr.at1.lt;have hkk:∀ k,Kor (Kor K w.heap.size) (w.heap.size+1) k=true->k<wr.drew.heap.size:=xzhz (xzhz (fun k hk=>by have:=HMK.out.2.2 k hk;show k<wr.heap.size;omega) (by show w.heap.size<wr.heap.size;omega)) hlt
   have HT:=zd (yzeu M (Kor (Kor K w.heap.size) (w.heap.size+1)) ⟨S.sets,G⟩ P Q (.agg #[.slice X1 P.first.length z1,.slice X2 P.ends.length z2,.bool P.empty]) (.agg #[.slice Y1 Q.first.length y1,.slice Y2 Q.ends.length y2,.bool Q.empty]) pb r f e m wr.drew (hr.mkr.step (Below.refl _ _).drew)
    ⟨_,_,rfl,hj1.sub (xzai _ (Below.refl _ _).drew),hj2.sub (xzai _ (Below.refl _ _).drew)⟩ ⟨_,_,rfl,hr.r0.sub (xzai _ (Below.refl _ _).drew),hr.r1.sub (xzai _ (Below.refl _ _).drew)⟩ ⟨hio.2.2.trans HSO.out,hio.1⟩ hpo hio.2.1 hn (fun k hk=>Nat.lt_of_lt_of_le (HMK.out.2.1 k hk) hr.nx.size) hkk)
   have HR:=zd hr;have HDR:=zd hdr;clear hr hup hj1 hj2 hi1 hi2 hq0 hq1 hq2 hg hcl hdr hio hpo hkk
   go_wp2_with fail
   refine xzaf 6 33 (fun u=>u=wr.drew) (fun _ u u'=>u'=u)
    (fun i v u=>match i with
     |0=>v=.pointer (some ⟨pb,0,none⟩)
     |1=>v=.slice (some ⟨b,o,none⟩) l.length c
     |2=>v=.int .i64 (n:Int)
     |3=>v=.pointer (some ⟨b,o+n*3,none⟩)
     |4=>v=.agg #[.slice X1 P.first.length z1,.slice X2 P.ends.length z2,.bool P.empty]
     |5=>v=.agg #[.slice Y1 Q.first.length y1,.slice Y2 Q.ends.length y2,.bool Q.empty]
     |_=>True) (by kernel_rfl) (by kernel_rfl) rfl rfl ?_ ?_ ?_ ?_
   ·intro i u u' hi hC hr
    exact(show u'=u from hr).trans hC
   ·intro i j v u u' hi hj hne hv hr
    match i,hi,hne,hv with
    |0,_,_,hv=>exact hv
    |1,_,_,hv=>exact hv
    |2,_,_,hv=>exact hv
    |3,_,_,hv=>exact hv
    |4,_,_,hv=>exact hv
    |5,_,_,hv=>exact hv
    |i+6,hi,_,_=>omega
   ·intro i hi vs u hC hw oq ho
    match i,hi,hw,ho with
    |0,_,hw,ho=>
     simp only [zq,zh]at ho;subst ho;refine⟨rfl,?_⟩;have hC:u=wr.drew:=hC;subst hC;clear hw;simp only [xzaa,tmpsTo];go_simp;exact xzab (rfl) rfl
    |1,_,hw,ho=>
     simp only [zq,zh]at ho;subst ho;refine⟨rfl,?_⟩;have hC:u=wr.drew:=hC;subst hC;clear hw;simp only [xzaa,tmpsTo,putT,zr];go_simp;exact xzab (rfl) rfl
    |2,_,hw,ho=>
     simp only [zq,zh]at ho;subst ho;refine⟨rfl,?_⟩;have hC:u=wr.drew:=hC;subst hC;clear hw;simp only [xzaa,tmpsTo,putT,zr];go_simp;exact xzab (rfl) rfl
    |3,_,hw,ho=>
     have e1:vs 1=.slice (some ⟨b,o,none⟩) l.length c:=hw 1 (by omega) (by kernel_rfl);have e2:vs 2=.int .i64 (n:Int):=hw 2 (by omega) (by kernel_rfl);simp only [zq,zh]at ho;subst ho;refine⟨rfl,?_⟩;have hC:u=wr.drew:=hC;subst hC;clear hw;simp only [xzaa,tmpsTo,putT,zr];rw [e1,e2];clear e1 e2;go_simp;exact xzab (rfl) rfl
    |4,_,hw,ho=>
     have e3:vs 3=.pointer (some ⟨b,o+n*3,none⟩):=hw 3 (by omega) (by kernel_rfl);simp only [zq,zh]at ho;subst ho;refine⟨rfl,?_⟩;have hC:u=wr.drew:=hC;subst hC;clear hw;simp only [xzaa,tmpsTo,putT,zr];rw [e3];clear e3;go_simp;exact xzab (rfl) rfl
    |5,_,hw,ho=>
     simp only [zq,zh]at ho;subst ho;refine⟨rfl,?_⟩;have hC:u=wr.drew:=hC;subst hC;clear hw;simp only [xzaa,tmpsTo,putT,zr];go_simp;exact xzab (rfl) rfl
    |i+6,hi,_,_=>omega
   intro vs1 u hC hV;have hC:u=wr.drew:=hC;subst hC;have h0:vs1 0=.pointer (some ⟨pb,0,none⟩):=hV 0 (by omega);have h4:vs1 4=.agg #[.slice X1 P.first.length z1,.slice X2 P.ends.length z2,.bool P.empty]:=hV 4 (by omega);have h5:vs1 5=.agg #[.slice Y1 Q.first.length y1,.slice Y2 Q.ends.length y2,.bool Q.empty]:=hV 5 (by omega);clear hV;simp only [xzaa,tmpsTo,putT,zr,List.drop_succ_cons,List.drop_zero];rw [h0,h4,h5];clear h0 h4 h5;generalize vs1 1=q1;generalize vs1 2=q2;generalize vs1 3=q3
   go_wp2_with fail
   go_at_call 114
   refine HT.out.mono ?_;rintro x u1 ⟨v1,rfl,hnx,hmk,x1,x2,rfl,hx1,hx2⟩;have hnx1:Nx M M wr u1:=(Nx.below ((Below.refl wr.heap.size wr).drew)).trans hnx;have hne:=HR.out.next (Nat.le_refl _) (HMK.out.1 _ (Nat.le_refl _)) (HMK.out.1 _ (by omega)) hnx1 hmk hx1 hx2;obtain⟨U1,hU1⟩:∃ U1,((u1.setCell ⟨w.heap.size+1,0,none⟩ x1).setCell ⟨w.heap.size+1,1,none⟩ x2).setCell ⟨w.heap.size+1,2,none⟩ (.bool (bothP P Q).empty)=U1:=⟨_,rfl⟩;rw [hU1]at hne;have hat1:=HR.out.at1.nx hnx1 (HMK.out.1 _ (by omega));obtain⟨g0,g1,g2,m0,m1,m2⟩:=three hat1;obtain⟨B1,b1,rfl,_⟩:=hx1.form;obtain⟨B2,b2,rfl,_⟩:=hx2.form;clear d0 d1 d2 f0 f1 f2 c0 c1 c2 hat1 hnx hnx1 hmk hx1 hx2;obtain⟨d0,d1,d2,f0,f1,f2⟩:=three hne.at1;have HNE:=zd hne;clear hne
   have HFIN:=zd (fun(z:Bool) (hz:z=((bothP P Q).empty||decide ((n:Int)>=must)))=>(show ∃ a1 a2,RestI M K w (U1.setCell ⟨w.heap.size+1,2,none⟩ (.bool z)) pb ⟨S.sets,(inRowP must n (l.drop n) S.follow).1⟩ r f e m w.heap.size (inRowP must n (l.drop n) S.follow).2 a1 a2 from by
    rw [HDR.out,hz]
    exact⟨_,_,HNE.out.put (Q':={bothP P Q with empty:=(bothP P Q).empty||decide ((n:Int)>=must)}) (Nat.le_refl _) (HMK.out.1 _ (by omega)) rfl rfl⟩))
   have hlast:∃ j:Nat,(Value.int .i64 ((n:Int) - 1))=.int .i64 ((j:Int) - 1)/\j<=l.length/\j=n:=⟨n,rfl,by omega,rfl⟩
   cases hz:(bothP P Q).empty with
   |true=>
    rw [hz]at HFIN d2 hU1;go_wp2;exact⟨⟨n,rfl,by omega,zd (HFIN.out true (by simp))⟩,by simp [intOf]⟩
   |false=>
    rw [hz]at HFIN d2 hU1
    by_cases hq:(n:Int)>=must
    ·have hd1:decide ((n:Int)>=must)=true:=by simpa using hq
     have hd2:decide (must<=(n:Int))=true:=by simpa using hq
     go_wp2;exact⟨⟨n,rfl,by omega,zd (HFIN.out true (by rw [hd1];rfl))⟩,by simp [intOf]⟩
    ·have hd1:decide ((n:Int)>=must)=false:=by simpa using hq
     have hd2:decide (must<=(n:Int))=false:=by simpa using hq
     go_wp2;exact⟨⟨n,rfl,by omega,zd (HFIN.out false (by rw [hd1];rfl))⟩,by simp [intOf]⟩
  ·obtain rfl:k=0:=by omega
   have hdl:decide ((((0:Nat):Int) - 1)>=0)=false:=by decide
   obtain⟨Y1,y1,rfl,_⟩:=hr.r0.form;obtain⟨Y2,y2,rfl,_⟩:=hr.r1.form;obtain⟨d0,d1,d2,f0,f1,f2⟩:=three hr.at1;obtain⟨k0,k1,k2,l0,l1,l2⟩:=three hr.at0;have HR:=zd hr;have hlt:=hr.at0.lt
   have hdl3:decide ((-1:Int)>=0)=false:=by decide
   rw [show((0:Nat):Int) - 1= -1 from rfl];clear hr;go_wp2;obtain⟨hl,hn1,hm1,hp1⟩:=HR.out.fin (Nat.le_refl _) (HMK.out.1 _ (Nat.le_refl _));exact⟨rfl,_,xzae rfl rfl hl,_,rfl,hn1,hm1,hp1⟩
end
section
open Go.RowKit
theorem yzam:(Tryz.prog.info? 48).map (fun i=>(i.zero,i.size,i.bytes))=some (some (.agg #[.int .u64 0,.int .u64 0,.int .u64 0,.int .u64 0]),4,32):=by kernel_rfl
theorem xzpw:(Tryz.prog.info? 26).map (fun i=>(i.zero,i.size,i.bytes))=some (some (.slice none 0 0),1,24):=by kernel_rfl
theorem xzdk {P:Program}{w w':World}{base:Nat}{t ty e:TypeId}{i:TypeInfo}{z:Value}{size bytes:Nat}(ht:P.underlying t=some (.slice e))(hi:P.info? e=some i)(hz:i.zero=some z)
 (hsize:i.size=size)(hby:i.bytes=bytes){v v':Value}{n:Nat}{xs:List Value}(hown:w.ownsRow base e size v n xs)
 {a:Addr} {m c:Nat} {news:List Value} (hl:news.length=m*size) (hnews:∀ j u,news[j]? =some u->w.cell? (a.add j)=some u) (h1:∀ u∈news,u.oneCell'=true)
 (h63:n+m<=maxLen)(hbytes:(n+m)*bytes<=140737488355328)(hr:(Builtin.append_ #[t,t] ty #[v,.slice (some a) m c]).run P w=.ok v' w'):w'.ownsRow base e size v n xs:=by
 subst hsize
 subst hby
 rcases hown.2 with⟨rfl,rfl⟩|⟨g,cap,cur,rfl,hbg,hg,hnc,hcm,hcs,htake⟩
 ·have hx:xs=[]:=List.eq_nil_of_length_eq_zero (by simpa using hown.1)
  subst hx;exact World.ownsRow_nil _ _ _ _
 ·by_cases hroom:n+m<=cap
  ·have h2:=run_append_room (P:=P) w t ty e i ht hi g n cap cur hg a m c news hl hnews h1 hroom (by rw [hl,hcs,<-Nat.add_mul];exact Nat.mul_le_mul_right _ hroom)
   rw [h2]at hr
   injection hr with _ hr
   subst hr;have hx:xs.length=n*i.size:=hown.1
   have hcl:n*i.size<=cur.toList.length:=by rw [Array.length_toList,hcs];exact Nat.mul_le_mul_right _ hnc
   have hfit:n*i.size+news.length<=cur.toList.length:=by rw [hl,<-Nat.add_mul,Array.length_toList,hcs];exact Nat.mul_le_mul_right _ hroom
   refine⟨hown.1,.inr ⟨g,cap,_,rfl,hbg,setRow_heap w g cur _ e _ hg,hnc,hcm,?_,?_⟩⟩
   ·simp only [List.size_toArray,List.length_append,List.length_take,List.length_drop]
    rw [<-hcs,<-Array.length_toList];omega
   ·show(cur.toList.take (n*i.size)++news++_).take (n*i.size)=xs
    rw [htake,List.append_assoc,<-hx];exact List.take_left
  ·have holds:∀ j u,xs[j]? =some u->w.cell? ((⟨g,0,none⟩:Addr).add j)=some u:=hown.cells (g:=g) rfl
   have h2:=run_append_grow (P:=P) w t ty e i z ht hi hz ⟨g,0,none⟩ n cap xs hown.1 holds a m c news hl hnews (by omega) (by unfold maxLen at h63;omega) (growslice_fits (by omega) hbytes);rw [h2]at hr
   injection hr with _ hr
   subst hr
   exact xzad hown fun k hk=>Below.heap_alloc w.drew _ k (by have:=(World.ownsRow.lt hown k hk).2;exact this)
def Mv (M:Nat->Bool)(v:Value)(k:Nat):Bool:=M k||decide (v.ownBlock=some k)
theorem Mv_no {M:Nat->Bool}{v:Value}{k:Nat}:Mv M v k=false↔M k=false/\v.ownBlock≠some k:=by unfold Mv;simp
theorem xzvn {M:Nat->Bool}{v:Value}{k:Nat}(h:M k=true):Mv M v k=true:=by unfold Mv;simp [h]
theorem Mv_me {M:Nat->Bool}{v:Value}{k:Nat}(h:v.ownBlock=some k):Mv M v k=true:=by unfold Mv;simp [h]
theorem Mv_old {M:Nat->Bool}{v v0:Value}{s:Nat}(h0:∀ k,v0.ownBlock=some k->M k=true)(hv:v.ownBlock=v0.ownBlock\/ ∃ g,v.ownBlock=some g/\s<=g):∀ k,k<s->Mv M v k=M k:=fun k hk=>by
 cases e:M k
 ·rw [Mv_no]
  refine⟨e,fun e2=>?_⟩
  rcases hv with h|⟨g,h1,h2⟩
  ·rw [h]at e2;rw [h0 k e2]at e;cases e
  ·rw [h1]at e2;injection e2 with e2;omega
 ·exact xzvn e
section
variable {M K : Nat → Bool} {W U : World} {pb : Nat} {S : Mk} {r f e m vs vf v' : Value} {xs : List Value}
theorem MkI.newSets (h:MkI M K W pb S r f e m vs vf xs)(hn:Nx M M W U)(hb:BlkIs U pb 117 #[vs,r,f,vf,e,m])(h3:U.ownsRow 0 26 1 vf S.follow.length xs){T:List (Nat->Bool)}(h0:U.ownsRow 0 48 4 v' T.length (cellsS T))
 (hv:v'.ownBlock=vs.ownBlock\/ ∃ g,v'.ownBlock=some g/\W.heap.size<=g):
 Nx M (Mv M v') W (U.setCell ⟨pb,0,none⟩ v')/\MkI (Mv M v') K (U.setCell ⟨pb,0,none⟩ v') pb ⟨T,S.follow⟩ r f e m v' vf xs:=by
 have hold:=Mv_old (s:=W.heap.size) (fun k hk=>(h.far0 k hk).1) hv;have hx:Nx M (Mv M v') W (U.setCell ⟨pb,0,none⟩ v'):=(hn.trans (Nx.put (M:=M) (p:=⟨pb,0,none⟩) h.mine v')).more hold;have hpb:pb<W.heap.size:=h.blk.lt
 have hvpb:∀ k,v'.ownBlock=some k->k≠pb:=fun k hk e=>by
  rcases hv with h1|⟨g,h1,h2⟩
  ·rw [h1]at hk;exact(h.far0 k hk).2 e
  ·rw [h1]at hk;injection hk with hk;omega
 refine⟨hx,hb.put 0 v',xzvn h.mine,xzad h0 fun k hk=>Below.heap_setCell _ _ _ _ (hvpb k hk),xzad h3 fun k hk=>Below.heap_setCell _ _ _ _ (h.far3 k hk).2.1,fun k hk=>⟨Mv_me hk,hvpb k hk⟩,fun k hk=>⟨xzvn (h.far3 k hk).1,(h.far3 k hk).2.1,fun e=>?_⟩,fun i hi=>?_⟩
 ·rcases hv with h1|⟨g,h1,h2⟩
  ·rw [h1]at e;exact(h.far3 k hk).2.2 e
  ·rw [h1]at e;injection e with e
   have:=(World.ownsRow.lt h.own3 k hk).2;omega
 ·obtain⟨x,h1,h2⟩:=h.rows i hi
  exact⟨x,h1,h2.sub (hx.sub K)⟩
theorem MkI.newRow (h:MkI M K W pb S r f e m vs vf xs)(hn:Nx M M W U)(hb:BlkIs U pb 117 #[vs,r,f,vf,e,m])(h0:U.ownsRow 0 48 4 vs S.sets.length (cellsS S.sets)){l:List Int}{x:Value}(h3:U.ownsRow 0 26 1 v' (S.follow.length+1) (xs++[x]))
 (hxl:xs.length=S.follow.length)(hx0:IntsV (hide (U.setCell ⟨pb,3,none⟩ v') (MK (Mv M v') K)) l x)(hv:v'.ownBlock=vf.ownBlock\/ ∃ g,v'.ownBlock=some g/\W.heap.size<=g):
 Nx M (Mv M v') W (U.setCell ⟨pb,3,none⟩ v')/\MkI (Mv M v') K (U.setCell ⟨pb,3,none⟩ v') pb ⟨S.sets,S.follow++[l]⟩ r f e m vs v' (xs++[x]):=by
 have hold:=Mv_old (s:=W.heap.size) (fun k hk=>(h.far3 k hk).1) hv;have hx:Nx M (Mv M v') W (U.setCell ⟨pb,3,none⟩ v'):=(hn.trans (Nx.put (M:=M) (p:=⟨pb,3,none⟩) h.mine v')).more hold;have hpb:pb<W.heap.size:=h.blk.lt
 have hvpb:∀ k,v'.ownBlock=some k->k≠pb:=fun k hk e=>by
  rcases hv with h1|⟨g,h1,h2⟩
  ·rw [h1]at hk;exact(h.far3 k hk).2.1 e
  ·rw [h1]at hk;injection hk with hk;omega
 refine⟨hx,hb.put 3 v',xzvn h.mine,xzad h0 fun k hk=>Below.heap_setCell _ _ _ _ (h.far0 k hk).2,?_,fun k hk=>⟨xzvn (h.far0 k hk).1,(h.far0 k hk).2⟩,fun k hk=>⟨Mv_me hk,hvpb k hk,fun e=>?_⟩,fun i hi=>?_⟩
 ·rw [show(S.follow++[l]).length=S.follow.length+1 by simp]
  exact xzad h3 fun k hk=>Below.heap_setCell _ _ _ _ (hvpb k hk)
 ·rcases hv with h1|⟨g,h1,h2⟩
  ·rw [h1]at hk;exact(h.far3 k hk).2.2 e
  ·rw [h1]at hk;injection hk with hk
   have:=(World.ownsRow.lt h.own0 k e).2;omega
 ·by_cases hil:i<S.follow.length
  ·obtain⟨y,h1,h2⟩:=h.rows i hil
   refine⟨y,by rw [List.getElem?_append_left (by omega)];exact h1,?_⟩;simp only [List.getElem_append_left hil];exact h2.sub (hx.sub K)
  ·simp only [List.length_append,List.length_singleton]at hi
   obtain rfl:i=S.follow.length:=by omega
   exact⟨x,by rw [<-hxl];simp,by simpa using hx0⟩
theorem MkI.grown0 (h:MkI M K W pb S r f e m vs vf xs)(hg:W.grownBy U vs.ownBlock)(h0:U.ownsRow 0 48 4 vs S.sets.length (cellsS S.sets)):MkI M K U pb S r f e m vs vf xs:=
 ⟨(hg.block pb h.blk.lt (fun e=>(h.far0 pb e.symm).2 rfl)).trans h.blk,h.mine,h0,xzad h.own3 fun k hk=>hg.block k (World.ownsRow.lt h.own3 k hk).2 (fun e=>(h.far3 k hk).2.2 e.symm),h.far0,h.far3,
   fun i hi=>by obtain⟨x,h1,h2⟩:=h.rows i hi;exact⟨x,h1,h2.sub ((Nx.grown (M:=M) hg fun k hk=>(h.far0 k hk).1).sub K)⟩⟩
theorem MkI.grown3 (h:MkI M K W pb S r f e m vs vf xs)(hg:W.grownBy U vf.ownBlock)(h0:U.ownsRow 0 26 1 vf S.follow.length xs):MkI M K U pb S r f e m vs vf xs:=
 ⟨(hg.block pb h.blk.lt (fun e=>(h.far3 pb e.symm).2.1 rfl)).trans h.blk,h.mine,xzad h.own0 fun k hk=>hg.block k (World.ownsRow.lt h.own0 k hk).2 (fun e=>(h.far3 k e.symm).2.2 hk),h0,h.far0,h.far3,
   fun i hi=>by obtain⟨x,h1,h2⟩:=h.rows i hi;exact⟨x,h1,h2.sub ((Nx.grown (M:=M) hg fun k hk=>(h.far3 k hk).1).sub K)⟩⟩
theorem xzia (T:List (Nat->Bool)):(cellsS T).length=T.length*4:=by
 induction T with
 |nil=>rfl
 |cons a r ih=>simp only [cellsS,List.flatMap_cons,List.length_append,List.length_cons,List.length_nil]at ih ⊢;omega
theorem xzmj (A B:List (Nat->Bool)):cellsS (A++B)=cellsS A++cellsS B:=by simp [cellsS]
theorem xzmk (T:List (Nat->Bool)):∀ u∈cellsS T,u.oneCell'=true:=by
 intro u hu;simp only [cellsS,List.mem_flatMap,List.mem_cons,List.not_mem_nil,or_false]at hu;obtain⟨m,_,h|h|h|h⟩:=hu<;>subst h<;>rfl
theorem xzrq (hown:W.ownsRow 0 48 4 vs S.sets.length (cellsS S.sets)){T:List (Nat->Bool)}{a:Addr}{c:Nat}(hnews:∀ j u,(cellsS T)[j]? =some u->W.cell? (a.add j)=some u)(hl:S.sets.length+T.length<=1099511627776):
 ∃ v' W',(Builtin.append_ #[84,84] 84 #[vs,.slice (some a) T.length c]).run Tryz.prog W=.ok v' W'/\W'.ownsRow 0 48 4 v' (S.sets++T).length (cellsS (S.sets++T))/\W.grownBy W' vs.ownBlock/\
  W'.ownsRow 0 48 4 vs S.sets.length (cellsS S.sets)/\(v'.ownBlock=vs.ownBlock\/v'.ownBlock=some W.heap.size):=by
 obtain⟨i0,hi0,hz0,hz1,hz2⟩:=info_parts yzam
 obtain⟨v',W',hr,h1,h2,_,h4⟩:=run_append_own_at (P:=Tryz.prog) (w:=W) 0 84 84 48 i0 _ 4 32 Tryz.underlying84 hi0 hz0 hz1 hz2 rfl (by decide) vs S.sets.length _ hown
  a T.length c (cellsS T) (xzia T) hnews (xzmk T) (by unfold maxLen;omega) (by omega) (Nat.zero_le _)
 exact⟨v',W',hr,by rw [List.length_append,xzmj];exact h1,h2,xzdk (P:=Tryz.prog) Tryz.underlying84 hi0 hz0 hz1 hz2 hown (xzia T) hnews (xzmk T) (by unfold maxLen;omega) (by omega) hr,h4⟩
theorem xzvo {n:Nat}(hown:W.ownsRow 0 26 1 vf n xs){a:Addr}{c:Nat}{x:Value}(hnews:W.cell? a=some x)(h1:x.oneCell'=true)(hl:n+1<=1099511627776):
 ∃ v' W',(Builtin.append_ #[25,25] 25 #[vf,.slice (some a) 1 c]).run Tryz.prog W=.ok v' W'/\W'.ownsRow 0 26 1 v' (n+1) (xs++[x])/\W.grownBy W' vf.ownBlock/\
  W'.ownsRow 0 26 1 vf n xs/\(v'.ownBlock=vf.ownBlock\/v'.ownBlock=some W.heap.size):=by
 obtain⟨i0,hi0,hz0,hz1,hz2⟩:=info_parts xzpw
 have hnw:∀ j u,[x][j]? =some u->W.cell? (a.add j)=some u:=fun j u hu=>by
  cases j with
  |zero=>
   simp only [List.getElem?_cons_zero,zh]at hu;subst hu
   have e:a.add 0=a:=by unfold Addr.add;split<;>simp_all
   rw [e];exact hnews
  |succ j=>simp at hu
 have hone:∀ u∈[x],u.oneCell'=true:=fun u hu=>by rw [List.mem_singleton.1 hu];exact h1
 obtain⟨v',W',hr,h2,h3,_,h4⟩:=run_append_own_at (P:=Tryz.prog) (w:=W) 0 25 25 26 i0 _ 1 24 Tryz.underlying25 hi0 hz0 hz1 hz2 rfl (by decide) vf n xs hown
  a 1 c [x] rfl hnw hone (by unfold maxLen;omega) (by omega) (Nat.zero_le _)
 exact⟨v',W',hr,h2,h3,xzdk (P:=Tryz.prog) Tryz.underlying25 hi0 hz0 hz1 hz2 hown (by rfl) hnw hone (by unfold maxLen;omega) (by omega) hr,h4⟩
end
end
end Go.Proofs.YtdjpphjpnkfeiaaGreatDoor
