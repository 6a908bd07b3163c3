/-
 WHAT nfa's place ANSWERS: a contract. Condition: at most 2^20 places.
-/
import Derived.Test.YtdjpphjpnkfeiaaGreatDoorQG19
import Derived.Test.YtdjpphjpnkfeiaaGreatDoorQG12
namespace Go.Proofs.YtdjpphjpnkfeiaaGreatDoor
section
open Go.RowKit
attribute [local irreducible] FreeW textFrame
theorem xzbb {W:World}{B:Nat}{t:TypeId}{z n:Nat}{v:Value}{xs:List Value}(h:W.ownsRow B t z v n xs):∃ A c,v=.slice A n c/\(n<=c/\c<=9223372036854775807):=by
 rcases h.2 with⟨rfl,rfl⟩|⟨g,cap,cur,rfl,_,_,h1,h2,_⟩
 ·exact⟨none,0,rfl,by omega,by omega⟩
 ·exact⟨_,cap,rfl,h1,by unfold maxLen at h2;omega⟩
theorem IntsV.one {W:World}{K:Nat->Bool}{g:Nat}{x:Int}(h:BlkIs W g 3 #[.int .i64 x])(hK:K g=false):IntsV (hide W K) [x] (.slice (some ⟨g,0,none⟩) 1 1):=
 RunAt.ints (l:=[x]) ⟨by simp,fun i hi=>xzea hK (by
  simp only [List.length_singleton]at hi
  obtain rfl:i=0:=by omega
  rw [Nat.add_zero,h.cell 0];rfl)⟩
set_option maxRecDepth 20000 in
set_option maxHeartbeats 16000000 in
theorem yzan (M K:Nat->Bool)(S:Mk)(ms:Nat->Bool)(pb:Nat)(r f e m:Value)(w:World)(hm:MkAt M K w pb S r f e m)(hS:S.follow.length=S.sets.length)(hn:S.sets.length<=1048576)(hM:∀ k,M k=true->k<w.heap.size)(hK:∀ k,K k=true->k<w.heap.size):
 Calls Tryz.prog 96 #[.pointer (some ⟨pb,0,none⟩),.agg #[.int .u64 (wd ms 0:Nat),.int .u64 (wd ms 1:Nat),.int .u64 (wd ms 2:Nat),.int .u64 (wd ms 3:Nat)]] w fun x w'=>∃ M' v',x=.returned v'/\Nx M M' w w'/\(∀ k,M' k=true->k<w'.heap.size)/\MkAt M' K w' pb (placeS S ms) r f e m/\PrtV (hide w' (MK M' K)) ⟨[(S.sets.length:Int)],[(S.sets.length:Int)],false⟩ v':=by
 obtain⟨w2,hw2⟩:∃ w2,(w.alloc (.cells #[.int .u64 (wd ms 0:Nat),.int .u64 (wd ms 1:Nat),.int .u64 (wd ms 2:Nat),.int .u64 (wd ms 3:Nat)] 48)).alloc (.cells #[.slice none 0 0,.slice none 0 0,.bool false] 149)=w2:=⟨_,rfl⟩
 have hb2:Below w.heap.size w w2:=by rw [<-hw2];exact((Below.refl _ _).alloc (Nat.le_refl _) _).alloc (by simp) _
 have hs2:w2.heap.size=w.heap.size+2:=by rw [<-hw2];simp
 have hx0:BlkIs w2 w.heap.size 48 #[.int .u64 (wd ms 0:Nat),.int .u64 (wd ms 1:Nat),.int .u64 (wd ms 2:Nat),.int .u64 (wd ms 3:Nat)]:=by rw [<-hw2];exact(BlkIs.new w _ _).alloc _
 have hx1:BlkIs w2 (w.heap.size+1) 149 #[.slice none 0 0,.slice none 0 0,.bool false]:=by
  rw [<-hw2];have h:=BlkIs.new (w.alloc (.cells #[.int .u64 (wd ms 0:Nat),.int .u64 (wd ms 1:Nat),.int .u64 (wd ms 2:Nat),.int .u64 (wd ms 3:Nat)] 48)) 149 #[.slice none 0 0,.slice none 0 0,.bool false];rw [World.size_alloc]at h;exact h
 have hMf:∀ k,w.heap.size<=k->M k=false:=fun k hk=>by
  rw [Bool.eq_false_iff];intro e;have:=hM k e;omega
 obtain⟨vs,vf,xs,hmi⟩:=hm.new (b:=w.heap.size+1) hb2 (by omega);obtain⟨As,cs,rfl,hcs⟩:=xzbb hmi.own0;obtain⟨Af,cf,rfl,hcf⟩:=xzbb hmi.own3;obtain⟨vf,hvf⟩:∃ vf,Value.slice Af S.follow.length cf=vf:=⟨_,rfl⟩;rw [hvf]at hmi;have HMI:=zd hmi;have HBX:=zd (And.intro hx0 hx1);have HOW:=zd (show ∀ k,(Value.slice As S.sets.length cs).ownBlock=some k->k<w2.heap.size from fun k hk=>(World.ownsRow.lt hmi.own0 k hk).2);have HMK:=zd (And.intro hM (And.intro hK hMf));have HS:=zd (And.intro hb2 hs2);have HSL:=zd hS;obtain⟨k0,k1,k2,k3,k4,k5⟩:=six hmi.blk;obtain⟨y0,y1,y2,y3,_,_,_,_⟩:=hx0.four;clear hmi hx0 hx1 hb2 hs2 hMf hM hK hS hm
 go_enter Tryz.func96,Tryz.ntmps96
 go_wp2_with fail
 refine xzaf 12 41 (fun u=>Hid (MkI M (Kor K (w.heap.size+1)) u pb S r f e m (.slice As S.sets.length cs) vf xs/\Nx M M w2 u/\BlkIs u w.heap.size 48 #[.int .u64 (wd ms 0:Nat),.int .u64 (wd ms 1:Nat),.int .u64 (wd ms 2:Nat),.int .u64 (wd ms 3:Nat)])) (fun i u u'=>(i=8->u.grownBy u' (Value.slice As S.sets.length cs).ownBlock/\u'.ownsRow 0 48 4 (.slice As S.sets.length cs) S.sets.length (cellsS S.sets))/\(i≠8->Below u.heap.size u u'))
  (fun i v u=>match i with
   |0=>v=.pointer (some ⟨pb,0,none⟩)
   |1=>v=.pointer (some ⟨pb,0,none⟩)
   |2=>v=.pointer (some ⟨pb,0,none⟩)
   |3=>v=.pointer (some ⟨pb,0,none⟩)
   |4=>v=.pointer (some ⟨pb,0,none⟩)
   |5=>v=.slice As S.sets.length cs
   |6=>v=.agg #[.int .u64 (wd ms 0:Nat),.int .u64 (wd ms 1:Nat),.int .u64 (wd ms 2:Nat),.int .u64 (wd ms 3:Nat)]
   |7=>∃ g,v=.slice (some ⟨g,0,none⟩) 1 1/\BlkIs u g 48 #[.int .u64 (wd ms 0:Nat),.int .u64 (wd ms 1:Nat),.int .u64 (wd ms 2:Nat),.int .u64 (wd ms 3:Nat)]/\w2.heap.size<=g
   |8=>u.ownsRow 0 48 4 v (S.sets++[ms]).length (cellsS (S.sets++[ms]))/\(v.ownBlock=(Value.slice As S.sets.length cs).ownBlock\/ ∃ g,v.ownBlock=some g/\w2.heap.size<=g)
   |9=>v=.pointer (some ⟨pb,0,none⟩)
   |10=>v=.pointer (some ⟨pb,0,none⟩)
   |11=>v=.pointer (some ⟨pb,0,none⟩)
   |_=>True) (by kernel_rfl) (by kernel_rfl) rfl (zd ⟨HMI.out.step (Below.refl _ _).drew,Nx.below (Below.refl _ _).drew,HBX.out.1.drew⟩) ?_ ?_ ?_ ?_
 ·intro i u u' hi hC hr
  by_cases hi8:i=8
  ·obtain⟨g1,g2⟩:=hr.1 hi8
   exact zd ⟨hC.out.1.grown0 g1 g2,hC.out.2.1.trans (Nx.grown g1 fun k hk=>(hC.out.1.far0 k hk).1),(g1.block _ hC.out.2.2.lt (fun e=>by have:=HOW.out w.heap.size e.symm;have:=(hC.out.1.far0 _ e.symm).1;exact absurd (HMK.out.1 _ this) (by omega))).trans hC.out.2.2⟩
  ·have hb:=hr.2 hi8
   exact zd ⟨hC.out.1.step hb,hC.out.2.1.trans (Nx.below hb),hC.out.2.2.step hb⟩
 ·intro i j v u u' hi hj hne hv hr
  match i,hi,hne,hv with
  |0,_,_,hv=>exact hv
  |1,_,_,hv=>exact hv
  |2,_,_,hv=>exact hv
  |3,_,_,hv=>exact hv
  |4,_,_,hv=>exact hv
  |5,_,_,hv=>exact hv
  |6,_,_,hv=>exact hv
  |7,_,hne,hv=>
   obtain⟨g,e1,e2,e3⟩:=hv;refine⟨g,e1,?_,e3⟩
   by_cases hj8:j=8
   ·exact((hr.1 hj8).1.block g e2.lt (fun e=>by have:=HOW.out g e.symm;omega)).trans e2
   ·exact e2.step (hr.2 hj8)
  |8,_,hne,hv=>
   exact⟨xzad hv.1 fun k hk=>(hr.2 (Ne.symm hne)).block k (World.ownsRow.lt hv.1 k hk).2,hv.2⟩
  |9,_,_,hv=>exact hv
  |10,_,_,hv=>exact hv
  |11,_,_,hv=>exact hv
  |i+12,hi,_,_=>omega
 ·intro i hi vs u hC hw oq ho
  match i,hi,hw,ho with
  |0,_,hw,ho=>
   simp only [zq,zh]at ho;subst ho;refine⟨rfl,?_⟩;obtain⟨k0,k1,k2,k3,k4,k5⟩:=six hC.out.1.blk;obtain⟨y0,y1,y2,y3,_,_,_,_⟩:=hC.out.2.2.four;clear hw;simp only [xzaa,tmpsTo];go_simp;exact xzab (Below.refl _ _) rfl
  |1,_,hw,ho=>
   simp only [zq,zh]at ho;subst ho;refine⟨rfl,?_⟩;obtain⟨k0,k1,k2,k3,k4,k5⟩:=six hC.out.1.blk;obtain⟨y0,y1,y2,y3,_,_,_,_⟩:=hC.out.2.2.four;clear hw;simp only [xzaa,tmpsTo,putT,zr];go_simp;exact xzab (Below.refl _ _) rfl
  |2,_,hw,ho=>
   have e1:vs 1=.pointer (some ⟨pb,0,none⟩):=hw 1 (by omega) (by kernel_rfl);simp only [zq,zh]at ho;subst ho;refine⟨rfl,?_⟩;obtain⟨k0,k1,k2,k3,k4,k5⟩:=six hC.out.1.blk;obtain⟨y0,y1,y2,y3,_,_,_,_⟩:=hC.out.2.2.four;clear hw;simp only [xzaa,tmpsTo,putT,zr];rw [e1];clear e1;go_simp;exact xzab (Below.refl _ _) rfl
  |3,_,hw,ho=>
   have e2:vs 2=.pointer (some ⟨pb,0,none⟩):=hw 2 (by omega) (by kernel_rfl);simp only [zq,zh]at ho;subst ho;refine⟨rfl,?_⟩;obtain⟨k0,k1,k2,k3,k4,k5⟩:=six hC.out.1.blk;obtain⟨y0,y1,y2,y3,_,_,_,_⟩:=hC.out.2.2.four;clear hw;simp only [xzaa,tmpsTo,putT,zr];rw [e2];clear e2;go_simp;exact xzab (Below.refl _ _) rfl
  |4,_,hw,ho=>
   have e3:vs 3=.pointer (some ⟨pb,0,none⟩):=hw 3 (by omega) (by kernel_rfl);simp only [zq,zh]at ho;subst ho;refine⟨rfl,?_⟩;obtain⟨k0,k1,k2,k3,k4,k5⟩:=six hC.out.1.blk;obtain⟨y0,y1,y2,y3,_,_,_,_⟩:=hC.out.2.2.four;clear hw;simp only [xzaa,tmpsTo,putT,zr];rw [e3];clear e3;go_simp;exact xzab (Below.refl _ _) rfl
  |5,_,hw,ho=>
   have e4:vs 4=.pointer (some ⟨pb,0,none⟩):=hw 4 (by omega) (by kernel_rfl);simp only [zq,zh]at ho;subst ho;refine⟨rfl,?_⟩;obtain⟨k0,k1,k2,k3,k4,k5⟩:=six hC.out.1.blk;obtain⟨y0,y1,y2,y3,_,_,_,_⟩:=hC.out.2.2.four;clear hw;simp only [xzaa,tmpsTo,putT,zr];rw [e4];clear e4;go_simp;exact xzab (Below.refl _ _) rfl
  |6,_,hw,ho=>
   simp only [zq,zh]at ho;subst ho;refine⟨rfl,?_⟩;obtain⟨k0,k1,k2,k3,k4,k5⟩:=six hC.out.1.blk;obtain⟨y0,y1,y2,y3,_,_,_,_⟩:=hC.out.2.2.four;clear hw;simp only [xzaa,tmpsTo,putT,zr];go_simp;exact xzab (Below.refl _ _) rfl
  |7,_,hw,ho=>
   have e6:vs 6=.agg #[.int .u64 (wd ms 0:Nat),.int .u64 (wd ms 1:Nat),.int .u64 (wd ms 2:Nat),.int .u64 (wd ms 3:Nat)]:=hw 6 (by omega) (by kernel_rfl);simp only [zq,zh]at ho;subst ho;refine⟨rfl,?_⟩;obtain⟨k0,k1,k2,k3,k4,k5⟩:=six hC.out.1.blk;obtain⟨y0,y1,y2,y3,_,_,_,_⟩:=hC.out.2.2.four;clear hw;simp only [xzaa,tmpsTo,putT,zr];rw [e6];clear e6;go_simp;exact xzab ((Below.refl _ _).alloc (Nat.le_refl _) _) ⟨_,rfl,BlkIs.new _ _ _,hC.out.2.1.size⟩
  |8,_,hw,ho=>
   have e5:vs 5=.slice As S.sets.length cs:=hw 5 (by omega) (by kernel_rfl);obtain⟨g,e7,hg1,hg2⟩:∃ g,vs 7=.slice (some ⟨g,0,none⟩) 1 1/\BlkIs u g 48 #[.int .u64 (wd ms 0:Nat),.int .u64 (wd ms 1:Nat),.int .u64 (wd ms 2:Nat),.int .u64 (wd ms 3:Nat)]/\w2.heap.size<=g:=hw 7 (by omega) (by kernel_rfl);simp only [zq,zh]at ho;subst ho;refine⟨rfl,?_⟩;obtain⟨k0,k1,k2,k3,k4,k5⟩:=six hC.out.1.blk;obtain⟨y0,y1,y2,y3,_,_,_,_⟩:=hC.out.2.2.four;clear hw;simp only [xzaa,tmpsTo,putT,zr];rw [e5];clear e5;rw [e7]
   obtain⟨v',W',hrun,k1,k2,k3,k4⟩:=xzrq (S:=S) hC.out.1.own0 (T:=[ms]) (a:=⟨g,0,none⟩) (c:=1) (fun j x hx=>by
    rw [Addr.add_lit,Nat.zero_add,hg1.cell j]
    simpa [cellsS]using hx) (by simp;omega)
   simp only [List.length_singleton]at hrun;rw [xzca (.tmp 17) (.tmp 19) 84 84 rfl rfl rfl hrun];refine xzab ?_ ?_
   ·exact⟨fun _=>⟨k2,k3⟩,fun h=>absurd rfl h⟩
   ·refine⟨k1,?_⟩
    rcases k4 with k4|k4
    ·exact .inl k4
    ·exact .inr ⟨_,k4,hC.out.2.1.size⟩
  |9,_,hw,ho=>
   have e0:vs 0=.pointer (some ⟨pb,0,none⟩):=hw 0 (by omega) (by kernel_rfl);simp only [zq,zh]at ho;subst ho;refine⟨rfl,?_⟩;obtain⟨k0,k1,k2,k3,k4,k5⟩:=six hC.out.1.blk;obtain⟨y0,y1,y2,y3,_,_,_,_⟩:=hC.out.2.2.four;clear hw;simp only [xzaa,tmpsTo,putT,zr];rw [e0];clear e0;go_simp;exact xzab (Below.refl _ _) rfl
  |10,_,hw,ho=>
   have e9:vs 9=.pointer (some ⟨pb,0,none⟩):=hw 9 (by omega) (by kernel_rfl);simp only [zq,zh]at ho;subst ho;refine⟨rfl,?_⟩;obtain⟨k0,k1,k2,k3,k4,k5⟩:=six hC.out.1.blk;obtain⟨y0,y1,y2,y3,_,_,_,_⟩:=hC.out.2.2.four;clear hw;simp only [xzaa,tmpsTo,putT,zr];rw [e9];clear e9;go_simp;exact xzab (Below.refl _ _) rfl
  |11,_,hw,ho=>
   have e10:vs 10=.pointer (some ⟨pb,0,none⟩):=hw 10 (by omega) (by kernel_rfl);simp only [zq,zh]at ho;subst ho;refine⟨rfl,?_⟩;obtain⟨k0,k1,k2,k3,k4,k5⟩:=six hC.out.1.blk;obtain⟨y0,y1,y2,y3,_,_,_,_⟩:=hC.out.2.2.four;clear hw;simp only [xzaa,tmpsTo,putT,zr];rw [e10];clear e10;go_simp;exact xzab (Below.refl _ _) rfl
  |i+12,hi,_,_=>omega
 intro vs1 u hC hV;have h8:u.ownsRow 0 48 4 (vs1 8) (S.sets++[ms]).length (cellsS (S.sets++[ms]))/\((vs1 8).ownBlock=(Value.slice As S.sets.length cs).ownBlock\/ ∃ g,(vs1 8).ownBlock=some g/\w2.heap.size<=g):=hV 8 (by omega);have h11:vs1 11=.pointer (some ⟨pb,0,none⟩):=hV 11 (by omega);clear hV;simp only [xzaa,tmpsTo,putT,zr,List.drop_succ_cons,List.drop_zero];rw [h11];clear h11;generalize vs1 8=v8 at*;generalize vs1 0=q0;generalize vs1 1=q1;generalize vs1 2=q2;generalize vs1 3=q3;generalize vs1 4=q4;generalize vs1 5=q5;generalize vs1 6=q6;generalize vs1 7=q7;generalize vs1 9=q9;generalize vs1 10=q10;obtain⟨n1,m1⟩:=HMI.out.newSets hC.out.2.1 hC.out.1.blk hC.out.1.own3 h8.1 h8.2
 have hl8:(S.sets++[ms]).length=S.sets.length+1:=by simp
 obtain⟨A8,c8,rfl,hc8⟩:=xzbb (hl8▸h8.1);clear hl8;obtain⟨U1,hU1⟩:∃ U1,u.setCell ⟨pb,0,none⟩ (.slice A8 (S.sets.length+1) c8)=U1:=⟨_,rfl⟩;rw [hU1]at n1 m1;obtain⟨i0,i1,i2,i3,i4,i5⟩:=six hC.out.1.blk;have fz:=hC.out.1.blk.frozen 0;clear k0 k1 k2 k3 k4 k5 y0 y1 y2 y3;obtain⟨k0,k1,k2,k3,k4,k5⟩:=six m1.blk
 have hbA:Below U1.heap.size U1 (U1.alloc (.cells #[.slice none 0 0] 26)):=(Below.refl _ _).alloc (Nat.le_refl _) _;have hnewA:=BlkIs.new U1 26 #[.slice none 0 0];obtain⟨v9,W9,hrun9,r1,r2,r3,r4⟩:=xzvo (m1.step hbA).own3 (a:=⟨U1.heap.size,0,none⟩) (c:=1) (x:=.slice none 0 0) ((hnewA.cell 0).trans rfl) rfl (by show S.follow.length+1<=_;have:=HSL.out;omega);have hnxA:Nx (Mv M (.slice A8 (S.sets.length+1) c8)) (Mv M (.slice A8 (S.sets.length+1) c8)) U1 W9:=(Nx.below hbA).trans (Nx.grown r2 fun k hk=>(m1.far3 k hk).1);have hm9:=(m1.step hbA).grown3 r2 r3
 have hv9:v9.ownBlock=vf.ownBlock\/ ∃ g,v9.ownBlock=some g/\U1.heap.size<=g:=by
  rcases r4 with h|h
  ·exact .inl h
  ·exact .inr ⟨_,h,by simp⟩
 have hxl:xs.length=S.follow.length:=by have:=HMI.out.own3.1;omega
 obtain⟨n2,m2⟩:=m1.newRow hnxA hm9.blk hm9.own0 (l:=[]) (x:=.slice none 0 0) r1 hxl (IntsV.nil _) hv9;obtain⟨A9,c9,rfl,hc9⟩:=xzbb r1;obtain⟨U2,hU2⟩:∃ U2,W9.setCell ⟨pb,3,none⟩ (.slice A9 (S.follow.length+1) c9)=U2:=⟨_,rfl⟩;rw [hU2]at n2 m2;obtain⟨j0,j1,j2,j3,j4,j5⟩:=six hm9.blk;have fz3:=hm9.blk.frozen 3
 have hM2:∀ k,w.heap.size+2<=k\/k=w.heap.size+1->U2.heap.size<=k\/k=w.heap.size+1->Mv (Mv M (.slice A8 (S.sets.length+1) c8)) (.slice A9 (S.follow.length+1) c9) k=false:=fun k hk1 hk2=>by
  rw [Mv_no,Mv_no];refine⟨⟨HMK.out.2.2 k (by omega),fun e8=>?_⟩,fun e9=>?_⟩
  ·have hl:=(m2.own0)
   have hlt:=(World.ownsRow.lt m2.own0 k e8).2
   rcases h8.2 with h|⟨g,h1,h2⟩
   ·have hh:=HMI.out.far0 k (h▸e8)
    have:=HMK.out.1 k hh.1;omega
   ·rw [e8]at h1;injection h1 with h1;have:=HS.out.2;omega
  ·have hlt:=(World.ownsRow.lt m2.own3 k e9).2
   rcases hv9 with h|⟨g,h1,h2⟩
   ·have hh:=(HMI.out.far3 k (h▸e9)).1
    have:=HMK.out.1 k hh;omega
   ·rw [e9]at h1;injection h1 with h1;have:=n1.size;have:=HS.out.2;omega
 have hMlt:∀ k,Mv (Mv M (.slice A8 (S.sets.length+1) c8)) (.slice A9 (S.follow.length+1) c9) k=true->k<U2.heap.size:=fun k hk=>by
  rcases Nat.lt_or_ge k U2.heap.size with h|h
  ·exact h
  ·have hz:w.heap.size+2<=U2.heap.size:=by have:=n1.size;have:=n2.size;have:=HS.out.2;omega
   rw [hM2 k (by omega) (by omega)]at hk;cases hk
 have n12:Nx M _ w U2:=(Nx.below HS.out.1).trans (n1.trans n2)
 have hbr:BlkIs U2 (w.heap.size+1) 149 #[.slice none 0 0,.slice none 0 0,.bool false]:=by
  have h:=n1.trans n2;exact HBX.out.2.nx h (HMK.out.2.2 _ (by omega))
 have HM2:=zd m2;have HN:=zd n12;have HMF:=zd hM2;have HML:=zd hMlt;have HBR:=zd hbr;have hsz:=hbr.lt;obtain⟨b0,b1,b2,_,_,_⟩:=three hbr;clear m1 n1 m2 n2 hbA hnewA r1 r2 r3 r4 hnxA hm9 hv9 hM2 hMlt n12 hC h8 hbr;generalize Mv (Mv M (.slice A8 (S.sets.length+1) c8)) (.slice A9 (S.follow.length+1) c9)=M2 at*;have HLT:=zd hsz;obtain⟨U3,hU3⟩:∃ U3,(U2.alloc (.cells #[.int .i64 (S.sets.length:Int)] 3)).alloc (.cells #[.int .i64 (S.sets.length:Int)] 3)=U3:=⟨_,rfl⟩
 have hb3:Below U2.heap.size U2 U3:=by rw [<-hU3];exact((Below.refl _ _).alloc (Nat.le_refl _) _).alloc (by simp) _
 have hg3:BlkIs U3 U2.heap.size 3 #[.int .i64 (S.sets.length:Int)]:=by rw [<-hU3];exact(BlkIs.new U2 _ _).alloc _
 have hg4:BlkIs U3 (U2.heap.size+1) 3 #[.int .i64 (S.sets.length:Int)]:=by
  rw [<-hU3];have h:=BlkIs.new (U2.alloc (.cells #[.int .i64 (S.sets.length:Int)] 3)) 3 #[.int .i64 (S.sets.length:Int)];rw [World.size_alloc]at h;exact h
 clear b0 b1 b2;obtain⟨b0,b1,b2,fb0,fb1,fb2⟩:=three (HBR.out.step hb3);have H3:=zd (And.intro hb3 (And.intro hg3 hg4));have hlt3:w.heap.size+1<U3.heap.size:=(HBR.out.step hb3).lt;clear hb3 hg3 hg4
 go_wp2_with(refine xzan rfl _ _ 25 25 rfl rfl rfl hrun9 ?_)
 have hl:=xzez (xzeb (x:=.slice (some ⟨U2.heap.size,0,none⟩) 1 1) (y:=.slice (some ⟨U2.heap.size+1,0,none⟩) 1 1) (z:=.bool false) (HBR.out.step H3.out.1));have hkb:Kor K (w.heap.size+1) (w.heap.size+1)=true:=xzkm _ _;have hmb:M2 (w.heap.size+1)=false:=HMF.out _ (.inr rfl) (.inr rfl)
 have hfar:∀ U:World,Sub (hide U (MK M2 (Kor K (w.heap.size+1)))) (hide (((U.setCell ⟨w.heap.size+1,0,none⟩ (.slice (some ⟨U2.heap.size,0,none⟩) 1 1)).setCell ⟨w.heap.size+1,1,none⟩ (.slice (some ⟨U2.heap.size+1,0,none⟩) 1 1)).setCell ⟨w.heap.size+1,2,none⟩ (.bool false)) (MK M2 K)):=fun U=>
  (((xzbg (M:=M2) (i:=0) hkb _).trans (xzbg (M:=M2) (i:=1) hkb _)).trans (xzbg (M:=M2) (i:=2) hkb _)).trans xzgc
 have hfree:∀ g,U2.heap.size<=g->MK M2 (Kor K (w.heap.size+1)) g=false:=fun g hg=>by
  rw [MK_no,Kor_no];refine⟨HMF.out g (by have:=HLT.out;omega) (.inl hg),?_,by have:=HLT.out;omega⟩;rw [Bool.eq_false_iff];intro e;have:=HMK.out.2.1 g e;have:=HLT.out;omega
 refine⟨rfl,_,xzae rfl rfl hl,M2,_,rfl,(((HN.out.trans (Nx.below H3.out.1)).far (by omega)).far (by omega)).far (by omega),fun k hk=>?_,?_,_,_,rfl,(IntsV.one H3.out.2.1 (hfree _ (Nat.le_refl _))).sub (hfar U3),(IntsV.one H3.out.2.2 (hfree _ (by omega))).sub (hfar U3)⟩
 ·have:=HML.out k hk
  have:=H3.out.1.size
  simp [World.setCell];omega
 ·have hmm:MkAt M2 (Kor K (w.heap.size+1)) U3 pb (placeS S ms) r f e m:=MkAt.step ⟨_,_,_,HM2.out⟩ H3.out.1
  exact(((hmm.far hkb hmb).far hkb hmb).far hkb hmb).less
end
section
open Go.RowKit
attribute [local irreducible] FreeW textFrame
def PartIs (T:Tree):Prop:=∀ (M K:Nat->Bool) (S:Mk) (v:Value) (pb:Nat) (r f e m:Value) (w:World),MkAt M K w pb S r f e m->T.At (hide w M) v->S.Ok->S.sets.length+T.plN<=1048576->(∀ k,M k=true->k<w.heap.size)->(∀ k,K k=true->k<w.heap.size)->
 Calls Tryz.prog 80 #[.pointer (some ⟨pb,0,none⟩),v] w fun x w'=>∃ M' v',x=.returned v'/\Nx M M' w w'/\(∀ k,M' k=true->k<w'.heap.size)/\MkAt M' K w' pb (partP T S).1 r f e m/\PrtV (hide w' (MK M' K)) (partP T S).2 v'
def PrtL (V:World)(ps:List Prt)(xs:List Value):Prop:=xs.length=ps.length*3/\∀ (i:Nat) (h:i<ps.length),∃ v1 v2,xs[i*3]? =some v1/\xs[i*3+1]? =some v2/\xs[i*3+2]? =some (.bool ps[i].empty)/\IntsV V ps[i].first v1/\IntsV V ps[i].ends v2
theorem PrtL.nil (V:World):PrtL V [] []:=⟨rfl,fun i h=>by simp at h⟩
theorem PrtL.sub {V W:World}{ps:List Prt}{xs:List Value}(h:PrtL V ps xs)(hs:Sub V W):PrtL W ps xs:=⟨h.1,fun i hi=>by
 obtain⟨v1,v2,h0,h1,h2,h3,h4⟩:=h.2 i hi
 exact⟨v1,v2,h0,h1,h2,h3.sub hs,h4.sub hs⟩⟩
theorem PrtL.snoc {V:World}{ps:List Prt}{xs:List Value}(h:PrtL V ps xs){p:Prt}{v1 v2:Value}(h1:IntsV V p.first v1)(h2:IntsV V p.ends v2):PrtL V (ps++[p]) (xs++[v1,v2,.bool p.empty]):=by
 refine⟨by simp [h.1];omega,fun i hi=>?_⟩;simp only [List.length_append,List.length_singleton]at hi
 by_cases hil:i<ps.length
 ·obtain⟨a1,a2,k0,k1,k2,k3,k4⟩:=h.2 i hil
  have hx:=h.1;refine⟨a1,a2,?_,?_,?_,?_,?_⟩
  ·rw [List.getElem?_append_left (by omega)];exact k0
  ·rw [List.getElem?_append_left (by omega)];exact k1
  ·rw [List.getElem?_append_left (by omega),List.getElem_append_left hil];exact k2
  ·rw [List.getElem_append_left hil];exact k3
  ·rw [List.getElem_append_left hil];exact k4
 ·obtain rfl:i=ps.length:=by omega
  have hx:=h.1;refine⟨v1,v2,?_,?_,?_,by simpa using h1,by simpa using h2⟩
  ·rw [List.getElem?_append_right (by omega)];simp [hx]
  ·rw [List.getElem?_append_right (by omega)];simp [hx]
  ·rw [List.getElem?_append_right (by omega)];simp [hx]
theorem PrtL.parts {V W:World}{ps:List Prt}{xs:List Value}(h:PrtL V ps xs){B n c:Nat}(hn:n=ps.length)(ho:W.ownsRow 0 149 3 (.slice (some ⟨B,0,none⟩) n c) n xs):PrtsAt V W ps (.slice (some ⟨B,0,none⟩) n c):=by
 subst hn
 have hc:ps.length<=c/\c<=9223372036854775807:=by
  obtain⟨A,c',e,h1⟩:=xzbb ho
  injection e with _ _ e
  subst e;exact h1
 refine⟨_,_,rfl,hc,fun _=>⟨B,0,rfl,fun i hi=>?_⟩⟩;obtain⟨v1,v2,h0,h1,h2,h3,h4⟩:=h.2 i hi
 have hcl:=fun j u hu=>ho.cells (g:=B) rfl j u hu
 simp only [Addr.add_lit,Nat.zero_add]at hcl;exact⟨v1,v2,by rw [Nat.zero_add];exact hcl _ _ h0,by rw [Nat.zero_add];exact hcl _ _ h1,by rw [Nat.zero_add];exact hcl _ _ h2,h3,h4⟩
theorem xzib:(Tryz.prog.info? 149).map (fun i=>(i.zero,i.size,i.bytes))=some (some (.agg #[.slice none 0 0,.slice none 0 0,.bool false]),3,56):=by kernel_rfl
theorem xzvp {W:World}{B n c:Nat}{xs:List Value}(ho:W.ownsRow 0 149 3 (.slice (some ⟨B,0,none⟩) n c) n xs)(hn:n<c){g:Nat}{a1 a2 a3:Value}(hg:BlkIs W g 149 #[a1,a2,a3])(h1:a1.oneCell'=true)(h2:a2.oneCell'=true)(h3:a3.oneCell'=true):
 ∃ W',(Builtin.append_ #[172,172] 172 #[.slice (some ⟨B,0,none⟩) n c,.slice (some ⟨g,0,none⟩) 1 1]).run Tryz.prog W=.ok (.slice (some ⟨B,0,none⟩) (n+1) c) W'/\W'.ownsRow 0 149 3 (.slice (some ⟨B,0,none⟩) (n+1) c) (n+1) (xs++[a1,a2,a3])/\W.grownBy W' (some B):=by
 obtain⟨i0,hi0,hz0,hz1,hz2⟩:=info_parts xzib;have hlen:=ho.1
 rcases ho.2 with⟨h,_⟩|⟨g',cap,cur,e,hbg,hgg,hnc,hcm,hcs,htake⟩
 ·cases h
 injection e with e1 _ e2
 injection e1 with e1
 injection e1 with e1
 subst e1 e2
 have hnw:∀ j u,[a1,a2,a3][j]? =some u->W.cell? ((⟨g,0,none⟩:Addr).add j)=some u:=fun j u hu=>by
  rw [Addr.add_lit,Nat.zero_add,hg.cell j];simpa using hu
 have hone:∀ u∈[a1,a2,a3],u.oneCell'=true:=fun u hu=>by
  simp only [List.mem_cons,List.not_mem_nil,or_false]at hu
  rcases hu with rfl|rfl|rfl<;>assumption
 have hr:=run_append_room (P:=Tryz.prog) W 172 172 149 i0 Tryz.underlying172 hi0 B n c cur hgg ⟨g,0,none⟩ 1 1 [a1,a2,a3] (by rw [hz1];rfl) hnw hone (by omega) (by rw [hz1];simp;omega);refine⟨_,hr,⟨by simp [hlen];omega,.inr ⟨B,c,_,rfl,Nat.zero_le _,setRow_heap W B cur _ _ _ hgg,by omega,hcm,?_,?_⟩⟩,⟨rfl,rfl,rfl,by simp,fun k _ hk=>setRow_other W B k _ (fun e=>hk (by rw [e]))⟩⟩
 ·have:n*3<=cur.toList.length:=by rw [Array.length_toList];omega
  simp only [hz1,List.size_toArray,List.length_append,List.length_take,List.length_drop,Array.length_toList,List.length_cons,List.length_nil];omega
 ·rw [hz1,htake]
  show(xs++[a1,a2,a3]++_).take ((n+1)*3)=_
  rw [List.take_left' (by simp [hlen];omega)]
theorem xzvq (n:Nat)(h:n<=1099511627776)(w:World):∃ cur:Array Value,cur.size=n*3/\(Instr.makeSlice 172 (.int .i64 0) (.int .i64 (n:Nat))).run Tryz.prog w=.ok (.slice (some ⟨w.heap.size,0,none⟩) 0 n) (w.alloc (.cells cur 149)):=by
 obtain⟨i0,hi0,hz0,hz1,hz2⟩:=info_parts xzib;have hr:=run_make (P:=Tryz.prog) w 172 149 i0 _ Tryz.underlying172 hi0 hz0 .i64 .i64 0 n (by omega) (by omega) (by rw [hz2];omega) (by omega);simp only [hz1,Int.toNat_natCast]at hr;exact⟨_,size_madeCells _ _ |>.trans (by simp),hr⟩
theorem xzjl (t:Tree):∀ (l:List Tree) (S:Mk),partsP (l++[t]) S=((partP t (partsP l S).1).1,(partsP l S).2++[(partP t (partsP l S).1).2])
 |[],S=>by simp [partsP]
 |x::l,S=>by simp only [List.cons_append,partsP,xzjl t l]
theorem xznz:∀ {l:List Tree},okTs l->∀ t∈l,t.okT
 |[],_,t,ht=>by simp at ht
 |x::l,h,t,ht=>by
  unfold okTs at h
  rcases List.mem_cons.1 ht with rfl|ht
  ·exact h.1
  ·exact xznz h.2 t ht
theorem xzkn:∀ {l:List Tree} (j:Nat),okTs l->okTs (l.take j)
 |[],j,h=>by simpa using h
 |x::l,0,h=>by unfold okTs;trivial
 |x::l,j+1,h=>by
  unfold okTs at h;simp only [List.take_succ_cons];unfold okTs;exact⟨h.1,xzkn j h.2⟩
theorem xzko (t:Tree):∀ l:List Tree,sumN (l++[t])=sumN l+t.plN
 |[]=>by simp [sumN]
 |x::l=>by simp only [List.cons_append,sumN,xzko t l];omega
theorem xzgo:∀ (l:List Tree) (j:Nat),sumN (l.take j)<=sumN l
 |[],j=>by simp
 |x::l,0=>by simp [sumN]
 |x::l,j+1=>by have:=xzgo l j;simp only [List.take_succ_cons,sumN];omega
set_option maxRecDepth 20000 in
set_option maxHeartbeats 16000000 in
theorem xzpx (l:List Tree)(IH:∀ t∈l,PartIs t)(hokT:okTs l)(M K:Nat->Bool)(S:Mk)(A:Option Addr)(c:Nat)(pb:Nat)(r f e m:Value)(w:World)(hm:MkAt M K w pb S r f e m)
 (hat:l≠[]->∃ b o,A=some ⟨b,o,none⟩/\∀ (i:Nat) (h:i<l.length),∃ cs:List Value,Tree.At (hide w M) l[i] (.agg cs.toArray)/\cs.length=8/\(hide w M).rangeAt b (o+i*8) cs)
 (hS:S.Ok)(hn:S.sets.length+sumN l<=1048576)(hll:l.length<=1048576)(hM:∀ k,M k=true->k<w.heap.size)(hK:∀ k,K k=true->k<w.heap.size):
 Calls Tryz.prog 98 #[.pointer (some ⟨pb,0,none⟩),.slice A l.length c] w fun x w'=>∃ M' v',x=.returned v'/\Nx M M' w w'/\(∀ k,M' k=true->k<w'.heap.size)/\MkAt M' K w' pb (partsP l S).1 r f e m/\PrtsAt (hide w' (MK M' K)) (hide w' M') (partsP l S).2 v':=by
 obtain⟨cur,hcs,hmk⟩:=xzvq l.length (by omega) w;have hb1:Below w.heap.size w (w.alloc (.cells cur 149)):=(Below.refl _ _).alloc (Nat.le_refl _) _
 have hMf:∀ k,w.heap.size<=k->M k=false:=fun k hk=>by
  rw [Bool.eq_false_iff];intro e;have:=hM k e;omega
 have ho:(w.alloc (.cells cur 149)).ownsRow 0 149 3 (.slice (some ⟨w.heap.size,0,none⟩) 0 l.length) 0 []:=World.ownsRow_made w cur l.length (Nat.zero_le _) (by unfold maxLen;omega) hcs;have H0:=zd (show MkAt M (Kor K w.heap.size) (w.alloc (.cells cur 149)) pb S r f e m/\Nx M M w (w.alloc (.cells cur 149))/\_ from⟨hm.new hb1 (Nat.le_refl _),Nx.below hb1,ho⟩);have HAT:=zd hat;have HMM:=zd (And.intro hM (And.intro hK hMf));have HIH:=zd IH;have HOK:=zd hokT;have HS:=zd hS;have HPO:=zd (fun j=>partsP_ok (l.take j) S (xzkn j hokT) hS);have HSN:=zd (fun(j:Nat) (h:j<l.length)=>(show partsP (l.take (j+1)) S=((partP l[j] (partsP (l.take j) S).1).1,(partsP (l.take j) S).2++[(partP l[j] (partsP (l.take j) S).1).2])by rw [List.take_succ_eq_append_getElem h];exact xzjl l[j] (l.take j) S))
 have HNN:=zd (fun(j:Nat) (h:j<l.length)=>(show S.sets.length+sumN (l.take j)+(l[j]).plN<=1048576 by
  have h1:=xzgo l (j+1);rw [List.take_succ_eq_append_getElem h,xzko]at h1
  omega))
 clear hat hM hK hMf IH hokT hS hm ho hb1 hcs
 go_enter Tryz.func98,Tryz.ntmps98
 go_wp2
 go_loopw [5,13] (fun s i wr=>∃ (j:Nat) (M1:Nat->Bool),s=.slice (some ⟨w.heap.size,0,none⟩) j l.length/\i=.int .i64 j/\j<=l.length/\Hid (∃ xs,MkAt M1 (Kor K w.heap.size) wr pb (partsP (l.take j) S).1 r f e m/\Nx M M1 w wr/\(∀ k,M1 k=true->k<wr.heap.size)/\M1 w.heap.size=false/\
  wr.ownsRow 0 149 3 (.slice (some ⟨w.heap.size,0,none⟩) j l.length) j xs/\PrtL (hide wr (MK M1 (Kor K w.heap.size))) (partsP (l.take j) S).2 xs)) (fun _ i _=>l.length - (intOf i).toNat)
 case atStart=>exact⟨0,M,rfl,rfl,Nat.zero_le _,zd ⟨[],H0.out.1,H0.out.2.1,fun k hk=>Nat.lt_of_lt_of_le (HMM.out.1 k hk) (by simp),HMM.out.2.2 _ (Nat.le_refl _),H0.out.2.2,PrtL.nil _⟩⟩
 case round=>
  obtain⟨j,M1,rfl,rfl,hj,HH⟩:=hrel;clear hmk;obtain⟨xs,g1,g2,g3,g4,g5,g6⟩:=HH.out;clear HH
  by_cases hp:j<l.length
  ·have hk1:IntKind.i64.wrap ((j:Int)+1)=((j+1:Nat):Int):=by rw [IntKind.wrap_i64];omega
   have hdl:decide ((j:Int)<(l.length:Int))=true:=by simp;omega
   obtain⟨b,o,rfl,hg⟩:=HAT.out (by intro e;rw [e]at hp;simp at hp);obtain⟨cs,hcat,hlen,hrow⟩:=hg j hp;obtain⟨A',n',c',rfl⟩:=hcat.eight
   have hrow':wr.rangeAt b (o+j*8) (reL (l[j]).kind (l[j]).set A' n' c' (l[j]).lo (l[j]).hi):=fun i u hu=>xzba _ _ (g2.sub1 _ _ (hrow i u hu))
   obtain⟨r0,r1,r2,r3,r4,r5,r6,r7⟩:=xzdg hrow' (Below.refl _ _);have hxb:=BlkIs.new wr 55 (reL (l[j]).kind (l[j]).set A' n' c' (l[j]).lo (l[j]).hi).toArray;have hxw:Below wr.heap.size wr (wr.alloc (.cells (reL (l[j]).kind (l[j]).set A' n' c' (l[j]).lo (l[j]).hi).toArray 55)):=(Below.refl _ _).alloc (Nat.le_refl _) _;obtain⟨W9,hW9⟩:∃ W9,wr.alloc (.cells (reL (l[j]).kind (l[j]).set A' n' c' (l[j]).lo (l[j]).hi).toArray 55)=W9:=⟨_,rfl⟩;rw [hW9]at hxb hxw
   have hcx:=HIH.out _ (List.getElem_mem hp) M1 (Kor K w.heap.size) (partsP (l.take j) S).1 _ pb r f e m W9 (g1.step hxw) ((hcat.sub g2.sub1).sub (xzai _ hxw)) (HPO.out j).1 (by rw [(HPO.out j).2.2.1];exact HNN.out j hp)
    (fun k hk=>Nat.lt_of_lt_of_le (g3 k hk) hxw.size) (xzhz (fun k hk=>Nat.lt_of_lt_of_le (HMM.out.2.1 k hk) (Nat.le_trans g2.size hxw.size)) (Nat.lt_of_lt_of_le (World.ownsRow.lt g5 _ rfl).2 hxw.size))
   have hsn:=HSN.out j hp;have hlt:=(World.ownsRow.lt g5 _ rfl).2;have hG:=And.intro g2 (And.intro hxw (And.intro g4 (And.intro (xzad (W':=W9) g5 fun k hk=>hxw.block k (World.ownsRow.lt g5 k hk).2) (g6.sub (xzai _ hxw)))));have HG:=zd hG;simp only [reL]at hW9;unfold reV reL at*;have HC:=zd hcx;have HSS:=zd hsn;clear hcat hg hrow hrow' hlen hcx hsn hG hxw g1 g2 g3 g4 g5 g6;generalize partP l[j] (partsP (l.take j) S).1=TS at*;generalize(l[j]).kind=kx at*;generalize(l[j]).set=mx at*;generalize(l[j]).lo=lx at*;generalize(l[j]).hi=hx at*;obtain⟨x0,x1,x2,x3,x4,x5,x6,x7⟩:=hxb.eight;clear hxb
   go_wp2_with fail
   go_at_call 80
   refine HC.out.mono ?_;rintro x u1 ⟨M2,v2,rfl,hnx,hlt2,hmk2,p1,p2,rfl,hp1,hp2⟩;obtain⟨Y1,y1,rfl,_⟩:=hp1.form;obtain⟨Y2,y2,rfl,_⟩:=hp2.form;have hBW:w.heap.size<W9.heap.size:=(World.ownsRow.lt HG.out.2.2.2.1 _ rfl).2;have hMB:M2 w.heap.size=false:=(hnx.mine _ hBW).trans HG.out.2.2.1;have hbA:Below u1.heap.size u1 (u1.alloc (.cells #[.slice Y1 TS.2.first.length y1,.slice Y2 TS.2.ends.length y2,.bool TS.2.empty] 149)):=(Below.refl _ _).alloc (Nat.le_refl _) _
   have hown:=xzad (W':=u1) HG.out.2.2.2.1 fun k hk=>by
    injection hk with hk
    subst hk;exact hnx.block _ hBW HG.out.2.2.1
   have hownA:=xzad (W':=u1.alloc (.cells #[.slice Y1 TS.2.first.length y1,.slice Y2 TS.2.ends.length y2,.bool TS.2.empty] 149)) hown fun k hk=>hbA.block k (World.ownsRow.lt hown k hk).2
   obtain⟨W5,hrun,hown5,hgr⟩:=xzvp hownA hp (BlkIs.new u1 149 #[.slice Y1 TS.2.first.length y1,.slice Y2 TS.2.ends.length y2,.bool TS.2.empty]) rfl rfl rfl;have hkB:Kor K w.heap.size w.heap.size=true:=xzkm _ _
   have hsub5:Sub (hide u1 (MK M2 (Kor K w.heap.size))) (hide W5 (MK M2 (Kor K w.heap.size))):=(xzai _ hbA).trans (xzbf fun k k1 k2=>⟨k1,hgr.block k k2 (fun e=>by
    injection e with e
    rw [MK_no,e,hkB]at k1
    cases k1.2)⟩)
   have hnx5:Nx M M2 w W5:=by
    have h:=HG.out.1.trans ((Nx.below HG.out.2.1).trans (hnx.trans (Nx.below hbA)));exact⟨hgr.os.trans h.os,hgr.tape.trans h.tape,hgr.output.trans h.output,Nat.le_trans h.size hgr.size,fun k hk hm=>(hgr.block k (Nat.lt_of_lt_of_le hk h.size) (fun e=>by injection e with e;omega)).trans (h.block k hk hm),h.mine⟩
   have HF:=zd (show ∃ xs,MkAt M2 (Kor K w.heap.size) W5 pb (partsP (l.take (j+1)) S).1 r f e m/\Nx M M2 w W5/\(∀ k,M2 k=true->k<W5.heap.size)/\M2 w.heap.size=false/\
    W5.ownsRow 0 149 3 (.slice (some ⟨w.heap.size,0,none⟩) (j+1) l.length) (j+1) xs/\PrtL (hide W5 (MK M2 (Kor K w.heap.size))) (partsP (l.take (j+1)) S).2 xs from by
    rw [HSS.out]
    refine⟨_,(hmk2.step hbA).sub (fun k hk hm=>hgr.block k hk (fun e=>by injection e with e;rw [e,hMB]at hm;cases hm)) (xzbf fun k k1 k2=>⟨k1,hgr.block k k2 (fun e=>by
     injection e with e
     rw [MK_no,e,hkB]at k1
     cases k1.2)⟩),hnx5,fun k hk=>Nat.lt_of_lt_of_le (hlt2 k hk) (Nat.le_trans hbA.size hgr.size),hMB,hown5,PrtL.snoc ((HG.out.2.2.2.2.sub (hnx.sub _)).sub hsub5) (hp1.sub hsub5) (hp2.sub hsub5)⟩)
   clear hnx hlt2 hmk2 hp1 hp2 hbA hown hownA hown5 hgr hsub5 hnx5
   go_wp2_with(refine xzan rfl _ _ 172 172 rfl rfl rfl hrun ?_)
   exact⟨⟨j+1,M2,rfl,rfl,hp,HF⟩,by simp [intOf];omega⟩
  ·have hdl:decide ((j:Int)<(l.length:Int))=false:=by simp;omega
   obtain rfl:j=l.length:=by omega
   rw [List.take_length]at g1 g6
   have HF:=zd (show MkAt M1 K wr pb (partsP l S).1 r f e m/\PrtsAt (hide wr (MK M1 K)) (hide wr M1) (partsP l S).2 (.slice (some ⟨w.heap.size,0,none⟩) l.length l.length)from by
    refine⟨g1.less,?_⟩
    have hlen:(partsP l S).2.length=l.length:=by have:=(HPO.out l.length).2.2.2;rw [List.take_length]at this;exact this
    have ho:(hide wr M1).ownsRow 0 149 3 (.slice (some ⟨w.heap.size,0,none⟩) l.length l.length) l.length xs:=xzad g5 fun k hk=>by
     injection hk with hk
     subst hk;rw [xzel,g4];simp
    exact PrtL.parts (g6.sub xzgc) hlen.symm ho)
   have HE:=zd (And.intro g2 g3);clear g1 g2 g3 g4 g5 g6;go_wp2;go_ret;exact⟨M1,_,rfl,HE.out.1,HE.out.2,HF.out.1,HF.out.2⟩
end
section
open Go.RowKit
attribute [local irreducible] FreeW textFrame
theorem MkAt.read {M K:Nat->Bool}{W:World}{pb:Nat}{S:Mk}{r f e m:Value}(h:MkAt M K W pb S r f e m):∃ A c,W.cell? ⟨pb,0,none⟩=some (.slice A S.sets.length c):=by
 obtain⟨vs,vf,xs,h⟩:=h;obtain⟨A,c,rfl,_⟩:=xzbb h.own0;exact⟨A,c,(six h.blk).1⟩
theorem PrtsAt.one {V W:World}{p:Prt}{g:Nat}{p1 p2:Value}(h1:IntsV V p.first p1)(h2:IntsV V p.ends p2)(h:BlkIs W g 149 #[p1,p2,.bool p.empty]):PrtsAt V W [p] (.slice (some ⟨g,0,none⟩) 1 1):=
 ⟨_,_,rfl,⟨by simp,by decide⟩,fun _=>⟨g,0,rfl,fun i hi=>by
  simp only [List.length_singleton]at hi
  obtain rfl:i=0:=by omega
  exact⟨p1,p2,by simpa using h.cell 0,by simpa using h.cell 1,by simpa using h.cell 2,h1,h2⟩⟩⟩
theorem BlkIs.hidden {W:World}{M:Nat->Bool}{g:Nat}{t:TypeId}{cs:Array Value}(h:BlkIs W g t cs)(hm:M g=false):BlkIs (hide W M) g t cs:=by
 unfold BlkIs at*;rw [xzel,h,hm];rfl
set_option maxRecDepth 20000 in
set_option maxHeartbeats 16000000 in
theorem xzml (mm:Nat->Bool)(A:Option Addr)(n c:Nat)(lo hi:Int)(hz:copiesI lo hi=0)(pb:Nat)(w:World):
 Calls Tryz.prog 100 #[.pointer (some ⟨pb,0,none⟩),reV 4 mm A n c lo hi] w fun x w'=>x=.returned (.slice none 0 0)/\Below w.heap.size w w':=by
 have hb:Below w.heap.size w (w.alloc (.cells (reL 4 mm A n c lo hi).toArray 55)):=(Below.refl _ _).alloc (Nat.le_refl _) _;have hx:=BlkIs.new w 55 (reL 4 mm A n c lo hi).toArray;have HC:=zd (fun u=>xzhs 4 mm A n c lo hi u);rw [hz]at HC;have HB:=zd hb;obtain⟨d0,d1,d2,d3,d4,d5,d6,d7⟩:=hx.eight;unfold reV reL at*;clear hb hx hz
 go_enter Tryz.func100,Tryz.ntmps100
 go_wp2_with fail
 go_at_call 95
 refine(HC.out _).mono ?_;rintro x u ⟨rfl,hu⟩;have HU:=zd (HB.out.trans (hu.mono HB.out.size));clear hu;go_wp2;go_ret;exact⟨rfl,HU.out⟩
set_option maxRecDepth 20000 in
set_option maxHeartbeats 16000000 in
theorem xzoa (t:Tree)(IH:PartIs t)(hokt:t.okT)(M K:Nat->Bool)(S:Mk)(mm:Nat->Bool)(A:Option Addr)(c:Nat)(lo hi:Int)(hz:copiesI lo hi=1)(pb:Nat)(r f e m:Value)(w:World)(hm:MkAt M K w pb S r f e m)
 (hat:∃ b o,A=some ⟨b,o,none⟩/\∃ cs:List Value,Tree.At (hide w M) t (.agg cs.toArray)/\cs.length=8/\(hide w M).rangeAt b o cs)
 (hS:S.Ok)(hn:S.sets.length+t.plN<=1048576)(hM:∀ k,M k=true->k<w.heap.size)(hK:∀ k,K k=true->k<w.heap.size):
 Calls Tryz.prog 100 #[.pointer (some ⟨pb,0,none⟩),reV 4 mm A 1 c lo hi] w fun x w'=>∃ M' v',x=.returned v'/\Nx M M' w w'/\(∀ k,M' k=true->k<w'.heap.size)/\
  MkAt M' K w' pb ⟨(partP t S).1.sets,if hi= -1 then linkF (partP t S).1.follow (partP t S).2.ends (partP t S).2.first else(partP t S).1.follow⟩ r f e m/\PrtsAt (hide w' (MK M' K)) (hide w' M') [(partP t S).2] v':=by
 have hb:Below w.heap.size w (w.alloc (.cells (reL 4 mm A 1 c lo hi).toArray 55)):=(Below.refl _ _).alloc (Nat.le_refl _) _;have hx:=BlkIs.new w 55 (reL 4 mm A 1 c lo hi).toArray;have HC:=zd (fun u=>xzhs 4 mm A 1 c lo hi u);rw [hz]at HC;obtain⟨b,o,rfl,cs,hcat,hlen,hrow⟩:=hat;obtain⟨A',n',c',rfl⟩:=hcat.eight;obtain⟨hpo,hp2,hp3⟩:=xzkl t S hokt hS;have HP:=zd (And.intro hpo (And.intro hp2 (show(partP t S).1.sets.length<=1048576 by omega)));have HI:=zd (fun u (hu:Below w.heap.size w u)=>IH M K S _ pb r f e m u (hm.step hu) (hcat.sub (xzai _ hu)) hS hn (fun k hk=>Nat.lt_of_lt_of_le (hM k hk) hu.size) (fun k hk=>Nat.lt_of_lt_of_le (hK k hk) hu.size));have HR:=zd (fun u (hu:Below w.heap.size w u)=>xzdg (fun i x hi=>(hu.cell (World.block_lt_of_cell? w _ (xzba _ _ (hrow i x hi)))).trans (xzba _ _ (hrow i x hi))) (Below.refl u.heap.size u));have HMR:=zd (fun u (hu:Below w.heap.size w u)=>(hm.step hu).read);have HX:=zd (And.intro hb hx);have HK:=zd hK;have HMF:=zd (show M w.heap.size=false by rw [Bool.eq_false_iff];intro e;have:=hM _ e;omega);obtain⟨d0,d1,d2,d3,d4,d5,d6,d7⟩:=hx.eight;have hc1:1<=1:=Nat.le_refl _;unfold reV reL at*;clear hb hx hz hcat hrow hlen hpo hp2 hp3 hm hS hn hM hK IH hokt hc1;generalize partP t S=TS at*
 obtain⟨F,hF⟩:∃ F,F=if hi= -1 then linkF TS.1.follow TS.2.ends TS.2.first else TS.1.follow:=⟨_,rfl⟩
 rw [<-hF];have HF:=zd hF;clear hF;generalize t.kind=kx at*;generalize t.set=mx at*;generalize t.lo=lx at*;generalize t.hi=hxx at*
 go_enter Tryz.func100,Tryz.ntmps100
 go_wp2_with fail
 go_at_call 95
 refine(HC.out _).mono ?_;rintro x u ⟨rfl,hu⟩;have hbu:=HX.out.1.trans (hu.mono HX.out.1.size);have hxu:=HX.out.2.step hu;have HU:=zd (And.intro hbu hxu);obtain⟨As,cs,hvs⟩:=HMR.out u hbu;obtain⟨r0,r1,r2,r3,r4,r5,r6,r7⟩:=HR.out u hbu;clear d0 d1 d2 d3 d4 d5 d6 d7;obtain⟨d0,d1,d2,d3,d4,d5,d6,d7⟩:=hxu.eight;have HI2:=zd (HI.out u hbu);clear hu hbu hxu
 go_wp2_with fail
 go_at_call 80
 refine HI2.out.mono ?_;rintro x u1 ⟨M1,v1,rfl,hnx,hlt1,hmk,p1,p2,rfl,hp1,hp2⟩;obtain⟨Y1,y1,rfl,_⟩:=hp1.form;obtain⟨Y2,y2,rfl,_⟩:=hp2.form;obtain⟨U2,hU2⟩:∃ U2,u1.alloc (.cells #[.slice Y1 TS.2.first.length y1,.slice Y2 TS.2.ends.length y2,.bool TS.2.empty] 149)=U2:=⟨_,rfl⟩;obtain⟨U3,hU3⟩:∃ U3,U2.alloc (.cells #[.slice Y1 TS.2.first.length y1,.slice Y2 TS.2.ends.length y2,.bool TS.2.empty] 149)=U3:=⟨_,rfl⟩
 have hb2:Below u1.heap.size u1 U2:=by rw [<-hU2];exact(Below.refl _ _).alloc (Nat.le_refl _) _
 have hs2:U2.heap.size=u1.heap.size+1:=by rw [<-hU2];simp
 have hf2:BlkIs U2 u1.heap.size 149 #[.slice Y1 TS.2.first.length y1,.slice Y2 TS.2.ends.length y2,.bool TS.2.empty]:=by rw [<-hU2];exact BlkIs.new _ _ _
 have hb3:Below U2.heap.size U2 U3:=by rw [<-hU3];exact(Below.refl _ _).alloc (Nat.le_refl _) _
 have hf3:BlkIs U3 U2.heap.size 149 #[.slice Y1 TS.2.first.length y1,.slice Y2 TS.2.ends.length y2,.bool TS.2.empty]:=by rw [<-hU3];exact BlkIs.new _ _ _
 have hb23:Below u1.heap.size u1 U3:=hb2.trans (hb3.mono hb2.size);have hx3:BlkIs U3 w.heap.size 55 _:=((HU.out.2.nx hnx HMF.out).step hb2).step hb3
 have hmu:M1 U2.heap.size=false:=by rw [Bool.eq_false_iff];intro e;have:=hlt1 _ e;omega
 rw [hs2]at hf3 hmu;have hn3:Nx M M1 w U3:=(Nx.below HU.out.1).trans (hnx.trans (Nx.below hb23));obtain⟨Bs,bs,hvs2⟩:=(hmk.step hb2).read;obtain⟨f0,f1,f2,_,_,_⟩:=three hf2;have H3:=zd (And.intro hn3 (And.intro (hmk.step hb23) (And.intro (hp1.sub (xzai _ hb23)) (And.intro (hp2.sub (xzai _ hb23)) (And.intro hf3 hmu)))));have HL1:=zd (fun k hk=>Nat.lt_of_lt_of_le (hlt1 k hk) hb23.size);have HX3:=zd hx3;clear d0 d1 d2 d3 d4 d5 d6 d7 r0 r1 r2 r3 r4 r5 r6 r7 hvs hnx hlt1 hmk hp1 hp2 hb2 hb3 hb23 hf2 hx3 hn3 hmu;go_wp2;obtain⟨U3',hU3'⟩:∃ u,u=U3:=⟨_,rfl⟩
 go_loopw [9] (fun s wr=>s=.slice (some ⟨u1.heap.size+1,0,none⟩) 1 1/\Hid (wr=U3)) (fun _ _=>0)
 case atStart=>exact⟨rfl,zd rfl⟩
 case round=>
  obtain⟨rfl,HH⟩:=hrel;obtain rfl:=HH.out;clear HH;obtain⟨d0,d1,d2,d3,d4,d5,d6,d7⟩:=HX3.out.eight;obtain⟨f0,f1,f2,_,_,_⟩:=three H3.out.2.2.2.2.1
  by_cases hh:hi= -1
  ·have e1:(hi== -1)=true:=by simp [hh]
   have HFF:=zd (show F=linkF TS.1.follow TS.2.ends TS.2.first by rw [HF.out,if_pos hh]);clear hh;obtain⟨U4,hU4⟩:∃ U4,wr.alloc (.cells #[.slice Y1 TS.2.first.length y1,.slice Y2 TS.2.ends.length y2,.bool TS.2.empty] 149)=U4:=⟨_,rfl⟩
   have hb4:Below wr.heap.size wr U4:=by rw [<-hU4];exact(Below.refl _ _).alloc (Nat.le_refl _) _
   have hf4:BlkIs U4 wr.heap.size 149 #[.slice Y1 TS.2.first.length y1,.slice Y2 TS.2.ends.length y2,.bool TS.2.empty]:=by rw [<-hU4];exact BlkIs.new _ _ _
   obtain⟨g0,g1,g2,_,_,_⟩:=three hf4
   have HLK:=zd (xzvm M1 K TS.1 TS.2.ends TS.2.first _ _ pb r f e m U4 (H3.out.2.1.step hb4) (H3.out.2.2.2.1.sub (xzai _ hb4)) (H3.out.2.2.1.sub (xzai _ hb4)) HP.out.1 HP.out.2.1.2 HP.out.2.1.1 HP.out.2.2
    (fun k hk=>Nat.lt_of_lt_of_le (HL1.out k hk) hb4.size) (fun k hk=>by have:=HK.out k hk;have:=H3.out.1.size;have:=hb4.size;omega))
   have H4:=zd (And.intro hb4 (H3.out.2.2.2.2.1.step hb4));clear hb4 hf4
   go_wp2_with fail
   go_at_call 117
   refine HLK.out.mono ?_;rintro x u5 ⟨y,rfl,hnx5,hmk5⟩;have HN5:=zd hnx5;have HK5:=zd hmk5;clear hnx5 hmk5;go_wp2;go_ret;have hns:=(Nx.below H4.out.1 (M:=M1)).trans HN5.out;have hfe:=H4.out.2.nx HN5.out H3.out.2.2.2.2.2;exact⟨M1,_,rfl,H3.out.1.trans hns,fun k hk=>Nat.lt_of_lt_of_le (HL1.out k hk) hns.size,by rw [HFF.out];exact HK5.out,PrtsAt.one (H3.out.2.2.1.sub (hns.sub K)) (H3.out.2.2.2.1.sub (hns.sub K)) (hfe.hidden H3.out.2.2.2.2.2)⟩
  ·have e1:(hi== -1)=false:=by simp [hh]
   have HFF:=zd (show F=TS.1.follow by rw [HF.out,if_neg hh]);clear hh;go_wp2;go_ret;exact⟨M1,_,rfl,H3.out.1,HL1.out,by rw [HFF.out];exact H3.out.2.1,PrtsAt.one H3.out.2.2.1 H3.out.2.2.2.1 (H3.out.2.2.2.2.1.hidden H3.out.2.2.2.2.2)⟩
end
end Go.Proofs.YtdjpphjpnkfeiaaGreatDoor
