/-
 WHAT nfa's place ANSWERS: a contract. Condition: at most 2^20 places.
-/
import Derived.Test.YtgbljnnmhmlifaaGreatDoorQG14
import Derived.Test.YtgbljnnmhmlifaaGreatDoorQG13
namespace Go.Proofs.YtgbljnnmhmlifaaGreatDoor
section
open Go.RowKit
attribute [local irreducible] FreeW textFrame
theorem xzau {W:World}{B:Nat}{t:TypeId}{z n:Nat}{v:Value}{xs:List Value}(h:W.ownsRow B t z v n xs):∃ A c,v=.slice A n c/\(n<=c/\c<=9223372036854775807):=by
 rcases h.2 with⟨rfl,rfl⟩|⟨g,cap,cur,rfl,_,_,h1,h2,_⟩
 ·exact⟨none,0,rfl,by omega,by omega⟩
 ·exact⟨_,cap,rfl,h1,by unfold maxLen at h2;omega⟩
theorem IntsV.one {W:World}{K:Nat->Bool}{g:Nat}{x:Int}(h:BlkIs W g 3 #[.int .i64 x])(hK:K g=false):IntsV (hide W K) [x] (.slice (some ⟨g,0,none⟩) 1 1):=
 RunAt.ints (l:=[x]) ⟨by simp,fun i hi=>xzdm hK (by
  simp only [List.length_singleton]at hi
  obtain rfl:i=0:=by omega
  rw [Nat.add_zero,h.cell 0];rfl)⟩
set_option maxRecDepth 20000 in
set_option maxHeartbeats 16000000 in
theorem yzat (M K:Nat->Bool)(S:Mk)(ms:Nat->Bool)(pb:Nat)(r f e m:Value)(w:World)(hm:MkAt M K w pb S r f e m)(hS:S.follow.length=S.sets.length)(hn:S.sets.length<=1048576)(hM:∀ k,M k=true->k<w.heap.size)(hK:∀ k,K k=true->k<w.heap.size):
 Calls Tryz.prog 66 #[.pointer (some ⟨pb,0,none⟩),.agg #[.int .u64 (wd ms 0:Nat),.int .u64 (wd ms 1:Nat),.int .u64 (wd ms 2:Nat),.int .u64 (wd ms 3:Nat)]] w fun x w'=>∃ M' v',x=.returned v'/\Nx M M' w w'/\(∀ k,M' k=true->k<w'.heap.size)/\MkAt M' K w' pb (placeS S ms) r f e m/\PrtV (hide w' (MK M' K)) ⟨[(S.sets.length:Int)],[(S.sets.length:Int)],false⟩ v':=by
 obtain⟨w2,hw2⟩:∃ w2,(w.alloc (.cells #[.int .u64 (wd ms 0:Nat),.int .u64 (wd ms 1:Nat),.int .u64 (wd ms 2:Nat),.int .u64 (wd ms 3:Nat)] 47)).alloc (.cells #[.slice none 0 0,.slice none 0 0,.bool false] 79)=w2:=⟨_,rfl⟩
 have hb2:Below w.heap.size w w2:=by rw [<-hw2];exact((Below.refl _ _).alloc (Nat.le_refl _) _).alloc (by simp) _
 have hs2:w2.heap.size=w.heap.size+2:=by rw [<-hw2];simp
 have hx0:BlkIs w2 w.heap.size 47 #[.int .u64 (wd ms 0:Nat),.int .u64 (wd ms 1:Nat),.int .u64 (wd ms 2:Nat),.int .u64 (wd ms 3:Nat)]:=by rw [<-hw2];exact(BlkIs.new w _ _).alloc _
 have hx1:BlkIs w2 (w.heap.size+1) 79 #[.slice none 0 0,.slice none 0 0,.bool false]:=by
  rw [<-hw2];have h:=BlkIs.new (w.alloc (.cells #[.int .u64 (wd ms 0:Nat),.int .u64 (wd ms 1:Nat),.int .u64 (wd ms 2:Nat),.int .u64 (wd ms 3:Nat)] 47)) 79 #[.slice none 0 0,.slice none 0 0,.bool false];rw [World.size_alloc]at h;exact h
 have hMf:∀ k,w.heap.size<=k->M k=false:=fun k hk=>by
  rw [Bool.eq_false_iff];intro e;have:=hM k e;omega
 obtain⟨vs,vf,xs,hmi⟩:=hm.new (b:=w.heap.size+1) hb2 (by omega);obtain⟨As,cs,rfl,hcs⟩:=xzau hmi.own0;obtain⟨Af,cf,rfl,hcf⟩:=xzau hmi.own3;obtain⟨vf,hvf⟩:∃ vf,Value.slice Af S.follow.length cf=vf:=⟨_,rfl⟩;rw [hvf]at hmi;have HMI:=zd hmi;have HBX:=zd (And.intro hx0 hx1);have HOW:=zd (show ∀ k,(Value.slice As S.sets.length cs).ownBlock=some k->k<w2.heap.size from fun k hk=>(World.ownsRow.lt hmi.own0 k hk).2);have HMK:=zd (And.intro hM (And.intro hK hMf));have HS:=zd (And.intro hb2 hs2);have HSL:=zd hS;obtain⟨k0,k1,k2,k3,k4,k5⟩:=six hmi.blk;obtain⟨y0,y1,y2,y3,_,_,_,_⟩:=hx0.four;clear hmi hx0 hx1 hb2 hs2 hMf hM hK hS hm
 go_enter Tryz.func66,Tryz.ntmps66
 go_wp2_with fail
 refine xzag 12 41 (fun u=>Hid (MkI M (Kor K (w.heap.size+1)) u pb S r f e m (.slice As S.sets.length cs) vf xs/\Nx M M w2 u/\BlkIs u w.heap.size 47 #[.int .u64 (wd ms 0:Nat),.int .u64 (wd ms 1:Nat),.int .u64 (wd ms 2:Nat),.int .u64 (wd ms 3:Nat)])) (fun i u u'=>(i=8->u.grownBy u' (Value.slice As S.sets.length cs).ownBlock/\u'.ownsRow 0 47 4 (.slice As S.sets.length cs) S.sets.length (cellsS S.sets))/\(i≠8->Below u.heap.size u u'))
  (fun i v u=>match i with
   |0=>v=.pointer (some ⟨pb,0,none⟩)
   |1=>v=.pointer (some ⟨pb,0,none⟩)
   |2=>v=.pointer (some ⟨pb,0,none⟩)
   |3=>v=.pointer (some ⟨pb,0,none⟩)
   |4=>v=.pointer (some ⟨pb,0,none⟩)
   |5=>v=.slice As S.sets.length cs
   |6=>v=.agg #[.int .u64 (wd ms 0:Nat),.int .u64 (wd ms 1:Nat),.int .u64 (wd ms 2:Nat),.int .u64 (wd ms 3:Nat)]
   |7=>∃ g,v=.slice (some ⟨g,0,none⟩) 1 1/\BlkIs u g 47 #[.int .u64 (wd ms 0:Nat),.int .u64 (wd ms 1:Nat),.int .u64 (wd ms 2:Nat),.int .u64 (wd ms 3:Nat)]/\w2.heap.size<=g
   |8=>u.ownsRow 0 47 4 v (S.sets++[ms]).length (cellsS (S.sets++[ms]))/\(v.ownBlock=(Value.slice As S.sets.length cs).ownBlock\/ ∃ g,v.ownBlock=some g/\w2.heap.size<=g)
   |9=>v=.pointer (some ⟨pb,0,none⟩)
   |10=>v=.pointer (some ⟨pb,0,none⟩)
   |11=>v=.pointer (some ⟨pb,0,none⟩)
   |_=>True) (by kernel_rfl) (by kernel_rfl) rfl (zd ⟨HMI.out.step (Below.refl _ _).drew,Nx.below (Below.refl _ _).drew,HBX.out.1.drew⟩) ?_ ?_ ?_ ?_
 ·intro i u u' hi hC hr
  by_cases hi8:i=8
  ·obtain⟨g1,g2⟩:=hr.1 hi8
   exact zd ⟨hC.out.1.grown0 g1 g2,hC.out.2.1.trans (Nx.grown g1 fun k hk=>(hC.out.1.far0 k hk).1),(g1.block _ hC.out.2.2.lt (fun e=>by have:=HOW.out w.heap.size e.symm;have:=(hC.out.1.far0 _ e.symm).1;exact absurd (HMK.out.1 _ this) (by omega))).trans hC.out.2.2⟩
  ·have hb:=hr.2 hi8
   exact zd ⟨hC.out.1.step hb,hC.out.2.1.trans (Nx.below hb),hC.out.2.2.step hb⟩
 ·intro i j v u u' hi hj hne hv hr
  match i,hi,hne,hv with
  |0,_,_,hv=>exact hv
  |1,_,_,hv=>exact hv
  |2,_,_,hv=>exact hv
  |3,_,_,hv=>exact hv
  |4,_,_,hv=>exact hv
  |5,_,_,hv=>exact hv
  |6,_,_,hv=>exact hv
  |7,_,hne,hv=>
   obtain⟨g,e1,e2,e3⟩:=hv;refine⟨g,e1,?_,e3⟩
   by_cases hj8:j=8
   ·exact((hr.1 hj8).1.block g e2.lt (fun e=>by have:=HOW.out g e.symm;omega)).trans e2
   ·exact e2.step (hr.2 hj8)
  |8,_,hne,hv=>
   exact⟨xzac hv.1 fun k hk=>(hr.2 (Ne.symm hne)).block k (World.ownsRow.lt hv.1 k hk).2,hv.2⟩
  |9,_,_,hv=>exact hv
  |10,_,_,hv=>exact hv
  |11,_,_,hv=>exact hv
  |i+12,hi,_,_=>omega
 ·intro i hi vs u hC hw oq ho
  match i,hi,hw,ho with
  |0,_,hw,ho=>
   simp only [zq,zh]at ho;subst ho;refine⟨rfl,?_⟩;obtain⟨k0,k1,k2,k3,k4,k5⟩:=six hC.out.1.blk;obtain⟨y0,y1,y2,y3,_,_,_,_⟩:=hC.out.2.2.four;clear hw;simp only [xzaa,tmpsTo];go_simp;exact xzab (Below.refl _ _) rfl
  |1,_,hw,ho=>
   simp only [zq,zh]at ho;subst ho;refine⟨rfl,?_⟩;obtain⟨k0,k1,k2,k3,k4,k5⟩:=six hC.out.1.blk;obtain⟨y0,y1,y2,y3,_,_,_,_⟩:=hC.out.2.2.four;clear hw;simp only [xzaa,tmpsTo,putT,zr];go_simp;exact xzab (Below.refl _ _) rfl
  |2,_,hw,ho=>
   have e1:vs 1=.pointer (some ⟨pb,0,none⟩):=hw 1 (by omega) (by kernel_rfl);simp only [zq,zh]at ho;subst ho;refine⟨rfl,?_⟩;obtain⟨k0,k1,k2,k3,k4,k5⟩:=six hC.out.1.blk;obtain⟨y0,y1,y2,y3,_,_,_,_⟩:=hC.out.2.2.four;clear hw;simp only [xzaa,tmpsTo,putT,zr];rw [e1];clear e1;go_simp;exact xzab (Below.refl _ _) rfl
  |3,_,hw,ho=>
   have e2:vs 2=.pointer (some ⟨pb,0,none⟩):=hw 2 (by omega) (by kernel_rfl);simp only [zq,zh]at ho;subst ho;refine⟨rfl,?_⟩;obtain⟨k0,k1,k2,k3,k4,k5⟩:=six hC.out.1.blk;obtain⟨y0,y1,y2,y3,_,_,_,_⟩:=hC.out.2.2.four;clear hw;simp only [xzaa,tmpsTo,putT,zr];rw [e2];clear e2;go_simp;exact xzab (Below.refl _ _) rfl
  |4,_,hw,ho=>
   have e3:vs 3=.pointer (some ⟨pb,0,none⟩):=hw 3 (by omega) (by kernel_rfl);simp only [zq,zh]at ho;subst ho;refine⟨rfl,?_⟩;obtain⟨k0,k1,k2,k3,k4,k5⟩:=six hC.out.1.blk;obtain⟨y0,y1,y2,y3,_,_,_,_⟩:=hC.out.2.2.four;clear hw;simp only [xzaa,tmpsTo,putT,zr];rw [e3];clear e3;go_simp;exact xzab (Below.refl _ _) rfl
  |5,_,hw,ho=>
   have e4:vs 4=.pointer (some ⟨pb,0,none⟩):=hw 4 (by omega) (by kernel_rfl);simp only [zq,zh]at ho;subst ho;refine⟨rfl,?_⟩;obtain⟨k0,k1,k2,k3,k4,k5⟩:=six hC.out.1.blk;obtain⟨y0,y1,y2,y3,_,_,_,_⟩:=hC.out.2.2.four;clear hw;simp only [xzaa,tmpsTo,putT,zr];rw [e4];clear e4;go_simp;exact xzab (Below.refl _ _) rfl
  |6,_,hw,ho=>
   simp only [zq,zh]at ho;subst ho;refine⟨rfl,?_⟩;obtain⟨k0,k1,k2,k3,k4,k5⟩:=six hC.out.1.blk;obtain⟨y0,y1,y2,y3,_,_,_,_⟩:=hC.out.2.2.four;clear hw;simp only [xzaa,tmpsTo,putT,zr];go_simp;exact xzab (Below.refl _ _) rfl
  |7,_,hw,ho=>
   have e6:vs 6=.agg #[.int .u64 (wd ms 0:Nat),.int .u64 (wd ms 1:Nat),.int .u64 (wd ms 2:Nat),.int .u64 (wd ms 3:Nat)]:=hw 6 (by omega) (by kernel_rfl);simp only [zq,zh]at ho;subst ho;refine⟨rfl,?_⟩;obtain⟨k0,k1,k2,k3,k4,k5⟩:=six hC.out.1.blk;obtain⟨y0,y1,y2,y3,_,_,_,_⟩:=hC.out.2.2.four;clear hw;simp only [xzaa,tmpsTo,putT,zr];rw [e6];clear e6;go_simp;exact xzab ((Below.refl _ _).alloc (Nat.le_refl _) _) ⟨_,rfl,BlkIs.new _ _ _,hC.out.2.1.size⟩
  |8,_,hw,ho=>
   have e5:vs 5=.slice As S.sets.length cs:=hw 5 (by omega) (by kernel_rfl);obtain⟨g,e7,hg1,hg2⟩:∃ g,vs 7=.slice (some ⟨g,0,none⟩) 1 1/\BlkIs u g 47 #[.int .u64 (wd ms 0:Nat),.int .u64 (wd ms 1:Nat),.int .u64 (wd ms 2:Nat),.int .u64 (wd ms 3:Nat)]/\w2.heap.size<=g:=hw 7 (by omega) (by kernel_rfl);simp only [zq,zh]at ho;subst ho;refine⟨rfl,?_⟩;obtain⟨k0,k1,k2,k3,k4,k5⟩:=six hC.out.1.blk;obtain⟨y0,y1,y2,y3,_,_,_,_⟩:=hC.out.2.2.four;clear hw;simp only [xzaa,tmpsTo,putT,zr];rw [e5];clear e5;rw [e7]
   obtain⟨v',W',hrun,k1,k2,k3,k4⟩:=xzjt (S:=S) hC.out.1.own0 (T:=[ms]) (a:=⟨g,0,none⟩) (c:=1) (fun j x hx=>by
    rw [Addr.add_lit,Nat.zero_add,hg1.cell j]
    simpa [cellsS]using hx) (by simp;omega)
   simp only [List.length_singleton]at hrun;rw [xzce (.tmp 17) (.tmp 19) 25 25 rfl rfl rfl hrun];refine xzab ?_ ?_
   ·exact⟨fun _=>⟨k2,k3⟩,fun h=>absurd rfl h⟩
   ·refine⟨k1,?_⟩
    rcases k4 with k4|k4
    ·exact .inl k4
    ·exact .inr ⟨_,k4,hC.out.2.1.size⟩
  |9,_,hw,ho=>
   have e0:vs 0=.pointer (some ⟨pb,0,none⟩):=hw 0 (by omega) (by kernel_rfl);simp only [zq,zh]at ho;subst ho;refine⟨rfl,?_⟩;obtain⟨k0,k1,k2,k3,k4,k5⟩:=six hC.out.1.blk;obtain⟨y0,y1,y2,y3,_,_,_,_⟩:=hC.out.2.2.four;clear hw;simp only [xzaa,tmpsTo,putT,zr];rw [e0];clear e0;go_simp;exact xzab (Below.refl _ _) rfl
  |10,_,hw,ho=>
   have e9:vs 9=.pointer (some ⟨pb,0,none⟩):=hw 9 (by omega) (by kernel_rfl);simp only [zq,zh]at ho;subst ho;refine⟨rfl,?_⟩;obtain⟨k0,k1,k2,k3,k4,k5⟩:=six hC.out.1.blk;obtain⟨y0,y1,y2,y3,_,_,_,_⟩:=hC.out.2.2.four;clear hw;simp only [xzaa,tmpsTo,putT,zr];rw [e9];clear e9;go_simp;exact xzab (Below.refl _ _) rfl
  |11,_,hw,ho=>
   have e10:vs 10=.pointer (some ⟨pb,0,none⟩):=hw 10 (by omega) (by kernel_rfl);simp only [zq,zh]at ho;subst ho;refine⟨rfl,?_⟩;obtain⟨k0,k1,k2,k3,k4,k5⟩:=six hC.out.1.blk;obtain⟨y0,y1,y2,y3,_,_,_,_⟩:=hC.out.2.2.four;clear hw;simp only [xzaa,tmpsTo,putT,zr];rw [e10];clear e10;go_simp;exact xzab (Below.refl _ _) rfl
  |i+12,hi,_,_=>omega
 intro vs1 u hC hV;have h8:u.ownsRow 0 47 4 (vs1 8) (S.sets++[ms]).length (cellsS (S.sets++[ms]))/\((vs1 8).ownBlock=(Value.slice As S.sets.length cs).ownBlock\/ ∃ g,(vs1 8).ownBlock=some g/\w2.heap.size<=g):=hV 8 (by omega);have h11:vs1 11=.pointer (some ⟨pb,0,none⟩):=hV 11 (by omega);clear hV;simp only [xzaa,tmpsTo,putT,zr,List.drop_succ_cons,List.drop_zero];rw [h11];clear h11;generalize vs1 8=v8 at*;generalize vs1 0=q0;generalize vs1 1=q1;generalize vs1 2=q2;generalize vs1 3=q3;generalize vs1 4=q4;generalize vs1 5=q5;generalize vs1 6=q6;generalize vs1 7=q7;generalize vs1 9=q9;generalize vs1 10=q10;obtain⟨n1,m1⟩:=HMI.out.newSets hC.out.2.1 hC.out.1.blk hC.out.1.own3 h8.1 h8.2
 have hl8:(S.sets++[ms]).length=S.sets.length+1:=by simp
 obtain⟨A8,c8,rfl,hc8⟩:=xzau (hl8▸h8.1);clear hl8;obtain⟨U1,hU1⟩:∃ U1,u.setCell ⟨pb,0,none⟩ (.slice A8 (S.sets.length+1) c8)=U1:=⟨_,rfl⟩;rw [hU1]at n1 m1;obtain⟨i0,i1,i2,i3,i4,i5⟩:=six hC.out.1.blk;have fz:=hC.out.1.blk.frozen 0;clear k0 k1 k2 k3 k4 k5 y0 y1 y2 y3;obtain⟨k0,k1,k2,k3,k4,k5⟩:=six m1.blk
 have hbA:Below U1.heap.size U1 (U1.alloc (.cells #[.slice none 0 0] 26)):=(Below.refl _ _).alloc (Nat.le_refl _) _;have hnewA:=BlkIs.new U1 26 #[.slice none 0 0];obtain⟨v9,W9,hrun9,r1,r2,r3,r4⟩:=xzml (m1.step hbA).own3 (a:=⟨U1.heap.size,0,none⟩) (c:=1) (x:=.slice none 0 0) ((hnewA.cell 0).trans rfl) rfl (by show S.follow.length+1<=_;have:=HSL.out;omega);have hnxA:Nx (Mv M (.slice A8 (S.sets.length+1) c8)) (Mv M (.slice A8 (S.sets.length+1) c8)) U1 W9:=(Nx.below hbA).trans (Nx.grown r2 fun k hk=>(m1.far3 k hk).1);have hm9:=(m1.step hbA).grown3 r2 r3
 have hv9:v9.ownBlock=vf.ownBlock\/ ∃ g,v9.ownBlock=some g/\U1.heap.size<=g:=by
  rcases r4 with h|h
  ·exact .inl h
  ·exact .inr ⟨_,h,by simp⟩
 have hxl:xs.length=S.follow.length:=by have:=HMI.out.own3.1;omega
 obtain⟨n2,m2⟩:=m1.newRow hnxA hm9.blk hm9.own0 (l:=[]) (x:=.slice none 0 0) r1 hxl (IntsV.nil _) hv9;obtain⟨A9,c9,rfl,hc9⟩:=xzau r1;obtain⟨U2,hU2⟩:∃ U2,W9.setCell ⟨pb,3,none⟩ (.slice A9 (S.follow.length+1) c9)=U2:=⟨_,rfl⟩;rw [hU2]at n2 m2;obtain⟨j0,j1,j2,j3,j4,j5⟩:=six hm9.blk;have fz3:=hm9.blk.frozen 3
 have hM2:∀ k,w.heap.size+2<=k\/k=w.heap.size+1->U2.heap.size<=k\/k=w.heap.size+1->Mv (Mv M (.slice A8 (S.sets.length+1) c8)) (.slice A9 (S.follow.length+1) c9) k=false:=fun k hk1 hk2=>by
  rw [Mv_no,Mv_no];refine⟨⟨HMK.out.2.2 k (by omega),fun e8=>?_⟩,fun e9=>?_⟩
  ·have hl:=(m2.own0)
   have hlt:=(World.ownsRow.lt m2.own0 k e8).2
   rcases h8.2 with h|⟨g,h1,h2⟩
   ·have hh:=HMI.out.far0 k (h▸e8)
    have:=HMK.out.1 k hh.1;omega
   ·rw [e8]at h1;injection h1 with h1;have:=HS.out.2;omega
  ·have hlt:=(World.ownsRow.lt m2.own3 k e9).2
   rcases hv9 with h|⟨g,h1,h2⟩
   ·have hh:=(HMI.out.far3 k (h▸e9)).1
    have:=HMK.out.1 k hh;omega
   ·rw [e9]at h1;injection h1 with h1;have:=n1.size;have:=HS.out.2;omega
 have hMlt:∀ k,Mv (Mv M (.slice A8 (S.sets.length+1) c8)) (.slice A9 (S.follow.length+1) c9) k=true->k<U2.heap.size:=fun k hk=>by
  rcases Nat.lt_or_ge k U2.heap.size with h|h
  ·exact h
  ·have hz:w.heap.size+2<=U2.heap.size:=by have:=n1.size;have:=n2.size;have:=HS.out.2;omega
   rw [hM2 k (by omega) (by omega)]at hk;cases hk
 have n12:Nx M _ w U2:=(Nx.below HS.out.1).trans (n1.trans n2)
 have hbr:BlkIs U2 (w.heap.size+1) 79 #[.slice none 0 0,.slice none 0 0,.bool false]:=by
  have h:=n1.trans n2;exact HBX.out.2.nx h (HMK.out.2.2 _ (by omega))
 have HM2:=zd m2;have HN:=zd n12;have HMF:=zd hM2;have HML:=zd hMlt;have HBR:=zd hbr;have hsz:=hbr.lt;obtain⟨b0,b1,b2,_,_,_⟩:=three hbr;clear m1 n1 m2 n2 hbA hnewA r1 r2 r3 r4 hnxA hm9 hv9 hM2 hMlt n12 hC h8 hbr;generalize Mv (Mv M (.slice A8 (S.sets.length+1) c8)) (.slice A9 (S.follow.length+1) c9)=M2 at*;have HLT:=zd hsz;obtain⟨U3,hU3⟩:∃ U3,(U2.alloc (.cells #[.int .i64 (S.sets.length:Int)] 3)).alloc (.cells #[.int .i64 (S.sets.length:Int)] 3)=U3:=⟨_,rfl⟩
 have hb3:Below U2.heap.size U2 U3:=by rw [<-hU3];exact((Below.refl _ _).alloc (Nat.le_refl _) _).alloc (by simp) _
 have hg3:BlkIs U3 U2.heap.size 3 #[.int .i64 (S.sets.length:Int)]:=by rw [<-hU3];exact(BlkIs.new U2 _ _).alloc _
 have hg4:BlkIs U3 (U2.heap.size+1) 3 #[.int .i64 (S.sets.length:Int)]:=by
  rw [<-hU3];have h:=BlkIs.new (U2.alloc (.cells #[.int .i64 (S.sets.length:Int)] 3)) 3 #[.int .i64 (S.sets.length:Int)];rw [World.size_alloc]at h;exact h
 clear b0 b1 b2;obtain⟨b0,b1,b2,fb0,fb1,fb2⟩:=three (HBR.out.step hb3);have H3:=zd (And.intro hb3 (And.intro hg3 hg4));have hlt3:w.heap.size+1<U3.heap.size:=(HBR.out.step hb3).lt;clear hb3 hg3 hg4
 go_wp2_with(refine xzan rfl _ _ 27 27 rfl rfl rfl hrun9 ?_)
 have hl:=xzcs (xzcj (x:=.slice (some ⟨U2.heap.size,0,none⟩) 1 1) (y:=.slice (some ⟨U2.heap.size+1,0,none⟩) 1 1) (z:=.bool false) (HBR.out.step H3.out.1));have hkb:Kor K (w.heap.size+1) (w.heap.size+1)=true:=xzgw _ _;have hmb:M2 (w.heap.size+1)=false:=HMF.out _ (.inr rfl) (.inr rfl)
 have hfar:∀ U:World,Sub (hide U (MK M2 (Kor K (w.heap.size+1)))) (hide (((U.setCell ⟨w.heap.size+1,0,none⟩ (.slice (some ⟨U2.heap.size,0,none⟩) 1 1)).setCell ⟨w.heap.size+1,1,none⟩ (.slice (some ⟨U2.heap.size+1,0,none⟩) 1 1)).setCell ⟨w.heap.size+1,2,none⟩ (.bool false)) (MK M2 K)):=fun U=>
  (((xzas (M:=M2) (i:=0) hkb _).trans (xzas (M:=M2) (i:=1) hkb _)).trans (xzas (M:=M2) (i:=2) hkb _)).trans xzea
 have hfree:∀ g,U2.heap.size<=g->MK M2 (Kor K (w.heap.size+1)) g=false:=fun g hg=>by
  rw [MK_no,Kor_no];refine⟨HMF.out g (by have:=HLT.out;omega) (.inl hg),?_,by have:=HLT.out;omega⟩;rw [Bool.eq_false_iff];intro e;have:=HMK.out.2.1 g e;have:=HLT.out;omega
 refine⟨rfl,_,xzae rfl rfl hl,M2,_,rfl,(((HN.out.trans (Nx.below H3.out.1)).far (by omega)).far (by omega)).far (by omega),fun k hk=>?_,?_,_,_,rfl,(IntsV.one H3.out.2.1 (hfree _ (Nat.le_refl _))).sub (hfar U3),(IntsV.one H3.out.2.2 (hfree _ (by omega))).sub (hfar U3)⟩
 ·have:=HML.out k hk
  have:=H3.out.1.size
  simp [World.setCell];omega
 ·have hmm:MkAt M2 (Kor K (w.heap.size+1)) U3 pb (placeS S ms) r f e m:=MkAt.step ⟨_,_,_,HM2.out⟩ H3.out.1
  exact(((hmm.far hkb hmb).far hkb hmb).far hkb hmb).less
end
section
open Go.RowKit
section turn
variable {P : Program} {ops : Array Oper} {C : Bool → World → Prop}
def StandsT (ops:Array Oper)(xo:Nat)(C:Bool->World->Prop)(h:Nat)(V:Nat->Value->World->Prop)(a0:Act)(listed:Array Bool)(a:Act)(u:World):Prop:=
 HeadInv .any ops h listed/\∃ vs:Nat->Value,Came ops (fun i=>listed.getD i false) vs a0 a/\C (listed.getD xo false) u/\(∀ i,i<h->listed.getD i false=true->V i (vs i) u)
def StepT (P:Program)(ops:Array Oper)(xo:Nat)(C:Bool->World->Prop)(R:Nat->World->World->Prop)(V:Nat->Value->World->Prop)(a0:Act)(i:Nat):Prop:=
 ∀ (c:Bool) (vs:Nat->Value) (u:World),(i=xo->c=false)->C c u->(∀ j,j<i->Region.waitsFor .any ops i j=true->V j (vs j) u)->∀ o,ops[i]? =some o->o.guard=none/\actUpon P u (R i) (V i) ((execOp (textFrame ops vs a0 i).eval o).run P u)
variable {xo : Nat} {h N : Nat} {R : Nat → World → World → Prop} {V : Nat → Value → World → Prop} {a0 : Act}
theorem xztk (hsel:Region.noSelect ops=true)(hh:h<=ops.size)(hD:distinctB ops h N=true)(hK:looksB ops h h=true)(hN:a0.tmps.size=N)
 (hCs:∀ i c u u',i<h->(i=xo->c=false)->C c u->R i u u'->C (c||decide (i=xo)) u')(hVs:∀ i j v u u',i<h->j<h->i≠j->V i v u->R j u u'->V i v u'){Q:Exit->Act->World->Prop}{listed:Array Bool}{a:Act}{u:World}(hst:StandsT ops xo C h V a0 listed a u)
 {i:Nat} (hi:i<h) (hr:i∈Region.ready .any ops listed) (hv:StepT P ops xo C R V a0 i):
 wpOp P ops Q i (fun a' u'=>StandsT ops xo C h V a0 (listed.setIfInBounds i true) a' u') a u:=by
 obtain⟨inv,vs,hc,hC,hV⟩:=hst;have hcc:=xzdn hD hN hh vs i (by omega);obtain⟨hun,o',ho',hall⟩:=mem_ready.1 hr;have hunf:=getD_both hun
 have hlt:=fun j hj=>xzff inv j hj
 have hsz:a.tmps.size=(textFrame ops vs a0 i).tmps.size:=hc.2.1.trans hcc.2.1.symm
 have hwait:∀ j,j<i->Region.waitsFor .any ops i j=true->listed.getD j false=true:=fun j _ h3=>by
  obtain⟨oi,hoi,e,he,hbd,hon⟩:=Region.waitsFor_spec h3;obtain rfl:oi=o':=Option.some.inj (hoi.symm.trans ho');have hl:=hall e he hbd;rw [hon]at hl;exact hl
 have hlook:∀ t∈o'.looksAt ops,a.tmps.getD t undef=(textFrame ops vs a0 i).tmps.getD t undef:=fun t ht=>by
  by_cases hwr:∃ j oj,j<h/\ops[j]? =some oj/\oj.dst=some t/\j≠i
  ·obtain⟨j,oj,hj,hoj,hd,hne⟩:=hwr
   obtain⟨h1,h2,h3⟩:=xzek hK hi ho' ht hj hoj hd hne;have hl:=hwait j h1 h3;rw [hc.2.2.1 j oj t hoj hl hd,hcc.2.2.1 j oj t hoj (by simpa using h1) hd]
  ·have hn1:∀ j oj,ops[j]? =some oj->listed.getD j false=true->oj.dst≠some t:=fun j oj hoj hl hd=>by
    by_cases e:j=i
    ·subst e;rw [hunf]at hl;cases hl
    ·exact hwr ⟨j,oj,hlt j hl,hoj,hd,e⟩
   have hn2:∀ j oj,ops[j]? =some oj->decide (j<i)=true->oj.dst≠some t:=fun j oj hoj hl hd=>
    hwr ⟨j,oj,by have:=of_decide_eq_true hl;omega,hoj,hd,by have:=of_decide_eq_true hl;omega⟩
   rw [hc.2.2.2 t hn1,hcc.2.2.2 t hn2]
 obtain⟨hex,hwa⟩:=xzgz (ops:=ops) (Region.noSelect_spec hsel i o' · · ho') hsz hlook
 have hset:∀ (x:Value) (u':World),R i u u'->V i x u'->StandsT ops xo C h V a0 (listed.setIfInBounds i true) (a.put o'.dst x) u':=fun x u' hbu hx=>by
  refine⟨inv.set hr (by omega),fun j=>if j=i then x else vs j,?_,?_,fun j h1 h3=>?_⟩
  ·refine hc.put hD hN (fun j hj=>hlt j hj) hi ho' hunf x (fun j=>?_) (fun j hj=>?_) (by simp)
   ·by_cases e:j=i
    ·subst e
     have:j<listed.size:=by rw [inv.size];omega
     simp [this]
    ·rw [getD_set_ne false (Ne.symm e)];simp [e]
   ·have hne:j≠i:=fun e=>by subst e;rw [hunf]at hj;cases hj
    simp [hne]
  ·have hi2:i<listed.size:=by rw [inv.size];omega
   have hcs:=hCs i _ _ _ hi (fun e=>by rw [<-e];exact hunf) hC hbu
   have eq:(listed.setIfInBounds i true).getD xo false=(listed.getD xo false||decide (i=xo)):=by
    by_cases e:i=xo
    ·subst e;simp [hi2]
    ·rw [getD_set_ne false e];simp [e]
   rw [eq];exact hcs
  ·by_cases e:j=i
   ·subst e;simpa using hx
   ·rw [getD_set_ne false (Ne.symm e)]at h3
    simp only [if_neg e];exact hVs j i _ _ _ h1 hi e (hV j h1 h3) hbu
 obtain⟨hg,hf⟩:=hv _ vs u (fun e=>by rw [<-e];exact hunf) hC (fun j hj hw=>hV j (by omega) (hwait j hj hw)) o' ho';unfold wpOp;simp only [ho']
 have hw:Region.wanted o' (yielded ops a.tmps)=true:=by unfold Region.wanted;rw [hg]
 rw [if_pos hw];refine .inl ?_;rw [<-hex]at hf;unfold Oper.wp;generalize(execOp a.eval o').run P u=r at hf
 cases r with
 |ok nx w'=>
  cases nx<;>simp only [actUpon]at hf<;>simp only [Oper.upon]
  case value x=>exact hset x w' hf.1 hf.2
  case enter f args=>
   obtain⟨rfl,hcall⟩:=hf
   exact hcall.mono fun e w'' ⟨v,he,hbw,hvw⟩=>by subst he;exact hset v w'' hbw hvw
 |halt x w'=>simp only [actUpon]at hf
theorem yzau {Q:Exit->Act->World->Prop}(hB:freeB ops h h N=true)(hN:a0.tmps.size=N)(hCs:∀ i c u u',i<h->(i=xo->c=false)->C c u->R i u u'->C (c||decide (i=xo)) u')(hVs:∀ i j v u u',i<h->j<h->i≠j->V i v u->R j u u'->V i v u')
 (hS:∀ i,i<h->StepT P ops xo C R V a0 i)
 (hend:∀ a u,StandsT ops xo C h V a0 (headArr ops.size h) a u->wpList P ops Q (ops.toList.drop h) a u):
 ∀ (d:Nat) (listed:Array Bool) (a:Act) (u:World),toCome listed h=d->StandsT ops xo C h V a0 listed a u->wpAny P .any ops Q (d+(ops.size - h)) listed a u:=by
 simp only [freeB,Bool.and_eq_true,Bool.or_eq_true,decide_eq_true_eq]at hB;obtain⟨⟨⟨⟨⟨⟨⟨hsel,hnh⟩,hh⟩,hD⟩,hK⟩,hA⟩,hT⟩,hSq⟩:=hB;intro d
 induction d with
 |zero=>
  intro listed a u hd hst;have hl:=xzen hst.1 (xzel hd);subst hl;have:=wpAny_of_seq (md:=.any) (Q':=Q) (ops.toList.drop h) h (headArr ops.size h) a u (fun j=>by simp) (by simpa using hSq) (hend a u hst)
  simpa using this
 |succ d ih=>
  intro listed a u hd hst
  have hex:∃ i,i<h/\listed.getD i false=false:=by
   have hpos:0<((List.range h).filter fun i=> !listed.getD i false).length:=by unfold toCome at hd;omega
   obtain⟨i,hi⟩:=List.exists_mem_of_length_pos hpos;rw [List.mem_filter]at hi;exact⟨i,List.mem_range.1 hi.1,by simpa using hi.2⟩
  obtain⟨i0,hi0,hu0⟩:=hex;have hs:=hst.1.size;obtain⟨j0,hj0⟩:=xzem hh hA hs i0 i0 (Nat.le_refl _) hi0 hu0;rw [show d+1+(ops.size - h)=(d+(ops.size - h))+1 by omega];refine⟨fun he=>(by rw [he]at hj0;cases hj0),fun i hi=>?_⟩
  have hil:i<ops.size:=by
   obtain⟨_,o,ho,_⟩:=mem_ready.1 hi;exact(Array.getElem?_eq_some_iff.1 ho).1
  have hih:i<h:=by
   rcases Nat.lt_or_ge i h with hlt|hge
   ·exact hlt
   ·rcases hT with hT|hT
    ·omega
    ·exact absurd hi (tail_waits hT.1 hT.2 (by omega) hst.1 (h - i0) i0 rfl hi0 (getD_in (by omega) hu0) i hge)
  have hun:=getD_both (mem_ready.1 hi).1;have hset:=xzfe hih (by omega) hun;exact wpOp_mono (fun a' u' hst'=>ih _ a' u' (by omega) hst') (xztk hsel hh hD hK hN hCs hVs hst hih hi (hS i hih))
theorem xzdp {id:Nat}{l:List Oper}{Q:Exit->Act->World->Prop}{a:Act}{w:World}(h N:Nat)(xo:Nat)(C:Bool->World->Prop)(R:Nat->World->World->Prop)(V:Nat->Value->World->Prop)
 (hm:P.follows .mixedOrders=true)(hB:freeB l.toArray h h N=true)(hN:a.tmps.size=N)(hC0:C false w.drew)(hCs:∀ i c u u',i<h->(i=xo->c=false)->C c u->R i u u'->C (c||decide (i=xo)) u')(hVs:∀ i j v u u',i<h->j<h->i≠j->V i v u->R j u u'->V i v u')
 (hS:∀ i,i<h->StepT P l.toArray xo C R V a i)
 (hE:∀ (vs:Nat->Value) (u:World),C (decide (xo<h)) u->(∀ i,i<h->V i (vs i) u)->wpList P l.toArray Q (l.drop h) (textFrame l.toArray vs a h) u):(Code.region id l.toArray true).wp P Q a w:=by
 have hB':=hB;simp only [freeB,Bool.and_eq_true,Bool.or_eq_true,decide_eq_true_eq]at hB';obtain⟨⟨⟨⟨⟨⟨⟨hsel,hnh⟩,hh⟩,hD⟩,hK⟩,hA⟩,hT⟩,hSq⟩:=hB';refine wp_region_any hm ?_
 have inv0:HeadInv .any l.toArray h (Array.replicate l.toArray.size false):=
  ⟨by simp,fun j oj _ hl=>(by rw [getD_replicate_false]at hl;cases hl),fun t _ ht=>getD_in (by simpa using ht) (getD_replicate_false _ _)⟩
 have hst0:StandsT l.toArray xo C h V a (Array.replicate l.toArray.size false) a w.drew:=by
  refine⟨inv0,fun _=>undef,⟨rfl,rfl,fun i o t _ hi=>?_,fun _ _=>rfl⟩,by rw [getD_replicate_false];exact hC0,fun i _ hl=>?_⟩
  ·have hi':(Array.replicate l.toArray.size false).getD i false=true:=hi
   rw [getD_replicate_false]at hi';cases hi'
  ·rw [getD_replicate_false]at hl;cases hl
 have hcome:toCome (Array.replicate l.toArray.size false) h=h:=by
  unfold toCome;rw [List.filter_eq_self.2 (fun i _=>by rw [getD_replicate_false];rfl)]
  simp
 have:=yzau (P:=P) (Q:=Q) hB hN hCs hVs hS (fun a' u hst=>?_) h _ a w.drew hcome hst0
 ·rw [show h+(l.toArray.size - h)=l.toArray.size by omega]at this
  exact this
 ·obtain⟨inv,vs,hc,hC,hV⟩:=hst
  have hg:∀ i,i<h->(headArr l.toArray.size h).getD i false=true:=fun i hi=>by rw [xzca,if_pos (by omega)];simpa using hi
  have hcall:Came l.toArray (fun j=>decide (j<h)) vs a a':=by
   refine⟨hc.1,hc.2.1,fun i o t ho hi ht=>hc.2.2.1 i o t ho (hg i (of_decide_eq_true hi)) ht,fun t ht=>hc.2.2.2 t fun i o ho hi=>ht i o ho ?_⟩;have:=xzff inv i hi
   simpa using this
  have he:=hcall.unique (xzdn hD hN hh vs h (Nat.le_refl _)) (fun _ _=>rfl);subst he;rw [show(headArr l.toArray.size h).getD xo false=decide (xo<h)from ?_]at hC
  ·simpa using hE vs u hC (fun i hi=>hV i hi (hg i hi))
  ·rw [xzca]
   split
   ·rfl
   ·exact(decide_eq_false (by omega)).symm
end turn
end
end Go.Proofs.YtgbljnnmhmlifaaGreatDoor
