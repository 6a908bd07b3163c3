/-
 WHAT nfa's copied ANSWERS: a contract. Condition: at most 2^20 places.
-/
import Derived.Test.YthoaaginadjaoaaQG32
namespace Go.Proofs.Ythoaaginadjaoaa
open Go.RowKit
attribute [local irreducible] FreeW textFrame
set_option maxRecDepth 20000 in
set_option maxHeartbeats 16000000 in
theorem xzpc (M K:Nat->Bool)(S:Mk)(p:Prt)(v1 v2:Value)(i1 j1:Nat)(pb:Nat)(r f e m:Value)(w:World)(hm:MkAt M K w pb S r f e m)(hp1:IntsV (hide w (MK M K)) p.first v1)(hp2:IntsV (hide w (MK M K)) p.ends v2)
 (hS:S.Ok)(hp:p.Ok j1)(hij:i1<=j1)(hj:j1<=S.sets.length)(hrow:∀ r∈(S.follow.drop i1).take (j1 - i1),risesB j1 (-1) r=true)(hn:S.sets.length+(j1 - i1)<=1048576)(hM:∀ k,M k=true->k<w.heap.size)(hK:∀ k,K k=true->k<w.heap.size):
 Calls Try.prog 59 #[.pointer (some ⟨pb,0,none⟩),.agg #[v1,v2,.bool p.empty],.int .i64 (i1:Nat),.int .i64 (j1:Nat)] w fun x w'=>∃ M' v',x=.returned v'/\Nx M M' w w'/\(∀ k,M' k=true->k<w'.heap.size)/\MkAt M' K w' pb (copiedS S i1 j1) r f e m/\PrtV (hide w' (MK M' K)) (shiftP ((S.sets.length:Int) - i1) p) v':=by
 obtain⟨P1,cp1,rfl,_⟩:=hp1.form;obtain⟨P2,cp2,rfl,_⟩:=hp2.form;obtain⟨w2,hw2⟩:∃ w2,(w.alloc (.cells #[.slice P1 p.first.length cp1,.slice P2 p.ends.length cp2,.bool p.empty] 73)).alloc (.cells #[.slice none 0 0,.slice none 0 0,.bool false] 73)=w2:=⟨_,rfl⟩
 have hb2:Below w.heap.size w w2:=by rw [<-hw2];exact((Below.refl _ _).alloc (Nat.le_refl _) _).alloc (by simp) _
 have hs2:w2.heap.size=w.heap.size+2:=by rw [<-hw2];simp
 have hx0:BlkIs w2 w.heap.size 73 #[.slice P1 p.first.length cp1,.slice P2 p.ends.length cp2,.bool p.empty]:=by rw [<-hw2];exact(BlkIs.new w _ _).alloc _
 have hx1:BlkIs w2 (w.heap.size+1) 73 #[.slice none 0 0,.slice none 0 0,.bool false]:=by
  rw [<-hw2];have h:=BlkIs.new (w.alloc (.cells #[.slice P1 p.first.length cp1,.slice P2 p.ends.length cp2,.bool p.empty] 73)) 73 #[.slice none 0 0,.slice none 0 0,.bool false];rw [World.size_alloc]at h;exact h
 have hMf:∀ k,w.heap.size<=k->M k=false:=fun k hk=>by
  rw [Bool.eq_false_iff];intro e;have:=hM k e;omega
 obtain⟨vs,vf,xs,hmi⟩:=hm.new (b:=w.heap.size+1) hb2 (by omega);obtain⟨As,cs,rfl,hcs⟩:=xzak hmi.own0;obtain⟨Af,cf,rfl,hcf⟩:=xzak hmi.own3;obtain⟨vf,hvf⟩:∃ vf,Value.slice Af S.follow.length cf=vf:=⟨_,rfl⟩;rw [hvf]at hmi;have HVF:=zd (And.intro hvf hcf);have HMI:=zd hmi;have HBX:=zd (And.intro hx0 hx1);have HOW:=zd (show ∀ k,(Value.slice As S.sets.length cs).ownBlock=some k->k<w2.heap.size from fun k hk=>(World.ownsRow.lt hmi.own0 k hk).2);have HMK:=zd (And.intro hM (And.intro hK hMf));have HS:=zd (And.intro hb2 hs2);have hup:Sub (hide w (MK M K)) (hide w2 (MK M (Kor K (w.heap.size+1)))):=xzrw (Nx.below hb2) (by omega);have HP:=zd (And.intro (hp1.sub hup) (hp2.sub hup));have HSO:=zd (And.intro hS (And.intro hp hrow));have HN:=zd hn;have HIJ:=zd (show i1<=j1/\j1<=S.sets.length/\j1<=cs/\S.sets.length+(j1 - i1)<=1099511627776 from⟨hij,hj,by omega,by omega⟩)
 have hby:IntKind.i64.wrap ((S.sets.length:Int) - i1)=(S.sets.length:Int) - i1:=by rw [IntKind.wrap_i64];omega
 obtain⟨k0,k1,k2,k3,k4,k5⟩:=six hmi.blk;clear hmi hx0 hx1 hb2 hs2 hMf hM hK hS hm hp1 hp2 hup hrow hp hn hcs hcf hij hj hvf
 go_enter Try.func59,Try.ntmps59
 go_wp2_with fail
 refine xzan 18 80 (fun u=>Hid (MkI M (Kor K (w.heap.size+1)) u pb S r f e m (.slice As S.sets.length cs) vf xs/\Nx M M w2 u/\BlkIs u w.heap.size 73 #[.slice P1 p.first.length cp1,.slice P2 p.ends.length cp2,.bool p.empty])) (fun i u u'=>(i=14->u.grownBy u' (Value.slice As S.sets.length cs).ownBlock/\u'.ownsRow 0 37 4 (.slice As S.sets.length cs) S.sets.length (cellsS S.sets))/\(i≠14->Below u.heap.size u u'))
  (fun i v u=>match i with
   |0=>v=.pointer (some ⟨pb,0,none⟩)
   |1=>v=.pointer (some ⟨pb,0,none⟩)
   |2=>v=.pointer (some ⟨pb,0,none⟩)
   |3=>v=.pointer (some ⟨pb,0,none⟩)
   |4=>v=.pointer (some ⟨pb,0,none⟩)
   |5=>v=Value.slice As S.sets.length cs
   |6=>v=.pointer (some ⟨pb,0,none⟩)
   |7=>v=.pointer (some ⟨pb,0,none⟩)
   |8=>v=.pointer (some ⟨pb,0,none⟩)
   |9=>v=.pointer (some ⟨pb,0,none⟩)
   |10=>v=Value.slice As S.sets.length cs
   |11=>v=.int .i64 i1
   |12=>v=.int .i64 j1
   |13=>v=sliced As i1 j1 cs 4
   |14=>u.ownsRow 0 37 4 v (S.sets++(S.sets.drop i1).take (j1 - i1)).length (cellsS (S.sets++(S.sets.drop i1).take (j1 - i1)))/\(v.ownBlock=(Value.slice As S.sets.length cs).ownBlock\/ ∃ g,v.ownBlock=some g/\w2.heap.size<=g)
   |15=>v=.pointer (some ⟨pb,0,none⟩)
   |16=>v=.pointer (some ⟨pb,0,none⟩)
   |17=>v=.pointer (some ⟨pb,0,none⟩)
   |_=>True) (by kernel_rfl) (by kernel_rfl) rfl (zd ⟨HMI.out.step (Below.refl _ _).drew,Nx.below (Below.refl _ _).drew,HBX.out.1.drew⟩) ?_ ?_ ?_ ?_
 ·intro i u u' hix hC hr
  by_cases hi8:i=14
  ·obtain⟨g1,g2⟩:=hr.1 hi8
   exact zd ⟨hC.out.1.grown0 g1 g2,hC.out.2.1.trans (Nx.grown g1 fun k hk=>(hC.out.1.far0 k hk).1),(g1.block _ hC.out.2.2.lt (fun e=>by have:=HOW.out w.heap.size e.symm;have:=(hC.out.1.far0 _ e.symm).1;exact absurd (HMK.out.1 _ this) (by omega))).trans hC.out.2.2⟩
  ·have hb:=hr.2 hi8
   exact zd ⟨hC.out.1.step hb,hC.out.2.1.trans (Nx.below hb),hC.out.2.2.step hb⟩
 ·intro i j v u u' hix hj hne hv hr
  match i,hix,hne,hv with
  |0,_,_,hv=>exact hv
  |1,_,_,hv=>exact hv
  |2,_,_,hv=>exact hv
  |3,_,_,hv=>exact hv
  |4,_,_,hv=>exact hv
  |5,_,_,hv=>exact hv
  |6,_,_,hv=>exact hv
  |7,_,_,hv=>exact hv
  |8,_,_,hv=>exact hv
  |9,_,_,hv=>exact hv
  |10,_,_,hv=>exact hv
  |11,_,_,hv=>exact hv
  |12,_,_,hv=>exact hv
  |13,_,_,hv=>exact hv
  |14,_,hne,hv=>
   exact⟨xzac hv.1 fun k hk=>(hr.2 (Ne.symm hne)).block k (World.ownsRow.lt hv.1 k hk).2,hv.2⟩
  |15,_,_,hv=>exact hv
  |16,_,_,hv=>exact hv
  |17,_,_,hv=>exact hv
  |i+18,hix,_,_=>omega
 ·intro i hix vs u hC hw oq ho
  match i,hix,hw,ho with
  |0,_,hw,ho=>
   simp only [zq,zh]at ho;subst ho;refine⟨rfl,?_⟩;obtain⟨k0,k1,k2,k3,k4,k5⟩:=six hC.out.1.blk;clear hw;simp only [xzaa,tmpsTo];go_simp;exact xzab (Below.refl _ _) rfl
  |1,_,hw,ho=>
   simp only [zq,zh]at ho;subst ho;refine⟨rfl,?_⟩;obtain⟨k0,k1,k2,k3,k4,k5⟩:=six hC.out.1.blk;clear hw;simp only [xzaa,tmpsTo,putT,zr];go_simp;exact xzab (Below.refl _ _) rfl
  |2,_,hw,ho=>
   have e1:vs 1=.pointer (some ⟨pb,0,none⟩):=hw 1 (by omega) (by kernel_rfl);simp only [zq,zh]at ho;subst ho;refine⟨rfl,?_⟩;obtain⟨k0,k1,k2,k3,k4,k5⟩:=six hC.out.1.blk;clear hw;simp only [xzaa,tmpsTo,putT,zr];rw [e1];clear e1;go_simp;exact xzab (Below.refl _ _) rfl
  |3,_,hw,ho=>
   have e2:vs 2=.pointer (some ⟨pb,0,none⟩):=hw 2 (by omega) (by kernel_rfl);simp only [zq,zh]at ho;subst ho;refine⟨rfl,?_⟩;obtain⟨k0,k1,k2,k3,k4,k5⟩:=six hC.out.1.blk;clear hw;simp only [xzaa,tmpsTo,putT,zr];rw [e2];clear e2;go_simp;exact xzab (Below.refl _ _) rfl
  |4,_,hw,ho=>
   have e3:vs 3=.pointer (some ⟨pb,0,none⟩):=hw 3 (by omega) (by kernel_rfl);simp only [zq,zh]at ho;subst ho;refine⟨rfl,?_⟩;obtain⟨k0,k1,k2,k3,k4,k5⟩:=six hC.out.1.blk;clear hw;simp only [xzaa,tmpsTo,putT,zr];rw [e3];clear e3;go_simp;exact xzab (Below.refl _ _) rfl
  |5,_,hw,ho=>
   have e4:vs 4=.pointer (some ⟨pb,0,none⟩):=hw 4 (by omega) (by kernel_rfl);simp only [zq,zh]at ho;subst ho;refine⟨rfl,?_⟩;obtain⟨k0,k1,k2,k3,k4,k5⟩:=six hC.out.1.blk;clear hw;simp only [xzaa,tmpsTo,putT,zr];rw [e4];clear e4;go_simp;exact xzab (Below.refl _ _) rfl
  |6,_,hw,ho=>
   simp only [zq,zh]at ho;subst ho;refine⟨rfl,?_⟩;obtain⟨k0,k1,k2,k3,k4,k5⟩:=six hC.out.1.blk;clear hw;simp only [xzaa,tmpsTo,putT,zr];go_simp;exact xzab (Below.refl _ _) rfl
  |7,_,hw,ho=>
   have e6:vs 6=.pointer (some ⟨pb,0,none⟩):=hw 6 (by omega) (by kernel_rfl);simp only [zq,zh]at ho;subst ho;refine⟨rfl,?_⟩;obtain⟨k0,k1,k2,k3,k4,k5⟩:=six hC.out.1.blk;clear hw;simp only [xzaa,tmpsTo,putT,zr];rw [e6];clear e6;go_simp;exact xzab (Below.refl _ _) rfl
  |8,_,hw,ho=>
   have e7:vs 7=.pointer (some ⟨pb,0,none⟩):=hw 7 (by omega) (by kernel_rfl);simp only [zq,zh]at ho;subst ho;refine⟨rfl,?_⟩;obtain⟨k0,k1,k2,k3,k4,k5⟩:=six hC.out.1.blk;clear hw;simp only [xzaa,tmpsTo,putT,zr];rw [e7];clear e7;go_simp;exact xzab (Below.refl _ _) rfl
  |9,_,hw,ho=>
   have e8:vs 8=.pointer (some ⟨pb,0,none⟩):=hw 8 (by omega) (by kernel_rfl);simp only [zq,zh]at ho;subst ho;refine⟨rfl,?_⟩;obtain⟨k0,k1,k2,k3,k4,k5⟩:=six hC.out.1.blk;clear hw;simp only [xzaa,tmpsTo,putT,zr];rw [e8];clear e8;go_simp;exact xzab (Below.refl _ _) rfl
  |10,_,hw,ho=>
   have e9:vs 9=.pointer (some ⟨pb,0,none⟩):=hw 9 (by omega) (by kernel_rfl);simp only [zq,zh]at ho;subst ho;refine⟨rfl,?_⟩;obtain⟨k0,k1,k2,k3,k4,k5⟩:=six hC.out.1.blk;clear hw;simp only [xzaa,tmpsTo,putT,zr];rw [e9];clear e9;go_simp;exact xzab (Below.refl _ _) rfl
  |11,_,hw,ho=>
   simp only [zq,zh]at ho;subst ho;refine⟨rfl,?_⟩;obtain⟨k0,k1,k2,k3,k4,k5⟩:=six hC.out.1.blk;clear hw;simp only [xzaa,tmpsTo,putT,zr];go_simp;exact xzab (Below.refl _ _) rfl
  |12,_,hw,ho=>
   simp only [zq,zh]at ho;subst ho;refine⟨rfl,?_⟩;obtain⟨k0,k1,k2,k3,k4,k5⟩:=six hC.out.1.blk;clear hw;simp only [xzaa,tmpsTo,putT,zr];go_simp;exact xzab (Below.refl _ _) rfl
  |13,_,hw,ho=>
   have e10:vs 10=Value.slice As S.sets.length cs:=hw 10 (by omega) (by kernel_rfl);have e11:vs 11=.int .i64 i1:=hw 11 (by omega) (by kernel_rfl);have e12:vs 12=.int .i64 j1:=hw 12 (by omega) (by kernel_rfl);simp only [zq,zh]at ho;subst ho;refine⟨rfl,?_⟩;obtain⟨k0,k1,k2,k3,k4,k5⟩:=six hC.out.1.blk;clear hw;simp only [xzaa,tmpsTo,putT,zr];rw [e10,e11,e12];clear e10 e11 e12
   have hij0:(0:Int)<=(i1:Int):=by omega
   have hij1:(i1:Int)<=(j1:Nat):=by have:=HIJ.out;omega
   have hij2:((j1:Nat):Int)<=(cs:Nat):=by have:=HIJ.out;omega
   go_simp;exact xzab (Below.refl _ _) rfl
  |14,_,hw,ho=>
   have e5:vs 5=Value.slice As S.sets.length cs:=hw 5 (by omega) (by kernel_rfl);have e13:vs 13=sliced As i1 j1 cs 4:=hw 13 (by omega) (by kernel_rfl);simp only [zq,zh]at ho;subst ho;refine⟨rfl,?_⟩;obtain⟨k0,k1,k2,k3,k4,k5⟩:=six hC.out.1.blk;clear hw;simp only [xzaa,tmpsTo,putT,zr];rw [e5,e13];clear e5 e13;obtain⟨v',W',hrun,k1,k2,k3,k4⟩:=xzpb hC.out.1.own0 HIJ.out.1 HIJ.out.2.1 HIJ.out.2.2.2;rw [xzdx (.tmp 25) (.tmp 33) 25 25 rfl rfl rfl hrun];refine xzab ?_ ?_
   ·exact⟨fun _=>⟨k2,k3⟩,fun h=>absurd rfl h⟩
   ·refine⟨k1,?_⟩
    rcases k4 with k4|k4
    ·exact .inl k4
    ·exact .inr ⟨_,k4,hC.out.2.1.size⟩
  |15,_,hw,ho=>
   have e0:vs 0=.pointer (some ⟨pb,0,none⟩):=hw 0 (by omega) (by kernel_rfl);simp only [zq,zh]at ho;subst ho;refine⟨rfl,?_⟩;obtain⟨k0,k1,k2,k3,k4,k5⟩:=six hC.out.1.blk;clear hw;simp only [xzaa,tmpsTo,putT,zr];rw [e0];clear e0;go_simp;exact xzab (Below.refl _ _) rfl
  |16,_,hw,ho=>
   have e15:vs 15=.pointer (some ⟨pb,0,none⟩):=hw 15 (by omega) (by kernel_rfl);simp only [zq,zh]at ho;subst ho;refine⟨rfl,?_⟩;obtain⟨k0,k1,k2,k3,k4,k5⟩:=six hC.out.1.blk;clear hw;simp only [xzaa,tmpsTo,putT,zr];rw [e15];clear e15;go_simp;exact xzab (Below.refl _ _) rfl
  |17,_,hw,ho=>
   have e16:vs 16=.pointer (some ⟨pb,0,none⟩):=hw 16 (by omega) (by kernel_rfl);simp only [zq,zh]at ho;subst ho;refine⟨rfl,?_⟩;obtain⟨k0,k1,k2,k3,k4,k5⟩:=six hC.out.1.blk;clear hw;simp only [xzaa,tmpsTo,putT,zr];rw [e16];clear e16;go_simp;exact xzab (Below.refl _ _) rfl
  |i+18,hix,_,_=>omega
 intro vs1 u hC hV;have h14:u.ownsRow 0 37 4 (vs1 14) (S.sets++(S.sets.drop i1).take (j1 - i1)).length (cellsS (S.sets++(S.sets.drop i1).take (j1 - i1)))/\((vs1 14).ownBlock=(Value.slice As S.sets.length cs).ownBlock\/ ∃ g,(vs1 14).ownBlock=some g/\w2.heap.size<=g):=hV 14 (by omega);have h17:vs1 17=.pointer (some ⟨pb,0,none⟩):=hV 17 (by omega);clear hV;simp only [xzaa,tmpsTo,putT,zr,List.drop_succ_cons,List.drop_zero];rw [h17];clear h17;generalize vs1 14=v8 at*;generalize vs1 0=q0;generalize vs1 1=q1;generalize vs1 2=q2;generalize vs1 3=q3;generalize vs1 4=q4;generalize vs1 5=q5;generalize vs1 6=q6;generalize vs1 7=q7;generalize vs1 8=q8;generalize vs1 9=q9;generalize vs1 10=q10;generalize vs1 11=q11;generalize vs1 12=q12;generalize vs1 13=q13;generalize vs1 15=q15;generalize vs1 16=q16;obtain⟨n1,m1⟩:=HMI.out.newSets hC.out.2.1 hC.out.1.blk hC.out.1.own3 h14.1 h14.2;obtain⟨TT,hTT⟩:∃ TT,TT=S.sets++(S.sets.drop i1).take (j1 - i1):=⟨_,rfl⟩;rw [<-hTT]at h14 m1;have HTT:=zd hTT;obtain⟨A8,c8,rfl,hc8⟩:=xzak h14.1
 have hM8:(∀ k,Mv M (.slice A8 TT.length c8) k=true->k<(u.setCell ⟨pb,0,none⟩ (.slice A8 TT.length c8)).heap.size)/\Mv M (.slice A8 TT.length c8) w.heap.size=false/\Mv M (.slice A8 TT.length c8) (w.heap.size+1)=false:=by
  have hsz:w.heap.size+2<=u.heap.size:=by have:=hC.out.2.1.size;have:=HS.out.2;omega
  have hbk:∀ k,(Value.slice A8 TT.length c8).ownBlock=some k->k<u.heap.size/\k≠w.heap.size/\k≠w.heap.size+1:=fun k hk=>by
   refine⟨(World.ownsRow.lt h14.1 k hk).2,?_⟩
   rcases h14.2 with h|⟨g,h1,h2⟩
   ·have:=HMK.out.1 k (HMI.out.far0 k (h▸hk)).1
    omega
   ·rw [hk]at h1;injection h1 with h1;have:=HS.out.2;omega
  refine⟨fun k hk=>?_,?_,?_⟩
  ·unfold Mv at hk
   simp only [Bool.or_eq_true,decide_eq_true_eq]at hk
   have hz:(u.setCell ⟨pb,0,none⟩ (.slice A8 TT.length c8)).heap.size=u.heap.size:=by simp [World.setCell]
   rw [hz]
   rcases hk with hk|hk
   ·have:=HMK.out.1 k hk;omega
   ·exact(hbk k hk).1
  ·rw [Mv_no];exact⟨HMK.out.2.2 _ (Nat.le_refl _),fun e=>(hbk _ e).2.1 rfl⟩
  ·rw [Mv_no];exact⟨HMK.out.2.2 _ (by omega),fun e=>(hbk _ e).2.2 rfl⟩
 obtain⟨U1,hU1⟩:∃ U1,u.setCell ⟨pb,0,none⟩ (.slice A8 TT.length c8)=U1:=⟨_,rfl⟩;rw [hU1]at n1 m1 hM8;obtain⟨k0',k1',k2',k3',k4',k5'⟩:=six hC.out.1.blk;have fz:=hC.out.1.blk.frozen 0;clear k0 k1 k2 k3 k4 k5;obtain⟨k0,k1,k2,k3,k4,k5⟩:=six m1.blk
 have hold:∀ g0 c0,vf=.slice (some ⟨g0,0,none⟩) S.follow.length c0->OldR U1 (MK (Mv M (.slice A8 TT.length c8)) (Kor K (w.heap.size+1))) g0 S.follow:=fun g0 c0 hv0 q hq=>by
  obtain⟨x,hx1,hx2⟩:=m1.rows q hq;have h:=m1.own3;rw [hv0]at h;have hc:=h.cells (g:=g0) rfl q x hx1;rw [Addr.add_lit,Nat.zero_add]at hc;exact⟨x,hc,hx2⟩
 have H1:=zd (And.intro m1 (And.intro n1 (And.intro hM8 hold)));clear m1 n1 hM8 hold hC h14 hc8 hTT;generalize Mv M (.slice A8 TT.length c8)=Ma at*
 have hle0:(0:Int)<=(i1:Int):=by omega
 have hle1:(i1:Int)<=(j1:Int):=by have:=HIJ.out;omega
 have hle2:(j1:Int)<=(cf:Int):=by have:=HIJ.out;have:=HVF.out.2;have:=HSO.out.1.1;omega
 have hvf:=HVF.out.1;subst hvf
 by_cases hlt:i1<j1
 ·obtain⟨g0,rfl⟩:∃ g0,Af=some ⟨g0,0,none⟩:=by
   rcases HMI.out.own3.2 with⟨hA,hB⟩|⟨g0,cap,cur,hA,_⟩
   ·have:=HSO.out.1.1;have:=HIJ.out;omega
   ·injection hA with hA
    exact⟨g0,hA⟩
  have hci: ¬ cf=i1:=by omega
  go_wp2
  go_loopw [47] (fun i wr=>∃ k:Nat,i=.int .i64 k/\k<=j1 - i1/\Hid (∃ (M1:Nat->Bool) (vs1 vf1:Value) (xs1:List Value),MkI M1 (Kor K (w.heap.size+1)) wr pb ⟨TT,S.follow++((S.follow.drop i1).take k).map (shiftL ((S.sets.length:Int) - i1))⟩ r f e m vs1 vf1 xs1/\Nx M M1 w2 wr/\((∀ q,M1 q=true->q<wr.heap.size)/\M1 w.heap.size=false/\M1 (w.heap.size+1)=false)/\OldR wr (MK M1 (Kor K (w.heap.size+1))) g0 S.follow)) (fun i _=>(j1 - i1) - (intOf i).toNat)
  case atStart=>exact⟨0,rfl,Nat.zero_le _,zd ⟨Ma,_,_,_,by simpa using H1.out.1,H1.out.2.1,H1.out.2.2.1,H1.out.2.2.2 g0 cf rfl⟩⟩
  case round=>
   obtain⟨k,rfl,hk,HH⟩:=hrel;clear k0 k1 k2 k3 k4 k5 k0' k1' k2' k3' k4' k5' fz;obtain⟨M1,vs1,vf1,xs1,hm1,hn1,hb1,hold⟩:=HH.out
   by_cases hp:k<j1 - i1
   ·have hk1:IntKind.i64.wrap ((k:Int)+1)=((k+1:Nat):Int):=by have:=HIJ.out;rw [IntKind.wrap_i64];omega
    have hdl:decide ((k:Int)<((j1 - i1:Nat):Int))=true:=by simp;omega
    obtain⟨FL,hFL⟩:∃ FL,FL=S.follow++((S.follow.drop i1).take k).map (shiftL ((S.sets.length:Int) - i1)):=⟨_,rfl⟩;rw [<-hFL]at hm1
    have hfl:FL.length=S.follow.length+k:=by rw [hFL];have:=HSO.out.1.1;have:=HIJ.out;simp;omega
    have hif:i1+k<S.follow.length:=by have:=HSO.out.1.1;have:=HIJ.out;omega
    have hmem:S.follow[i1+k]∈(S.follow.drop i1).take (j1 - i1):=by
     rw [List.mem_iff_getElem?];refine⟨k,?_⟩;rw [List.getElem?_take,if_pos hp,List.getElem?_drop,List.getElem?_eq_getElem hif]
    have hFL1:FL++[shiftL ((S.sets.length:Int) - i1) S.follow[i1+k]]=S.follow++((S.follow.drop i1).take (k+1)).map (shiftL ((S.sets.length:Int) - i1)):=by
     rw [hFL,List.take_add_one,List.getElem?_drop,List.getElem?_eq_getElem hif]
     simp
    have hris:=HSO.out.2.2 _ hmem;obtain⟨x,hx1,hx2⟩:=hold (i1+k) hif;have hg0:g0<wr.heap.size:=World.block_lt_of_cell? wr _ hx1;obtain⟨Ax,cx,rfl, -⟩:=hx2.form;obtain⟨B8,b8,rfl, -⟩:∃ A c,vs1=.slice A TT.length c/\_:=xzak hm1.own0;obtain⟨Bf,bf,rfl, -⟩:∃ A c,vf1=.slice A FL.length c/\_:=xzak hm1.own3;have HM1:=zd (And.intro hm1 (And.intro hn1 (And.intro hb1 hold)));have HF3:=zd (show ∀ k,(Value.slice Bf FL.length bf).ownBlock=some k->M1 k=true/\k<wr.heap.size from fun k hk=>⟨(hm1.far3 k hk).1,(World.ownsRow.lt hm1.own3 k hk).2⟩);have HG0:=zd hg0;have HFN:=zd (show FL.length+1<=1099511627776 by have:=HSO.out.1.1;have:=HIJ.out;omega)
    have HKW:∀ k,MK M1 (Kor K (w.heap.size+1)) k=true->k<wr.heap.size:=fun k hk=>by
     unfold MK at hk;simp only [Bool.or_eq_true]at hk
     rcases hk with hk|hk
     ·exact hb1.1 k hk
     ·exact xzdr (fun k hk=>by have:=HMK.out.2.1 k hk;have:=hn1.size;have:=HS.out.2;omega) (by have:=hn1.size;have:=HS.out.2;omega) k hk
    have hlb:∀ x∈S.follow[i1+k], -1099511627776<=x/\x<=1099511627776:=fun x hx=>by
     have:=xzau hris x hx;have:=HIJ.out;omega
    have hll:(S.follow[i1+k]).length<=1099511627776:=by have:=xzai hris;have:=HIJ.out;omega
    have HSH:=zd (fun u (hu:Nx M1 M1 wr u)=>xzbk S.follow[i1+k] _ ((S.sets.length:Int) - i1) u (MK M1 (Kor K (w.heap.size+1))) (fun k hk=>Nat.lt_of_lt_of_le (HKW k hk) hu.size) (hx2.sub (hu.sub (Kor K (w.heap.size+1)))) hll hlb (by have:=HIJ.out;omega));have HFL:=zd (And.intro hFL1 (And.intro hfl (And.intro hif hFL)));have hxc:wr.cell? ⟨g0,i1+k,none⟩=some (.slice Ax (S.follow[i1+k]).length cx):=hx1;clear hm1 hn1 hb1 hold HH hFL hfl hmem hFL1 hris hx1 hx2 hg0 HKW hlb hll;generalize S.follow[i1+k]=l at*;clear hif;obtain⟨k0,k1,k2,k3,k4,k5⟩:=six HM1.out.1.blk
    go_wp2_with fail
    refine xzan 14 80 (fun u=>Hid (MkI M1 (Kor K (w.heap.size+1)) u pb ⟨TT,FL⟩ r f e m (.slice B8 TT.length b8) (Value.slice Bf FL.length bf) xs1/\Nx M1 M1 wr u/\((Value.slice Bf FL.length bf).ownBlock≠some g0->u.heap[g0]? =wr.heap[g0]?))) (fun i u u'=>(i=10->u.grownBy u' (Value.slice Bf FL.length bf).ownBlock/\u'.ownsRow 0 26 1 (Value.slice Bf FL.length bf) FL.length xs1)/\(i≠10->Below u.heap.size u u'))
     (fun i v u=>match i with
      |0=>v=.pointer (some ⟨pb,0,none⟩)
      |1=>v=.pointer (some ⟨pb,0,none⟩)
      |2=>v=.pointer (some ⟨pb,0,none⟩)
      |3=>v=.pointer (some ⟨pb,0,none⟩)
      |4=>v=.pointer (some ⟨pb,3,none⟩)
      |5=>v=Value.slice Bf FL.length bf
      |6=>v=.slice Ax l.length cx
      |7=>v=.int .i64 ((S.sets.length:Int) - i1)
      |8=>IntsV (hide u (MK M1 (Kor K (w.heap.size+1)))) (shiftL ((S.sets.length:Int) - i1) l) v
      |9=>∃ g y,v=.slice (some ⟨g,0,none⟩) 1 1/\BlkIs u g 26 #[y]/\IntsV (hide u (MK M1 (Kor K (w.heap.size+1)))) (shiftL ((S.sets.length:Int) - i1) l) y/\wr.heap.size<=g
      |10=>∃ y,u.ownsRow 0 26 1 v (FL.length+1) (xs1++[y])/\IntsV (hide u (MK (Mv M1 v) (Kor K (w.heap.size+1)))) (shiftL ((S.sets.length:Int) - i1) l) y/\(v.ownBlock=(Value.slice Bf FL.length bf).ownBlock\/ ∃ g,v.ownBlock=some g/\wr.heap.size<=g)
      |11=>v=.pointer (some ⟨pb,0,none⟩)
      |12=>v=.pointer (some ⟨pb,0,none⟩)
      |13=>v=.pointer (some ⟨pb,3,none⟩)
      |_=>True) (by kernel_rfl) (by kernel_rfl) rfl (zd ⟨HM1.out.1.step (Below.refl _ _).drew,Nx.below (Below.refl _ _).drew,fun _=>rfl⟩) ?_ ?_ ?_ ?_
    ·intro i u u' hix hC hr
     by_cases hi10:i=10
     ·obtain⟨g1,g2⟩:=hr.1 hi10
      exact zd ⟨hC.out.1.grown3 g1 g2,hC.out.2.1.trans (Nx.grown g1 fun k hk=>(HF3.out k hk).1),fun hne=>(g1.block g0 (Nat.lt_of_lt_of_le HG0.out hC.out.2.1.size) (fun e=>hne e.symm)).trans (hC.out.2.2 hne)⟩
     ·have hb:=hr.2 hi10
      exact zd ⟨hC.out.1.step hb,hC.out.2.1.trans (Nx.below hb),fun hne=>(hb.block g0 (Nat.lt_of_lt_of_le HG0.out hC.out.2.1.size)).trans (hC.out.2.2 hne)⟩
    ·intro i j v u u' hix hj hne hv hr
     match i,hix,hne,hv with
     |0,_,_,hv=>exact hv
     |1,_,_,hv=>exact hv
     |2,_,_,hv=>exact hv
     |3,_,_,hv=>exact hv
     |4,_,_,hv=>exact hv
     |5,_,_,hv=>exact hv
     |6,_,_,hv=>exact hv
     |7,_,_,hv=>exact hv
     |8,_,hne,hv=>
      by_cases hj10:j=10
      ·exact hv.sub ((Nx.grown (M:=M1) (hr.1 hj10).1 fun k hk=>(HF3.out k hk).1).sub (Kor K (w.heap.size+1)))
      ·exact hv.sub (xzad _ (hr.2 hj10))
     |9,_,hne,hv=>
      obtain⟨g,y,e1,e2,e3,e4⟩:=hv
      by_cases hj10:j=10
      ·exact⟨g,y,e1,((hr.1 hj10).1.block g e2.lt (fun e=>by have:=(HF3.out g e.symm).2;omega)).trans e2,e3.sub ((Nx.grown (M:=M1) (hr.1 hj10).1 fun k hk=>(HF3.out k hk).1).sub (Kor K (w.heap.size+1))),e4⟩
      ·exact⟨g,y,e1,e2.step (hr.2 hj10),e3.sub (xzad _ (hr.2 hj10)),e4⟩
     |10,_,hne,hv=>
      obtain⟨y,e1,e2,e3⟩:=hv;have hb:=hr.2 (Ne.symm hne);exact⟨y,xzac e1 fun k hk=>hb.block k (World.ownsRow.lt e1 k hk).2,e2.sub (xzad _ hb),e3⟩
     |11,_,_,hv=>exact hv
     |12,_,_,hv=>exact hv
     |13,_,_,hv=>exact hv
     |i+14,hix,_,_=>omega
    ·intro i hix vs u hC hw oq ho
     match i,hix,hw,ho with
     |0,_,hw,ho=>
      simp only [zq,zh]at ho;subst ho;refine⟨rfl,?_⟩;obtain⟨k0,k1,k2,k3,k4,k5⟩:=six hC.out.1.blk;clear hw;simp only [xzaa,tmpsTo];go_simp;exact xzab (Below.refl _ _) rfl
     |1,_,hw,ho=>
      simp only [zq,zh]at ho;subst ho;refine⟨rfl,?_⟩;obtain⟨k0,k1,k2,k3,k4,k5⟩:=six hC.out.1.blk;clear hw;simp only [xzaa,tmpsTo,putT,zr];go_simp;exact xzab (Below.refl _ _) rfl
     |2,_,hw,ho=>
      have e1:vs 1=.pointer (some ⟨pb,0,none⟩):=hw 1 (by omega) (by kernel_rfl);simp only [zq,zh]at ho;subst ho;refine⟨rfl,?_⟩;obtain⟨k0,k1,k2,k3,k4,k5⟩:=six hC.out.1.blk;clear hw;simp only [xzaa,tmpsTo,putT,zr];rw [e1];clear e1;go_simp;exact xzab (Below.refl _ _) rfl
     |3,_,hw,ho=>
      have e2:vs 2=.pointer (some ⟨pb,0,none⟩):=hw 2 (by omega) (by kernel_rfl);simp only [zq,zh]at ho;subst ho;refine⟨rfl,?_⟩;obtain⟨k0,k1,k2,k3,k4,k5⟩:=six hC.out.1.blk;clear hw;simp only [xzaa,tmpsTo,putT,zr];rw [e2];clear e2;go_simp;exact xzab (Below.refl _ _) rfl
     |4,_,hw,ho=>
      have e3:vs 3=.pointer (some ⟨pb,0,none⟩):=hw 3 (by omega) (by kernel_rfl);simp only [zq,zh]at ho;subst ho;refine⟨rfl,?_⟩;obtain⟨k0,k1,k2,k3,k4,k5⟩:=six hC.out.1.blk;clear hw;simp only [xzaa,tmpsTo,putT,zr];rw [e3];clear e3;go_simp;exact xzab (Below.refl _ _) rfl
     |5,_,hw,ho=>
      have e4:vs 4=.pointer (some ⟨pb,3,none⟩):=hw 4 (by omega) (by kernel_rfl);simp only [zq,zh]at ho;subst ho;refine⟨rfl,?_⟩;obtain⟨k0,k1,k2,k3,k4,k5⟩:=six hC.out.1.blk;clear hw;simp only [xzaa,tmpsTo,putT,zr];rw [e4];clear e4;go_simp;exact xzab (Below.refl _ _) rfl
     |6,_,hw,ho=>
      simp only [zq,zh]at ho;subst ho;refine⟨rfl,?_⟩;obtain⟨k0,k1,k2,k3,k4,k5⟩:=six hC.out.1.blk;clear hw;simp only [xzaa,tmpsTo,putT,zr];go_simp;exact xzab (Below.refl _ _) rfl
     |7,_,hw,ho=>
      simp only [zq,zh]at ho;subst ho;refine⟨rfl,?_⟩;obtain⟨k0,k1,k2,k3,k4,k5⟩:=six hC.out.1.blk;clear hw;simp only [xzaa,tmpsTo,putT,zr];go_simp;exact xzab (Below.refl _ _) rfl
     |8,_,hw,ho=>
      have e6:vs 6=.slice Ax l.length cx:=hw 6 (by omega) (by kernel_rfl);have e7:vs 7=.int .i64 ((S.sets.length:Int) - i1):=hw 7 (by omega) (by kernel_rfl);simp only [zq,zh]at ho;subst ho;refine⟨rfl,?_⟩;obtain⟨k0,k1,k2,k3,k4,k5⟩:=six hC.out.1.blk;clear hw;simp only [xzaa,tmpsTo,putT,zr];rw [e6,e7];clear e6 e7;go_simp;refine xzbv ((HSH.out u hC.out.2.1).mono ?_);rintro e u' ⟨v',rfl,h1,h2⟩;exact⟨_,rfl,h2,h1⟩
     |9,_,hw,ho=>
      have hv8:IntsV (hide u (MK M1 (Kor K (w.heap.size+1)))) (shiftL ((S.sets.length:Int) - i1) l) (vs 8):=hw 8 (by omega) (by kernel_rfl);obtain⟨A8',c8',e8,_⟩:=hv8.form;simp only [zq,zh]at ho;subst ho;refine⟨rfl,?_⟩;obtain⟨k0,k1,k2,k3,k4,k5⟩:=six hC.out.1.blk;clear hw;simp only [xzaa,tmpsTo,putT,zr];rw [e8]at hv8 ⊢;clear e8;go_simp;exact xzab ((Below.refl _ _).alloc (Nat.le_refl _) _) ⟨_,rfl,_,BlkIs.new _ _ _,hv8.sub (xzad _ ((Below.refl _ _).alloc (Nat.le_refl _) _)),hC.out.2.1.size⟩
     |10,_,hw,ho=>
      have e5:vs 5=Value.slice Bf FL.length bf:=hw 5 (by omega) (by kernel_rfl);obtain⟨g,y,e9,hg1,hg2,hg3⟩:∃ g y,vs 9=.slice (some ⟨g,0,none⟩) 1 1/\BlkIs u g 26 #[y]/\IntsV (hide u (MK M1 (Kor K (w.heap.size+1)))) (shiftL ((S.sets.length:Int) - i1) l) y/\wr.heap.size<=g:=hw 9 (by omega) (by kernel_rfl);simp only [zq,zh]at ho;subst ho;refine⟨rfl,?_⟩;obtain⟨k0,k1,k2,k3,k4,k5⟩:=six hC.out.1.blk;clear hw;simp only [xzaa,tmpsTo,putT,zr];rw [e5];clear e5;rw [e9];clear e9
      have hone:y.oneCell'=true:=by
       obtain⟨Ay,cy,rfl,_⟩:=hg2.form
       rfl
      obtain⟨v',W',hrun,r1,r2,r3,r4⟩:=xzip hC.out.1.own3 (a:=⟨g,0,none⟩) (c:=1) (x:=y) ((hg1.cell 0).trans rfl) hone HFN.out;rw [xzdx (.tmp 56) (.tmp 60) 27 27 rfl rfl rfl hrun];refine xzab ⟨fun _=>⟨r2,r3⟩,fun h=>absurd rfl h⟩ ?_
      have hmo:=xzul (M:=M1) (v:=v') (v0:=Value.slice Bf FL.length bf) (s:=u.heap.size) (fun k hk=>(HF3.out k hk).1) (by
       rcases r4 with r4|r4
       ·exact .inl r4
       ·exact .inr ⟨_,r4,Nat.le_refl _⟩)
      refine⟨y,r1,hg2.sub (((Nx.grown (M:=M1) r2 fun k hk=>(HF3.out k hk).1).more hmo).sub (Kor K (w.heap.size+1))),?_⟩
      rcases r4 with r4|r4
      ·exact .inl r4
      ·exact .inr ⟨_,r4,hC.out.2.1.size⟩
     |11,_,hw,ho=>
      have e0:vs 0=.pointer (some ⟨pb,0,none⟩):=hw 0 (by omega) (by kernel_rfl);simp only [zq,zh]at ho;subst ho;refine⟨rfl,?_⟩;obtain⟨k0,k1,k2,k3,k4,k5⟩:=six hC.out.1.blk;clear hw;simp only [xzaa,tmpsTo,putT,zr];rw [e0];clear e0;go_simp;exact xzab (Below.refl _ _) rfl
     |12,_,hw,ho=>
      have e11:vs 11=.pointer (some ⟨pb,0,none⟩):=hw 11 (by omega) (by kernel_rfl);simp only [zq,zh]at ho;subst ho;refine⟨rfl,?_⟩;obtain⟨k0,k1,k2,k3,k4,k5⟩:=six hC.out.1.blk;clear hw;simp only [xzaa,tmpsTo,putT,zr];rw [e11];clear e11;go_simp;exact xzab (Below.refl _ _) rfl
     |13,_,hw,ho=>
      have e12:vs 12=.pointer (some ⟨pb,0,none⟩):=hw 12 (by omega) (by kernel_rfl);simp only [zq,zh]at ho;subst ho;refine⟨rfl,?_⟩;obtain⟨k0,k1,k2,k3,k4,k5⟩:=six hC.out.1.blk;clear hw;simp only [xzaa,tmpsTo,putT,zr];rw [e12];clear e12;go_simp;exact xzab (Below.refl _ _) rfl
     |i+14,hix,_,_=>omega
    intro vsz u hC hV;obtain⟨y,h10,hy,hvb⟩:∃ y,u.ownsRow 0 26 1 (vsz 10) (FL.length+1) (xs1++[y])/\IntsV (hide u (MK (Mv M1 (vsz 10)) (Kor K (w.heap.size+1)))) (shiftL ((S.sets.length:Int) - i1) l) y/\((vsz 10).ownBlock=(Value.slice Bf FL.length bf).ownBlock\/ ∃ g,(vsz 10).ownBlock=some g/\wr.heap.size<=g):=hV 10 (by omega);have h13:vsz 13=.pointer (some ⟨pb,3,none⟩):=hV 13 (by omega);clear hV;simp only [xzaa,tmpsTo,putT,zr,List.drop_succ_cons,List.drop_zero];rw [h13];clear h13;generalize vsz 10=v10 at*;obtain⟨A10,c10,rfl, -⟩:∃ A c,v10=.slice A (FL.length+1) c/\_:=xzak h10;generalize vsz 0=z0;generalize vsz 1=z1;generalize vsz 2=z2;generalize vsz 3=z3;generalize vsz 4=z4;generalize vsz 5=z5;generalize vsz 6=z6;generalize vsz 7=z7;generalize vsz 8=z8;generalize vsz 9=z9;generalize vsz 11=z11;generalize vsz 12=z12;obtain⟨n2,m2⟩:=HM1.out.1.newRow hC.out.2.1 hC.out.1.blk hC.out.1.own0 h10 (by have:=hC.out.1.own3.1;omega) (hy.sub ((Nx.put (M:=Mv M1 (.slice A10 (FL.length+1) c10)) (p:=⟨pb,3,none⟩) (xznf hC.out.1.mine) (.slice A10 (FL.length+1) c10)).sub (Kor K (w.heap.size+1)))) hvb
    have hpg:g0≠pb->∀ q,q<S.follow.length->(u.setCell ⟨pb,3,none⟩ (.slice A10 (FL.length+1) c10)).cell? ⟨g0,q,none⟩=wr.cell? ⟨g0,q,none⟩:=fun hg q hq=>by
     have h1:=xzsd (g0:=g0) (q:=q) HM1.out.1.own3 hC.out.1.own3 hC.out.2.2 (by show q<FL.length;have:=HFL.out.2.1;omega);rw [<-h1];unfold World.cell?;rw [show(u.setCell ⟨pb,3,none⟩ (.slice A10 (FL.length+1) c10)).heap[g0]? =u.heap[g0]? from Below.heap_setCell _ _ _ _ hg]
    have HN2:=zd (show _ from And.intro m2 (And.intro n2 hpg));obtain⟨kk0,kk1,kk2,kk3,kk4,kk5⟩:=six hC.out.1.blk;have fz:=hC.out.1.blk.frozen 3;have HC:=zd (And.intro hC.out.2.1 (And.intro (World.ownsRow.lt h10) hvb));clear n2 m2 hpg h10 hy hvb hC k0 k1 k2 k3 k4 k5 hxc;go_wp2;refine⟨⟨k+1,rfl,hp,zd ⟨_,_,_,_,by rw [<-HFL.out.1];exact HN2.out.1,HM1.out.2.1.trans HN2.out.2.1,?_,fun q hq=>?_⟩⟩,by simp [intOf];omega⟩
    ·have hbk:∀ q,(Value.slice A10 (FL.length+1) c10).ownBlock=some q->q≠w.heap.size/\q≠w.heap.size+1:=fun q hq=>by
      rcases HC.out.2.2 with h|⟨g,h1,h2⟩
      ·have h3:=(HF3.out q (h▸hq)).1
       exact⟨fun e=>(by rw [e,HM1.out.2.2.1.2.1]at h3;cases h3),fun e=>(by rw [e,HM1.out.2.2.1.2.2]at h3;cases h3)⟩
      ·rw [hq]at h1;injection h1 with h1
       have:=HM1.out.2.1.size;have:=HS.out.2;omega
     refine⟨fun q hq=>?_,?_,?_⟩
     ·unfold Mv at hq
      simp only [Bool.or_eq_true,decide_eq_true_eq]at hq
      have hz:(u.setCell ⟨pb,3,none⟩ (.slice A10 (FL.length+1) c10)).heap.size=u.heap.size:=by simp [World.setCell]
      rw [hz]
      rcases hq with hq|hq
      ·have:=HM1.out.2.2.1.1 q hq;have:=HC.out.1.size;omega
      ·exact(HC.out.2.1 q hq).2
     ·rw [Mv_no];exact⟨HM1.out.2.2.1.2.1,fun e=>(hbk _ e).1 rfl⟩
     ·rw [Mv_no];exact⟨HM1.out.2.2.1.2.2,fun e=>(hbk _ e).2 rfl⟩
    ·obtain⟨x,hxc,hxi⟩:=HM1.out.2.2.2 q hq
     exact⟨x,(HN2.out.2.2 (HMI.out.far3 g0 rfl).2.1 q hq).trans hxc,hxi.sub (HN2.out.2.1.sub (Kor K (w.heap.size+1)))⟩
   ·have hdl:decide ((k:Int)<((j1 - i1:Nat):Int))=false:=by simp;omega
    obtain rfl:k=j1 - i1:=by omega
    have HME:=zd (show MkAt M1 (Kor K (w.heap.size+1)) wr pb (copiedS S i1 j1) r f e m from⟨vs1,vf1,xs1,by unfold copiedS;rw [<-HTT.out];exact hm1⟩);have HPT:=zd (show BlkIs wr w.heap.size 73 #[.slice P1 p.first.length cp1,.slice P2 p.ends.length cp2,.bool p.empty]from(hn1.block _ HBX.out.1.lt (HMK.out.2.2 _ (Nat.le_refl _))).trans HBX.out.1);have HPB:=zd (show BlkIs wr (w.heap.size+1) 73 #[.slice none 0 0,.slice none 0 0,.bool false]from(hn1.block _ HBX.out.2.lt (HMK.out.2.2 _ (by omega))).trans HBX.out.2);have HNN:=zd ((Nx.below HS.out.1).trans hn1);have HB1:=zd hb1
    have hsz:w.heap.size+2<=wr.heap.size:=by have:=hn1.size;have:=HS.out.2;omega
    have HSZ:=zd hsz
    have HKW:∀ q,MK M1 (Kor K (w.heap.size+1)) q=true->q<wr.heap.size:=fun q hq=>by
     unfold MK at hq;simp only [Bool.or_eq_true]at hq
     rcases hq with hq|hq
     ·exact hb1.1 q hq
     ·exact xzdr (fun k hk=>by have:=HMK.out.2.1 k hk;omega) (by omega) q hq
    have HS1:=zd (fun u (hu:Below wr.heap.size wr u)=>xzbk p.first _ ((S.sets.length:Int) - i1) u (MK M1 (Kor K (w.heap.size+1))) (fun q hq=>Nat.lt_of_lt_of_le (HKW q hq) hu.size) ((HP.out.1.sub (hn1.sub (Kor K (w.heap.size+1)))).sub (xzad _ hu))
     (by have:=xzai HSO.out.2.1.1;have:=HIJ.out;omega) (fun x hx=>by have:=xzau HSO.out.2.1.1 x hx;have:=HIJ.out;omega) (by have:=HIJ.out;omega))
    have HS2:=zd (fun u (hu:Below wr.heap.size wr u)=>xzbk p.ends _ ((S.sets.length:Int) - i1) u (MK M1 (Kor K (w.heap.size+1))) (fun q hq=>Nat.lt_of_lt_of_le (HKW q hq) hu.size) ((HP.out.2.sub (hn1.sub (Kor K (w.heap.size+1)))).sub (xzad _ hu))
     (by have:=xzai HSO.out.2.1.2;have:=HIJ.out;omega) (fun x hx=>by have:=xzau HSO.out.2.1.2 x hx;have:=HIJ.out;omega) (by have:=HIJ.out;omega))
    have HKW2:=zd HKW;clear hm1 hn1 hb1 hold HH HKW hsz
    go_wp2_with fail
    refine xzan 14 80 (fun u=>Hid (Below wr.heap.size wr u)) (fun _ u u'=>Below u.heap.size u u')
     (fun i v u=>match i with
      |0=>v=.pointer (some ⟨w.heap.size,0,none⟩)
      |1=>v=.pointer (some ⟨w.heap.size,0,none⟩)
      |2=>v=.slice P1 p.first.length cp1
      |3=>v=.int .i64 ((S.sets.length:Int) - i1)
      |4=>IntsV (hide u (MK M1 (Kor K (w.heap.size+1)))) (shiftL ((S.sets.length:Int) - i1) p.first) v
      |5=>v=.pointer (some ⟨w.heap.size,0,none⟩)
      |6=>v=.pointer (some ⟨w.heap.size,1,none⟩)
      |7=>v=.slice P2 p.ends.length cp2
      |8=>v=.int .i64 ((S.sets.length:Int) - i1)
      |9=>IntsV (hide u (MK M1 (Kor K (w.heap.size+1)))) (shiftL ((S.sets.length:Int) - i1) p.ends) v
      |10=>∃ a b,v=.agg #[a,b]/\IntsV (hide u (MK M1 (Kor K (w.heap.size+1)))) (shiftL ((S.sets.length:Int) - i1) p.first) a/\IntsV (hide u (MK M1 (Kor K (w.heap.size+1)))) (shiftL ((S.sets.length:Int) - i1) p.ends) b
      |11=>v=.pointer (some ⟨w.heap.size,2,none⟩)
      |12=>v=.bool p.empty
      |13=>∃ a b,v=.agg #[a,b,.bool p.empty]/\IntsV (hide u (MK M1 (Kor K (w.heap.size+1)))) (shiftL ((S.sets.length:Int) - i1) p.first) a/\IntsV (hide u (MK M1 (Kor K (w.heap.size+1)))) (shiftL ((S.sets.length:Int) - i1) p.ends) b
      |_=>True) (by kernel_rfl) (by kernel_rfl) rfl (zd (Below.refl _ _).drew) ?_ ?_ ?_ ?_
    ·intro i u u' hix hC hr
     exact zd (hC.out.trans (hr.mono hC.out.size))
    ·intro i j v u u' hix hj hne hv hr
     match i,hix,hne,hv with
     |0,_,_,hv=>exact hv
     |1,_,_,hv=>exact hv
     |2,_,_,hv=>exact hv
     |3,_,_,hv=>exact hv
     |4,_,hne,hv=>
      exact hv.sub (xzad _ hr)
     |5,_,_,hv=>exact hv
     |6,_,_,hv=>exact hv
     |7,_,_,hv=>exact hv
     |8,_,_,hv=>exact hv
     |9,_,hne,hv=>
      exact hv.sub (xzad _ hr)
     |10,_,hne,hv=>
      obtain⟨a,b,e1,e2,e3⟩:=hv;exact⟨a,b,e1,e2.sub (xzad _ hr),e3.sub (xzad _ hr)⟩
     |11,_,_,hv=>exact hv
     |12,_,_,hv=>exact hv
     |13,_,hne,hv=>
      obtain⟨a,b,e1,e2,e3⟩:=hv;exact⟨a,b,e1,e2.sub (xzad _ hr),e3.sub (xzad _ hr)⟩
     |i+14,hix,_,_=>omega
    ·intro i hix vs u hC hw oq ho
     match i,hix,hw,ho with
     |0,_,hw,ho=>
      simp only [zq,zh]at ho;subst ho;refine⟨rfl,?_⟩;obtain⟨y0,y1,y2,_,_,_⟩:=three (HPT.out.step hC.out);clear hw;simp only [xzaa,tmpsTo];go_simp;exact xzab (Below.refl _ _) rfl
     |1,_,hw,ho=>
      have e0:vs 0=.pointer (some ⟨w.heap.size,0,none⟩):=hw 0 (by omega) (by kernel_rfl);simp only [zq,zh]at ho;subst ho;refine⟨rfl,?_⟩;obtain⟨y0,y1,y2,_,_,_⟩:=three (HPT.out.step hC.out);clear hw;simp only [xzaa,tmpsTo,putT,zr];rw [e0];clear e0;go_simp;exact xzab (Below.refl _ _) rfl
     |2,_,hw,ho=>
      have e1:vs 1=.pointer (some ⟨w.heap.size,0,none⟩):=hw 1 (by omega) (by kernel_rfl);simp only [zq,zh]at ho;subst ho;refine⟨rfl,?_⟩;obtain⟨y0,y1,y2,_,_,_⟩:=three (HPT.out.step hC.out);clear hw;simp only [xzaa,tmpsTo,putT,zr];rw [e1];clear e1;go_simp;exact xzab (Below.refl _ _) rfl
     |3,_,hw,ho=>
      simp only [zq,zh]at ho;subst ho;refine⟨rfl,?_⟩;obtain⟨y0,y1,y2,_,_,_⟩:=three (HPT.out.step hC.out);clear hw;simp only [xzaa,tmpsTo,putT,zr];go_simp;exact xzab (Below.refl _ _) rfl
     |4,_,hw,ho=>
      have e2:vs 2=.slice P1 p.first.length cp1:=hw 2 (by omega) (by kernel_rfl);have e3:vs 3=.int .i64 ((S.sets.length:Int) - i1):=hw 3 (by omega) (by kernel_rfl);simp only [zq,zh]at ho;subst ho;refine⟨rfl,?_⟩;obtain⟨y0,y1,y2,_,_,_⟩:=three (HPT.out.step hC.out);clear hw;simp only [xzaa,tmpsTo,putT,zr];rw [e2,e3];clear e2 e3;go_simp;refine xzbv ((HS1.out u hC.out).mono ?_);rintro e u' ⟨v',rfl,h1,h2⟩;exact⟨_,rfl,h2,h1⟩
     |5,_,hw,ho=>
      simp only [zq,zh]at ho;subst ho;refine⟨rfl,?_⟩;obtain⟨y0,y1,y2,_,_,_⟩:=three (HPT.out.step hC.out);clear hw;simp only [xzaa,tmpsTo,putT,zr];go_simp;exact xzab (Below.refl _ _) rfl
     |6,_,hw,ho=>
      have e5:vs 5=.pointer (some ⟨w.heap.size,0,none⟩):=hw 5 (by omega) (by kernel_rfl);simp only [zq,zh]at ho;subst ho;refine⟨rfl,?_⟩;obtain⟨y0,y1,y2,_,_,_⟩:=three (HPT.out.step hC.out);clear hw;simp only [xzaa,tmpsTo,putT,zr];rw [e5];clear e5;go_simp;exact xzab (Below.refl _ _) rfl
     |7,_,hw,ho=>
      have e6:vs 6=.pointer (some ⟨w.heap.size,1,none⟩):=hw 6 (by omega) (by kernel_rfl);simp only [zq,zh]at ho;subst ho;refine⟨rfl,?_⟩;obtain⟨y0,y1,y2,_,_,_⟩:=three (HPT.out.step hC.out);clear hw;simp only [xzaa,tmpsTo,putT,zr];rw [e6];clear e6;go_simp;exact xzab (Below.refl _ _) rfl
     |8,_,hw,ho=>
      simp only [zq,zh]at ho;subst ho;refine⟨rfl,?_⟩;obtain⟨y0,y1,y2,_,_,_⟩:=three (HPT.out.step hC.out);clear hw;simp only [xzaa,tmpsTo,putT,zr];go_simp;exact xzab (Below.refl _ _) rfl
     |9,_,hw,ho=>
      have e7:vs 7=.slice P2 p.ends.length cp2:=hw 7 (by omega) (by kernel_rfl);have e8:vs 8=.int .i64 ((S.sets.length:Int) - i1):=hw 8 (by omega) (by kernel_rfl);simp only [zq,zh]at ho;subst ho;refine⟨rfl,?_⟩;obtain⟨y0,y1,y2,_,_,_⟩:=three (HPT.out.step hC.out);clear hw;simp only [xzaa,tmpsTo,putT,zr];rw [e7,e8];clear e7 e8;go_simp;refine xzbv ((HS2.out u hC.out).mono ?_);rintro e u' ⟨v',rfl,h1,h2⟩;exact⟨_,rfl,h2,h1⟩
     |10,_,hw,ho=>
      have hv4:IntsV (hide u (MK M1 (Kor K (w.heap.size+1)))) (shiftL ((S.sets.length:Int) - i1) p.first) (vs 4):=hw 4 (by omega) (by kernel_rfl);obtain⟨A4,c4,e4,_⟩:=hv4.form;have hv9:IntsV (hide u (MK M1 (Kor K (w.heap.size+1)))) (shiftL ((S.sets.length:Int) - i1) p.ends) (vs 9):=hw 9 (by omega) (by kernel_rfl);obtain⟨A9,c9,e9,_⟩:=hv9.form;simp only [zq,zh]at ho;subst ho;refine⟨rfl,?_⟩;obtain⟨y0,y1,y2,_,_,_⟩:=three (HPT.out.step hC.out);clear hw;simp only [xzaa,tmpsTo,putT,zr];rw [e4]at hv4 ⊢;rw [e9]at hv9 ⊢;clear e4 e9;go_simp;exact xzab (Below.refl _ _) ⟨_,_,rfl,hv4,hv9⟩
     |11,_,hw,ho=>
      simp only [zq,zh]at ho;subst ho;refine⟨rfl,?_⟩;obtain⟨y0,y1,y2,_,_,_⟩:=three (HPT.out.step hC.out);clear hw;simp only [xzaa,tmpsTo,putT,zr];go_simp;exact xzab (Below.refl _ _) rfl
     |12,_,hw,ho=>
      have e11:vs 11=.pointer (some ⟨w.heap.size,2,none⟩):=hw 11 (by omega) (by kernel_rfl);simp only [zq,zh]at ho;subst ho;refine⟨rfl,?_⟩;obtain⟨y0,y1,y2,_,_,_⟩:=three (HPT.out.step hC.out);clear hw;simp only [xzaa,tmpsTo,putT,zr];rw [e11];clear e11;go_simp;exact xzab (Below.refl _ _) rfl
     |13,_,hw,ho=>
      obtain⟨a,b,e10,h4,h9⟩:∃ a b,vs 10=.agg #[a,b]/\IntsV (hide u (MK M1 (Kor K (w.heap.size+1)))) (shiftL ((S.sets.length:Int) - i1) p.first) a/\IntsV (hide u (MK M1 (Kor K (w.heap.size+1)))) (shiftL ((S.sets.length:Int) - i1) p.ends) b:=hw 10 (by omega) (by kernel_rfl);obtain⟨A4,c4,rfl,_⟩:=h4.form;obtain⟨A9,c9,rfl,_⟩:=h9.form;have e12:vs 12=.bool p.empty:=hw 12 (by omega) (by kernel_rfl);simp only [zq,zh]at ho;subst ho;refine⟨rfl,?_⟩;obtain⟨y0,y1,y2,_,_,_⟩:=three (HPT.out.step hC.out);clear hw;simp only [xzaa,tmpsTo,putT,zr];rw [e12];clear e12;rw [e10];clear e10;go_simp;exact xzab (Below.refl _ _) ⟨_,_,rfl,h4,h9⟩
     |i+14,hix,_,_=>omega
    intro vsz u hC hV;obtain⟨a,b,h13,ha,hb⟩:∃ a b,vsz 13=.agg #[a,b,.bool p.empty]/\IntsV (hide u (MK M1 (Kor K (w.heap.size+1)))) (shiftL ((S.sets.length:Int) - i1) p.first) a/\IntsV (hide u (MK M1 (Kor K (w.heap.size+1)))) (shiftL ((S.sets.length:Int) - i1) p.ends) b:=hV 13 (by omega);clear hV;simp only [xzaa,tmpsTo,putT,zr,List.drop_succ_cons,List.drop_zero];rw [h13];clear h13;generalize vsz 0=z0;generalize vsz 1=z1;generalize vsz 2=z2;generalize vsz 3=z3;generalize vsz 4=z4;generalize vsz 5=z5;generalize vsz 6=z6;generalize vsz 7=z7;generalize vsz 8=z8;generalize vsz 9=z9;generalize vsz 10=z10;generalize vsz 11=z11;generalize vsz 12=z12;obtain⟨Aa,ca,rfl, -⟩:=ha.form;obtain⟨Ab,cb,rfl, -⟩:=hb.form;have hpb:=HPB.out.step hC.out;obtain⟨b0,b1,b2,fb0,fb1,fb2⟩:=three hpb;have HFI:=zd (And.intro hpb (And.intro ha (And.intro hb hC.out)));have hlt3:=hpb.lt;clear hpb ha hb hC;go_wp2;have hl:=xzcd (xzbs (x:=.slice Aa (shiftL ((S.sets.length:Int) - i1) p.first).length ca) (y:=.slice Ab (shiftL ((S.sets.length:Int) - i1) p.ends).length cb) (z:=.bool p.empty) HFI.out.1);have hkb:(Kor K (w.heap.size+1)) (w.heap.size+1)=true:=xzff _ _;have hmb:M1 (w.heap.size+1)=false:=HB1.out.2.2
    have hfar:∀ U:World,Sub (hide U (MK M1 (Kor K (w.heap.size+1)))) (hide (((U.setCell ⟨w.heap.size+1,0,none⟩ (.slice Aa (shiftL ((S.sets.length:Int) - i1) p.first).length ca)).setCell ⟨w.heap.size+1,1,none⟩ (.slice Ab (shiftL ((S.sets.length:Int) - i1) p.ends).length cb)).setCell ⟨w.heap.size+1,2,none⟩ (.bool p.empty)) (MK M1 K)):=fun U=>
     (((xzap (M:=M1) (i:=0) hkb _).trans (xzap (M:=M1) (i:=1) hkb _)).trans (xzap (M:=M1) (i:=2) hkb _)).trans xzdg
    refine⟨rfl,_,xzaf rfl rfl hl,M1,_,rfl,(((HNN.out.trans (Nx.below HFI.out.2.2.2)).far (by omega)).far (by omega)).far (by omega),fun q hq=>?_,?_,_,_,rfl,HFI.out.2.1.sub (hfar u),HFI.out.2.2.1.sub (hfar u)⟩
    ·have:=HB1.out.1 q hq
     have:=HFI.out.2.2.2.size
     simp [World.setCell];omega
    ·have hmm:=HME.out.step HFI.out.2.2.2
     exact(((hmm.far hkb hmb).far hkb hmb).far hkb hmb).less
 ·obtain rfl:j1=i1:=by have:=HIJ.out;omega
  by_cases hci:cf=j1
  ·go_wp2
   go_loopw [47] (fun i wr=>∃ k:Nat,i=.int .i64 k/\k<=j1 - j1/\Hid (∃ (M1:Nat->Bool) (vs1 vf1:Value) (xs1:List Value),MkI M1 (Kor K (w.heap.size+1)) wr pb ⟨TT,S.follow++((S.follow.drop j1).take k).map (shiftL ((S.sets.length:Int) - j1))⟩ r f e m vs1 vf1 xs1/\Nx M M1 w2 wr/\((∀ q,M1 q=true->q<wr.heap.size)/\M1 w.heap.size=false/\M1 (w.heap.size+1)=false)/\True)) (fun i _=>(j1 - j1) - (intOf i).toNat)
   case atStart=>exact⟨0,rfl,Nat.zero_le _,zd ⟨Ma,_,_,_,by simpa using H1.out.1,H1.out.2.1,H1.out.2.2.1,trivial⟩⟩
   case round=>
    obtain⟨k,rfl,hk,HH⟩:=hrel;clear k0 k1 k2 k3 k4 k5 k0' k1' k2' k3' k4' k5' fz;obtain⟨M1,vs1,vf1,xs1,hm1,hn1,hb1,hold⟩:=HH.out
    have hdl:decide ((k:Int)<((j1 - j1:Nat):Int))=false:=by simp
    have hdl2:decide ((k:Int)<0)=false:=by simp
    obtain rfl:k=j1 - j1:=by omega
    have HME:=zd (show MkAt M1 (Kor K (w.heap.size+1)) wr pb (copiedS S j1 j1) r f e m from⟨vs1,vf1,xs1,by unfold copiedS;rw [<-HTT.out];exact hm1⟩);have HPT:=zd (show BlkIs wr w.heap.size 73 #[.slice P1 p.first.length cp1,.slice P2 p.ends.length cp2,.bool p.empty]from(hn1.block _ HBX.out.1.lt (HMK.out.2.2 _ (Nat.le_refl _))).trans HBX.out.1);have HPB:=zd (show BlkIs wr (w.heap.size+1) 73 #[.slice none 0 0,.slice none 0 0,.bool false]from(hn1.block _ HBX.out.2.lt (HMK.out.2.2 _ (by omega))).trans HBX.out.2);have HNN:=zd ((Nx.below HS.out.1).trans hn1);have HB1:=zd hb1
    have hsz:w.heap.size+2<=wr.heap.size:=by have:=hn1.size;have:=HS.out.2;omega
    have HSZ:=zd hsz
    have HKW:∀ q,MK M1 (Kor K (w.heap.size+1)) q=true->q<wr.heap.size:=fun q hq=>by
     unfold MK at hq;simp only [Bool.or_eq_true]at hq
     rcases hq with hq|hq
     ·exact hb1.1 q hq
     ·exact xzdr (fun k hk=>by have:=HMK.out.2.1 k hk;omega) (by omega) q hq
    have HS1:=zd (fun u (hu:Below wr.heap.size wr u)=>xzbk p.first _ ((S.sets.length:Int) - j1) u (MK M1 (Kor K (w.heap.size+1))) (fun q hq=>Nat.lt_of_lt_of_le (HKW q hq) hu.size) ((HP.out.1.sub (hn1.sub (Kor K (w.heap.size+1)))).sub (xzad _ hu))
     (by have:=xzai HSO.out.2.1.1;have:=HIJ.out;omega) (fun x hx=>by have:=xzau HSO.out.2.1.1 x hx;have:=HIJ.out;omega) (by have:=HIJ.out;omega))
    have HS2:=zd (fun u (hu:Below wr.heap.size wr u)=>xzbk p.ends _ ((S.sets.length:Int) - j1) u (MK M1 (Kor K (w.heap.size+1))) (fun q hq=>Nat.lt_of_lt_of_le (HKW q hq) hu.size) ((HP.out.2.sub (hn1.sub (Kor K (w.heap.size+1)))).sub (xzad _ hu))
     (by have:=xzai HSO.out.2.1.2;have:=HIJ.out;omega) (fun x hx=>by have:=xzau HSO.out.2.1.2 x hx;have:=HIJ.out;omega) (by have:=HIJ.out;omega))
    have HKW2:=zd HKW;clear hm1 hn1 hb1 hold HH HKW hsz
    go_wp2_with fail
    refine xzan 14 80 (fun u=>Hid (Below wr.heap.size wr u)) (fun _ u u'=>Below u.heap.size u u')
     (fun i v u=>match i with
      |0=>v=.pointer (some ⟨w.heap.size,0,none⟩)
      |1=>v=.pointer (some ⟨w.heap.size,0,none⟩)
      |2=>v=.slice P1 p.first.length cp1
      |3=>v=.int .i64 ((S.sets.length:Int) - j1)
      |4=>IntsV (hide u (MK M1 (Kor K (w.heap.size+1)))) (shiftL ((S.sets.length:Int) - j1) p.first) v
      |5=>v=.pointer (some ⟨w.heap.size,0,none⟩)
      |6=>v=.pointer (some ⟨w.heap.size,1,none⟩)
      |7=>v=.slice P2 p.ends.length cp2
      |8=>v=.int .i64 ((S.sets.length:Int) - j1)
      |9=>IntsV (hide u (MK M1 (Kor K (w.heap.size+1)))) (shiftL ((S.sets.length:Int) - j1) p.ends) v
      |10=>∃ a b,v=.agg #[a,b]/\IntsV (hide u (MK M1 (Kor K (w.heap.size+1)))) (shiftL ((S.sets.length:Int) - j1) p.first) a/\IntsV (hide u (MK M1 (Kor K (w.heap.size+1)))) (shiftL ((S.sets.length:Int) - j1) p.ends) b
      |11=>v=.pointer (some ⟨w.heap.size,2,none⟩)
      |12=>v=.bool p.empty
      |13=>∃ a b,v=.agg #[a,b,.bool p.empty]/\IntsV (hide u (MK M1 (Kor K (w.heap.size+1)))) (shiftL ((S.sets.length:Int) - j1) p.first) a/\IntsV (hide u (MK M1 (Kor K (w.heap.size+1)))) (shiftL ((S.sets.length:Int) - j1) p.ends) b
      |_=>True) (by kernel_rfl) (by kernel_rfl) rfl (zd (Below.refl _ _).drew) ?_ ?_ ?_ ?_
    ·intro i u u' hix hC hr
     exact zd (hC.out.trans (hr.mono hC.out.size))
    ·intro i j v u u' hix hj hne hv hr
     match i,hix,hne,hv with
     |0,_,_,hv=>exact hv
     |1,_,_,hv=>exact hv
     |2,_,_,hv=>exact hv
     |3,_,_,hv=>exact hv
     |4,_,hne,hv=>
      exact hv.sub (xzad _ hr)
     |5,_,_,hv=>exact hv
     |6,_,_,hv=>exact hv
     |7,_,_,hv=>exact hv
     |8,_,_,hv=>exact hv
     |9,_,hne,hv=>
      exact hv.sub (xzad _ hr)
     |10,_,hne,hv=>
      obtain⟨a,b,e1,e2,e3⟩:=hv;exact⟨a,b,e1,e2.sub (xzad _ hr),e3.sub (xzad _ hr)⟩
     |11,_,_,hv=>exact hv
     |12,_,_,hv=>exact hv
     |13,_,hne,hv=>
      obtain⟨a,b,e1,e2,e3⟩:=hv;exact⟨a,b,e1,e2.sub (xzad _ hr),e3.sub (xzad _ hr)⟩
     |i+14,hix,_,_=>omega
    ·intro i hix vs u hC hw oq ho
     match i,hix,hw,ho with
     |0,_,hw,ho=>
      simp only [zq,zh]at ho;subst ho;refine⟨rfl,?_⟩;obtain⟨y0,y1,y2,_,_,_⟩:=three (HPT.out.step hC.out);clear hw;simp only [xzaa,tmpsTo];go_simp;exact xzab (Below.refl _ _) rfl
     |1,_,hw,ho=>
      have e0:vs 0=.pointer (some ⟨w.heap.size,0,none⟩):=hw 0 (by omega) (by kernel_rfl);simp only [zq,zh]at ho;subst ho;refine⟨rfl,?_⟩;obtain⟨y0,y1,y2,_,_,_⟩:=three (HPT.out.step hC.out);clear hw;simp only [xzaa,tmpsTo,putT,zr];rw [e0];clear e0;go_simp;exact xzab (Below.refl _ _) rfl
     |2,_,hw,ho=>
      have e1:vs 1=.pointer (some ⟨w.heap.size,0,none⟩):=hw 1 (by omega) (by kernel_rfl);simp only [zq,zh]at ho;subst ho;refine⟨rfl,?_⟩;obtain⟨y0,y1,y2,_,_,_⟩:=three (HPT.out.step hC.out);clear hw;simp only [xzaa,tmpsTo,putT,zr];rw [e1];clear e1;go_simp;exact xzab (Below.refl _ _) rfl
     |3,_,hw,ho=>
      simp only [zq,zh]at ho;subst ho;refine⟨rfl,?_⟩;obtain⟨y0,y1,y2,_,_,_⟩:=three (HPT.out.step hC.out);clear hw;simp only [xzaa,tmpsTo,putT,zr];go_simp;exact xzab (Below.refl _ _) rfl
     |4,_,hw,ho=>
      have e2:vs 2=.slice P1 p.first.length cp1:=hw 2 (by omega) (by kernel_rfl);have e3:vs 3=.int .i64 ((S.sets.length:Int) - j1):=hw 3 (by omega) (by kernel_rfl);simp only [zq,zh]at ho;subst ho;refine⟨rfl,?_⟩;obtain⟨y0,y1,y2,_,_,_⟩:=three (HPT.out.step hC.out);clear hw;simp only [xzaa,tmpsTo,putT,zr];rw [e2,e3];clear e2 e3;go_simp;refine xzbv ((HS1.out u hC.out).mono ?_);rintro e u' ⟨v',rfl,h1,h2⟩;exact⟨_,rfl,h2,h1⟩
     |5,_,hw,ho=>
      simp only [zq,zh]at ho;subst ho;refine⟨rfl,?_⟩;obtain⟨y0,y1,y2,_,_,_⟩:=three (HPT.out.step hC.out);clear hw;simp only [xzaa,tmpsTo,putT,zr];go_simp;exact xzab (Below.refl _ _) rfl
     |6,_,hw,ho=>
      have e5:vs 5=.pointer (some ⟨w.heap.size,0,none⟩):=hw 5 (by omega) (by kernel_rfl);simp only [zq,zh]at ho;subst ho;refine⟨rfl,?_⟩;obtain⟨y0,y1,y2,_,_,_⟩:=three (HPT.out.step hC.out);clear hw;simp only [xzaa,tmpsTo,putT,zr];rw [e5];clear e5;go_simp;exact xzab (Below.refl _ _) rfl
     |7,_,hw,ho=>
      have e6:vs 6=.pointer (some ⟨w.heap.size,1,none⟩):=hw 6 (by omega) (by kernel_rfl);simp only [zq,zh]at ho;subst ho;refine⟨rfl,?_⟩;obtain⟨y0,y1,y2,_,_,_⟩:=three (HPT.out.step hC.out);clear hw;simp only [xzaa,tmpsTo,putT,zr];rw [e6];clear e6;go_simp;exact xzab (Below.refl _ _) rfl
     |8,_,hw,ho=>
      simp only [zq,zh]at ho;subst ho;refine⟨rfl,?_⟩;obtain⟨y0,y1,y2,_,_,_⟩:=three (HPT.out.step hC.out);clear hw;simp only [xzaa,tmpsTo,putT,zr];go_simp;exact xzab (Below.refl _ _) rfl
     |9,_,hw,ho=>
      have e7:vs 7=.slice P2 p.ends.length cp2:=hw 7 (by omega) (by kernel_rfl);have e8:vs 8=.int .i64 ((S.sets.length:Int) - j1):=hw 8 (by omega) (by kernel_rfl);simp only [zq,zh]at ho;subst ho;refine⟨rfl,?_⟩;obtain⟨y0,y1,y2,_,_,_⟩:=three (HPT.out.step hC.out);clear hw;simp only [xzaa,tmpsTo,putT,zr];rw [e7,e8];clear e7 e8;go_simp;refine xzbv ((HS2.out u hC.out).mono ?_);rintro e u' ⟨v',rfl,h1,h2⟩;exact⟨_,rfl,h2,h1⟩
     |10,_,hw,ho=>
      have hv4:IntsV (hide u (MK M1 (Kor K (w.heap.size+1)))) (shiftL ((S.sets.length:Int) - j1) p.first) (vs 4):=hw 4 (by omega) (by kernel_rfl);obtain⟨A4,c4,e4,_⟩:=hv4.form;have hv9:IntsV (hide u (MK M1 (Kor K (w.heap.size+1)))) (shiftL ((S.sets.length:Int) - j1) p.ends) (vs 9):=hw 9 (by omega) (by kernel_rfl);obtain⟨A9,c9,e9,_⟩:=hv9.form;simp only [zq,zh]at ho;subst ho;refine⟨rfl,?_⟩;obtain⟨y0,y1,y2,_,_,_⟩:=three (HPT.out.step hC.out);clear hw;simp only [xzaa,tmpsTo,putT,zr];rw [e4]at hv4 ⊢;rw [e9]at hv9 ⊢;clear e4 e9;go_simp;exact xzab (Below.refl _ _) ⟨_,_,rfl,hv4,hv9⟩
     |11,_,hw,ho=>
      simp only [zq,zh]at ho;subst ho;refine⟨rfl,?_⟩;obtain⟨y0,y1,y2,_,_,_⟩:=three (HPT.out.step hC.out);clear hw;simp only [xzaa,tmpsTo,putT,zr];go_simp;exact xzab (Below.refl _ _) rfl
     |12,_,hw,ho=>
      have e11:vs 11=.pointer (some ⟨w.heap.size,2,none⟩):=hw 11 (by omega) (by kernel_rfl);simp only [zq,zh]at ho;subst ho;refine⟨rfl,?_⟩;obtain⟨y0,y1,y2,_,_,_⟩:=three (HPT.out.step hC.out);clear hw;simp only [xzaa,tmpsTo,putT,zr];rw [e11];clear e11;go_simp;exact xzab (Below.refl _ _) rfl
     |13,_,hw,ho=>
      obtain⟨a,b,e10,h4,h9⟩:∃ a b,vs 10=.agg #[a,b]/\IntsV (hide u (MK M1 (Kor K (w.heap.size+1)))) (shiftL ((S.sets.length:Int) - j1) p.first) a/\IntsV (hide u (MK M1 (Kor K (w.heap.size+1)))) (shiftL ((S.sets.length:Int) - j1) p.ends) b:=hw 10 (by omega) (by kernel_rfl);obtain⟨A4,c4,rfl,_⟩:=h4.form;obtain⟨A9,c9,rfl,_⟩:=h9.form;have e12:vs 12=.bool p.empty:=hw 12 (by omega) (by kernel_rfl);simp only [zq,zh]at ho;subst ho;refine⟨rfl,?_⟩;obtain⟨y0,y1,y2,_,_,_⟩:=three (HPT.out.step hC.out);clear hw;simp only [xzaa,tmpsTo,putT,zr];rw [e12];clear e12;rw [e10];clear e10;go_simp;exact xzab (Below.refl _ _) ⟨_,_,rfl,h4,h9⟩
     |i+14,hix,_,_=>omega
    intro vsz u hC hV;obtain⟨a,b,h13,ha,hb⟩:∃ a b,vsz 13=.agg #[a,b,.bool p.empty]/\IntsV (hide u (MK M1 (Kor K (w.heap.size+1)))) (shiftL ((S.sets.length:Int) - j1) p.first) a/\IntsV (hide u (MK M1 (Kor K (w.heap.size+1)))) (shiftL ((S.sets.length:Int) - j1) p.ends) b:=hV 13 (by omega);clear hV;simp only [xzaa,tmpsTo,putT,zr,List.drop_succ_cons,List.drop_zero];rw [h13];clear h13;generalize vsz 0=z0;generalize vsz 1=z1;generalize vsz 2=z2;generalize vsz 3=z3;generalize vsz 4=z4;generalize vsz 5=z5;generalize vsz 6=z6;generalize vsz 7=z7;generalize vsz 8=z8;generalize vsz 9=z9;generalize vsz 10=z10;generalize vsz 11=z11;generalize vsz 12=z12;obtain⟨Aa,ca,rfl, -⟩:=ha.form;obtain⟨Ab,cb,rfl, -⟩:=hb.form;have hpb:=HPB.out.step hC.out;obtain⟨b0,b1,b2,fb0,fb1,fb2⟩:=three hpb;have HFI:=zd (And.intro hpb (And.intro ha (And.intro hb hC.out)));have hlt3:=hpb.lt;clear hpb ha hb hC;go_wp2;have hl:=xzcd (xzbs (x:=.slice Aa (shiftL ((S.sets.length:Int) - j1) p.first).length ca) (y:=.slice Ab (shiftL ((S.sets.length:Int) - j1) p.ends).length cb) (z:=.bool p.empty) HFI.out.1);have hkb:(Kor K (w.heap.size+1)) (w.heap.size+1)=true:=xzff _ _;have hmb:M1 (w.heap.size+1)=false:=HB1.out.2.2
    have hfar:∀ U:World,Sub (hide U (MK M1 (Kor K (w.heap.size+1)))) (hide (((U.setCell ⟨w.heap.size+1,0,none⟩ (.slice Aa (shiftL ((S.sets.length:Int) - j1) p.first).length ca)).setCell ⟨w.heap.size+1,1,none⟩ (.slice Ab (shiftL ((S.sets.length:Int) - j1) p.ends).length cb)).setCell ⟨w.heap.size+1,2,none⟩ (.bool p.empty)) (MK M1 K)):=fun U=>
     (((xzap (M:=M1) (i:=0) hkb _).trans (xzap (M:=M1) (i:=1) hkb _)).trans (xzap (M:=M1) (i:=2) hkb _)).trans xzdg
    refine⟨rfl,_,xzaf rfl rfl hl,M1,_,rfl,(((HNN.out.trans (Nx.below HFI.out.2.2.2)).far (by omega)).far (by omega)).far (by omega),fun q hq=>?_,?_,_,_,rfl,HFI.out.2.1.sub (hfar u),HFI.out.2.2.1.sub (hfar u)⟩
    ·have:=HB1.out.1 q hq
     have:=HFI.out.2.2.2.size
     simp [World.setCell];omega
    ·have hmm:=HME.out.step HFI.out.2.2.2
     exact(((hmm.far hkb hmb).far hkb hmb).far hkb hmb).less
  ·go_wp2
   go_loopw [47] (fun i wr=>∃ k:Nat,i=.int .i64 k/\k<=j1 - j1/\Hid (∃ (M1:Nat->Bool) (vs1 vf1:Value) (xs1:List Value),MkI M1 (Kor K (w.heap.size+1)) wr pb ⟨TT,S.follow++((S.follow.drop j1).take k).map (shiftL ((S.sets.length:Int) - j1))⟩ r f e m vs1 vf1 xs1/\Nx M M1 w2 wr/\((∀ q,M1 q=true->q<wr.heap.size)/\M1 w.heap.size=false/\M1 (w.heap.size+1)=false)/\True)) (fun i _=>(j1 - j1) - (intOf i).toNat)
   case atStart=>exact⟨0,rfl,Nat.zero_le _,zd ⟨Ma,_,_,_,by simpa using H1.out.1,H1.out.2.1,H1.out.2.2.1,trivial⟩⟩
   case round=>
    obtain⟨k,rfl,hk,HH⟩:=hrel;clear k0 k1 k2 k3 k4 k5 k0' k1' k2' k3' k4' k5' fz;obtain⟨M1,vs1,vf1,xs1,hm1,hn1,hb1,hold⟩:=HH.out
    have hdl:decide ((k:Int)<((j1 - j1:Nat):Int))=false:=by simp
    have hdl2:decide ((k:Int)<0)=false:=by simp
    obtain rfl:k=j1 - j1:=by omega
    have HME:=zd (show MkAt M1 (Kor K (w.heap.size+1)) wr pb (copiedS S j1 j1) r f e m from⟨vs1,vf1,xs1,by unfold copiedS;rw [<-HTT.out];exact hm1⟩);have HPT:=zd (show BlkIs wr w.heap.size 73 #[.slice P1 p.first.length cp1,.slice P2 p.ends.length cp2,.bool p.empty]from(hn1.block _ HBX.out.1.lt (HMK.out.2.2 _ (Nat.le_refl _))).trans HBX.out.1);have HPB:=zd (show BlkIs wr (w.heap.size+1) 73 #[.slice none 0 0,.slice none 0 0,.bool false]from(hn1.block _ HBX.out.2.lt (HMK.out.2.2 _ (by omega))).trans HBX.out.2);have HNN:=zd ((Nx.below HS.out.1).trans hn1);have HB1:=zd hb1
    have hsz:w.heap.size+2<=wr.heap.size:=by have:=hn1.size;have:=HS.out.2;omega
    have HSZ:=zd hsz
    have HKW:∀ q,MK M1 (Kor K (w.heap.size+1)) q=true->q<wr.heap.size:=fun q hq=>by
     unfold MK at hq;simp only [Bool.or_eq_true]at hq
     rcases hq with hq|hq
     ·exact hb1.1 q hq
     ·exact xzdr (fun k hk=>by have:=HMK.out.2.1 k hk;omega) (by omega) q hq
    have HS1:=zd (fun u (hu:Below wr.heap.size wr u)=>xzbk p.first _ ((S.sets.length:Int) - j1) u (MK M1 (Kor K (w.heap.size+1))) (fun q hq=>Nat.lt_of_lt_of_le (HKW q hq) hu.size) ((HP.out.1.sub (hn1.sub (Kor K (w.heap.size+1)))).sub (xzad _ hu))
     (by have:=xzai HSO.out.2.1.1;have:=HIJ.out;omega) (fun x hx=>by have:=xzau HSO.out.2.1.1 x hx;have:=HIJ.out;omega) (by have:=HIJ.out;omega))
    have HS2:=zd (fun u (hu:Below wr.heap.size wr u)=>xzbk p.ends _ ((S.sets.length:Int) - j1) u (MK M1 (Kor K (w.heap.size+1))) (fun q hq=>Nat.lt_of_lt_of_le (HKW q hq) hu.size) ((HP.out.2.sub (hn1.sub (Kor K (w.heap.size+1)))).sub (xzad _ hu))
     (by have:=xzai HSO.out.2.1.2;have:=HIJ.out;omega) (fun x hx=>by have:=xzau HSO.out.2.1.2 x hx;have:=HIJ.out;omega) (by have:=HIJ.out;omega))
    have HKW2:=zd HKW;clear hm1 hn1 hb1 hold HH HKW hsz
    go_wp2_with fail
    refine xzan 14 80 (fun u=>Hid (Below wr.heap.size wr u)) (fun _ u u'=>Below u.heap.size u u')
     (fun i v u=>match i with
      |0=>v=.pointer (some ⟨w.heap.size,0,none⟩)
      |1=>v=.pointer (some ⟨w.heap.size,0,none⟩)
      |2=>v=.slice P1 p.first.length cp1
      |3=>v=.int .i64 ((S.sets.length:Int) - j1)
      |4=>IntsV (hide u (MK M1 (Kor K (w.heap.size+1)))) (shiftL ((S.sets.length:Int) - j1) p.first) v
      |5=>v=.pointer (some ⟨w.heap.size,0,none⟩)
      |6=>v=.pointer (some ⟨w.heap.size,1,none⟩)
      |7=>v=.slice P2 p.ends.length cp2
      |8=>v=.int .i64 ((S.sets.length:Int) - j1)
      |9=>IntsV (hide u (MK M1 (Kor K (w.heap.size+1)))) (shiftL ((S.sets.length:Int) - j1) p.ends) v
      |10=>∃ a b,v=.agg #[a,b]/\IntsV (hide u (MK M1 (Kor K (w.heap.size+1)))) (shiftL ((S.sets.length:Int) - j1) p.first) a/\IntsV (hide u (MK M1 (Kor K (w.heap.size+1)))) (shiftL ((S.sets.length:Int) - j1) p.ends) b
      |11=>v=.pointer (some ⟨w.heap.size,2,none⟩)
      |12=>v=.bool p.empty
      |13=>∃ a b,v=.agg #[a,b,.bool p.empty]/\IntsV (hide u (MK M1 (Kor K (w.heap.size+1)))) (shiftL ((S.sets.length:Int) - j1) p.first) a/\IntsV (hide u (MK M1 (Kor K (w.heap.size+1)))) (shiftL ((S.sets.length:Int) - j1) p.ends) b
      |_=>True) (by kernel_rfl) (by kernel_rfl) rfl (zd (Below.refl _ _).drew) ?_ ?_ ?_ ?_
    ·intro i u u' hix hC hr
     exact zd (hC.out.trans (hr.mono hC.out.size))
    ·intro i j v u u' hix hj hne hv hr
     match i,hix,hne,hv with
     |0,_,_,hv=>exact hv
     |1,_,_,hv=>exact hv
     |2,_,_,hv=>exact hv
     |3,_,_,hv=>exact hv
     |4,_,hne,hv=>
      exact hv.sub (xzad _ hr)
     |5,_,_,hv=>exact hv
     |6,_,_,hv=>exact hv
     |7,_,_,hv=>exact hv
     |8,_,_,hv=>exact hv
     |9,_,hne,hv=>
      exact hv.sub (xzad _ hr)
     |10,_,hne,hv=>
      obtain⟨a,b,e1,e2,e3⟩:=hv;exact⟨a,b,e1,e2.sub (xzad _ hr),e3.sub (xzad _ hr)⟩
     |11,_,_,hv=>exact hv
     |12,_,_,hv=>exact hv
     |13,_,hne,hv=>
      obtain⟨a,b,e1,e2,e3⟩:=hv;exact⟨a,b,e1,e2.sub (xzad _ hr),e3.sub (xzad _ hr)⟩
     |i+14,hix,_,_=>omega
    ·intro i hix vs u hC hw oq ho
     match i,hix,hw,ho with
     |0,_,hw,ho=>
      simp only [zq,zh]at ho;subst ho;refine⟨rfl,?_⟩;obtain⟨y0,y1,y2,_,_,_⟩:=three (HPT.out.step hC.out);clear hw;simp only [xzaa,tmpsTo];go_simp;exact xzab (Below.refl _ _) rfl
     |1,_,hw,ho=>
      have e0:vs 0=.pointer (some ⟨w.heap.size,0,none⟩):=hw 0 (by omega) (by kernel_rfl);simp only [zq,zh]at ho;subst ho;refine⟨rfl,?_⟩;obtain⟨y0,y1,y2,_,_,_⟩:=three (HPT.out.step hC.out);clear hw;simp only [xzaa,tmpsTo,putT,zr];rw [e0];clear e0;go_simp;exact xzab (Below.refl _ _) rfl
     |2,_,hw,ho=>
      have e1:vs 1=.pointer (some ⟨w.heap.size,0,none⟩):=hw 1 (by omega) (by kernel_rfl);simp only [zq,zh]at ho;subst ho;refine⟨rfl,?_⟩;obtain⟨y0,y1,y2,_,_,_⟩:=three (HPT.out.step hC.out);clear hw;simp only [xzaa,tmpsTo,putT,zr];rw [e1];clear e1;go_simp;exact xzab (Below.refl _ _) rfl
     |3,_,hw,ho=>
      simp only [zq,zh]at ho;subst ho;refine⟨rfl,?_⟩;obtain⟨y0,y1,y2,_,_,_⟩:=three (HPT.out.step hC.out);clear hw;simp only [xzaa,tmpsTo,putT,zr];go_simp;exact xzab (Below.refl _ _) rfl
     |4,_,hw,ho=>
      have e2:vs 2=.slice P1 p.first.length cp1:=hw 2 (by omega) (by kernel_rfl);have e3:vs 3=.int .i64 ((S.sets.length:Int) - j1):=hw 3 (by omega) (by kernel_rfl);simp only [zq,zh]at ho;subst ho;refine⟨rfl,?_⟩;obtain⟨y0,y1,y2,_,_,_⟩:=three (HPT.out.step hC.out);clear hw;simp only [xzaa,tmpsTo,putT,zr];rw [e2,e3];clear e2 e3;go_simp;refine xzbv ((HS1.out u hC.out).mono ?_);rintro e u' ⟨v',rfl,h1,h2⟩;exact⟨_,rfl,h2,h1⟩
     |5,_,hw,ho=>
      simp only [zq,zh]at ho;subst ho;refine⟨rfl,?_⟩;obtain⟨y0,y1,y2,_,_,_⟩:=three (HPT.out.step hC.out);clear hw;simp only [xzaa,tmpsTo,putT,zr];go_simp;exact xzab (Below.refl _ _) rfl
     |6,_,hw,ho=>
      have e5:vs 5=.pointer (some ⟨w.heap.size,0,none⟩):=hw 5 (by omega) (by kernel_rfl);simp only [zq,zh]at ho;subst ho;refine⟨rfl,?_⟩;obtain⟨y0,y1,y2,_,_,_⟩:=three (HPT.out.step hC.out);clear hw;simp only [xzaa,tmpsTo,putT,zr];rw [e5];clear e5;go_simp;exact xzab (Below.refl _ _) rfl
     |7,_,hw,ho=>
      have e6:vs 6=.pointer (some ⟨w.heap.size,1,none⟩):=hw 6 (by omega) (by kernel_rfl);simp only [zq,zh]at ho;subst ho;refine⟨rfl,?_⟩;obtain⟨y0,y1,y2,_,_,_⟩:=three (HPT.out.step hC.out);clear hw;simp only [xzaa,tmpsTo,putT,zr];rw [e6];clear e6;go_simp;exact xzab (Below.refl _ _) rfl
     |8,_,hw,ho=>
      simp only [zq,zh]at ho;subst ho;refine⟨rfl,?_⟩;obtain⟨y0,y1,y2,_,_,_⟩:=three (HPT.out.step hC.out);clear hw;simp only [xzaa,tmpsTo,putT,zr];go_simp;exact xzab (Below.refl _ _) rfl
     |9,_,hw,ho=>
      have e7:vs 7=.slice P2 p.ends.length cp2:=hw 7 (by omega) (by kernel_rfl);have e8:vs 8=.int .i64 ((S.sets.length:Int) - j1):=hw 8 (by omega) (by kernel_rfl);simp only [zq,zh]at ho;subst ho;refine⟨rfl,?_⟩;obtain⟨y0,y1,y2,_,_,_⟩:=three (HPT.out.step hC.out);clear hw;simp only [xzaa,tmpsTo,putT,zr];rw [e7,e8];clear e7 e8;go_simp;refine xzbv ((HS2.out u hC.out).mono ?_);rintro e u' ⟨v',rfl,h1,h2⟩;exact⟨_,rfl,h2,h1⟩
     |10,_,hw,ho=>
      have hv4:IntsV (hide u (MK M1 (Kor K (w.heap.size+1)))) (shiftL ((S.sets.length:Int) - j1) p.first) (vs 4):=hw 4 (by omega) (by kernel_rfl);obtain⟨A4,c4,e4,_⟩:=hv4.form;have hv9:IntsV (hide u (MK M1 (Kor K (w.heap.size+1)))) (shiftL ((S.sets.length:Int) - j1) p.ends) (vs 9):=hw 9 (by omega) (by kernel_rfl);obtain⟨A9,c9,e9,_⟩:=hv9.form;simp only [zq,zh]at ho;subst ho;refine⟨rfl,?_⟩;obtain⟨y0,y1,y2,_,_,_⟩:=three (HPT.out.step hC.out);clear hw;simp only [xzaa,tmpsTo,putT,zr];rw [e4]at hv4 ⊢;rw [e9]at hv9 ⊢;clear e4 e9;go_simp;exact xzab (Below.refl _ _) ⟨_,_,rfl,hv4,hv9⟩
     |11,_,hw,ho=>
      simp only [zq,zh]at ho;subst ho;refine⟨rfl,?_⟩;obtain⟨y0,y1,y2,_,_,_⟩:=three (HPT.out.step hC.out);clear hw;simp only [xzaa,tmpsTo,putT,zr];go_simp;exact xzab (Below.refl _ _) rfl
     |12,_,hw,ho=>
      have e11:vs 11=.pointer (some ⟨w.heap.size,2,none⟩):=hw 11 (by omega) (by kernel_rfl);simp only [zq,zh]at ho;subst ho;refine⟨rfl,?_⟩;obtain⟨y0,y1,y2,_,_,_⟩:=three (HPT.out.step hC.out);clear hw;simp only [xzaa,tmpsTo,putT,zr];rw [e11];clear e11;go_simp;exact xzab (Below.refl _ _) rfl
     |13,_,hw,ho=>
      obtain⟨a,b,e10,h4,h9⟩:∃ a b,vs 10=.agg #[a,b]/\IntsV (hide u (MK M1 (Kor K (w.heap.size+1)))) (shiftL ((S.sets.length:Int) - j1) p.first) a/\IntsV (hide u (MK M1 (Kor K (w.heap.size+1)))) (shiftL ((S.sets.length:Int) - j1) p.ends) b:=hw 10 (by omega) (by kernel_rfl);obtain⟨A4,c4,rfl,_⟩:=h4.form;obtain⟨A9,c9,rfl,_⟩:=h9.form;have e12:vs 12=.bool p.empty:=hw 12 (by omega) (by kernel_rfl);simp only [zq,zh]at ho;subst ho;refine⟨rfl,?_⟩;obtain⟨y0,y1,y2,_,_,_⟩:=three (HPT.out.step hC.out);clear hw;simp only [xzaa,tmpsTo,putT,zr];rw [e12];clear e12;rw [e10];clear e10;go_simp;exact xzab (Below.refl _ _) ⟨_,_,rfl,h4,h9⟩
     |i+14,hix,_,_=>omega
    intro vsz u hC hV;obtain⟨a,b,h13,ha,hb⟩:∃ a b,vsz 13=.agg #[a,b,.bool p.empty]/\IntsV (hide u (MK M1 (Kor K (w.heap.size+1)))) (shiftL ((S.sets.length:Int) - j1) p.first) a/\IntsV (hide u (MK M1 (Kor K (w.heap.size+1)))) (shiftL ((S.sets.length:Int) - j1) p.ends) b:=hV 13 (by omega);clear hV;simp only [xzaa,tmpsTo,putT,zr,List.drop_succ_cons,List.drop_zero];rw [h13];clear h13;generalize vsz 0=z0;generalize vsz 1=z1;generalize vsz 2=z2;generalize vsz 3=z3;generalize vsz 4=z4;generalize vsz 5=z5;generalize vsz 6=z6;generalize vsz 7=z7;generalize vsz 8=z8;generalize vsz 9=z9;generalize vsz 10=z10;generalize vsz 11=z11;generalize vsz 12=z12;obtain⟨Aa,ca,rfl, -⟩:=ha.form;obtain⟨Ab,cb,rfl, -⟩:=hb.form;have hpb:=HPB.out.step hC.out;obtain⟨b0,b1,b2,fb0,fb1,fb2⟩:=three hpb;have HFI:=zd (And.intro hpb (And.intro ha (And.intro hb hC.out)));have hlt3:=hpb.lt;clear hpb ha hb hC;go_wp2;have hl:=xzcd (xzbs (x:=.slice Aa (shiftL ((S.sets.length:Int) - j1) p.first).length ca) (y:=.slice Ab (shiftL ((S.sets.length:Int) - j1) p.ends).length cb) (z:=.bool p.empty) HFI.out.1);have hkb:(Kor K (w.heap.size+1)) (w.heap.size+1)=true:=xzff _ _;have hmb:M1 (w.heap.size+1)=false:=HB1.out.2.2
    have hfar:∀ U:World,Sub (hide U (MK M1 (Kor K (w.heap.size+1)))) (hide (((U.setCell ⟨w.heap.size+1,0,none⟩ (.slice Aa (shiftL ((S.sets.length:Int) - j1) p.first).length ca)).setCell ⟨w.heap.size+1,1,none⟩ (.slice Ab (shiftL ((S.sets.length:Int) - j1) p.ends).length cb)).setCell ⟨w.heap.size+1,2,none⟩ (.bool p.empty)) (MK M1 K)):=fun U=>
     (((xzap (M:=M1) (i:=0) hkb _).trans (xzap (M:=M1) (i:=1) hkb _)).trans (xzap (M:=M1) (i:=2) hkb _)).trans xzdg
    refine⟨rfl,_,xzaf rfl rfl hl,M1,_,rfl,(((HNN.out.trans (Nx.below HFI.out.2.2.2)).far (by omega)).far (by omega)).far (by omega),fun q hq=>?_,?_,_,_,rfl,HFI.out.2.1.sub (hfar u),HFI.out.2.2.1.sub (hfar u)⟩
    ·have:=HB1.out.1 q hq
     have:=HFI.out.2.2.2.size
     simp [World.setCell];omega
    ·have hmm:=HME.out.step HFI.out.2.2.2
     exact(((hmm.far hkb hmb).far hkb hmb).far hkb hmb).less
end Go.Proofs.Ythoaaginadjaoaa
