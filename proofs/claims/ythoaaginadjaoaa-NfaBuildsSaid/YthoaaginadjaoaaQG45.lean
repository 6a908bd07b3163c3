/-
 hacklelaw08's alive ANSWERS true: a contract. No condition.
-/
import Derived.Test.YthoaaginadjaoaaQG44
import Derived.Test.YthoaaginadjaoaaQG28
import Derived.Test.YthoaaginadjaoaaQG11
import Derived.Test.YthoaaginadjaoaaQG05
namespace Go.Proofs.Ythoaaginadjaoaa
section
open Go.RowKit
attribute [local irreducible] FreeW
def z8 (k:Int)(A:Option Addr)(n:Nat)(hi:Int):Array Value:=#[.int .i64 k,.int .u64 0,.int .u64 0,.int .u64 0,.int .u64 0,.slice A n n,.int .i64 0,.int .i64 hi]
theorem xzvn (k:Int)(A:Option Addr)(n:Nat)(hi:Int):z8 k A n hi=(reL k (fun _=>false) A n n 0 hi).toArray:=by
 have e:=xzkj k A n n 0 hi;unfold reV at e;exact(Value.agg.inj e).symm
theorem xzqn {w U:World}{l:List Tree}{k hi:Int}{g:Nat}(h:AllAt U l g 0)(hb:Below w.heap.size w U)(hl:l.length<=9223372036854775807):
 InBox8 w (.node k (fun _=>false) l 0 hi) U.heap.size (some ⟨g,0,none⟩) l.length l.length (U.alloc (.cells (z8 k (some ⟨g,0,none⟩) l.length hi) 39)):=by
 have hn:=xzlw (k:=k) (m:=fun _=>false) (lo:=0) (hi:=hi) (c:=l.length) h ⟨Nat.le_refl _,hl⟩;rw [xzvn];exact⟨hn.step ((Below.refl _ _).alloc (Nat.le_refl _) _),BlkIs.new _ _ _,hb.alloc hb.size _⟩
theorem xzvo {U:World}{l:List Tree}{k hi:Int}{g:Nat}(h:AllAt U l g 0)(hl:l.length<=9223372036854775807):
 AllAt (U.alloc (.cells (z8 k (some ⟨g,0,none⟩) l.length hi) 39)) [.node k (fun _=>false) l 0 hi] U.heap.size 0:=by
 have hn:=xzlw (k:=k) (m:=fun _=>false) (lo:=0) (hi:=hi) (c:=l.length) h ⟨Nat.le_refl _,hl⟩;rw [xzvn];exact rows18 hn
set_option maxRecDepth 20000 in
set_option maxHeartbeats 8000000 in
theorem xzqo (w:World):Calls Try.prog 4 #[] w fun e w'=>e=.returned (.bool true)/\Below w.heap.size w w':=by
 have HA:=zd (show ∀ u,Calls Try.prog 15 #[.int .i64 97] u fun e u'=>e=.returned (reV 1 (sRange 97 97) none 0 0 0 0)/\Below u.heap.size u u' from fun u=>xzfa 97 (by omega) u);have HB:=zd (show ∀ u,Calls Try.prog 15 #[.int .i64 98] u fun e u'=>e=.returned (reV 1 (sRange 98 98) none 0 0 0 0)/\Below u.heap.size u u' from fun u=>xzfa 98 (by omega) u);have HC:=zd (show ∀ u,Calls Try.prog 15 #[.int .i64 99] u fun e u'=>e=.returned (reV 1 (sRange 99 99) none 0 0 0 0)/\Below u.heap.size u u' from fun u=>xzfa 99 (by omega) u)
 have h97:=fun(W:World)=>xzqm W 97
 have h98:=fun(W:World)=>xzqm W 98
 have h99:=fun(W:World)=>xzqm W 99
 generalize hs97:sRange 97 97=s97 at*;generalize hs98:sRange 98 98=s98 at*;generalize hs99:sRange 99 99=s99 at*;have HAT:=zd (And.intro h97 (And.intro h98 h99));clear h97 h98 h99
 go_enter Try.func4,Try.ntmps4
 go_wp2_with fail
 go_at_call 15
 refine(HB.out _).mono ?_;rintro e u1 ⟨rfl,hb1⟩;unfold reV reL
 go_wp2_with fail
 go_at_call 15
 refine(HC.out _).mono ?_;rintro e u2 ⟨rfl,hb2⟩;have HB2:=zd (hb1.trans (hb2.mono hb1.size));clear hb1 hb2;unfold reV reL
 have hr1:=rows28 (HAT.out.2.1 u2) (HAT.out.2.2 u2);unfold reL at hr1;simp only [List.cons_append,List.nil_append]at hr1;obtain⟨U1,hU1⟩:∃ U1,u2.alloc (.cells #[.int .i64 1,.int .u64 (wd s98 0:Nat),.int .u64 (wd s98 1:Nat),.int .u64 (wd s98 2:Nat),.int .u64 (wd s98 3:Nat),.slice none 0 0,.int .i64 0,.int .i64 0,.int .i64 1,.int .u64 (wd s99 0:Nat),.int .u64 (wd s99 1:Nat),.int .u64 (wd s99 2:Nat),.int .u64 (wd s99 3:Nat),.slice none 0 0,.int .i64 0,.int .i64 0] 39)=U1:=⟨_,rfl⟩;rw [show u2.alloc (.cells ([.int .i64 1,.int .u64 (wd s98 0:Nat),.int .u64 (wd s98 1:Nat),.int .u64 (wd s98 2:Nat),.int .u64 (wd s98 3:Nat),.slice none 0 0,.int .i64 0,.int .i64 0,.int .i64 1,.int .u64 (wd s99 0:Nat),.int .u64 (wd s99 1:Nat),.int .u64 (wd s99 2:Nat),.int .u64 (wd s99 3:Nat),.slice none 0 0,.int .i64 0,.int .i64 0]:List Value).toArray 39)=U1 from hU1]at hr1
 have hbU1:Below w.heap.size w U1:=by rw [<-hU1];exact HB2.out.alloc HB2.out.size _
 have hsU1:U1.heap.size=u2.heap.size+1:=by rw [<-hU1];simp
 have hr2:=xzvo (k:=3) (hi:=0) hr1 (by decide)
 have hx:InBox8 w starA ((U1.alloc (.cells (z8 3 (some ⟨u2.heap.size,0,none⟩) 2 0) 39))).heap.size (some ⟨U1.heap.size,0,none⟩) 1 1 ((U1.alloc (.cells (z8 3 (some ⟨u2.heap.size,0,none⟩) 2 0) 39)).alloc (.cells (z8 4 (some ⟨U1.heap.size,0,none⟩) 1 (-1)) 39)):=
  xzqn (l:=[altA]) (k:=4) (hi:= -1) hr2 (hbU1.alloc hbU1.size _) (by decide)
 rw [hsU1,World.size_alloc,hsU1]at hx;unfold z8 at hx;generalize hW3:World.alloc (World.alloc U1 _) _=W3 at hx;have HX:Hid (InBox8 w starA (u2.heap.size+1+1) (some ⟨u2.heap.size+1,0,none⟩) 1 1 W3):=zd hx;clear hx hr1 hr2 hbU1
 go_wp2_with fail
 refine xzhr 5 73 (fun u=>InBox8 w starA (u2.heap.size+1+1) (some ⟨u2.heap.size+1,0,none⟩) 1 1 u) (fun i v u=>match i with
  |0=>v=reV 1 s97 none 0 0 0 0
  |1=>v=reV 4 (fun _=>false) (some ⟨u2.heap.size+1,0,none⟩) 1 1 0 (-1)
  |2=>∃ g,v=.slice (some ⟨g,0,none⟩) 2 2/\AllAt u [ltr8 97,starA] g 0
  |3=>∃ g,v=reV 2 (fun _=>false) (some ⟨g,0,none⟩) 2 2 0 0/\exA.At u v
  |_=>∃ g,v=.pointer (some ⟨g,0,none⟩)/\w.heap.size<=g/\BlkIs u g 39 zeroL.toArray) (by kernel_rfl) (by kernel_rfl) rfl (HX.out.step (Below.refl _ _).drew) (fun u u' h hb=>h.step hb) ?_ ?_ ?_
 ·intro i v u u' hi h hb
  match i,h with
  |0,h=>exact h
  |1,h=>exact h
  |2,⟨g,h1,h2⟩=>exact⟨g,h1,h2.step hb⟩
  |3,⟨g,h1,h2⟩=>exact⟨g,h1,h2.step hb⟩
  |i+4,⟨g,h1,h2,h3⟩=>exact⟨g,h1,h2,h3.step hb⟩
 ·intro i hi vs u hC hw o ho
  have hi':i=0\/i=1\/i=2\/i=3\/i=4:=by omega
  rcases hi' with rfl|rfl|rfl|rfl|rfl
  ·simp at ho
   subst ho;refine⟨rfl,?_⟩;simp only [textFrame];go_simp;refine xzre ((HA.out u).mono ?_);rintro e u' ⟨rfl,hb⟩;exact⟨_,rfl,hb,rfl⟩
  ·simp at ho
   subst ho;refine⟨rfl,?_⟩;rw [xzix 39 (.tmp 1) _ rfl rfl (loadRe hC.2.1)];exact xznr rfl
  ·have e0:vs 0=reV 1 s97 none 0 0 0 0:=hw 0 (by omega) (by kernel_rfl)
   have e1:vs 1=reV 4 (fun _=>false) (some ⟨u2.heap.size+1,0,none⟩) 1 1 0 (-1):=hw 1 (by omega) (by kernel_rfl)
   simp at ho
   subst ho;refine⟨rfl,?_⟩;simp only [textFrame,Act.put];rw [e0,e1];unfold reV reL;go_simp;refine xzib _ ⟨_,rfl,?_⟩;exact rows28 (T2:=starA) (k2:=4) (m2:=fun _=>false) (A2:=some ⟨u2.heap.size+1,0,none⟩) (n2:=1) (c2:=1) (l2:=0) (h2:= -1) (HAT.out.1 u) hC.1
  ·obtain⟨g,e2,h2⟩:∃ g,vs 2=.slice (some ⟨g,0,none⟩) 2 2/\AllAt u [ltr8 97,starA] g 0:=hw 2 (by omega) (by kernel_rfl)
   simp at ho
   subst ho;refine⟨rfl,?_⟩;simp only [textFrame,Act.put];rw [e2];go_simp;refine xznr ⟨⟨g,(xzkj 2 (some ⟨g,0,none⟩) 2 2 0 0).symm⟩,?_⟩;rw [<-xzkj];exact xzlw h2 ⟨Nat.le_refl _,by decide⟩
  ·simp at ho
   subst ho;refine⟨rfl,?_⟩;simp only [textFrame,Act.put];go_simp;exact xzib _ ⟨_,rfl,hC.2.2.size,BlkIs.new _ _ _⟩
 ·intro vs u hC hbu hV
  obtain⟨g3,e3,h3⟩:∃ g,vs 3=reV 2 (fun _=>false) (some ⟨g,0,none⟩) 2 2 0 0/\exA.At u (vs 3):=hV 3 (by omega);obtain⟨g4,e4,h4,hz⟩:∃ g,vs 4=.pointer (some ⟨g,0,none⟩)/\w.heap.size<=g/\BlkIs u g 39 zeroL.toArray:=hV 4 (by omega);rw [e3]at h3;have hy:InBox8 w exA g4 (some ⟨g3,0,none⟩) 2 2 (u.setCells g4 0 (reL 2 (fun _=>false) (some ⟨g3,0,none⟩) 2 2 0 0)):=xzvm (T:=exA) rfl h3 hz h4 hC.2.2;obtain⟨W4,hW4⟩:∃ W4,W4=u.setCells g4 0 (reL 2 (fun _=>false) (some ⟨g3,0,none⟩) 2 2 0 0):=⟨_,rfl⟩;rw [<-hW4]at hy;have HY:=zd hy;have HZ:=zd hz;clear hy hz h3 hV hC hbu HX;simp only [textFrame,Act.put,zr,List.drop_succ_cons,List.drop_zero];rw [e3,e4];clear e3 e4;generalize vs 0=x0;generalize vs 1=x1;generalize vs 2=x2;unfold reV;refine wpList_store_mid rfl 39 (.tmp 2) (.tmp 17) rfl g4 0 (reL 2 (fun _=>false) (some ⟨g3,0,none⟩) 2 2 0 0).toArray rfl rfl HZ.out.there xzjt xztc ?_;rw [show(reL 2 (fun _=>false) (some ⟨g3,0,none⟩) 2 2 0 0).toArray.toList=reL 2 (fun _=>false) (some ⟨g3,0,none⟩) 2 2 0 0 from rfl,<-hW4];clear hW4
  go_wp2_with fail
  go_at_call 15
  refine(HA.out _).mono ?_;rintro e u5 ⟨rfl,hb5⟩;unfold reV reL
  go_wp2_with fail
  go_at_call 15
  refine(HB.out _).mono ?_;rintro e u6 ⟨rfl,hb6⟩;have HY6:=zd (HY.out.step (hb5.trans (hb6.mono hb5.size)));clear hb5 hb6;unfold reV reL;have hr1:=rows18 (HAT.out.2.1 u6);unfold reL at hr1;obtain⟨U7,hU7⟩:∃ U7,u6.alloc (.cells #[.int .i64 1,.int .u64 (wd s98 0:Nat),.int .u64 (wd s98 1:Nat),.int .u64 (wd s98 2:Nat),.int .u64 (wd s98 3:Nat),.slice none 0 0,.int .i64 0,.int .i64 0] 39)=U7:=⟨_,rfl⟩;rw [show u6.alloc (.cells ([.int .i64 1,.int .u64 (wd s98 0:Nat),.int .u64 (wd s98 1:Nat),.int .u64 (wd s98 2:Nat),.int .u64 (wd s98 3:Nat),.slice none 0 0,.int .i64 0,.int .i64 0]:List Value).toArray 39)=U7 from hU7]at hr1
  have hb7:Below u6.heap.size u6 U7:=by rw [<-hU7];exact(Below.refl _ _).alloc (Nat.le_refl _) _
  have hs7:U7.heap.size=u6.heap.size+1:=by rw [<-hU7];simp
  have hob:optB.At U7 (reV 4 (fun _=>false) (some ⟨u6.heap.size,0,none⟩) 1 1 0 1):=xzlw (k:=4) (m:=fun _=>false) (lo:=0) (hi:=1) (c:=1) hr1 ⟨Nat.le_refl _,by decide⟩;have hr2:=rows28 (HAT.out.1 U7) hob
  have e4':reL 4 (fun _=>false) (some ⟨u6.heap.size,0,none⟩) 1 1 0 1=(z8 4 (some ⟨u6.heap.size,0,none⟩) 1 1).toList:=by rw [xzvn]
  rw [e4']at hr2;clear e4';unfold reL z8 at hr2;simp only [List.cons_append,List.nil_append]at hr2;obtain⟨U8,hU8⟩:∃ U8,U7.alloc (.cells #[.int .i64 1,.int .u64 (wd s97 0:Nat),.int .u64 (wd s97 1:Nat),.int .u64 (wd s97 2:Nat),.int .u64 (wd s97 3:Nat),.slice none 0 0,.int .i64 0,.int .i64 0,.int .i64 4,.int .u64 0,.int .u64 0,.int .u64 0,.int .u64 0,.slice (some ⟨u6.heap.size,0,none⟩) 1 1,.int .i64 0,.int .i64 1] 39)=U8:=⟨_,rfl⟩;rw [show U7.alloc (.cells ([.int .i64 1,.int .u64 (wd s97 0:Nat),.int .u64 (wd s97 1:Nat),.int .u64 (wd s97 2:Nat),.int .u64 (wd s97 3:Nat),.slice none 0 0,.int .i64 0,.int .i64 0,.int .i64 4,.int .u64 0,.int .u64 0,.int .u64 0,.int .u64 0,.slice (some ⟨u6.heap.size,0,none⟩) 1 1,.int .i64 0,.int .i64 1]:List Value).toArray 39)=U8 from hU8]at hr2
  have hb8:Below u6.heap.size u6 U8:=by rw [<-hU8];exact hb7.alloc hb7.size _
  have hs8:U8.heap.size=u6.heap.size+2:=by rw [<-hU8];simp [hs7]
  have hbz:Below U8.heap.size U8 (U8.alloc (.cells (z8 2 (some ⟨U7.heap.size,0,none⟩) 2 0) 39)):=(Below.refl _ _).alloc (Nat.le_refl _) _;have hzz:=BlkIs.new U8 39 zeroL.toArray;rw [hs8]at hzz;have hth:=hzz.there;obtain⟨t0,t1,t2,t3,t4,t5,t6,t7⟩:=(show BlkIs _ (u6.heap.size+2) 39 #[.int .i64 0,.int .u64 0,.int .u64 0,.int .u64 0,.int .u64 0,.slice none 0 0,.int .i64 0,.int .i64 0]from hzz).eight;unfold zeroL at hth t0 t1 t2 t3 t4 t5 t6 t7;have hx:InBox8 w exB U8.heap.size (some ⟨U7.heap.size,0,none⟩) 2 2 (U8.alloc (.cells (z8 2 (some ⟨U7.heap.size,0,none⟩) 2 0) 39)):=xzqn (l:=[ltr8 97,optB]) (k:=2) (hi:=0) hr2 (HY6.out.2.2.trans (hb8.mono HY6.out.2.2.size)) (by decide);have hyA:=HY6.out.step (hb8.trans (hbz.mono hb8.size));rw [hs7]at hyA hx;rw [hs8]at hx
  have hEA:BlkIs (U8.alloc (.cells (z8 2 (some ⟨u6.heap.size+1,0,none⟩) 2 0) 39)) g4 39 (z8 2 (some ⟨g3,0,none⟩) 2 0):=by rw [xzvn 2 (some ⟨g3,0,none⟩) 2 0];exact hyA.2.1
  have hEB:BlkIs (U8.alloc (.cells (z8 2 (some ⟨u6.heap.size+1,0,none⟩) 2 0) 39)) (u6.heap.size+2) 39 (z8 2 (some ⟨u6.heap.size+1,0,none⟩) 2 0):=by rw [xzvn 2 (some ⟨u6.heap.size+1,0,none⟩) 2 0]at hx ⊢;exact hx.2.1
  have hrow:=rows28 hyA.1 hx.1
  have hrr:reL exA.kind exA.set (some ⟨g3,0,none⟩) 2 2 exA.lo exA.hi++reL exB.kind exB.set (some ⟨u6.heap.size+1,0,none⟩) 2 2 exB.lo exB.hi=(z8 2 (some ⟨g3,0,none⟩) 2 0).toList++(z8 2 (some ⟨u6.heap.size+1,0,none⟩) 2 0).toList:=by rw [xzvn,xzvn];rfl
  rw [hrr]at hrow;have hlow:=hx.2.2;unfold z8 at hEA hEB hrow hlow;simp only [List.cons_append,List.nil_append]at hrow;have HROW:=zd (And.intro hrow hlow);obtain⟨d0,d1,d2,d3,d4,d5,d6,d7⟩:=hEA.eight;obtain⟨f0,f1,f2,f3,f4,f5,f6,f7⟩:=hEB.eight;clear hrow hrr hx hyA hEA hEB hbz hzz hr1 hr2 hb7 hb8 hob hlow hth
  go_wp2_with fail
  go_at_call 6
  have hrow:=HROW.out.1;have hlow:=HROW.out.2;rw [World.size_alloc,hs8]at hrow;generalize hW9:U8.alloc _=W9 at hrow hlow ⊢
  have hb10:∀ ob,Below w.heap.size w (W9.alloc ob):=fun ob=>hlow.alloc hlow.size ob
  have hb10':=hb10;clear hb10';refine(xzne _ 2 _ ⟨_,_,rfl,hrow⟩).mono ?_;rintro e u11 ⟨v11,rfl,hN,hb11⟩;have hlow11:Below w.heap.size w u11:=(hb10 _).trans (hb11.mono (hb10 _).size);clear hb10 hb11 hrow hlow hW9 d0 d1 d2 d3 d4 d5 d6 d7 f0 f1 f2 f3 f4 f5 f6 f7 t0 t1 t2 t3 t4 t5 t6 t7 HROW;obtain⟨N,hNN⟩:∃ N,N=buildN [exA,exB]:=⟨_,rfl⟩;rw [<-hNN]at hN;have HNN:=zd hNN;clear hNN;have HN:=zd (And.intro hN hlow11);obtain⟨v0,v1,v2,v3,v4,rfl,hs0,hs1,hs2,hs3,hs4⟩:=hN;obtain⟨A0,c0,rfl,_⟩:=hs0;obtain⟨A1,c1,rfl,_⟩:=hs1.form;obtain⟨A2,c2,rfl,_⟩:=hs2.form;obtain⟨A3,c3,rfl,_⟩:=hs3;obtain⟨A4,c4,rfl,_⟩:=hs4;clear hs1 hs2 hlow11
  go_wp2_with fail
  obtain⟨U12,hU12⟩:∃ U12,u11.alloc (.cells #[.slice A0 N.sets.length c0,.slice A1 N.rules.length c1,.slice A2 N.first.length c2,.slice A3 N.follow.length c3,.slice A4 N.ends.length c4,.int .i64 N.empty] 30)=U12:=⟨_,rfl⟩
  have hb12:Below u11.heap.size u11 U12:=by rw [<-hU12];exact(Below.refl _ _).alloc (Nat.le_refl _) _
  have hx12:BlkIs U12 u11.heap.size 30 #[.slice A0 N.sets.length c0,.slice A1 N.rules.length c1,.slice A2 N.first.length c2,.slice A3 N.follow.length c3,.slice A4 N.ends.length c4,.int .i64 N.empty]:=by rw [<-hU12];exact BlkIs.new _ _ _
  have hN12:=HN.out.1.step hb12;have hw12:=HN.out.2.trans (hb12.mono HN.out.2.size);have hrun:=Run_any N ⟨#[97,98]⟩ (by decide) _ U12 hN12;rw [hU12];refine hrun.mono ?_;rintro e u13 ⟨v13,rfl,hi13,hb13⟩
  have hran:ranL N ⟨#[97,98]⟩=[1,4]:=by rw [HNN.out];exact ex_ran.1
  have hrat:ranT N ⟨#[97,98]⟩=0:=by rw [HNN.out];exact ex_ran.2
  rw [hran]at hi13;rw [hrat];obtain⟨A5,c5,rfl,_⟩:=hi13.form;have hx13:=hx12.step hb13;have H13:=zd (And.intro (hN12.step hb13) (And.intro (hw12.trans (hb13.mono hw12.size)) (And.intro hx13 hi13)))
  have q1:((N.sets.length:Int)==5)=true:=by rw [HNN.out,ex_len.1];rfl
  have q2:((N.follow.length:Int)==5)=true:=by rw [HNN.out,ex_len.2];rfl
  obtain⟨m0,m1,m2,m3,m4,m5⟩:=six hx13;clear hb12 hx12 hN12 hw12 hrun hran hrat hi13 hx13 hb13 hU12
  go_wp2_with fail
  have two:∀ (W:World) (g:Nat) (a b:Int),BlkIs W g 3 #[.int .i64 a,.int .i64 b]->IntsV W [a,b] (.slice (some ⟨g,0,none⟩) 2 2):=fun W g a b h=>RunAt.ints (l:=[a,b]) ⟨⟨by simp,by decide⟩,fun i hi=>by
   rw [Nat.zero_add]
   match i,hi with
   |0,_=>exact h.cell 0
   |1,_=>exact h.cell 1⟩
  obtain⟨x0',x1',x2',x3',x4',hv,_,_,hF,hRo,_⟩:=H13.out.1
  injection hv with hv
  simp only [Array.mk.injEq,List.cons.injEq,and_true]at hv;obtain⟨rfl,rfl,rfl,rfl,rfl⟩:=hv;have hba:Below u13.heap.size u13 (u13.alloc (.cells #[.int .i64 0,.int .i64 3] 3)):=(Below.refl _ _).alloc (Nat.le_refl _) _;refine(xzep N.first [0,3] _ _ _ (hF.step hba) (two _ _ _ _ (BlkIs.new _ _ _))).mono ?_;rintro e u14 ⟨rfl,hb14⟩;have hb14':=hba.trans (hb14.mono hba.size);rw [show decide (N.first=[0,3])=true from decide_eq_true (by rw [HNN.out];exact xzvl)];have hx14:=H13.out.2.2.1.step hb14';have hR14:=hRo.step hb14';have hi14:=H13.out.2.2.2.step hb14';have hw14:=H13.out.2.1.trans (hb14'.mono H13.out.2.1.size)
  have hfl5:N.follow.length=5:=by rw [HNN.out];exact ex_len.2
  obtain⟨A3',c3',e3',hc3',hr3⟩:=hR14
  injection e3' with e3' _ e3''
  subst e3' e3'';obtain⟨b3,o3,rfl,hlt3,hr3⟩:=hr3 (by intro e;rw [e]at hfl5;simp at hfl5);obtain⟨rv,hrv1,hrv2⟩:=hr3 1 (by omega)
  have hrow1:N.follow[1]'(by omega)=[1,2]:=by
   have h1:=xzsx;rw [<-HNN.out]at h1;rw [<-h1]
   simp [hfl5]
  rw [hrow1]at hrv2;obtain⟨Ar,cr,rfl,_⟩:=hrv2.form
  have h1lt:(1:Int)<(N.follow.length:Int):=by omega
  clear m0 m1 m2 m3 m4 m5;obtain⟨m0,m1,m2,m3,m4,m5⟩:=six hx14;have H14:=zd (And.intro hrv2 (And.intro hi14 hw14));have H5:=zd hfl5;clear hba hb14 hb14' hF hRo hr3 hrow1 hfl5 hx14 hi14 hw14 hrv2
  go_wp2_with fail
  go_at_call 17
  have hba:Below u14.heap.size u14 (u14.alloc (.cells #[.int .i64 1,.int .i64 2] 3)):=(Below.refl _ _).alloc (Nat.le_refl _) _;refine(xzep [1,2] [1,2] _ _ _ (H14.out.1.step hba) (two _ _ _ _ (BlkIs.new _ _ _))).mono ?_;rintro e u15 ⟨rfl,hb15⟩;have hb15':=hba.trans (hb15.mono hba.size);rw [show decide (([1,2]:List Int)=[1,2])=true from rfl];have H15:=zd (And.intro (H14.out.2.1.step hb15') (H14.out.2.2.trans (hb15'.mono H14.out.2.2.size)));clear hba hb15 hb15'
  go_wp2_with fail
  go_at_call 17
  have hba:Below u15.heap.size u15 (u15.alloc (.cells #[.int .i64 1,.int .i64 4] 3)):=(Below.refl _ _).alloc (Nat.le_refl _) _;refine(xzep [1,4] [1,4] _ _ _ (H15.out.1.step hba) (two _ _ _ _ (BlkIs.new _ _ _))).mono ?_;rintro e u16 ⟨rfl,hb16⟩;have hb16':=H15.out.2.trans ((hba.trans (hb16.mono hba.size)).mono H15.out.2.size);rw [show decide (([1,4]:List Int)=[1,4])=true from rfl];have H16:=zd hb16';clear hba hb16 hb16';go_wp2;go_ret;exact⟨rfl,H16.out⟩
end
section
open Go.RowKit
attribute [local irreducible] FreeW
def Counted (l:List Tree)(j:Nat)(a:Int):Prop:=(0<=a/\a<=1000000*j)/\(mayL l=true->a=sumP (l.take j))
theorem Counted.yes {l:List Tree}{j:Nat}{a:Int}(h:Counted l j a)(hp:j<l.length)(hk:(l[j]).ok=true):Counted l (j+1) (a+(l[j]).places):=by
 have h1:=xzav l[j] hk;have h2:=xzbg l[j];have h3:=h.1;refine⟨by omega,fun hm=>?_⟩;rw [List.take_succ_eq_append_getElem hp,xzbq,h.2 hm]
theorem Counted.no {l:List Tree}{j:Nat}{a:Int}(h:Counted l j a)(hp:j<l.length)(hm:(l[j]).may=false):Counted l (j+1) a:=by
 have h3:=h.1;refine⟨by omega,fun hml=>?_⟩
 exfalso
 unfold mayL at hml;rw [Bool.and_eq_true,List.all_eq_true]at hml;have:=hml.1 _ (List.getElem_mem hp);rw [hm]at this;cases this
set_option maxRecDepth 20000 in
set_option maxHeartbeats 16000000 in
theorem xzjj (l:List Tree)(v:Value)(w:World)(hat:TreesV w l v):Calls Try.prog 3 #[v] w fun e w'=>e=.returned (.bool true)/\Below w.heap.size w w':=by
 have HT:=zd (fun(u:World) (hu:Below w.heap.size w u)=>hat.step hu);have HAL:=zd (xzqo w);have HGR:=zd (fun(u:World) (hu:Below w.heap.size w u)=>xzpk l v u (hat.step hu));have HMY:=zd (fun(u:World) (hu:Below w.heap.size w u)=>xzuv l v u (hat.step hu));unfold Great8 at HGR;obtain⟨A,c,rfl,hc,hs⟩:=hat;clear hs
 go_enter Try.func3,Try.ntmps3
 go_wp2_with fail
 go_at_call 4
 refine HAL.out.mono ?_;rintro e w1 ⟨rfl,hb1⟩;have HB1:=zd hb1;clear hb1
 go_wp2_with fail
 go_at_call 5
 refine(HGR.out _ HB1.out).mono ?_;rintro e w2 ⟨⟨gb,rfl,hgb⟩,hb2⟩;have HB2:=zd (HB1.out.trans (hb2.mono HB1.out.size));have HGB:=zd hgb;clear hb2 hgb
 cases gb with
 |true=>
  go_wp2;go_ret;exact⟨rfl,HB2.out⟩
 |false=>
  have hG:=HGB.out (by trivial);have hlt:=xzho hG.2.1
  obtain⟨N,code,hB,hcs⟩:=xznd l hG.2.1 (fun hm=>hG.2.2 fun t ht=>by
   have h1:=(light hG.2.1 hm).2.2 t ht
   exact⟨h1.2.1,h1.2.2⟩)
  have HCS:=zd hcs;have HLN:=zd hlt;have HL45:=zd hG.1;have HBD:=zd (hB _ _ (HT.out _ HB2.out));have HGG:=zd hG.2.1;clear hG hlt hB hcs HGB HAL HGR
  go_wp2_with fail
  go_at_call 6
  refine HBD.out.mono ?_;rintro e u1 ⟨v1,rfl,hn1,hu1⟩;obtain⟨A0,A1,A2,A3,A4,c0,c1,c2,c3,c4,rfl⟩:=hn1.form;have hbx:=BlkIs.new u1 30 #[.slice A0 N.sets.length c0,.slice A1 N.rules.length c1,.slice A2 N.first.length c2,.slice A3 N.follow.length c3,.slice A4 N.ends.length c4,.int .i64 N.empty];have hby:Below u1.heap.size u1 _:=(Below.refl _ u1).alloc (Nat.le_refl _) (.cells #[.slice A0 N.sets.length c0,.slice A1 N.rules.length c1,.slice A2 N.first.length c2,.slice A3 N.follow.length c3,.slice A4 N.ends.length c4,.int .i64 N.empty] 30);obtain⟨g,hg⟩:∃ g,u1.heap.size=g:=⟨_,rfl⟩;obtain⟨W9,hW9⟩:∃ W9,u1.alloc (.cells #[.slice A0 N.sets.length c0,.slice A1 N.rules.length c1,.slice A2 N.first.length c2,.slice A3 N.follow.length c3,.slice A4 N.ends.length c4,.int .i64 N.empty] 30)=W9:=⟨_,rfl⟩
  rw [hW9]at hbx hby
  have HB9:=zd (show Below w.heap.size w W9/\NfaAt W9 N (.agg #[.slice A0 N.sets.length c0,.slice A1 N.rules.length c1,.slice A2 N.first.length c2,.slice A3 N.follow.length c3,.slice A4 N.ends.length c4,.int .i64 N.empty])/\BlkIs W9 g 30 _ from
   ⟨(HB2.out.trans (hu1.mono HB2.out.size)).trans (hby.mono ((HB2.out.trans (hu1.mono HB2.out.size)).size)),hn1.step hby,by rw [<-hg];exact hbx⟩)
  obtain⟨k0,hk0⟩:∃ k0,N.sets.length=k0:=⟨_,rfl⟩;obtain⟨k1,hk1⟩:∃ k1,N.rules.length=k1:=⟨_,rfl⟩;obtain⟨k2,hk2⟩:∃ k2,N.first.length=k2:=⟨_,rfl⟩;obtain⟨k3,hk3⟩:∃ k3,N.follow.length=k3:=⟨_,rfl⟩;obtain⟨k4,hk4⟩:∃ k4,N.ends.length=k4:=⟨_,rfl⟩;obtain⟨k5,hk5⟩:∃ k5,N.empty=k5:=⟨_,rfl⟩;rw [hk0,hk1,hk2,hk3,hk4,hk5]at HB9;rw [hk0,hk1,hk2,hk3,hk4,hk5]at hW9 ⊢;clear hu1 hn1 hbx hby hk0 hk1 hk2 hk3 hk4 hk5 HBD;go_wp2;clear hg hW9;have H0:=zd (show Counted l 0 0/\_ from⟨⟨⟨Int.le_refl _,by simp⟩,fun _=>by simp [sumP]⟩,HB9.out⟩)
  go_loopw [5,6] (fun a i wr=>∃ (j:Nat) (s:Int),a=.int .i64 s/\i=.int .i64 j/\j<=l.length/\Hid (Counted l j s/\Below w.heap.size w wr/\NfaAt wr N (.agg #[.slice A0 k0 c0,.slice A1 k1 c1,.slice A2 k2 c2,.slice A3 k3 c3,.slice A4 k4 c4,.int .i64 k5])/\BlkIs wr g 30 #[.slice A0 k0 c0,.slice A1 k1 c1,.slice A2 k2 c2,.slice A3 k3 c3,.slice A4 k4 c4,.int .i64 k5])) (fun _ i _=>l.length - (intOf i).toNat)
  case atStart=>exact⟨0,0,rfl,rfl,Nat.zero_le _,H0⟩
  case round=>
   obtain⟨j,s,rfl,rfl,hj,HH⟩:=hrel;clear H0 HB9
   by_cases hp:j<l.length
   ·have hdl:decide ((j:Int)<(l.length:Int))=true:=by simp;omega
    obtain⟨A9,c9,e9,_,hs9⟩:=HT.out w (Below.refl _ _);obtain⟨b,o,e8,hbw,hg9⟩:=hs9 (by intro e;subst e;simp at hp);subst e8
    obtain⟨rfl,rfl⟩:A=some ⟨b,o,none⟩/\c=c9:=by simpa using e9
    clear e9 hs9;obtain⟨A',n',c',hcat,hrow⟩:=rangeT hg9 hp;have HAT:=zd (fun(u:World) (hu:Below w.heap.size w u)=>hcat.step hu);have HRW:=zd (fun(u:World) (hu:Below w.heap.size w u)=>xzaj hrow hu);obtain⟨r0,r1,r2,r3,r4,r5,r6,r7⟩:=HRW.out wr HH.out.2.1
    have hk1:IntKind.i64.wrap ((j:Int)+1)=((j+1:Nat):Int):=by rw [IntKind.wrap_i64];omega
    have hn9:=HLN.out _ (List.getElem_mem hp);have hmf:=xzpm (T:=l[j]) (by omega);have hct:=HH.out.1;have hj45:=HL45.out;have HM:=zd (fun(u:World) (hu:Below w.heap.size w u)=>xzfv l[j] _ u (HAT.out u hu));have HPN:=zd (fun(u:World) (hu:Below w.heap.size w u)=>xzdd l[j] _ u (HAT.out u hu) (by omega))
    cases hgb:(l[j]).may with
    |false=>
     rw [hgb]at HM hmf;unfold placesZ at HPN;rw [<-hmf]at HPN;simp only [Bool.false_eq_true,if_false]at HPN;have HC:=zd (hct.no hp hgb);unfold reL at HM HPN;clear hcat hrow hn9 hmf hct hj45 hg9 hgb;generalize(l[j]).kind=kk at*;generalize(l[j]).set=mm at*;generalize(l[j]).lo=ll at*;generalize(l[j]).hi=hh at*
     go_wp2_with fail
     go_at_call 7
     refine(HM.out wr HH.out.2.1).mono ?_;rintro e u1 ⟨rfl,hu1⟩;have HU1:=zd (show Below w.heap.size w u1/\NfaAt u1 N _/\BlkIs u1 g 30 _ from⟨HH.out.2.1.trans (hu1.mono HH.out.2.1.size),HH.out.2.2.1.step hu1,HH.out.2.2.2.step hu1⟩);clear hu1 r0 r1 r2 r3 r4 r5 r6 r7;obtain⟨r0,r1,r2,r3,r4,r5,r6,r7⟩:=HRW.out u1 HU1.out.1
     go_wp2_with fail
     go_at_call 9
     refine(HPN.out u1 HU1.out.1).mono ?_;rintro e u2 ⟨rfl,hu2⟩;have HU2:=zd (show Counted l (j+1) s/\Below w.heap.size w u2/\NfaAt u2 N _/\BlkIs u2 g 30 _ from⟨HC.out,HU1.out.1.trans (hu2.mono HU1.out.1.size),HU1.out.2.1.step hu2,HU1.out.2.2.step hu2⟩);clear hu2 r0 r1 r2 r3 r4 r5 r6 r7;go_wp2;exact⟨⟨j+1,s,rfl,by go_num,hp,HU2⟩,by simp [intOf];omega⟩
    |true=>
     rw [hgb]at HM hmf;have hok:=xzli hmf.symm;unfold placesZ at HPN;rw [<-hmf]at HPN;simp only [if_true]at HPN;have HRP:=zd (fun(u:World) (hu:Below w.heap.size w u)=>xzbt l[j] hok (by omega) _ u (HAT.out u hu));have HC:=zd (hct.yes hp hok);have hp1:=xzav l[j] hok;have hp2:=xzbg l[j];have hp3:=hct.1;unfold reL at HM HPN HRP;generalize(l[j]).places=pl at*
     have hk2:IntKind.i64.wrap (s+pl)=s+pl:=by rw [IntKind.wrap_i64];omega
     have hne:(pl != pl)=false:=by simp
     clear hcat hrow hn9 hmf hct hj45 hg9 hgb hok hp1 hp2 hp3;generalize(l[j]).kind=kk at*;generalize(l[j]).set=mm at*;generalize(l[j]).lo=ll at*;generalize(l[j]).hi=hh at*
     go_wp2_with fail
     go_at_call 7
     refine(HM.out wr HH.out.2.1).mono ?_;rintro e u1 ⟨rfl,hu1⟩;have HU1:=zd (show Below w.heap.size w u1/\NfaAt u1 N _/\BlkIs u1 g 30 _ from⟨HH.out.2.1.trans (hu1.mono HH.out.2.1.size),HH.out.2.2.1.step hu1,HH.out.2.2.2.step hu1⟩);clear hu1 r0 r1 r2 r3 r4 r5 r6 r7;obtain⟨r0,r1,r2,r3,r4,r5,r6,r7⟩:=HRW.out u1 HU1.out.1
     go_wp2_with fail
     go_at_call 8
     refine(HRP.out u1 HU1.out.1).mono ?_;rintro e u2 ⟨rfl,hu2⟩;have HU2:=zd (show Below w.heap.size w u2/\NfaAt u2 N _/\BlkIs u2 g 30 _ from⟨HU1.out.1.trans (hu2.mono HU1.out.1.size),HU1.out.2.1.step hu2,HU1.out.2.2.step hu2⟩);clear hu2 r0 r1 r2 r3 r4 r5 r6 r7;obtain⟨r0,r1,r2,r3,r4,r5,r6,r7⟩:=HRW.out u2 HU2.out.1
     go_wp2_with fail
     go_at_call 9
     refine(HPN.out u2 HU2.out.1).mono ?_;rintro e u3 ⟨rfl,hu3⟩;have HU3:=zd (show Counted l (j+1) (s+pl)/\Below w.heap.size w u3/\NfaAt u3 N _/\BlkIs u3 g 30 _ from⟨HC.out,HU2.out.1.trans (hu3.mono HU2.out.1.size),HU2.out.2.1.step hu3,HU2.out.2.2.step hu3⟩);clear hu3 r0 r1 r2 r3 r4 r5 r6 r7;go_wp2;exact⟨⟨j+1,s+pl,by go_num,by go_num,hp,HU3⟩,by simp [intOf];omega⟩
   ·have hdl:decide ((j:Int)<(l.length:Int))=false:=by simp;omega
    obtain rfl:j=l.length:=by omega
    have HX:=HH;clear HH;have hmy:=HMY.out wr HX.out.2.1;have hct:=HX.out.1
    rcases HCS.out with⟨hm,hcode,hN⟩|⟨hm,hsm,hcode,hN⟩|⟨hm,hsm,hcode,hN⟩
    ·rw [hm]at hmy
     have HM:=zd hmy;subst hcode;subst hN;clear hm hmy hct
     go_wp2_with fail
     go_at_call 10
     refine HM.out.mono ?_;rintro e wz ⟨rfl,hbz⟩;have HY:=zd (show Below w.heap.size w wz/\NfaAt wz zeroNf _/\BlkIs wz g 30 _ from⟨HX.out.2.1.trans (hbz.mono HX.out.2.1.size),HX.out.2.2.1.step hbz,HX.out.2.2.2.step hbz⟩);clear hbz;obtain⟨d0,d1,d2,d3,d4,d5⟩:=six HY.out.2.2
     go_wp2_with fail
     go_at_call 12
     refine(xzgo A0 A1 A2 A3 A4 k0 k1 k2 k3 k4 c0 c1 c2 c3 c4 k5 wz).mono ?_;rintro e w4 ⟨rfl,hb4⟩;have HU4:=zd (And.intro (HY.out.1.trans (hb4.mono HY.out.1.size)) (HY.out.2.1.step hb4));have HSM:=zd (xzgp _ _ _ w4 HU4.out.2 (xzfr w4));clear hb4 d0 d1 d2 d3 d4 d5
     go_wp2_with fail
     go_at_call 11
     refine HSM.out.mono ?_;rintro e w5 ⟨rfl,hb5⟩;have HU5:=zd (HU4.out.1.trans (hb5.mono HU4.out.1.size));clear hb5;go_wp2;go_ret;exact⟨rfl,HU5.out⟩
    ·have hs:=hct.2 hm
     rw [List.take_length]at hs
     have q1:decide (s>2000)=true:=by simp;omega
     have q2:decide (2000<s)=true:=by simp;omega
     rw [hm]at hmy;have HM:=zd hmy;subst hcode;subst hN;clear hm hmy hct hs hsm
     go_wp2_with fail
     go_at_call 10
     refine HM.out.mono ?_;rintro e wz ⟨rfl,hbz⟩;have HY:=zd (show Below w.heap.size w wz/\NfaAt wz zeroNf _/\BlkIs wz g 30 _ from⟨HX.out.2.1.trans (hbz.mono HX.out.2.1.size),HX.out.2.2.1.step hbz,HX.out.2.2.2.step hbz⟩);clear hbz;obtain⟨d0,d1,d2,d3,d4,d5⟩:=six HY.out.2.2
     go_wp2_with fail
     go_at_call 12
     refine(xzgo A0 A1 A2 A3 A4 k0 k1 k2 k3 k4 c0 c1 c2 c3 c4 k5 wz).mono ?_;rintro e w4 ⟨rfl,hb4⟩;have HU4:=zd (And.intro (HY.out.1.trans (hb4.mono HY.out.1.size)) (HY.out.2.1.step hb4));have HSM:=zd (xzgp _ _ _ w4 HU4.out.2 (xzfr w4));clear hb4 d0 d1 d2 d3 d4 d5
     go_wp2_with fail
     go_at_call 11
     refine HSM.out.mono ?_;rintro e w5 ⟨rfl,hb5⟩;have HU5:=zd (HU4.out.1.trans (hb5.mono HU4.out.1.size));clear hb5;go_wp2;go_ret;exact⟨rfl,HU5.out⟩
    ·have hs:=hct.2 hm
     rw [List.take_length]at hs
     have q1:decide (s>2000)=false:=by simp;omega
     have q2:decide (2000<s)=false:=by simp;omega
     rw [hm]at hmy;have HM:=zd hmy;subst hcode;subst hN;obtain⟨_,hl40,hall⟩:=light HGG.out hm
     have hok:∀ t∈l,t.ok=true:=fun t ht=>(hall t ht).2.1
     have hsn:=sumP_exact l hok (by omega);have hmay:=xzsh l hok hl40 (by rw [xzkg l hok];omega)
     have HB8:=zd (fun(u:World) (hu:Below w.heap.size w u)=>xzqj l hl40 hok (fun t ht=>(hall t ht).2.2) (by omega) A c u (by
      obtain⟨A9,c9,e9,_,hs9⟩:=HT.out u hu;intro hne;obtain⟨b,o,e8,_,hg9⟩:=hs9 hne
      injection e9 with e9
      exact⟨b,o,e9.trans e8,hg9⟩))
     have HMA:=zd (fun(u:World) (hu:NfaAt u (buildN l) (.agg #[.slice A0 k0 c0,.slice A1 k1 c1,.slice A2 k2 c2,.slice A3 k3 c3,.slice A4 k4 c4,.int .i64 k5]))=>xzoa (buildN l) _ u hu);rw [hmay]at HMA;clear hm hmy hct hs hsm hok hall hsn hmay;generalize buildN l=N at*
     go_wp2_with fail
     go_at_call 10
     refine HM.out.mono ?_;rintro e wz ⟨rfl,hbz⟩;have HY:=zd (show Below w.heap.size w wz/\NfaAt wz N _/\BlkIs wz g 30 _ from⟨HX.out.2.1.trans (hbz.mono HX.out.2.1.size),HX.out.2.2.1.step hbz,HX.out.2.2.2.step hbz⟩);clear hbz;obtain⟨d0,d1,d2,d3,d4,d5⟩:=six HY.out.2.2
     go_wp2_with fail
     go_at_call 12
     refine(xzgo A0 A1 A2 A3 A4 k0 k1 k2 k3 k4 c0 c1 c2 c3 c4 k5 wz).mono ?_;rintro e w4 ⟨rfl,hb4⟩;have HU4:=zd (show Below w.heap.size w w4/\NfaAt w4 N _/\BlkIs w4 g 30 _ from⟨HY.out.1.trans (hb4.mono HY.out.1.size),HY.out.2.1.step hb4,HY.out.2.2.step hb4⟩);clear hb4 d0 d1 d2 d3 d4 d5
     go_wp2_with fail
     go_at_call 13
     refine(HB8.out w4 HU4.out.1).mono ?_;rintro e w5 ⟨v5,rfl,hn5,hb5⟩;obtain⟨y0,y1,y2,y3,y4,e0,e1,e2,e3,e4,rfl⟩:=hn5.form;have HU5:=zd (show Below w.heap.size w w5/\NfaAt w5 N _/\BlkIs w5 g 30 _ from⟨HU4.out.1.trans (hb5.mono HU4.out.1.size),HU4.out.2.1.step hb5,HU4.out.2.2.step hb5⟩);have HSM:=zd (xzgp _ _ _ w5 HU5.out.2.1 hn5);clear hb5 hn5
     go_wp2_with fail
     go_at_call 11
     refine HSM.out.mono ?_;rintro e w6 ⟨rfl,hb6⟩;have HU6:=zd (show Below w.heap.size w w6/\NfaAt w6 N _/\BlkIs w6 g 30 _ from⟨HU5.out.1.trans (hb6.mono HU5.out.1.size),HU5.out.2.1.step hb6,HU5.out.2.2.step hb6⟩);clear hb6;obtain⟨d0,d1,d2,d3,d4,d5⟩:=six HU6.out.2.2
     go_wp2_with fail
     go_at_call 14
     refine(HMA.out w6 HU6.out.2.1).mono ?_;rintro e w7 ⟨rfl,hb7⟩;have HU7:=zd (HU6.out.1.trans (hb7.mono HU6.out.1.size));clear hb7;go_wp2;go_ret;exact⟨rfl,HU7.out⟩
end
end Go.Proofs.Ythoaaginadjaoaa
