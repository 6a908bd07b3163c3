/-
 WHAT hacklelaw12's letter AND of ANSWER: contracts. Condition: the table of math/bits lies as it is laid; what Build answers is told.
-/
import Derived.Test.YtdjpphjpnkfeiaaGreatDoorQG24
import Derived.Test.YtdjpphjpnkfeiaaGreatDoorQG26
import Derived.Test.YtdjpphjpnkfeiaaGreatDoorQG41
import Derived.Test.YtdjpphjpnkfeiaaGreatDoorQG33
import Derived.Test.YtdjpphjpnkfeiaaGreatDoorQG38
import Derived.Test.YtdjpphjpnkfeiaaGreatDoorQG39
import Derived.Test.YtdjpphjpnkfeiaaGreatDoorQG40
namespace Go.Proofs.YtdjpphjpnkfeiaaGreatDoor
section
open Go.RowKit
attribute [local irreducible] FreeW textFrame
set_option maxRecDepth 20000 in
set_option maxHeartbeats 2000000 in
theorem xzen (b:Nat)(hb:b<256)(w:World):Calls Tryz.prog 18 #[.int .i64 b] w fun e w'=>e=.returned (reV 1 (sRange b b) none 0 0 0 0)/\Below w.heap.size w w':=by
 have h0:Below w.heap.size w (w.alloc (.cells zeroL.toArray 55)):=(Below.refl _ _).alloc (Nat.le_refl _) _;have hz:=BlkIs.new w 55 zeroL.toArray;have HC:=zd (xzgv b b hb (w.alloc (.cells zeroL.toArray 55)));have H0:=zd (And.intro h0 hz);clear h0 hz;unfold zeroL at*;unfold setV at HC
 go_enter Tryz.func18,Tryz.ntmps18
 go_wp2_with(first
  |(go_at_call 20;go_must(refine HC.out.mono ?_);rintro e u ⟨rfl,hb2⟩;have hB3:=H0.out.2.step hb2;have HB2:=zd (H0.out.1.trans (hb2.mono H0.out.1.size));clear hb2)
  |(refine wpList_store_mid rfl 55 (.tmp 2) (.tmp 6) rfl w.heap.size 0 (reL 1 (sRange b b) none 0 0 0 0).toArray rfl rfl hB3.there xznx reL_all ?_))
 have hl:=load_re (yzer (k:=1) (m:=sRange b b) (A:=none) (n:=0) (c:=0) (lo:=0) (hi:=0) hB3 rfl);exact bodyPost_ret (xzae rfl rfl hl) rfl ⟨rfl,xzfk w.heap.size _ 0 _ (Nat.le_refl _) HB2.out⟩
set_option maxRecDepth 20000 in
set_option maxHeartbeats 8000000 in
theorem xzon (N:Nf)(D:Df)(A:Option Addr)(n c:Nat)(w:World)(hT:Tab w)
 (hB:∀ u,Below w.heap.size w u->Calls Tryz.prog 44 #[.slice A n c] u fun x w'=>∃ v,x=.returned (.tuple #[v,.int .i64 0])/\NfaAt w' N v/\Below u.heap.size u w')
 (hN:N.sets.length<=2000)(hD:subAns N=(D,0)):
 Calls Tryz.prog 19 #[.slice A n c] w fun e w'=>∃ vd,e=.returned vd/\DfKeep w.heap.size w' D vd/\Below w.heap.size w w':=by
 obtain⟨d0,hd0⟩:∃ d0,df0=d0:=⟨_,rfl⟩;have z:=zeroDf;rw [hd0]at z;obtain⟨U0,hU0⟩:∃ U0,w.alloc (.cells d0 35)=U0:=⟨_,rfl⟩
 have hb0:Below w.heap.size w U0:=by rw [<-hU0];exact(Below.refl _ _).alloc (Nat.le_refl _) _
 have hx0:BlkIs U0 w.heap.size 35 df0:=by rw [<-hU0,hd0];exact BlkIs.new _ _ _
 have H0:=zd (And.intro hb0 hx0);have HBD:=zd (hB U0 hb0);have HT:=zd hT;have HD0:=zd hd0;have HND:=zd (And.intro hN hD);clear hb0 hx0 hB hT hd0 hN hD
 go_enter Tryz.func19,Tryz.ntmps19
 go_wp2_with fail
 go_at_call 44
 refine HBD.out.mono ?_;rintro e u1 ⟨v1,rfl,hn1,hb1⟩;obtain⟨A0,A1',A2',A3,A4,c0,c1',c2',c3,c4,rfl⟩:=hn1.form;have HN1:=zd (And.intro hn1 (And.intro (H0.out.1.trans (hb1.mono H0.out.1.size)) (H0.out.2.step hb1)));clear hn1 hb1 HBD hU0
 go_wp2_with fail
 obtain⟨U2,hU2⟩:∃ U2,u1.alloc (.cells #[.slice A0 N.sets.length c0,.slice A1' N.rules.length c1',.slice A2' N.first.length c2',.slice A3 N.follow.length c3,.slice A4 N.ends.length c4,.int .i64 N.empty] 86)=U2:=⟨_,rfl⟩
 have hb2:Below u1.heap.size u1 U2:=by rw [<-hU2];exact(Below.refl _ _).alloc (Nat.le_refl _) _
 have HB2:=zd (HN1.out.2.1.trans (hb2.mono HN1.out.2.1.size));have HSU:=zd (xzsp N _ U2 (HN1.out.1.step hb2) HND.out.1 (HT.out.step HB2.out));rw [HND.out.2]at HSU;rw [hU2];have HX2:=zd (HN1.out.2.2.step hb2);clear hU2 hb2 HN1
 go_at_call 45
 refine HSU.out.mono ?_;rintro e u3 ⟨vd,rfl,hd3f,hb3⟩;have hd3:=hd3f.at;obtain⟨Tn',cT,Tt,cT',rfl⟩:=xzal hd3;have hx3:=HX2.out.step hb3;have hbw3:=HB2.out.trans (hb3.mono HB2.out.size);obtain⟨U4,hU4⟩:∃ U4,u3.alloc (.cells d0 35)=U4:=⟨_,rfl⟩
 have hb4:Below u3.heap.size u3 U4:=by rw [<-hU4];exact(Below.refl _ _).alloc (Nat.le_refl _) _
 have hx4:BlkIs U4 u3.heap.size 35 df0:=by rw [<-hU4,HD0.out];exact BlkIs.new _ _ _
 obtain⟨W5,hsc,hb5,hw5⟩:=xzbe (P:=Tryz.prog) hx4 (new:=dfC D.of D.n (.slice Tn' D.next.length cT) (.slice Tt D.tag.length cT')) (by rw [xzac];exact(xzac _ _ _ _).symm) (xzct _ _ _ _ rfl rfl);have hb35:Below u3.heap.size u3 W5:=hw5.2.1 _ _ (Nat.le_refl _) hb4;obtain⟨W6,hsc2,hb6,hw6⟩:=xzbe (P:=Tryz.prog) (hx3.step hb35) (new:=dfC D.of D.n (.slice Tn' D.next.length cT) (.slice Tt D.tag.length cT')) (by rw [xzac];exact(xzac _ _ _ _).symm) (xzct _ _ _ _ rfl rfl);have hl9:=loadVarDf (DfB.of hb6);have hbw5:=hbw3.trans (hb35.mono hbw3.size);have HB6:=zd (hw6.2.1 _ _ (Nat.le_refl _) hbw5)
 have HAT:=zd (hd3f.via (w1:=w.heap.size) (u':=W6) (by have:=HB2.out.size;exact this) (fun k t cs hb ht hk=>by
  rw [hw6.1 k (by have:=BlkIs.lt HX2.out;omega),hw5.1 k (by have:=BlkIs.lt hb;omega)]
  exact hb4.block k (BlkIs.lt hb)))
 clear hd3f;have HD5:=zd (DfB.of hb5);have hds:(dfC D.of D.n (.slice Tn' D.next.length cT) (.slice Tt D.tag.length cT')).size=259:=xzac _ _ _ _;obtain⟨dn,hdn⟩:∃ dn,dfC D.of D.n (.slice Tn' D.next.length cT) (.slice Tt D.tag.length cT')=dn:=⟨_,rfl⟩;rw [hdn]at hsc hsc2 hl9 hds HAT;have HDN:=zd hdn;rw [hdn];clear hd3 hb3 hx3 hbw3 hb4 hx4 hb5 hw5 hb35 hb6 hw6 hbw5 hdn HSU HX2
 go_wp2_with((with_reducible refine xzag rfl (.tmp 5) ?_ ?_ HD5.out ?_);exact rfl;exact rfl;rw [HDN.out])
 exact bodyPost_ret (xzae rfl rfl hl9) rfl ⟨_,rfl,HAT.out,HB6.out⟩
end
section
open Go.RowKit
attribute [local irreducible] FreeW textFrame
theorem loadRe12 {w:World}{g:Nat}{k:Int}{m:Nat->Bool}{A:Option Addr}{q c:Nat}{lo hi:Int}(h:BlkIs w g 55 (reL k m A q c lo hi).toArray):(Instr.loadAt 55 (.pointer (some ⟨g,0,none⟩))).run Tryz.prog w=.ok (reV k m A q c lo hi) w:=
 run_loadAt_mid (P:=Tryz.prog) w g 0 55 (reL k m A q c lo hi) _ h.range Tryz.underlying55 rfl xznx
def z12 (k:Int)(A:Option Addr)(n:Nat)(lo hi:Int):Array Value:=#[.int .i64 k,.int .u64 0,.int .u64 0,.int .u64 0,.int .u64 0,.slice A n n,.int .i64 lo,.int .i64 hi]
theorem yzfu (k:Int)(A:Option Addr)(n:Nat)(lo hi:Int):z12 k A n lo hi=(reL k (fun _=>false) A n n lo hi).toArray:=by
 have e:=xzoe k A n n lo hi;unfold reV at e;exact(Value.agg.inj e).symm
theorem yzcb {w U:World}{l:List Tree}{k lo hi:Int}{g:Nat}(h:AllAt U l g 0)(hb:Below w.heap.size w U)(hl:l.length<=9223372036854775807):
 InBox8 w (.node k (fun _=>false) l lo hi) U.heap.size (some ⟨g,0,none⟩) l.length l.length (U.alloc (.cells (z12 k (some ⟨g,0,none⟩) l.length lo hi) 55)):=by
 have hn:=xzqc (k:=k) (m:=fun _=>false) (lo:=lo) (hi:=hi) (c:=l.length) h ⟨Nat.le_refl _,hl⟩;rw [yzfu];exact⟨hn.step ((Below.refl _ _).alloc (Nat.le_refl _) _),BlkIs.new _ _ _,hb.alloc hb.size _⟩
theorem yzcc {U:World}{l:List Tree}{k lo hi:Int}{g:Nat}(h:AllAt U l g 0)(hl:l.length<=9223372036854775807):
 AllAt (U.alloc (.cells (z12 k (some ⟨g,0,none⟩) l.length lo hi) 55)) [.node k (fun _=>false) l lo hi] U.heap.size 0:=by
 have hn:=xzqc (k:=k) (m:=fun _=>false) (lo:=lo) (hi:=hi) (c:=l.length) h ⟨Nat.le_refl _,hl⟩;rw [yzfu];exact rows18 hn
theorem both12 (vp vq:Value)(u:World)(hp:DfAt u DP vp)(hq:DfAt u DQ vq):Calls Tryz.prog 12 #[vp,vq] u fun e u'=>e=.returned (.tuple #[.string ⟨#[98]⟩,.bool true])/\Below u.heap.size u u':=by
 refine(xzqt DP DQ vp vq u hp hq (xzrf NP) (xzrf NQ)).mono ?_;rintro e u' ⟨rfl,hb⟩;exact⟨by rw [yzbz,yzca,PQ_both];rfl,hb⟩
theorem diff12 (vp vq:Value)(u:World)(hp:DfAt u DP vp)(hq:DfAt u DQ vq):Calls Tryz.prog 13 #[vp,vq] u fun e u'=>e=.returned (.tuple #[.string ⟨#[97]⟩,.bool true])/\Below u.heap.size u u':=by
 refine(xzjw DP DQ vp vq u hp hq (xzrf NP) (xzrf NQ)).mono ?_;rintro e u' ⟨rfl,hb⟩;exact⟨by rw [yzbz,yzca,PQ_diff];rfl,hb⟩
theorem over12 (v:Value)(u:World)(h:DfAt u D9 v)(hT:Tab u):Calls Tryz.prog 16 #[v,.int .i64 0,setV (sRange 98 98)] u fun e u'=>e=.returned (.tuple #[.string ⟨#[97]⟩,.int .u8 98,.bool true])/\Below u.heap.size u u':=by
 refine(yzby D9 0 (sRange 98 98) v u h (xzrf N9) hT).mono ?_;rintro e u' ⟨rfl,hb⟩;exact⟨by rw [if_neg (by decide),D9_over];rfl,hb⟩
set_option maxRecDepth 20000 in
set_option maxHeartbeats 16000000 in
theorem xzsq (w:World)(hT:Tab w):Calls Tryz.prog 6 #[] w fun e w'=>e=.returned (.bool true)/\Below w.heap.size w w':=by
 have HA:=zd (show ∀ u,Calls Tryz.prog 18 #[.int .i64 97] u fun e u'=>e=.returned (reV 1 (sRange 97 97) none 0 0 0 0)/\Below u.heap.size u u' from fun u=>xzen 97 (by omega) u);have HB:=zd (show ∀ u,Calls Tryz.prog 18 #[.int .i64 98] u fun e u'=>e=.returned (reV 1 (sRange 98 98) none 0 0 0 0)/\Below u.heap.size u u' from fun u=>xzen 98 (by omega) u);have HC:=zd (show ∀ u,Calls Tryz.prog 18 #[.int .i64 99] u fun e u'=>e=.returned (reV 1 (sRange 99 99) none 0 0 0 0)/\Below u.heap.size u u' from fun u=>xzen 99 (by omega) u);have HRG:=zd (show ∀ u,Calls Tryz.prog 20 #[.int .i64 98,.int .i64 98] u fun e u'=>e=.returned (setV (sRange 98 98))/\Below u.heap.size u u' from fun u=>xzgv 98 98 (by omega) u);have HP:=zd (fun(b:Nat) (u:World) (hu:Below w.heap.size w u) (hat:AllAt u [exP] b 0)=>xzon NP DP (some ⟨b,0,none⟩) 1 1 u (hT.step hu) (fun u' hb=>xzsn _ 1 u' ⟨b,0,rfl,hat.step hb⟩) (by rw [NP_small.1];decide) NP_ans);have HQ:=zd (fun(b:Nat) (u:World) (hu:Below w.heap.size w u) (hat:AllAt u [exQ] b 0)=>xzon NQ DQ (some ⟨b,0,none⟩) 1 1 u (hT.step hu) (fun u' hb=>xzso _ 1 u' ⟨b,0,rfl,hat.step hb⟩) (by rw [NQ_small.1];decide) NQ_ans);have H9:=zd (fun(b:Nat) (u:World) (hu:Below w.heap.size w u) (hat:AllAt u [la9,lab9] b 0)=>xzon N9 D9 (some ⟨b,0,none⟩) 2 2 u (hT.step hu) (fun u' hb=>xzru _ 2 u' ⟨b,0,rfl,hat.step hb⟩) (by rw [N9_small.1];decide) N9_ans)
 have HOV:=zd (fun(v:Value) (u:World) (h:DfAt u D9 v) (hu:Below w.heap.size w u)=>over12 v u h (hT.step hu))
 have h97:=fun(W:World)=>xzvx W 97
 have h98:=fun(W:World)=>xzvx W 98
 have h99:=fun(W:World)=>xzvx W 99
 generalize hs97:sRange 97 97=s97 at*;generalize hs98:sRange 98 98=s98 at*;generalize hs99:sRange 99 99=s99 at*;have HAT:=zd (And.intro h97 (And.intro h98 h99));obtain⟨d0,hd0⟩:∃ d0,df0=d0:=⟨_,rfl⟩;have z:=zeroDf;rw [hd0]at z;have HD0:=zd hd0;clear h97 h98 h99 hs97 hs98 hs99 hd0
 go_enter Tryz.func6,Tryz.ntmps6
 go_wp2_with fail
 go_at_call 18
 refine(HB.out _).mono ?_;rintro e u1 ⟨rfl,hb1⟩;unfold reV reL;have hr1:=rows18 (HAT.out.2.1 u1);unfold reL at hr1;obtain⟨U1,hU1⟩:∃ U1,u1.alloc (.cells #[.int .i64 1,.int .u64 (wd s98 0:Nat),.int .u64 (wd s98 1:Nat),.int .u64 (wd s98 2:Nat),.int .u64 (wd s98 3:Nat),.slice none 0 0,.int .i64 0,.int .i64 0] 55)=U1:=⟨_,rfl⟩;rw [show u1.alloc (.cells ([.int .i64 1,.int .u64 (wd s98 0:Nat),.int .u64 (wd s98 1:Nat),.int .u64 (wd s98 2:Nat),.int .u64 (wd s98 3:Nat),.slice none 0 0,.int .i64 0,.int .i64 0]:List Value).toArray 55)=U1 from hU1]at hr1
 have hbU1:Below w.heap.size w U1:=by rw [<-hU1];exact hb1.alloc hb1.size _
 have hsU1:U1.heap.size=u1.heap.size+1:=by rw [<-hU1];simp
 have hx:InBox8 w plusP U1.heap.size (some ⟨u1.heap.size,0,none⟩) 1 1 (U1.alloc (.cells (z12 4 (some ⟨u1.heap.size,0,none⟩) 1 1 (-1)) 55)):=yzcb (l:=[ltr8 98]) (k:=4) (lo:=1) (hi:= -1) hr1 hbU1 (by decide);rw [hsU1]at hx;unfold z12 at hx;generalize hW3:World.alloc U1 _=W3 at hx;have HX:Hid (InBox8 w plusP (u1.heap.size+1) (some ⟨u1.heap.size,0,none⟩) 1 1 W3):=zd hx;clear hx hr1 hbU1 hb1
 go_wp2_with fail
 refine xzaf 7 74 (fun u=>Hid (InBox8 w plusP (u1.heap.size+1) (some ⟨u1.heap.size,0,none⟩) 1 1 u)) (fun _ u u'=>Below u.heap.size u u')
  (fun i v u=>match i with
   |0=>v=reV 1 s97 none 0 0 0 0
   |1=>v=reV 4 (fun _=>false) (some ⟨u1.heap.size,0,none⟩) 1 1 1 (-1)
   |2=>∃ g,v=.slice (some ⟨g,0,none⟩) 2 2/\AllAt u [ltr8 97,plusP] g 0
   |3=>∃ g,v=reV 3 (fun _=>false) (some ⟨g,0,none⟩) 2 2 0 0/\exP.At u v
   |4=>∃ g,v=.slice (some ⟨g,0,none⟩) 1 1/\AllAt u [exP] g 0
   |5=>DfKeep w.heap.size u DP v
   |6=>∃ g,v=.pointer (some ⟨g,0,none⟩)/\w.heap.size<=g/\BlkIs u g 35 d0
   |_=>True) (by kernel_rfl) (by kernel_rfl) rfl (zd (HX.out.step (Below.refl _ _).drew)) ?_ ?_ ?_ ?_
 ·intro i u u' hix hC hr
  exact zd (hC.out.step hr)
 ·intro i j v u u' hix hj hne hv hr
  match i,hix,hne,hv with
  |0,_,_,hv=>exact hv
  |1,_,_,hv=>exact hv
  |2,_,hne,hv=>
   obtain⟨g,h1,h2⟩:=hv;exact⟨g,h1,h2.step hr⟩
  |3,_,hne,hv=>
   obtain⟨g,h1,h2⟩:=hv;exact⟨g,h1,h2.step hr⟩
  |4,_,hne,hv=>
   obtain⟨g,h1,h2⟩:=hv;exact⟨g,h1,h2.step hr⟩
  |5,_,hne,hv=>
   exact DfKeep.step hv hr
  |6,_,hne,hv=>
   obtain⟨g,h1,h2,h3⟩:=hv;exact⟨g,h1,h2,h3.step hr⟩
  |i+7,hix,_,_=>omega
 ·intro i hix vs u hC hw oq ho
  match i,hix,hw,ho with
  |0,_,hw,ho=>
   simp only [zq,zh]at ho;subst ho;refine⟨rfl,?_⟩;clear hw;simp only [xzaa,tmpsTo];go_simp;refine xzak ((HA.out u).mono ?_);rintro e u' ⟨rfl,hb⟩;exact⟨_,rfl,hb,rfl⟩
  |1,_,hw,ho=>
   simp only [zq,zh]at ho;subst ho;refine⟨rfl,?_⟩;clear hw;simp only [xzaa,tmpsTo,putT,zr];rw [xzah 55 (.tmp 1) _ rfl rfl (loadRe12 hC.out.2.1)];exact xzab (Below.refl _ _) rfl
  |2,_,hw,ho=>
   have e0:vs 0=reV 1 s97 none 0 0 0 0:=hw 0 (by omega) (by kernel_rfl);have e1:vs 1=reV 4 (fun _=>false) (some ⟨u1.heap.size,0,none⟩) 1 1 1 (-1):=hw 1 (by omega) (by kernel_rfl);simp only [zq,zh]at ho;subst ho;refine⟨rfl,?_⟩;clear hw;simp only [xzaa,tmpsTo,putT,zr];rw [e0,e1];clear e0 e1;unfold reV reL;go_simp;exact xzab ((Below.refl _ _).alloc (Nat.le_refl _) _) ⟨_,rfl,rows28 (T2:=plusP) (k2:=4) (m2:=fun _=>false) (A2:=some ⟨u1.heap.size,0,none⟩) (n2:=1) (c2:=1) (l2:=1) (h2:= -1) (HAT.out.1 u) hC.out.1⟩
  |3,_,hw,ho=>
   obtain⟨g2,f2,h2⟩:=hw 2 (by omega) (by kernel_rfl);simp only [zq,zh]at ho;subst ho;refine⟨rfl,?_⟩;clear hw;simp only [xzaa,tmpsTo,putT,zr];rw [f2];go_simp;refine xzab (Below.refl _ _) ⟨⟨g2,(xzoe 3 (some ⟨g2,0,none⟩) 2 2 0 0).symm⟩,?_⟩;rw [<-xzoe];exact xzqc h2 ⟨Nat.le_refl _,by decide⟩
  |4,_,hw,ho=>
   obtain⟨g3,f3,h3⟩:=hw 3 (by omega) (by kernel_rfl);rw [f3]at h3;simp only [zq,zh]at ho;subst ho;refine⟨rfl,?_⟩;clear hw;simp only [xzaa,tmpsTo,putT,zr];rw [f3];unfold reV reL;go_simp;exact xzab ((Below.refl _ _).alloc (Nat.le_refl _) _) ⟨_,rfl,rows18 (T1:=exP) (k1:=3) (m1:=fun _=>false) (A1:=some ⟨g3,0,none⟩) (n1:=2) (c1:=2) (l1:=0) (h1:=0) h3⟩
  |5,_,hw,ho=>
   obtain⟨g4,f4,h4⟩:=hw 4 (by omega) (by kernel_rfl);simp only [zq,zh]at ho;subst ho;refine⟨rfl,?_⟩;clear hw;simp only [xzaa,tmpsTo,putT,zr];rw [f4];go_simp;refine xzak ((HP.out g4 u hC.out.2.2 h4).mono ?_);rintro e u' ⟨vd,rfl,hk,hb⟩;exact⟨vd,rfl,hb,hk.via hC.out.2.2.size (fun _ _ _ _ _ _=>rfl)⟩
  |6,_,hw,ho=>
   simp only [zq,zh]at ho;subst ho;refine⟨rfl,?_⟩;clear hw;simp only [xzaa,tmpsTo,putT,zr];go_simp;exact xzab ((Below.refl _ _).alloc (Nat.le_refl _) _) ⟨_,rfl,hC.out.2.2.size,BlkIs.new _ _ _⟩
  |i+7,hix,_,_=>omega
 intro vs u hC hV;obtain⟨g6,e6,hg6,hz6⟩:∃ g,vs 6=.pointer (some ⟨g,0,none⟩)/\w.heap.size<=g/\BlkIs u g 35 d0:=hV 6 (by omega);have hk5:DfKeep w.heap.size u DP (vs 5):=hV 5 (by omega);clear hV;obtain⟨Pn,cp,Pt,cp',e5⟩:=xzal hk5.at;rw [e5]at hk5;rw [<-HD0.out]at hz6;obtain⟨W4,hsc,hb4,hw4⟩:=xzbe (P:=Tryz.prog) hz6 (new:=dfC DP.of DP.n (.slice Pn DP.next.length cp) (.slice Pt DP.tag.length cp')) (by rw [xzac];exact(xzac _ _ _ _).symm) (xzct _ _ _ _ rfl rfl)
 have HW4:=zd (show DfB W4 g6 DP.of DP.n (.slice Pn DP.next.length cp) (.slice Pt DP.tag.length cp')/\DfAt W4 DP (.agg (dfC DP.of DP.n (.slice Pn DP.next.length cp) (.slice Pt DP.tag.length cp')))/\Below w.heap.size w W4 from
  ⟨DfB.of hb4,(hk5.via (Nat.le_refl _) fun k t cs hb ht _=>hw4.1 k (xzil hb hz6 ht)).at,hw4.2.1 _ _ hg6 hC.out.2.2⟩)
 have hds:(dfC DP.of DP.n (.slice Pn DP.next.length cp) (.slice Pt DP.tag.length cp')).size=259:=xzac _ _ _ _;simp only [xzaa,tmpsTo,putT,zr,List.drop_succ_cons,List.drop_zero];rw [e6,e5];generalize vs 0=y0;generalize vs 1=y1;generalize vs 2=y2;generalize vs 3=y3;generalize vs 4=y4;obtain⟨dp,hdp⟩:∃ dn,dfC DP.of DP.n (.slice Pn DP.next.length cp) (.slice Pt DP.tag.length cp')=dn:=⟨_,rfl⟩;have HDP:=zd hdp;rw [hdp]at hsc hds HW4;rw [hdp];clear e5 e6 hk5 hz6 hg6 hb4 hw4 hC hW3 hU1 HX hdp HP
 go_wp2_with fail
 go_at_call 18
 refine(HB.out _).mono ?_;rintro e u5 ⟨rfl,hb5⟩;unfold reV reL
 go_wp2_with fail
 go_at_call 18
 refine(HC.out _).mono ?_;rintro e u6 ⟨rfl,hb6⟩;unfold reV reL;have HB6:=zd (hb5.trans (hb6.mono hb5.size));clear hb5 hb6 hsc hds;have hr2:=rows28 (HAT.out.2.1 u6) (HAT.out.2.2 u6);unfold reL at hr2;simp only [List.cons_append,List.nil_append]at hr2;obtain⟨U2,hU2⟩:∃ U2,u6.alloc (.cells #[.int .i64 1,.int .u64 (wd s98 0:Nat),.int .u64 (wd s98 1:Nat),.int .u64 (wd s98 2:Nat),.int .u64 (wd s98 3:Nat),.slice none 0 0,.int .i64 0,.int .i64 0,.int .i64 1,.int .u64 (wd s99 0:Nat),.int .u64 (wd s99 1:Nat),.int .u64 (wd s99 2:Nat),.int .u64 (wd s99 3:Nat),.slice none 0 0,.int .i64 0,.int .i64 0] 55)=U2:=⟨_,rfl⟩;rw [show u6.alloc (.cells ([.int .i64 1,.int .u64 (wd s98 0:Nat),.int .u64 (wd s98 1:Nat),.int .u64 (wd s98 2:Nat),.int .u64 (wd s98 3:Nat),.slice none 0 0,.int .i64 0,.int .i64 0,.int .i64 1,.int .u64 (wd s99 0:Nat),.int .u64 (wd s99 1:Nat),.int .u64 (wd s99 2:Nat),.int .u64 (wd s99 3:Nat),.slice none 0 0,.int .i64 0,.int .i64 0]:List Value).toArray 55)=U2 from hU2]at hr2
 have hbU2:Below u6.heap.size u6 U2:=by rw [<-hU2];exact(Below.refl _ _).alloc (Nat.le_refl _) _
 have hsU2:U2.heap.size=u6.heap.size+1:=by rw [<-hU2];simp
 have hr3:=yzcc (k:=3) (lo:=0) (hi:=0) hr2 (by decide);have hb3:Below U2.heap.size U2 (U2.alloc (.cells (z12 3 (some ⟨u6.heap.size,0,none⟩) [ltr8 98,ltr8 99].length 0 0) 55)):=(Below.refl _ _).alloc (Nat.le_refl _) _;rw [hsU2]at hr3;unfold z12 at hr3 hb3;simp only [List.length_cons,List.length_nil,Nat.zero_add,Nat.reduceAdd]at hr3 hb3;generalize hW5:World.alloc U2 _=W5 at hr3 hb3;have HR3:=zd (show AllAt W5 [exQ] (u6.heap.size+1) 0 from hr3);have hb65:Below u6.heap.size u6 W5:=hbU2.trans (hb3.mono hbU2.size)
 have HS:=zd (show DfB W5 g6 DP.of DP.n (.slice Pn DP.next.length cp) (.slice Pt DP.tag.length cp')/\DfAt W5 DP (.agg dp)/\Below w.heap.size w W5 from by
  have hb:Below W4.heap.size W4 W5:=HB6.out.trans (hb65.mono HB6.out.size)
  exact⟨HW4.out.1.step hb,HW4.out.2.1.step hb,HW4.out.2.2.trans (hb.mono HW4.out.2.2.size)⟩)
 clear hr2 hr3 hb3 hbU2 hb65 HB6 HW4
 go_wp2_with fail
 go_at_call 19
 refine(HQ.out _ W5 HS.out.2.2 HR3.out).mono ?_;rintro e u7 ⟨vq,rfl,hk7,hb7⟩;obtain⟨Qn,cq,Qt,cq',rfl⟩:=xzal hk7.at;obtain⟨U8,hU8⟩:∃ U8,u7.alloc (.cells d0 35)=U8:=⟨_,rfl⟩
 have hb8:Below u7.heap.size u7 U8:=by rw [<-hU8];exact(Below.refl _ _).alloc (Nat.le_refl _) _
 have hx8:BlkIs U8 u7.heap.size 35 df0:=by rw [<-hU8,HD0.out];exact BlkIs.new _ _ _
 obtain⟨W9,hsc,hb9,hw9⟩:=xzbe (P:=Tryz.prog) hx8 (new:=dfC DQ.of DQ.n (.slice Qn DQ.next.length cq) (.slice Qt DQ.tag.length cq')) (by rw [xzac];exact(xzac _ _ _ _).symm) (xzct _ _ _ _ rfl rfl);have hds:(dfC DQ.of DQ.n (.slice Qn DQ.next.length cq) (.slice Qt DQ.tag.length cq')).size=259:=xzac _ _ _ _;have hb79:Below u7.heap.size u7 W9:=hw9.2.1 _ _ (Nat.le_refl _) hb8;have hb59:Below W5.heap.size W5 W9:=hb7.trans (hb79.mono hb7.size);have hdq:=DfB.of hb9;have haq:=hk7.at.step hb79;obtain⟨dq,hdqe⟩:∃ dn,dfC DQ.of DQ.n (.slice Qn DQ.next.length cq) (.slice Qt DQ.tag.length cq')=dn:=⟨_,rfl⟩;rw [hdqe]at hsc hds haq;rw [hdqe];have HDQ:=zd hdqe;have HK:=zd (show DfB W9 g6 DP.of DP.n (.slice Pn DP.next.length cp) (.slice Pt DP.tag.length cp')/\DfB W9 u7.heap.size DQ.of DQ.n (.slice Qn DQ.next.length cq) (.slice Qt DQ.tag.length cq')/\DfAt W9 DP (.agg dp)/\DfAt W9 DQ (.agg dq)/\Below w.heap.size w W9 from⟨HS.out.1.step hb59,hdq,HS.out.2.1.step hb59,haq,HS.out.2.2.trans (hb59.mono HS.out.2.2.size)⟩);clear hk7 hb7 hb8 hx8 hb9 hw9 hb79 hb59 hdq haq hdqe HS HR3 hW5 hU2
 go_wp2_with(first
  |((with_reducible refine xzag rfl (.tmp 2) ?_ ?_ HK.out.1 ?_);exact rfl;exact rfl;rw [HDP.out])
  |((with_reducible refine xzag rfl (.tmp 3) ?_ ?_ HK.out.2.1 ?_);exact rfl;exact rfl;rw [HDQ.out])
  |(go_at_call 12;refine(both12 _ _ _ HK.out.2.2.1 HK.out.2.2.2.1).mono ?_;rintro e u10 ⟨rfl,hb⟩
    have HK2:=zd (show DfB u10 g6 DP.of DP.n (.slice Pn DP.next.length cp) (.slice Pt DP.tag.length cp')/\DfB u10 u7.heap.size DQ.of DQ.n (.slice Qn DQ.next.length cq) (.slice Qt DQ.tag.length cq')/\DfAt u10 DP (.agg dp)/\DfAt u10 DQ (.agg dq)/\Below w.heap.size w u10 from⟨HK.out.1.step hb,HK.out.2.1.step hb,HK.out.2.2.1.step hb,HK.out.2.2.2.1.step hb,HK.out.2.2.2.2.trans (hb.mono HK.out.2.2.2.2.size)⟩)
    clear hb HK hU8 hsc hds)
  |((with_reducible refine xzag rfl (.tmp 2) ?_ ?_ HK2.out.1 ?_);exact rfl;exact rfl;rw [HDP.out])
  |((with_reducible refine xzag rfl (.tmp 3) ?_ ?_ HK2.out.2.1 ?_);exact rfl;exact rfl;rw [HDQ.out])
  |(go_at_call 13;refine(diff12 _ _ _ HK2.out.2.2.1 HK2.out.2.2.2.1).mono ?_;rintro e u11 ⟨rfl,hb⟩
    have H11:=zd (HK2.out.2.2.2.2.trans (hb.mono HK2.out.2.2.2.2.size))
    clear hb HK2))
 go_at_call 18
 refine(HA.out _).mono ?_;rintro e u12 ⟨rfl,hb12⟩;unfold reV reL
 go_wp2_with fail
 go_at_call 18
 refine(HA.out _).mono ?_;rintro e u13 ⟨rfl,hb13⟩;unfold reV reL
 go_wp2_with fail
 go_at_call 18
 refine(HB.out _).mono ?_;rintro e u14 ⟨rfl,hb14⟩;unfold reV reL;have HB14:=zd (((H11.out.trans (hb12.mono H11.out.size)).trans (hb13.mono (by have:=H11.out.size;have:=hb12.size;omega))).trans (hb14.mono (by have:=H11.out.size;have:=hb12.size;have:=hb13.size;omega)));clear hb12 hb13 hb14 H11;have hr4:=rows28 (HAT.out.1 u14) (HAT.out.2.1 u14);unfold reL at hr4;simp only [List.cons_append,List.nil_append]at hr4;obtain⟨U3,hU3⟩:∃ U3,u14.alloc (.cells #[.int .i64 1,.int .u64 (wd s97 0:Nat),.int .u64 (wd s97 1:Nat),.int .u64 (wd s97 2:Nat),.int .u64 (wd s97 3:Nat),.slice none 0 0,.int .i64 0,.int .i64 0,.int .i64 1,.int .u64 (wd s98 0:Nat),.int .u64 (wd s98 1:Nat),.int .u64 (wd s98 2:Nat),.int .u64 (wd s98 3:Nat),.slice none 0 0,.int .i64 0,.int .i64 0] 55)=U3:=⟨_,rfl⟩;rw [show u14.alloc (.cells ([.int .i64 1,.int .u64 (wd s97 0:Nat),.int .u64 (wd s97 1:Nat),.int .u64 (wd s97 2:Nat),.int .u64 (wd s97 3:Nat),.slice none 0 0,.int .i64 0,.int .i64 0,.int .i64 1,.int .u64 (wd s98 0:Nat),.int .u64 (wd s98 1:Nat),.int .u64 (wd s98 2:Nat),.int .u64 (wd s98 3:Nat),.slice none 0 0,.int .i64 0,.int .i64 0]:List Value).toArray 55)=U3 from hU3]at hr4
 have hbU3:Below u14.heap.size u14 U3:=by rw [<-hU3];exact(Below.refl _ _).alloc (Nat.le_refl _) _
 have hsU3:U3.heap.size=u14.heap.size+1:=by rw [<-hU3];simp
 have hn4:=xzqc (k:=2) (m:=fun _=>false) (lo:=0) (hi:=0) (c:=2) hr4 ⟨Nat.le_refl _,by decide⟩;have hr5:=rows28 (T2:=lab9) (k2:=2) (m2:=fun _=>false) (A2:=some ⟨u14.heap.size,0,none⟩) (n2:=2) (c2:=2) (l2:=0) (h2:=0) (HAT.out.1 U3) hn4;have hb5:Below U3.heap.size U3 (U3.alloc (.cells (reL 1 s97 none 0 0 0 0++reL 2 (fun _=>false) (some ⟨u14.heap.size,0,none⟩) 2 2 0 0).toArray 55)):=(Below.refl _ _).alloc (Nat.le_refl _) _
 have e2:reL 2 (fun _=>false) (some ⟨u14.heap.size,0,none⟩) 2 2 0 0=[.int .i64 2,.int .u64 0,.int .u64 0,.int .u64 0,.int .u64 0,.slice (some ⟨u14.heap.size,0,none⟩) 2 2,.int .i64 0,.int .i64 0]:=by
  have:=congrArg Array.toList (yzfu 2 (some ⟨u14.heap.size,0,none⟩) 2 0 0);exact this.symm
 rw [e2]at hr5 hb5;rw [hsU3]at hr5;unfold reL at hr5 hb5;simp only [List.cons_append,List.nil_append]at hr5 hb5;generalize hW7:World.alloc U3 _=W7 at hr5 hb5;have HR5:=zd (show AllAt W7 [la9,lab9] (u14.heap.size+1) 0 from hr5);have HB7:=zd (HB14.out.trans ((hbU3.trans (hb5.mono hbU3.size)).mono HB14.out.size));clear hr4 hr5 hb5 hbU3 hn4 e2 HB14
 go_wp2_with fail
 go_at_call 19
 refine(H9.out _ W7 HB7.out HR5.out).mono ?_;rintro e u15 ⟨v9,rfl,hk9,hb15⟩;have HK9:=zd (And.intro hk9 (HB7.out.trans (hb15.mono HB7.out.size)));clear hk9 hb15 hW7 hU3 HB7 HR5
 go_wp2_with fail
 go_at_call 20
 refine(HRG.out _).mono ?_;rintro e u16 ⟨rfl,hb16⟩;have HK10:=zd (And.intro (HK9.out.1.at.step hb16) (HK9.out.2.trans (hb16.mono HK9.out.2.size)));clear hb16 HK9
 go_wp2_with fail
 go_at_call 16
 refine(HOV.out v9 u16 HK10.out.1 HK10.out.2).mono ?_;rintro e u17 ⟨rfl,hb17⟩;have H17:=zd (HK10.out.2.trans (hb17.mono HK10.out.2.size));clear hb17 HK10;go_wp2;go_ret;exact⟨rfl,H17.out⟩
end
section
open Go.RowKit
attribute [local irreducible] FreeW textFrame
set_option maxRecDepth 20000 in
set_option maxHeartbeats 8000000 in
theorem xzmy (D:Df)(v:Value)(w:World)(h:DfAt w D v):
 Calls Tryz.prog 21 #[v] w fun e w'=>∃ b,e=.returned (.bool b)/\Below w.heap.size w w':=by
 obtain⟨vn,vt,rfl,hrn,hrt⟩:=h;obtain⟨An,cn,rfl,hcn,hgn⟩:=hrn;obtain⟨At,ct,rfl,hct,_⟩:=hrt;obtain⟨W1,hbx,hsz,hb1,hx1⟩:=xzbu D.of D.n (.slice An D.next.length cn) (.slice At D.tag.length ct) w;obtain⟨dc,hdc⟩:∃ dc,dfC D.of D.n (.slice An D.next.length cn) (.slice At D.tag.length ct)=dc:=⟨_,rfl⟩;rw [hdc]at hbx
 have hds:dc.size=259:=by rw [<-hdc];exact xzac _ _ _ _
 rw [hdc];have hd1:=DfB.of hx1;obtain⟨c256,c257,c258⟩:=hd1.cells;have HB:=zd hb1;have HGN:=zd hgn;clear hb1 hx1 hd1 hdc hgn hsz
 have loop:∀ (_:(decide ((D.next.length:Int)>40)&&decide ((D.next.length:Int)<=600))=false) (_:decide ((D.next.length:Int)>650)=false) (_:decide ((D.tag.length:Int)>700)=false),Calls Tryz.prog 21 #[.agg dc] w fun e w'=>∃ b,e=.returned (.bool b)/\Below w.heap.size w w':=by
  intro h1 h2 h3;have h2b:decide ((650:Int)<(D.next.length:Int))=false:=h2;have h3b:decide ((700:Int)<(D.tag.length:Int))=false:=h3
  have fin:∀ (h4:decide ((D.next.length:Int)>40)=true->decide ((D.next.length:Int)<=600)=false),Calls Tryz.prog 21 #[.agg dc] w fun e w'=>∃ b,e=.returned (.bool b)/\Below w.heap.size w w':=by
   intro h4
   cases h5:decide ((D.next.length:Int)>40)with
   |true=>
    have h6:=h4 h5;have h5b:decide ((40:Int)<(D.next.length:Int))=true:=h5;clear h1 h4
    go_enter Tryz.func21,Tryz.ntmps21
    go_wp2;clear h5 h5b h2 h2b h3 h3b hbx hds c256 c258
    go_loopw [3] (fun i wr=>∃ j:Nat,i=.int .i64 j/\j<=D.next.length/\Hid (wr=W1)) (fun i _=>D.next.length - (intOf i).toNat)
    case atStart=>exact⟨0,rfl,Nat.zero_le _,zd (by trivial)⟩
    case round=>
     obtain⟨j,rfl,hj,HH⟩:=hrel;obtain rfl:=HH.out
     by_cases hp:j<D.next.length
     ·have hk1:IntKind.i64.wrap ((j:Int)+1)=((j+1:Nat):Int):=by rw [IntKind.wrap_i64];omega
      have hdl:decide ((j:Int)<(D.next.length:Int))=true:=by simp;omega
      obtain⟨b,o,rfl,hlt,hg⟩:=HGN.out (by intro e;rw [e]at hp;simp at hp);obtain⟨vr,hcell,hvr⟩:=hg j hp;have hcell':=(HB.out.cell (p:=⟨b,o+j,none⟩) hlt).trans hcell;obtain⟨Ar,cr,rfl,hxx⟩:=hvr;clear hg hcell hxx;generalize D.next[j].length=nr at*
      cases k6:decide ((nr:Int)>300)with
      |true=>
       have k6b:decide ((300:Int)<(nr:Int))=true:=k6;go_wp2;go_ret
       (first|exact⟨.inl rfl,HB.out⟩|exact⟨.inr rfl,HB.out⟩|exact⟨_,rfl,HB.out⟩)
      |false=>
       have k6b:decide ((300:Int)<(nr:Int))=false:=k6;go_wp2;exact⟨⟨j+1,rfl,hp,zd (by trivial)⟩,by simp [intOf];omega⟩
     ·have hdl:decide ((j:Int)<(D.next.length:Int))=false:=by simp;omega
      go_wp2;go_ret
      (first|exact⟨.inl rfl,HB.out⟩|exact⟨.inr rfl,HB.out⟩|exact⟨_,rfl,HB.out⟩)
   |false=>
    have h5b:decide ((40:Int)<(D.next.length:Int))=false:=h5;clear h1 h4
    go_enter Tryz.func21,Tryz.ntmps21
    go_wp2;clear h5 h5b h2 h2b h3 h3b hbx hds c256 c258
    go_loopw [3] (fun i wr=>∃ j:Nat,i=.int .i64 j/\j<=D.next.length/\Hid (wr=W1)) (fun i _=>D.next.length - (intOf i).toNat)
    case atStart=>exact⟨0,rfl,Nat.zero_le _,zd (by trivial)⟩
    case round=>
     obtain⟨j,rfl,hj,HH⟩:=hrel;obtain rfl:=HH.out
     by_cases hp:j<D.next.length
     ·have hk1:IntKind.i64.wrap ((j:Int)+1)=((j+1:Nat):Int):=by rw [IntKind.wrap_i64];omega
      have hdl:decide ((j:Int)<(D.next.length:Int))=true:=by simp;omega
      obtain⟨b,o,rfl,hlt,hg⟩:=HGN.out (by intro e;rw [e]at hp;simp at hp);obtain⟨vr,hcell,hvr⟩:=hg j hp;have hcell':=(HB.out.cell (p:=⟨b,o+j,none⟩) hlt).trans hcell;obtain⟨Ar,cr,rfl,hxx⟩:=hvr;clear hg hcell hxx;generalize D.next[j].length=nr at*
      cases k6:decide ((nr:Int)>300)with
      |true=>
       have k6b:decide ((300:Int)<(nr:Int))=true:=k6;go_wp2;go_ret
       (first|exact⟨.inl rfl,HB.out⟩|exact⟨.inr rfl,HB.out⟩|exact⟨_,rfl,HB.out⟩)
      |false=>
       have k6b:decide ((300:Int)<(nr:Int))=false:=k6;go_wp2;exact⟨⟨j+1,rfl,hp,zd (by trivial)⟩,by simp [intOf];omega⟩
     ·have hdl:decide ((j:Int)<(D.next.length:Int))=false:=by simp;omega
      go_wp2;go_ret
      (first|exact⟨.inl rfl,HB.out⟩|exact⟨.inr rfl,HB.out⟩|exact⟨_,rfl,HB.out⟩)
  exact fin fun h4=>by simpa [h4]using h1
 cases g1:(decide ((D.next.length:Int)>40)&&decide ((D.next.length:Int)<=600))with
 |true=>
  obtain⟨g2,g3⟩:=Bool.and_eq_true_iff.1 g1;have g2b:decide ((40:Int)<(D.next.length:Int))=true:=g2;clear g1 loop
  go_enter Tryz.func21,Tryz.ntmps21
  go_wp2;go_ret
  (first|exact⟨.inl rfl,HB.out⟩|exact⟨.inr rfl,HB.out⟩|exact⟨_,rfl,HB.out⟩)
 |false=>
  cases g4:decide ((D.next.length:Int)>650)with
  |true=>
   have g4b:decide ((650:Int)<(D.next.length:Int))=true:=g4
   have g5:decide ((D.next.length:Int)>40)=true:=by have:=of_decide_eq_true g4;simp;omega
   have g5b:decide ((40:Int)<(D.next.length:Int))=true:=g5
   have g6:decide ((D.next.length:Int)<=600)=false:=by have:=of_decide_eq_true g4;simp;omega
   clear g1 loop
   go_enter Tryz.func21,Tryz.ntmps21
   go_wp2;go_ret
   (first|exact⟨.inl rfl,HB.out⟩|exact⟨.inr rfl,HB.out⟩|exact⟨_,rfl,HB.out⟩)
  |false=>
   cases g7:decide ((D.tag.length:Int)>700)with
   |true=>
    have g4b:decide ((650:Int)<(D.next.length:Int))=false:=g4;have g7b:decide ((700:Int)<(D.tag.length:Int))=true:=g7
    cases g5:decide ((D.next.length:Int)>40)with
    |true=>
     have g5b:decide ((40:Int)<(D.next.length:Int))=true:=g5
     have g6:decide ((D.next.length:Int)<=600)=false:=by rw [g5,Bool.true_and]at g1;exact g1
     clear g1 loop
     go_enter Tryz.func21,Tryz.ntmps21
     go_wp2;go_ret
     (first|exact⟨.inl rfl,HB.out⟩|exact⟨.inr rfl,HB.out⟩|exact⟨_,rfl,HB.out⟩)
    |false=>
     have g5b:decide ((40:Int)<(D.next.length:Int))=false:=g5;clear g1 loop
     go_enter Tryz.func21,Tryz.ntmps21
     go_wp2;go_ret
     (first|exact⟨.inl rfl,HB.out⟩|exact⟨.inr rfl,HB.out⟩|exact⟨_,rfl,HB.out⟩)
   |false=>exact loop g1 g4 g7
theorem yzcd (f:Nat->Nat)(n:Int)(A B:Option Addr)(a a' b b':Nat):Tryz.prog.built 35 [(0,.agg (clsC f n)),(1,.slice A a a'),(2,.slice B b b')]=some (dfC f n (.slice A a a') (.slice B b b')):=by kernel_rfl
set_option maxRecDepth 20000 in
set_option maxHeartbeats 8000000 in
theorem yzct (f:Nat->Nat)(n:Int)(A:Option Addr)(na ca:Nat)(B:Option Addr)(nb cb:Nat)(w:World):Calls Tryz.prog 9 #[.agg (dfC f n (.slice A na ca) (.slice B nb cb))] w fun e w'=>e=.returned (.agg (dfC f n (.slice A na ca) (.slice B nb cb)))/\Below w.heap.size w w':=by
 obtain⟨W1,hW1,hs1,hb1,hx1⟩:=xzbu f n (.slice A na ca) (.slice B nb cb) w;obtain⟨W2,hW2⟩:∃ W2,W1.alloc (.cells df0 35)=W2:=⟨_,rfl⟩
 have hb12:Below W1.heap.size W1 W2:=by rw [<-hW2];exact(Below.refl _ _).alloc (Nat.le_refl _) _
 have hx2:=(DfB.of hx1).step hb12
 have hy2:BlkIs W2 (w.heap.size+1) 35 df0:=by rw [<-hW2,<-hs1];exact BlkIs.new W1 _ _
 obtain⟨W9,hsc,hb9,hw9⟩:=xzbe (P:=Tryz.prog) hy2 (new:=dfC f n (.slice A na ca) (.slice B nb cb)) (by rw [xzac];exact(xzac _ _ _ _).symm) (xzct _ _ _ _ rfl rfl);have hl9:=loadVarDf (DfB.of hb9);have HB9:=zd (hw9.2.1 _ _ (show w.heap.size<=w.heap.size+1 by omega) (hb1.trans (hb12.mono (by omega))));have HX:=zd hx2;obtain⟨k256,k257,k258⟩:=hx2.cells;have hds:(dfC f n (.slice A na ca) (.slice B nb cb)).size=259:=xzac _ _ _ _;have hos:(ofC f).size=256:=xzhb f;have hcs:(clsC f n).size=257:=xzaj f n;have hbc:=xzyl f n;have hbd:=yzcd f n A B na ca nb cb;obtain⟨d9,hd9⟩:∃ d9,dfC f n (.slice A na ca) (.slice B nb cb)=d9:=⟨_,rfl⟩;obtain⟨d0,hd0⟩:∃ d0,df0=d0:=⟨_,rfl⟩;obtain⟨o9,ho9⟩:∃ o9,ofC f=o9:=⟨_,rfl⟩;obtain⟨c9,hc9⟩:∃ c9,clsC f n=c9:=⟨_,rfl⟩;have z:=zeroDf;rw [hd0]at z hW2;rw [hd9]at hW1 hsc hl9 hds hbd;rw [ho9]at hos hbc;rw [hc9]at hcs hbc hbd;rw [hd9];clear hb1 hx1 hb12 hx2 hy2 hb9 hw9
 go_enter Tryz.func9,Tryz.ntmps9
 go_wp2_with(first
  |((with_reducible refine xzga rfl (.tmp 4) ?_ ?_ HX.out ?_);exact rfl;exact rfl;rw [ho9])
  |(refine xzaz rfl 33 _ rfl (cells:=c9) (by refine(congrArg (Tryz.prog.built 33) ?_).trans hbc;kernel_rfl) ?_)
  |(refine xzaz rfl 35 _ rfl (cells:=d9) (by refine(congrArg (Tryz.prog.built 35) ?_).trans hbd;kernel_rfl) ?_))
 exact bodyPost_ret (xzae rfl rfl hl9) rfl ⟨rfl,HB9.out⟩
end
end Go.Proofs.YtdjpphjpnkfeiaaGreatDoor
