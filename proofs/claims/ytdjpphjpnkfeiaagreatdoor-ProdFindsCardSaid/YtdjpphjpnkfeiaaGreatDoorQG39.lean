/-
 WHAT hackleref12.Find ANSWERS: a contract. Condition: automata that may be lie there, their classes being bytes.
-/
import Derived.Test.YtdjpphjpnkfeiaaGreatDoorQG37
import Derived.Test.YtdjpphjpnkfeiaaGreatDoorQG38
import Derived.Test.YtdjpphjpnkfeiaaGreatDoorQG32
import Derived.Test.YtdjpphjpnkfeiaaGreatDoorQG04
namespace Go.Proofs.YtdjpphjpnkfeiaaGreatDoor
section
open Go.RowKit
attribute [local irreducible] FreeW textFrame
theorem tg_lo {D:Df}(h:MayD D){a:Int}(ha:D.InS a): -1<=D.tg a:=by
 unfold Df.tg;unfold Df.InS at ha
 split
 ·exact Int.le_refl _
 ·rw [List.getD_eq_getElem?_getD,List.getElem?_eq_getElem (show a.toNat<D.tag.length by have:=h.tags;omega)]
  exact(h.tag _ (List.getElem_mem _)).1
theorem allF_in {A B:Df}(hA:OkD A)(hB:OkD B):∀ y∈allF A B,A.InS y.1.1/\B.InS y.1.2:=fun y hy=>((xzfc hA.wf hB.wf _).2 y hy).2
def RFindIs (A B:Df)(q:Int->Int->Bool)(w:World):Ending->World->Prop:=fun e w'=>e=.returned (toldV ((tellQ (fun s=>q (A.tg s.1) (B.tg s.2)) (allF A B)).map Prod.snd))/\Below w.heap.size w w'
set_option maxRecDepth 20000 in
set_option maxHeartbeats 16000000 in
theorem xzfu (A B:Df)(what:Int)(qf:Int->Int->Bool)(hwhat:(what=0/\qf=qBoth)\/(what=1/\qf=qDiff)\/(what=2/\qf=qWith))(va vb:Value)(w:World)(ha:DfAt w A va)(hb:DfAt w B vb)(hma:MayD A)(hmb:MayD B)(hfa:∀ b,b<256->A.of b<256)(hfb:∀ b,b<256->B.of b<256):
 Calls Tryz.prog 15 #[va,vb,.int .i64 what] w (RFindIs A B qf w):=by
 have HAA:=zd (And.intro ha hb);obtain⟨An,cn,At,ct,rfl⟩:=xzal ha;obtain⟨Bn,dn,Bt,dt,rfl⟩:=xzal hb;obtain⟨W1,hbx,hsz,hb1,hx1⟩:=xzbu A.of A.n (.slice An A.next.length cn) (.slice At A.tag.length ct) w;obtain⟨W2,hbx2,hsz2,hb2,hx2⟩:=xzbu B.of B.n (.slice Bn B.next.length dn) (.slice Bt B.tag.length dt) W1
 have h2s:W2.heap.size=w.heap.size+2:=by omega
 have hd1:=(DfB.of hx1).step hb2;have hd2:=DfB.of hx2;rw [hsz]at hd2;have HP:=zd (show Below w.heap.size w W2/\DfB W2 w.heap.size A.of A.n (.slice An A.next.length cn) (.slice At A.tag.length ct)/\DfB W2 (w.heap.size+1) B.of B.n (.slice Bn B.next.length dn) (.slice Bt B.tag.length dt)from⟨hb1.trans (hb2.mono (by omega)),hd1,hd2⟩);have HWK:=zd (fun(u:World) (hu:Below w.heap.size w u)=>xzsc A B _ _ u (HAA.out.1.step hu) (HAA.out.2.step hu) hma hmb hfa hfb);have HTA0:=zd (fun(a:Int) (u:World) (hu:Below w.heap.size w u) (ha:A.InS a)=>xzjt A a _ u (HAA.out.1.step hu) ha hma.tags);have HTB0:=zd (fun(a:Int) (u:World) (hu:Below w.heap.size w u) (ha:B.InS a)=>xzjt B a _ u (HAA.out.2.step hu) ha hmb.tags);have HLA:=zd (fun(u:World) (hu:DfB u w.heap.size A.of A.n (.slice An A.next.length cn) (.slice At A.tag.length ct))=>loadDr hu);have HLB:=zd (fun(u:World) (hu:DfB u (w.heap.size+1) B.of B.n (.slice Bn B.next.length dn) (.slice Bt B.tag.length dt))=>loadDr hu);have HLO:=zd (And.intro (fun a=>tg_lo hma (a:=a)) (fun a=>tg_lo hmb (a:=a)));have HIN:=zd (allF_in (hma.okD hfa) (hmb.okD hfb));have HBD:=zd (show(allF A B).length<=361201 from Nat.le_trans (xzcl (hma.okD hfa).wf (hmb.okD hfb).wf _) (xzkx (hma.okD hfa) (hmb.okD hfb)));obtain⟨da,hda⟩:∃ dc,dfC A.of A.n (.slice An A.next.length cn) (.slice At A.tag.length ct)=dc:=⟨_,rfl⟩;obtain⟨db,hdb⟩:∃ dc,dfC B.of B.n (.slice Bn B.next.length dn) (.slice Bt B.tag.length dt)=dc:=⟨_,rfl⟩
 rw [hda]at hbx HWK HTA0 HLA;rw [hdb]at hbx2 HWK HTB0 HLB
 have hdsa:da.size=259:=by rw [<-hda];exact xzac _ _ _ _
 have hdsb:db.size=259:=by rw [<-hdb];exact xzac _ _ _ _
 rw [hda,hdb];have HDC:=zd (And.intro hda hdb);clear hb1 hx1 hd1 hda hb2 hx2 hd2 hdb ha hb h2s HAA hma hmb hfa hfb
 go_enter Tryz.func15,Tryz.ntmps15
 go_wp2_with(first
  |((with_reducible refine xzao rfl (.tmp 3) ?_ ?_ HP.out.2.1 ?_);exact rfl;exact rfl;rw [HDC.out.1])
  |((with_reducible refine xzao rfl (.tmp 4) ?_ ?_ HP.out.2.2 ?_);exact rfl;exact rfl;rw [HDC.out.2])
  |(go_at_call 11;refine(HWK.out _ HP.out.1).mono ?_;rintro e uz ⟨vw,rfl,hpr,hbu⟩;obtain⟨Ao,cox,rfl⟩:=hpr.form
    have HQ0:=zd (show Below w.heap.size w uz/\DfB uz w.heap.size A.of A.n (.slice An A.next.length cn) (.slice At A.tag.length ct)/\DfB uz (w.heap.size+1) B.of B.n (.slice Bn B.next.length dn) (.slice Bt B.tag.length dt)/\PairR w.heap.size uz (.slice Ao (allF A B).length cox) (allF A B)from
     ⟨HP.out.1.trans (hbu.mono HP.out.1.size),HP.out.2.1.step hbu,HP.out.2.2.step hbu,hpr.low HP.out.1.size⟩)
    clear hbu hpr HWK))
 clear hbx hbx2 hdsa hdsb
 go_loopw [9] (fun v9 wr=>∃ ix:Nat,v9=.int .i64 ix/\ix<=(allF A B).length/\(∀ (i:Nat) (h:i<ix) (h2:i<(allF A B).length),qf (A.tg ((allF A B)[i]).1.1) (B.tg ((allF A B)[i]).1.2)=false)/\Hid (Below w.heap.size w wr/\DfB wr w.heap.size A.of A.n (.slice An A.next.length cn) (.slice At A.tag.length ct)/\DfB wr (w.heap.size+1) B.of B.n (.slice Bn B.next.length dn) (.slice Bt B.tag.length dt)/\PairR w.heap.size wr (.slice Ao (allF A B).length cox) (allF A B))) (fun v9 _=>(allF A B).length+1 - (intOf v9).toNat)
 case atStart=>exact⟨0,rfl,Nat.zero_le _,fun i h=>absurd h (Nat.not_lt_zero _),HQ0⟩
 case round=>
  obtain⟨ix,rfl,hib,hnone,HH⟩:=hrel;obtain⟨wz,rfl⟩:∃ wz,wz=wr:=⟨_,rfl⟩;have hbd:=HBD.out
  by_cases hp:ix<(allF A B).length
  ·have hdl:decide ((ix:Int)<((allF A B).length:Int))=true:=by simp;omega
   have hki:IntKind.i64.wrap ((ix:Int)+1)=((ix+1:Nat):Int):=by rw [IntKind.wrap_i64];omega
   have hpr:=HH.out.2.2.2;obtain⟨bo,cox',hsl,_,_,_⟩:=hpr.at hp
   injection hsl with hA1 _ hc1
   subst hA1;subst hc1;have hcl:=hpr.cellsAt hp;obtain⟨q,hq⟩:∃ q,(allF A B)[ix]=q:=⟨_,rfl⟩;have HINq:=zd (show A.InS q.1.1/\B.InS q.1.2 from hq▸HIN.out _ (List.getElem_mem hp))
   have HFD:=zd (fun(e:qf (A.tg q.1.1) (B.tg q.1.2)=true)=>show Ending.returned (.tuple #[.string (txB q.2),.bool true])=.returned (toldV ((tellQ (fun s=>qf (A.tg s.1) (B.tg s.2)) (allF A B)).map Prod.snd))by
    rw [xzmr hp (by rw [hq];exact e) (fun i hi=>hnone i hi (by omega)),hq];rfl)
   have HNX:=zd (fun(e:qf (A.tg q.1.1) (B.tg q.1.2)=false)=>show ∀ (i:Nat) (h:i<ix+1) (h2:i<(allF A B).length),qf (A.tg ((allF A B)[i]).1.1) (B.tg ((allF A B)[i]).1.2)=false from fun i h h2=>by
    by_cases hi:i<ix
    ·exact hnone i hi h2
    ·obtain rfl:i=ix:=by omega
     rw [hq];exact e)
   rw [hq]at hcl;obtain⟨hblt,_,hcl2⟩:=hcl;have kx0:=hcl2 0 _ rfl;have kx1:=hcl2 1 _ rfl;have kx2:=hcl2 2 _ rfl;rw [Nat.add_zero]at kx0
   have HPK:=zd (fun(u:World) (hu:Below wz.heap.size wz u)=>show DfB u w.heap.size A.of A.n (.slice An A.next.length cn) (.slice At A.tag.length ct)/\DfB u (w.heap.size+1) B.of B.n (.slice Bn B.next.length dn) (.slice Bt B.tag.length dt)/\u.cell? ⟨bo,ix*3,none⟩=some (.int .i64 q.1.1)/\u.cell? ⟨bo,ix*3+1,none⟩=some (.int .i64 q.1.2)/\u.cell? ⟨bo,ix*3+2,none⟩=some (.string (txB q.2))from
    ⟨HH.out.2.1.step hu,HH.out.2.2.1.step hu,(hu.cell (p:=⟨bo,ix*3,none⟩) hblt).trans kx0,(hu.cell (p:=⟨bo,ix*3+1,none⟩) hblt).trans kx1,(hu.cell (p:=⟨bo,ix*3+2,none⟩) hblt).trans kx2⟩)
   have HTA:=zd (fun(u:World) (hu:Below wz.heap.size wz u)=>HTA0.out q.1.1 u (HH.out.1.trans (hu.mono HH.out.1.size)) HINq.out.1);have HTB:=zd (fun(u:World) (hu:Below wz.heap.size wz u)=>HTB0.out q.1.2 u (HH.out.1.trans (hu.mono HH.out.1.size)) HINq.out.2);have HIF:=zd hp;clear hcl2 kx0 kx1 kx2 hq hnone hpr hblt
   go_wp2_with fail
   refine xzaf 14 71 (fun u=>Hid (Below wz.heap.size wz u)) (fun _ u u'=>Below u.heap.size u u')
    (fun i v u=>match i with
     |0=>v=.agg da
     |1=>v=.slice (some ⟨bo,0,none⟩) (allF A B).length cox
     |2=>v=.int .i64 (ix:Nat)
     |3=>v=.pointer (some ⟨bo,ix*3,none⟩)
     |4=>v=.pointer (some ⟨bo,ix*3,none⟩)
     |5=>v=.int .i64 q.1.1
     |6=>v=.int .i64 (A.tg q.1.1)
     |7=>v=.agg db
     |8=>v=.slice (some ⟨bo,0,none⟩) (allF A B).length cox
     |9=>v=.int .i64 (ix:Nat)
     |10=>v=.pointer (some ⟨bo,ix*3,none⟩)
     |11=>v=.pointer (some ⟨bo,ix*3+1,none⟩)
     |12=>v=.int .i64 q.1.2
     |13=>v=.int .i64 (B.tg q.1.2)
     |_=>True) (by kernel_rfl) (by kernel_rfl) rfl (zd (Below.refl _ _).drew) ?_ ?_ ?_ ?_
   ·intro i u u' hix hC hr
    exact zd (hC.out.trans (hr.mono hC.out.size))
   ·intro i j v u u' hix hj hne hv hr
    match i,hix,hne,hv with
    |0,_,_,hv=>exact hv
    |1,_,_,hv=>exact hv
    |2,_,_,hv=>exact hv
    |3,_,_,hv=>exact hv
    |4,_,_,hv=>exact hv
    |5,_,_,hv=>exact hv
    |6,_,_,hv=>exact hv
    |7,_,_,hv=>exact hv
    |8,_,_,hv=>exact hv
    |9,_,_,hv=>exact hv
    |10,_,_,hv=>exact hv
    |11,_,_,hv=>exact hv
    |12,_,_,hv=>exact hv
    |13,_,_,hv=>exact hv
    |i+14,hix,_,_=>omega
   ·intro i hix vs u hC hw oq ho
    match i,hix,hw,ho with
    |0,_,hw,ho=>
     simp only [zq,zh]at ho;subst ho;refine⟨rfl,?_⟩;clear hw;simp only [xzaa,tmpsTo];rw [xzah 28 (.tmp 3) _ rfl rfl (HLA.out u (HPK.out u hC.out).1)];exact xzab (Below.refl _ _) rfl
    |1,_,hw,ho=>
     simp only [zq,zh]at ho;subst ho;refine⟨rfl,?_⟩;clear hw;simp only [xzaa,tmpsTo,putT,zr];go_simp;exact xzab (Below.refl _ _) rfl
    |2,_,hw,ho=>
     simp only [zq,zh]at ho;subst ho;refine⟨rfl,?_⟩;clear hw;simp only [xzaa,tmpsTo,putT,zr];go_simp;exact xzab (Below.refl _ _) rfl
    |3,_,hw,ho=>
     have e1:vs 1=.slice (some ⟨bo,0,none⟩) (allF A B).length cox:=hw 1 (by omega) (by kernel_rfl);have e2:vs 2=.int .i64 (ix:Nat):=hw 2 (by omega) (by kernel_rfl);simp only [zq,zh]at ho;subst ho;refine⟨rfl,?_⟩;have hin:=HIF.out;clear hw;simp only [xzaa,tmpsTo,putT,zr];rw [e1,e2];clear e1 e2;go_simp;exact xzab (Below.refl _ _) rfl
    |4,_,hw,ho=>
     have e3:vs 3=.pointer (some ⟨bo,ix*3,none⟩):=hw 3 (by omega) (by kernel_rfl);simp only [zq,zh]at ho;subst ho;refine⟨rfl,?_⟩;clear hw;simp only [xzaa,tmpsTo,putT,zr];rw [e3];clear e3;go_simp;exact xzab (Below.refl _ _) rfl
    |5,_,hw,ho=>
     have e4:vs 4=.pointer (some ⟨bo,ix*3,none⟩):=hw 4 (by omega) (by kernel_rfl);simp only [zq,zh]at ho;subst ho;refine⟨rfl,?_⟩;have kq:=(HPK.out u hC.out).2.2.1;clear hw;simp only [xzaa,tmpsTo,putT,zr];rw [e4];clear e4;go_simp;exact xzab (Below.refl _ _) rfl
    |6,_,hw,ho=>
     have e0:vs 0=.agg da:=hw 0 (by omega) (by kernel_rfl);have e5:vs 5=.int .i64 q.1.1:=hw 5 (by omega) (by kernel_rfl);simp only [zq,zh]at ho;subst ho;refine⟨rfl,?_⟩;clear hw;simp only [xzaa,tmpsTo,putT,zr];rw [e0,e5];clear e0 e5;go_simp;refine xzak ((HTA.out u hC.out).mono ?_);rintro e u' ⟨rfl,hbu⟩;exact⟨_,rfl,hbu,rfl⟩
    |7,_,hw,ho=>
     simp only [zq,zh]at ho;subst ho;refine⟨rfl,?_⟩;clear hw;simp only [xzaa,tmpsTo,putT,zr];rw [xzah 28 (.tmp 4) _ rfl rfl (HLB.out u (HPK.out u hC.out).2.1)];exact xzab (Below.refl _ _) rfl
    |8,_,hw,ho=>
     simp only [zq,zh]at ho;subst ho;refine⟨rfl,?_⟩;clear hw;simp only [xzaa,tmpsTo,putT,zr];go_simp;exact xzab (Below.refl _ _) rfl
    |9,_,hw,ho=>
     simp only [zq,zh]at ho;subst ho;refine⟨rfl,?_⟩;clear hw;simp only [xzaa,tmpsTo,putT,zr];go_simp;exact xzab (Below.refl _ _) rfl
    |10,_,hw,ho=>
     have e8:vs 8=.slice (some ⟨bo,0,none⟩) (allF A B).length cox:=hw 8 (by omega) (by kernel_rfl);have e9:vs 9=.int .i64 (ix:Nat):=hw 9 (by omega) (by kernel_rfl);simp only [zq,zh]at ho;subst ho;refine⟨rfl,?_⟩;have hin:=HIF.out;clear hw;simp only [xzaa,tmpsTo,putT,zr];rw [e8,e9];clear e8 e9;go_simp;exact xzab (Below.refl _ _) rfl
    |11,_,hw,ho=>
     have e10:vs 10=.pointer (some ⟨bo,ix*3,none⟩):=hw 10 (by omega) (by kernel_rfl);simp only [zq,zh]at ho;subst ho;refine⟨rfl,?_⟩;clear hw;simp only [xzaa,tmpsTo,putT,zr];rw [e10];clear e10;go_simp;exact xzab (Below.refl _ _) rfl
    |12,_,hw,ho=>
     have e11:vs 11=.pointer (some ⟨bo,ix*3+1,none⟩):=hw 11 (by omega) (by kernel_rfl);simp only [zq,zh]at ho;subst ho;refine⟨rfl,?_⟩;have kq:=(HPK.out u hC.out).2.2.2.1;clear hw;simp only [xzaa,tmpsTo,putT,zr];rw [e11];clear e11;go_simp;exact xzab (Below.refl _ _) rfl
    |13,_,hw,ho=>
     have e7:vs 7=.agg db:=hw 7 (by omega) (by kernel_rfl);have e12:vs 12=.int .i64 q.1.2:=hw 12 (by omega) (by kernel_rfl);simp only [zq,zh]at ho;subst ho;refine⟨rfl,?_⟩;clear hw;simp only [xzaa,tmpsTo,putT,zr];rw [e7,e12];clear e7 e12;go_simp;refine xzak ((HTB.out u hC.out).mono ?_);rintro e u' ⟨rfl,hbu⟩;exact⟨_,rfl,hbu,rfl⟩
    |i+14,hix,_,_=>omega
   intro vs1 u hC hV;have q6:vs1 6=.int .i64 (A.tg q.1.1):=hV 6 (by omega);have q13:vs1 13=.int .i64 (B.tg q.1.2):=hV 13 (by omega);clear hV;simp only [xzaa,tmpsTo,putT,zr,List.drop_succ_cons,List.drop_zero];rw [q6,q13];clear q6 q13;generalize vs1 0=g0;generalize vs1 1=g1;generalize vs1 2=g2;generalize vs1 3=g3;generalize vs1 4=g4;generalize vs1 5=g5;generalize vs1 7=g7;generalize vs1 8=g8;generalize vs1 9=g9;generalize vs1 10=g10;generalize vs1 11=g11;generalize vs1 12=g12;have HW:=zd (show Below w.heap.size w u/\DfB u w.heap.size A.of A.n (.slice An A.next.length cn) (.slice At A.tag.length ct)/\DfB u (w.heap.size+1) B.of B.n (.slice Bn B.next.length dn) (.slice Bt B.tag.length dt)/\PairR w.heap.size u (.slice (some ⟨bo,0,none⟩) (allF A B).length cox) (allF A B)from⟨HH.out.1.trans (hC.out.mono HH.out.1.size),HH.out.2.1.step hC.out,HH.out.2.2.1.step hC.out,HH.out.2.2.2.step hC.out⟩);have kq2:=(HPK.out u hC.out).2.2.2.2;have hX1:=HLO.out.1 q.1.1 HINq.out.1;have hY1:=HLO.out.2 q.1.2 HINq.out.2;clear HH HPK HTA HTB hC HINq;generalize A.tg q.1.1=X at*;generalize B.tg q.1.2=Y at*
   rcases hwhat with⟨rfl,hq2⟩|⟨rfl,hq2⟩|⟨rfl,hq2⟩
   ·by_cases hx0:0<=X
    ·by_cases hy0:0<=Y
     ·have HQ:=zd (show qf X Y=true by rw [hq2];unfold qBoth;simp;omega)
      have dX:decide (X>=0)=true:=by simp;omega
      have dXb:decide (0<=X)=true:=by simp;omega
      have dY:decide (Y>=0)=true:=by simp;omega
      have dYb:decide (0<=Y)=true:=by simp;omega
      clear hq2 hX1 hY1;clear HNX;go_wp2
      go_ret2
      exact⟨HFD.out HQ.out,HW.out.1⟩
     ·have HQ:=zd (show qf X Y=false by rw [hq2];unfold qBoth;simp;omega)
      have dX:decide (X>=0)=true:=by simp;omega
      have dXb:decide (0<=X)=true:=by simp;omega
      have dY:decide (Y>=0)=false:=by simp;omega
      have dYb:decide (0<=Y)=false:=by simp;omega
      clear hq2 hX1 hY1;have HNE:=zd (HNX.out HQ.out);clear HNX HFD;go_wp2;exact⟨⟨ix+1,rfl,HIF.out,HNE.out,HW⟩,by have:=HIF.out;simp [intOf];omega⟩
    ·have HQ:=zd (show qf X Y=false by rw [hq2];unfold qBoth;simp;omega)
     have dX:decide (X>=0)=false:=by simp;omega
     have dXb:decide (0<=X)=false:=by simp;omega
     clear hq2 hX1 hY1;have HNE:=zd (HNX.out HQ.out);clear HNX HFD;go_wp2;exact⟨⟨ix+1,rfl,HIF.out,HNE.out,HW⟩,by have:=HIF.out;simp [intOf];omega⟩
   ·by_cases hx0:X=Y
    ·have HQ:=zd (show qf X Y=false by rw [hq2];unfold qDiff;simp;omega)
     have n1:(X != Y)=false:=by simp [hx0]
     have n2:(X==Y)=true:=by simp [hx0]
     have n3:decide (X=Y)=true:=by simp [hx0]
     clear hq2 hX1 hY1;have HNE:=zd (HNX.out HQ.out);clear HNX HFD;go_wp2;exact⟨⟨ix+1,rfl,HIF.out,HNE.out,HW⟩,by have:=HIF.out;simp [intOf];omega⟩
    ·have HQ:=zd (show qf X Y=true by rw [hq2];unfold qDiff;simp;omega)
     have n1:(X != Y)=true:=by simp [hx0]
     have n2:(X==Y)=false:=by simp [hx0]
     have n3:decide (X=Y)=false:=by simp [hx0]
     clear hq2 hX1 hY1;clear HNX;go_wp2
     go_ret2
     exact⟨HFD.out HQ.out,HW.out.1⟩
   ·by_cases hx0:0<=X
    ·by_cases hy0:Y<0
     ·have HQ:=zd (show qf X Y=true by rw [hq2];unfold qWith;simp;omega)
      have dX:decide (X>=0)=true:=by simp;omega
      have dXb:decide (0<=X)=true:=by simp;omega
      have lY:decide (Y<0)=true:=by simp;omega
      clear hq2 hX1 hY1;clear HNX;go_wp2
      go_ret2
      exact⟨HFD.out HQ.out,HW.out.1⟩
     ·have HQ:=zd (show qf X Y=false by rw [hq2];unfold qWith;simp;omega)
      have dX:decide (X>=0)=true:=by simp;omega
      have dXb:decide (0<=X)=true:=by simp;omega
      have lY:decide (Y<0)=false:=by simp;omega
      clear hq2 hX1 hY1;have HNE:=zd (HNX.out HQ.out);clear HNX HFD;go_wp2;exact⟨⟨ix+1,rfl,HIF.out,HNE.out,HW⟩,by have:=HIF.out;simp [intOf];omega⟩
    ·have HQ:=zd (show qf X Y=false by rw [hq2];unfold qWith;simp;omega)
     have dX:decide (X>=0)=false:=by simp;omega
     have dXb:decide (0<=X)=false:=by simp;omega
     clear hq2 hX1 hY1;have HNE:=zd (HNX.out HQ.out);clear HNX HFD;go_wp2;exact⟨⟨ix+1,rfl,HIF.out,HNE.out,HW⟩,by have:=HIF.out;simp [intOf];omega⟩
  ·have hdl:decide ((ix:Int)<((allF A B).length:Int))=false:=by simp;omega
   have HE:=zd (show Ending.returned (.tuple #[.string ⟨#[]⟩,.bool false])=.returned (toldV ((tellQ (fun s=>qf (A.tg s.1) (B.tg s.2)) (allF A B)).map Prod.snd))by
    rw [xzms (fun i h=>hnone i (by omega) h)];rfl)
   clear hnone;go_wp2
   go_ret2
   exact⟨HE.out,HH.out.1⟩
end
section
open Go.RowKit
attribute [local irreducible] FreeW textFrame
set_option maxRecDepth 20000 in
set_option maxHeartbeats 8000000 in
theorem xzsm (f:Nat->Nat)(n:Int)(A:Option Addr)(na ca:Nat)(B:Option Addr)(nb cb:Nat)(w:World):Calls Tryz.prog 38 #[.agg (dfC f n (.slice A na ca) (.slice B nb cb))] w fun e w'=>e=.returned (.agg (dfC f n (.slice none 0 0) (.slice none 0 0)))/\Below w.heap.size w w':=by
 obtain⟨W1,hW1,hs1,hb1,hx1⟩:=xzat f n (.slice A na ca) (.slice B nb cb) w;obtain⟨W2,hW2⟩:∃ W2,W1.alloc (.cells df0 35)=W2:=⟨_,rfl⟩
 have hb12:Below W1.heap.size W1 W2:=by rw [<-hW2];exact(Below.refl _ _).alloc (Nat.le_refl _) _
 have hx2:=(DfB.of hx1).step hb12
 have hy2:BlkIs W2 (w.heap.size+1) 35 df0:=by rw [<-hW2,<-hs1];exact BlkIs.new W1 _ _
 obtain⟨W9,hsc,hb9,hw9⟩:=xzbe (P:=Tryz.prog) hy2 (new:=dfC f n (.slice none 0 0) (.slice none 0 0)) (by rw [xzac];exact(xzac _ _ _ _).symm) (xzct _ _ _ _ rfl rfl);have hl9:=loadVarDf (DfB.of hb9);have HB9:=zd (hw9.2.1 _ _ (show w.heap.size<=w.heap.size+1 by omega) (hb1.trans (hb12.mono (by omega))));have HX:=zd hx2;have hds:(dfC f n (.slice none 0 0) (.slice none 0 0)).size=259:=xzac _ _ _ _;have hds1:(dfC f n (.slice A na ca) (.slice B nb cb)).size=259:=xzac _ _ _ _;have hcs:(clsC f n).size=257:=xzaj f n;have hbd:=xzqn f n;obtain⟨d1,hd1⟩:∃ d1,dfC f n (.slice A na ca) (.slice B nb cb)=d1:=⟨_,rfl⟩;obtain⟨d9,hd9⟩:∃ d9,dfC f n (.slice none 0 0) (.slice none 0 0)=d9:=⟨_,rfl⟩;obtain⟨d0,hd0⟩:∃ d0,df0=d0:=⟨_,rfl⟩;obtain⟨c9,hc9⟩:∃ c9,clsC f n=c9:=⟨_,rfl⟩;have z:=zeroDf;rw [hd0]at z hW2;rw [hd1]at hW1 hds1;rw [hd9]at hsc hl9 hds hbd;rw [hc9]at hcs hbd;rw [hd9,hd1];clear hb1 hx1 hb12 hx2 hy2 hb9 hw9
 go_enter Tryz.func38,Tryz.ntmps38
 go_wp2_with(first
  |((with_reducible refine xzlr rfl (.tmp 3) ?_ ?_ HX.out ?_);exact rfl;exact rfl;rw [hc9])
  |(refine xzaz rfl 35 _ rfl (cells:=d9) (by refine(congrArg (Tryz.prog.built 35) ?_).trans hbd;kernel_rfl) ?_))
 exact bodyPost_ret (xzae rfl rfl hl9) rfl ⟨rfl,HB9.out⟩
theorem bare_at (D:Df)(W:World):DfAt W D.bare (.agg (dfC D.of D.n (.slice none 0 0) (.slice none 0 0))):=⟨.slice none 0 0,.slice none 0 0,rfl,⟨none,0,rfl,⟨Nat.le_refl _,by decide⟩,fun h=>absurd rfl h⟩,IntsV.nil W⟩
structure OvAt (T:Df)(rule:Int)(l:List Nat)(Tn':Option Addr)(cn:Nat)(Tt:Option Addr)(ct:Nat)(Y:Option Addr)(cy:Nat)(bt br bl bb:Nat)(u:World):Prop where
 t:DfB u bt T.of T.n (.slice Tn' T.next.length cn) (.slice Tt T.tag.length ct)
 r:u.cell? ⟨br,0,none⟩=some (.int .i64 rule)
 sl:u.cell? ⟨bl,0,none⟩=some (.slice Y l.length cy)
 y:ByteRow u u.heap.size Y l
theorem OvAt.step {T:Df}{rule:Int}{l:List Nat}{Tn':Option Addr}{cn:Nat}{Tt:Option Addr}{ct:Nat}{Y:Option Addr}{cy bt br bl bb:Nat}{u u':World}(h:OvAt T rule l Tn' cn Tt ct Y cy bt br bl bb u)(hb:Below u.heap.size u u'):OvAt T rule l Tn' cn Tt ct Y cy bt br bl bb u':=
 ⟨h.t.step hb,(hb.cell (p:=⟨br,0,none⟩) (World.block_lt_of_cell? u ⟨br,0,none⟩ h.r)).trans h.r,(hb.cell (p:=⟨bl,0,none⟩) (World.block_lt_of_cell? u ⟨bl,0,none⟩ h.sl)).trans h.sl,fun hne=>by
  obtain⟨b,off,e,hlt,hg⟩:=h.y hne
  exact⟨b,off,e,Nat.lt_of_lt_of_le hlt hb.size,fun k x hx=>(hb.cell (p:=⟨b,off+k,none⟩) hlt).trans (hg k x hx)⟩⟩
def OvCall (T:Df)(rule:Int)(l:List Nat)(s:SS)(bb:Nat)(w:World):Ending->World->Prop:=fun e w'=>
 e=.returned (.bool (decide (T.tg s.1=rule)&&(seekB T s.1 l).isSome))/\Tn (some bb) w w'/\BlkIs w' bb 5 #[.int .u8 (if T.tg s.1=rule then(((seekB T s.1 l).getD 0:Nat):Int)else 0)]
set_option maxRecDepth 20000 in
set_option maxHeartbeats 8000000 in
theorem yzbx (T:Df)(hT:OkD T)(rule:Int)(l:List Nat)(hl:∀ x∈l,x<256)(hll:l.length<=256)(An:Option Addr)(cn:Nat)(At:Option Addr)(ct:Nat)(Y:Option Addr)(cy bt br bl bb:Nat)(w:World)(s:SS)(hs:T.InS s.1)
 (hat:DfAt w T (.agg (dfC T.of T.n (.slice An T.next.length cn) (.slice At T.tag.length ct))))(ho:OvAt T rule l An cn At ct Y cy bt br bl bb w)(hbb:BlkIs w bb 5 #[.int .u8 0]):
 Calls Tryz.prog 39 (#[.agg #[.int .i16 s.1,.int .i16 s.2]]++ #[.pointer (some ⟨bt,0,none⟩),.pointer (some ⟨br,0,none⟩),.pointer (some ⟨bl,0,none⟩),.pointer (some ⟨bb,0,none⟩)]) w (OvCall T rule l s bb w):=by
 obtain⟨wz,hwz⟩:∃ wz,w.alloc (.cells #[.int .i16 s.1,.int .i16 s.2] 65)=wz:=⟨_,rfl⟩
 have hb1:Below w.heap.size w wz:=by rw [<-hwz];exact(Below.refl _ _).alloc (Nat.le_refl _) _
 have hx1:BlkIs wz w.heap.size 65 #[.int .i16 s.1,.int .i16 s.2]:=by rw [<-hwz];exact BlkIs.new _ _ _
 have HB:=zd (And.intro hb1 (hbb.step hb1));have HLT:=zd (fun(u:World) (hu:DfB u bt T.of T.n (.slice An T.next.length cn) (.slice At T.tag.length ct))=>loadDf hu);have hos:=ho.step hb1;have HK:=zd (fun(u:World) (hu:Below wz.heap.size wz u)=>And.intro (hos.step hu).t (And.intro (hos.step hu).r (And.intro (hos.step hu) (hx1.step hu))));have HTA:=zd (fun(u:World) (hu:Below wz.heap.size wz u)=>xzin T s.1 _ u ((hat.step hb1).step hu) hs hT.tags);have HON:=zd (fun(u:World) (hu:Below wz.heap.size wz u)=>xzry T s.1 l hl hll Y cy _ u ((hat.step hb1).step hu) (hos.step hu).y hT.cls hs hT.row hT.wf (by have:=hT.few;omega));obtain⟨dt,hdt⟩:∃ dc,dfC T.of T.n (.slice An T.next.length cn) (.slice At T.tag.length ct)=dc:=⟨_,rfl⟩;obtain⟨bs,hbs⟩:∃ bs,w.heap.size=bs:=⟨_,rfl⟩;rw [hdt]at HLT HTA HON;rw [hbs]at HK;have HDT:=zd hdt;have HWS:=zd (show wz.heap.size=w.heap.size+1 by rw [<-hwz];simp);clear hb1 hx1 hat ho hbb hs hdt hos hl hll hT
 go_enter Tryz.func39,Tryz.ntmps39
 go_wp2_with fail
 try rw [hbs]
 refine xzaf 5 22 (fun u=>Hid (Below wz.heap.size wz u)) (fun _ u u'=>Below u.heap.size u u')
  (fun i v u=>match i with
   |0=>v=.agg dt
   |1=>v=.pointer (some ⟨bs,0,none⟩)
   |2=>v=.int .i16 s.1
   |3=>v=.int .i64 (T.tg s.1)
   |4=>v=.int .i64 rule
   |_=>True) (by kernel_rfl) (by kernel_rfl) rfl (zd (Below.refl _ _).drew) ?_ ?_ ?_ ?_
 ·intro i u u' hix hC hr
  exact zd (hC.out.trans (hr.mono hC.out.size))
 ·intro i j v u u' hix hj hne hv hr
  match i,hix,hne,hv with
  |0,_,_,hv=>exact hv
  |1,_,_,hv=>exact hv
  |2,_,_,hv=>exact hv
  |3,_,_,hv=>exact hv
  |4,_,_,hv=>exact hv
  |i+5,hix,_,_=>omega
 ·intro i hix vs u hC hw oq ho
  match i,hix,hw,ho with
  |0,_,hw,ho=>
   simp only [zq,zh]at ho;subst ho;refine⟨rfl,?_⟩;clear hw;simp only [xzaa,tmpsTo];rw [xzah 35 (.tmp 1) _ rfl rfl (HLT.out u (HK.out u hC.out).1)];exact xzab (Below.refl _ _) rfl
  |1,_,hw,ho=>
   simp only [zq,zh]at ho;subst ho;refine⟨rfl,?_⟩;clear hw;simp only [xzaa,tmpsTo,putT,zr];go_simp;exact xzab (Below.refl _ _) rfl
  |2,_,hw,ho=>
   have e1:vs 1=.pointer (some ⟨bs,0,none⟩):=hw 1 (by omega) (by kernel_rfl);simp only [zq,zh]at ho;subst ho;refine⟨rfl,?_⟩;have kc:=(HK.out u hC.out).2.2.2.cell 0;clear hw;simp only [xzaa,tmpsTo,putT,zr];rw [e1];clear e1;go_simp;exact xzab (Below.refl _ _) rfl
  |3,_,hw,ho=>
   have e0:vs 0=.agg dt:=hw 0 (by omega) (by kernel_rfl);have e2:vs 2=.int .i16 s.1:=hw 2 (by omega) (by kernel_rfl);simp only [zq,zh]at ho;subst ho;refine⟨rfl,?_⟩;clear hw;simp only [xzaa,tmpsTo,putT,zr];rw [e0,e2];clear e0 e2;go_simp;refine xzak ((HTA.out u hC.out).mono ?_);rintro e u' ⟨rfl,hbu⟩;exact⟨_,rfl,hbu,rfl⟩
  |4,_,hw,ho=>
   simp only [zq,zh]at ho;subst ho;refine⟨rfl,?_⟩;have kc:=(HK.out u hC.out).2.1;clear hw;simp only [xzaa,tmpsTo,putT,zr];go_simp;exact xzab (Below.refl _ _) rfl
  |i+5,hix,_,_=>omega
 intro vs1 u hC hV;have q3:vs1 3=.int .i64 (T.tg s.1):=hV 3 (by omega);have q4:vs1 4=.int .i64 rule:=hV 4 (by omega);clear hV;simp only [xzaa,tmpsTo,putT,zr,List.drop_succ_cons,List.drop_zero];rw [q3,q4];clear q3 q4;generalize vs1 0=g0;generalize vs1 1=g1;generalize vs1 2=g2;have HU:=zd (And.intro hC.out (And.intro (HB.out.1.trans (hC.out.mono HB.out.1.size)) (And.intro (HK.out u hC.out).1 (HB.out.2.step hC.out))));have kl:=(HK.out u hC.out).2.2.1.sl;have q0:=(HK.out u hC.out).2.2.2.cell 0;simp only [zq]at q0;have HON2:=zd (HON.out u hC.out);clear hC HON HTA HK HB
 by_cases hq:T.tg s.1=rule
 ·have e1:(T.tg s.1==rule)=true:=by simp [hq]
  have e1b:decide (T.tg s.1=rule)=true:=by simp [hq]
  have HQ:=zd hq;clear hq;obtain⟨x,hx⟩:∃ x,(seekB T s.1 l).getD 0=x:=⟨_,rfl⟩;obtain⟨ok,hok⟩:∃ ok,(seekB T s.1 l).isSome=ok:=⟨_,rfl⟩;rw [hx,hok]at HON2;have HXO:=zd (And.intro hx hok);clear hx hok
  go_wp2_with(first
   |((with_reducible refine xzag rfl (.tmp 1) ?_ ?_ HU.out.2.2.1 ?_);exact rfl;exact rfl;rw [HDT.out])
   |(go_at_call 41
     refine HON2.out.mono ?_;rintro e u1 ⟨rfl,hbu⟩;have hbk:=HU.out.2.2.2.step hbu;have kbb:=hbk.cell 0;have kfz:=hbk.frozen 0
     have H1:=zd (show Below w.heap.size w u1/\Tn (some bb) w (u1.setCell ⟨bb,0,none⟩ (.int .u8 (x:Int)))/\BlkIs (u1.setCell ⟨bb,0,none⟩ (.int .u8 (x:Int))) bb 5 #[.int .u8 (x:Int)]from
      ⟨HU.out.2.1.trans (hbu.mono HU.out.2.1.size),by
       have hb0:=HU.out.2.1.trans (hbu.mono HU.out.2.1.size)
       exact(Tn.below hb0).trans (Tn.wrote (Wrote.cell u1 bb 0 _)),hbk.put 0 _⟩)
     clear hbu hbk HON2))
  go_ret;refine⟨?_,H1.out.2.1,?_⟩
  ·rw [e1b,Bool.true_and,HXO.out.2];rfl
  ·rw [if_pos HQ.out,HXO.out.1];exact H1.out.2.2
 ·have e1:(T.tg s.1==rule)=false:=by simp [hq]
  have e1b:decide (T.tg s.1=rule)=false:=by simp [hq]
  have HQ:=zd hq;clear hq HON2;go_wp2;go_ret;refine⟨?_,Tn.below HU.out.2.1,?_⟩
  ·rw [e1b,Bool.false_and];rfl
  ·rw [if_neg HQ.out];exact HU.out.2.2.2
end
section
open Go.RowKit
attribute [local irreducible] FreeW textFrame
def overV:Option (List Nat×Nat)->Value
 |some (l,b)=>.tuple #[.string (txB l),.int .u8 (b:Nat),.bool true]
 |none=>.tuple #[.string ⟨#[]⟩,.int .u8 0,.bool false]
theorem yzfq {D:Df}(hf:∀ b,b<256->D.of b<256):OkD D.trim:=by
 unfold Df.trim
 by_cases hm:D.may=true
 ·rw [if_pos hm]
  exact(xzqj (xzlz hm)).okD hf
 ·rw [if_neg hm]
  exact⟨fun r hr=>(by cases hr),fun b hb r hr=>(by cases hr),fun b hb=>(by show 0<256;decide),(by show 0<=600;decide),rfl⟩
def OverIs (D:Df)(rule:Int)(m:Nat->Bool)(w:World):Ending->World->Prop:=fun e w'=>e=.returned (overV (if rule<0 then none else overP D.trim rule m))/\Below w.heap.size w w'
def OvQ (T:Df)(rule:Int)(m:Nat->Bool)(gb:Nat)(u:World):Prop:=(tellQ (askO T rule m) (allF T T.bare)=none->BlkIs u gb 5 #[.int .u8 0])/\(∀ x,tellQ (askO T rule m) (allF T T.bare)=some x->BlkIs u gb 5 #[.int .u8 ((seekB T x.1.1 (mems m 256)).getD 0:Nat)])
theorem OvQ.step {T:Df}{rule:Int}{m:Nat->Bool}{gb:Nat}{u u':World}(h:OvQ T rule m gb u)(hb:Below u.heap.size u u'):OvQ T rule m gb u':=⟨fun e=>(h.1 e).step hb,fun x e=>(h.2 x e).step hb⟩
theorem act_ofP {P:Program}{w:World}{R R':World->World->Prop}{V V':Value->World->Prop}{r:Result Next}(h:actUpon P w R' V' r)(hk:∀ x u',R' w u'->V' x u'->R w u'/\V x u'):actUpon P w R V r:=by
 cases r with
 |ok nx w'=>
  cases nx<;>simp only [actUpon]at h ⊢
  case value x=>exact hk x w' h.1 h.2
  case enter f args=>exact⟨h.1,h.2.mono fun e w'' ⟨v,he,h1,h2⟩=>⟨v,he,hk v w'' h1 h2⟩⟩
 |halt x w'=>simp only [actUpon]at h
set_option maxRecDepth 20000 in
set_option maxHeartbeats 16000000 in
theorem yzby (D:Df)(rule:Int)(m:Nat->Bool)(v:Value)(w:World)(h:DfAt w D v)(hf:∀ b,b<256->D.of b<256)(hT:Tab w):
 Calls Tryz.prog 16 #[v,.int .i64 rule,setV m] w (OverIs D rule m w):=by
 have HAT:=zd h;obtain⟨An,cn,At,ct,rfl⟩:=xzal h;obtain⟨W1,hbx,hsz,hb1,hx1⟩:=xzat D.of D.n (.slice An D.next.length cn) (.slice At D.tag.length ct) w;obtain⟨W2,hW2⟩:∃ W2,W1.alloc (.cells #[.int .i64 rule] 3)=W2:=⟨_,rfl⟩
 have hb2:Below W1.heap.size W1 W2:=by rw [<-hW2];exact(Below.refl _ _).alloc (Nat.le_refl _) _
 have hs2:W2.heap.size=w.heap.size+2:=by rw [<-hW2];simp [hsz]
 have hx2:BlkIs W2 (w.heap.size+1) 3 #[.int .i64 rule]:=by rw [<-hW2,<-hsz];exact BlkIs.new _ _ _
 obtain⟨W3,hW3⟩:∃ W3,W2.alloc (.cells #[.int .u64 (wd m 0:Nat),.int .u64 (wd m 1:Nat),.int .u64 (wd m 2:Nat),.int .u64 (wd m 3:Nat)] 48)=W3:=⟨_,rfl⟩
 have hb3:Below W2.heap.size W2 W3:=by rw [<-hW3];exact(Below.refl _ _).alloc (Nat.le_refl _) _
 have hs3:W3.heap.size=w.heap.size+3:=by rw [<-hW3];simp [hs2]
 have hx3:BlkIs W3 (w.heap.size+2) 48 #[.int .u64 (wd m 0:Nat),.int .u64 (wd m 1:Nat),.int .u64 (wd m 2:Nat),.int .u64 (wd m 3:Nat)]:=by rw [<-hW3,<-hs2];exact BlkIs.new _ _ _
 have hbw:Below w.heap.size w W3:=(hb1.trans (hb2.mono (by omega))).trans (hb3.mono (by omega))
 have HB:=zd (show Below w.heap.size w W3/\DfB W3 w.heap.size D.of D.n (.slice An D.next.length cn) (.slice At D.tag.length ct)/\BlkIs W3 (w.heap.size+1) 3 #[.int .i64 rule]/\BlkIs W3 (w.heap.size+2) 48 #[.int .u64 (wd m 0:Nat),.int .u64 (wd m 1:Nat),.int .u64 (wd m 2:Nat),.int .u64 (wd m 3:Nat)]/\W3.heap.size=w.heap.size+3 from
  ⟨hbw,((DfB.of hx1).step hb2).step hb3,hx2.step hb3,hx3,hs3⟩)
 have kr:=HB.out.2.2.1.cell 0;simp only [zq]at kr;have HTB:=zd hT;have HTM:=zd (yzbj D _ W3 (h.step hbw) hf);have HOK:=zd (yzfq hf);obtain⟨dc,hdc⟩:∃ dc,dfC D.of D.n (.slice An D.next.length cn) (.slice At D.tag.length ct)=dc:=⟨_,rfl⟩;rw [hdc]at hbx HTM HAT
 have hds:dc.size=259:=by rw [<-hdc];exact xzac _ _ _ _
 rw [hdc];have HDC:=zd hdc;clear h hb1 hx1 hb2 hx2 hb3 hx3 hbw hdc hf hT
 by_cases hr:rule<0
 ·have e1:decide (rule<0)=true:=by simp;omega
  have HN:=zd (show(if rule<0 then none else overP D.trim rule m)=none by rw [if_pos hr]);clear hr HTM
  go_enter Tryz.func16,Tryz.ntmps16
  go_wp2
  go_ret3
  exact⟨by rw [HN.out];rfl,HB.out.1⟩
 have e1:decide (rule<0)=false:=by simp;omega
 have HN:=zd (show(if rule<0 then none else overP D.trim rule m)=overP D.trim rule m by rw [if_neg hr]);clear hr;obtain⟨T,hTT⟩:∃ T,D.trim=T:=⟨_,rfl⟩;have HTT:=zd hTT;rw [hTT]at HTM HOK HN;clear hTT;obtain⟨d0,hd0⟩:∃ d0,df0=d0:=⟨_,rfl⟩;have z:=zeroDf;rw [hd0]at z;have HD0:=zd hd0;clear hd0
 go_enter Tryz.func16,Tryz.ntmps16
 go_wp2_with(first
  |((with_reducible refine xzag rfl (.tmp 3) ?_ ?_ HB.out.2.1 ?_);exact rfl;exact rfl;rw [HDC.out])
  |(go_at_call 35
    refine HTM.out.mono ?_;rintro e u1 ⟨vT,rfl,hatT,hbu⟩;obtain⟨Tn',cT,Tt,cT',rfl⟩:=xzal hatT;obtain⟨U6,hU6⟩:∃ U6,u1.alloc (.cells d0 35)=U6:=⟨_,rfl⟩
    have hb6:Below u1.heap.size u1 U6:=by rw [<-hU6];exact(Below.refl _ _).alloc (Nat.le_refl _) _
    have hx6:BlkIs U6 u1.heap.size 35 df0:=by rw [<-hU6,HD0.out];exact BlkIs.new _ _ _
    obtain⟨W9,hsc,hb9,hw9⟩:=xzbe (P:=Tryz.prog) hx6 (new:=dfC T.of T.n (.slice Tn' T.next.length cT) (.slice Tt T.tag.length cT')) (by rw [xzac];exact(xzac _ _ _ _).symm) (xzct _ _ _ _ rfl rfl);have hdsT:(dfC T.of T.n (.slice Tn' T.next.length cT) (.slice Tt T.tag.length cT')).size=259:=xzac _ _ _ _;have hb19:Below u1.heap.size u1 W9:=hw9.2.1 _ _ (Nat.le_refl _) hb6
    have HT1:=zd (show DfAt u1 T (.agg (dfC T.of T.n (.slice Tn' T.next.length cT) (.slice Tt T.tag.length cT')))/\Below w.heap.size w W9/\Below u1.heap.size u1 W9/\DfB W9 u1.heap.size T.of T.n (.slice Tn' T.next.length cT) (.slice Tt T.tag.length cT')/\BlkIs W9 (w.heap.size+1) 3 #[.int .i64 rule]/\w.heap.size+3<=u1.heap.size from
     ⟨hatT,(HB.out.1.trans (hbu.mono HB.out.1.size)).trans (hb19.mono (by have:=hbu.size;have:=HB.out.2.2.2.2;omega)),hb19,DfB.of hb9,(HB.out.2.2.1.step hbu).step hb19,by have:=hbu.size;have:=HB.out.2.2.2.2;omega⟩)
    have hset:=(HB.out.2.2.2.1.step hbu).step hb19;have s0:=hset.cell 0;have s1:=hset.cell 1;have s2:=hset.cell 2;have s3:=hset.cell 3;simp only [zq]at s0 s1 s2 s3;have HBY:=zd (xzpg m W9 (HTB.out.step HT1.out.2.1));obtain⟨dT,hdT⟩:∃ dT,dfC T.of T.n (.slice Tn' T.next.length cT) (.slice Tt T.tag.length cT')=dT:=⟨_,rfl⟩;rw [hdT]at hsc hdsT;have HDT:=zd hdT;rw [hdT]
    clear hbu hb6 hx6 hb9 hw9 hb19 hset hatT hdT HTM)
  |(go_at_call 36
    refine HBY.out.mono ?_;rintro e u2 ⟨Y,cy,rfl,hby,hbu⟩;have H2:=zd (And.intro hby hbu)
    clear hby hbu HBY s0 s1 s2 s3))
 obtain⟨W6,hW6⟩:∃ W6,(u2.alloc (.cells #[.slice Y (mems m 256).length cy] 71)).alloc (.cells #[.int .u8 0] 5)=W6:=⟨_,rfl⟩
 have h6s:W6.heap.size=u2.heap.size+2:=by rw [<-hW6];simp
 have hb26:Below u2.heap.size u2 W6:=by rw [<-hW6];exact((Below.refl _ _).alloc (Nat.le_refl _) _).alloc (by simp) _
 have hxl:BlkIs W6 u2.heap.size 71 #[.slice Y (mems m 256).length cy]:=by rw [<-hW6];exact(BlkIs.new _ _ _).alloc _
 have hxb:BlkIs W6 (u2.heap.size+1) 5 #[.int .u8 0]:=by
  rw [<-hW6];have:=BlkIs.new (u2.alloc (.cells #[.slice Y (mems m 256).length cy] 71)) 5 #[.int .u8 0]
  rwa [World.size_alloc]at this
 have hs12:u1.heap.size<u2.heap.size:=Nat.lt_of_lt_of_le (World.block_lt_of_cell? W9 ⟨u1.heap.size,0,none⟩ (HT1.out.2.2.2.1 0 (by decide))) H2.out.2.size;obtain⟨gb,hgb⟩:∃ gb,u2.heap.size+1=gb:=⟨_,rfl⟩;obtain⟨bl,hbl⟩:∃ bl,u2.heap.size=bl:=⟨_,rfl⟩;obtain⟨bt,hbt⟩:∃ bt,u1.heap.size=bt:=⟨_,rfl⟩;obtain⟨br,hbr⟩:∃ br,w.heap.size+1=br:=⟨_,rfl⟩;have hb92:Below W9.heap.size W9 W6:=H2.out.2.trans (hb26.mono H2.out.2.size)
 have HOV:=zd (fun(u:World) (hu:FrA W6.heap.size (some gb) W6 u)=>show OvAt T rule (mems m 256) Tn' cT Tt cT' Y cy bt br bl gb u from by
  have hce:∀ (b o:Nat) (v:Value),b≠gb->W6.cell? ⟨b,o,none⟩=some v->u.cell? ⟨b,o,none⟩=some v:=fun b o v hne hc=>(xzbi (hu.blk b (World.block_lt_of_cell? W6 ⟨b,o,none⟩ hc) (fun e=>hne (Option.some.inj e).symm))).trans hc
  refine⟨fun k hk=>hce _ _ _ (by omega) ?_,hce _ _ _ (by have:=HT1.out.2.2.2.2.2;omega) ?_,hce _ _ _ (by omega) ?_,fun hne=>?_⟩
  ·rw [<-hbt];exact(HT1.out.2.2.2.1.step hb92) k hk
  ·rw [<-hbr];exact(HT1.out.2.2.2.2.1.step hb92).cell 0
  ·rw [<-hbl];exact hxl.cell 0
  ·obtain⟨b,off,e,hlt,hg⟩:=H2.out.1 hne
   exact⟨b,off,e,by have:=hu.size;omega,fun k x hx=>hce _ _ _ (by omega) ((hb26.cell (p:=⟨b,off+k,none⟩) hlt).trans (hg k x hx))⟩)
 have HG:=zd (show BlkIs W6 gb 5 #[.int .u8 0]by rw [<-hgb];exact hxb)
 have hl256:∀ x∈mems m 256,x<256:=fun x hx=>List.mem_range.1 (List.mem_filter.1 hx).1
 have hll:(mems m 256).length<=256:=by unfold mems;have:=List.length_filter_le m (List.range 256);rwa [List.length_range]at this
 obtain⟨sv,bv,hsv⟩:=xzcg ((tellQ (askO T rule m) (allF T T.bare)).map Prod.snd);have HSV:=zd hsv;have HGN:=zd (show u1.heap.size<=gb/\gb<W6.heap.size/\bt≠gb from⟨by omega,by omega,by omega⟩);have hw06:Below u1.heap.size u1 W6:=HT1.out.2.2.1.trans (hb92.mono HT1.out.2.2.1.size);have HWF:=zd (fun(u:World) (hu:FrA W6.heap.size (some gb) W6 u)=>hu.below u1.heap.size u1 (by have:=HGN.out.1;have:=HGN.out.2.1;omega) (fun k e=>by have:=HGN.out.1;injection e with e;omega) hw06)
 have HFT:=zd (fun(u:World) (hu:FrA W6.heap.size (some gb) W6 u) (hg0:BlkIs u gb 5 #[.int .u8 0])=>xzgg T T.bare _ _ u1 u HT1.out.1 (bare_at T u1) (HWF.out u hu) HOK.out HOK.out.bare 39 #[.pointer (some ⟨bt,0,none⟩),.pointer (some ⟨br,0,none⟩),.pointer (some ⟨bl,0,none⟩),.pointer (some ⟨gb,0,none⟩)]
  (askO T rule m) (fun u'=>FrA W6.heap.size (some gb) W6 u'/\BlkIs u' gb 5 #[.int .u8 0]) (fun s u'=>FrA W6.heap.size (some gb) W6 u'/\BlkIs u' gb 5 #[.int .u8 ((seekB T s.1 (mems m 256)).getD 0:Nat)]) (some gb)
  ⟨fun args w=>by kernel_rfl,fun k e=>by have:=HGN.out;have:=hu.size;injection e with e;subst e;exact⟨by omega,by omega⟩,fun s u' h1 h2 h3 h4=>(yzbx T HOK.out rule (mems m 256) hl256 hll Tn' cT Tt cT' Y cy bt br bl gb u' s h1 (HT1.out.1.step h3) (HOV.out u' h4.1) h4.2).mono fun e u'' ⟨he,htn,hbk⟩=>by
   have hfr:=h4.1.trans (FrA.tn htn h4.1.size);refine⟨he,htn,fun hp=>⟨hfr,?_⟩,fun hp=>⟨hfr,?_⟩⟩
   ·unfold askO at hp
    by_cases hq:T.tg s.1=rule
    ·rw [decide_eq_true hq,Bool.true_and]at hp
     rw [if_pos hq]at hbk;rw [show(seekB T s.1 (mems m 256)).getD 0=0 by cases hsk:seekB T s.1 (mems m 256)with|none=>rfl|some y=>rw [hsk]at hp;cases hp]at hbk;exact hbk
    ·rw [if_neg hq]at hbk;exact hbk
   ·unfold askO at hp
    rw [Bool.and_eq_true]at hp;rw [if_pos (of_decide_eq_true hp.1)]at hbk
    exact hbk,
   fun u' u'' hb hk=>⟨hk.1.trans (xzee (hb.mono hu.size) _),hk.2.below hb (by have:=HGN.out.2.1;have:=hu.size;omega)⟩⟩
  (fun s u' u'' hb hk=>⟨hk.1.trans (xzee (hb.mono hu.size) _),hk.2.below hb (by have:=HGN.out.2.1;have:=hu.size;omega)⟩) ⟨hu,hg0⟩)
 have HWT:=zd (fun(u:World)=>xzsm T.of T.n Tn' T.next.length cT Tt T.tag.length cT' u);have HLT:=zd (fun(u:World) (hu:DfB u bt T.of T.n (.slice Tn' T.next.length cT) (.slice Tt T.tag.length cT'))=>loadDf hu);obtain⟨dB,hdB⟩:∃ dB,dfC T.of T.n (.slice none 0 0) (.slice none 0 0)=dB:=⟨_,rfl⟩;rw [HDT.out]at HFT HWT HLT;rw [hdB]at HFT HWT;have HFE:=zd (fun(u:World) (hu:FrA W6.heap.size (some gb) W6 u)=>show Below w.heap.size w u from hu.below w.heap.size w (by have:=HT1.out.2.2.2.2.2;omega) (fun k e=>by have:=HT1.out.2.2.2.2.2;injection e with e;omega) (HT1.out.2.1.trans (hb92.mono HT1.out.2.1.size)));clear hxl hxb hs12 hb92 hw06 hb26 h6s hl256 hll hsv hdB z hU6 hsc hdsT kr;rw [hW6];rw [hgb,hbl,hbt,hbr]
 refine xzck 10 31 4 (fun cph u=>Hid (FrA W6.heap.size (some gb) W6 u/\(cph=false->BlkIs u gb 5 #[.int .u8 0]))) (fun i u u'=>(i=4->FrA W6.heap.size (some gb) u u')/\(i≠4->Below u.heap.size u u'))
  (fun i v u=>match i with
   |0=>v=.agg dT
   |1=>v=.agg dT
   |2=>v=.agg dB
   |3=>v=.func (.func 39) #[] #[.pointer (some ⟨bt,0,none⟩),.pointer (some ⟨br,0,none⟩),.pointer (some ⟨bl,0,none⟩),.pointer (some ⟨gb,0,none⟩)]
   |4=>v=.tuple #[.string sv,.bool bv]/\OvQ T rule m gb u
   |5=>v=.tuple #[.string sv,.bool bv]
   |6=>v=.string sv
   |7=>v=.bool bv
   |8=>v=.string sv
   |9=>v=.bool bv
   |_=>True) (by kernel_rfl) (by kernel_rfl) rfl (zd ⟨xzee (Below.refl _ _).drew _,fun _=>HG.out.drew⟩) ?_ ?_ ?_ ?_
 ·intro i cph u u' hix hcx hC hr
  by_cases hi:i=4
  ·refine zd ⟨hC.out.1.trans (hr.1 hi),fun h=>?_⟩
   rw [hi]at h;simp at h
  ·have hb:=hr.2 hi
   refine zd ⟨hC.out.1.trans (xzee (hb.mono hC.out.1.size) _),fun h=>(hC.out.2 ?_).step hb⟩
   simpa [hi]using h
 ·intro i j v u u' hix hj hne hv hr
  match i,hix,hne,hv with
  |0,_,_,hv=>exact hv
  |1,_,_,hv=>exact hv
  |2,_,_,hv=>exact hv
  |3,_,_,hv=>exact hv
  |4,_,hne,hv=>
   exact⟨hv.1,OvQ.step hv.2 (hr.2 (Ne.symm hne))⟩
  |5,_,_,hv=>exact hv
  |6,_,_,hv=>exact hv
  |7,_,_,hv=>exact hv
  |8,_,_,hv=>exact hv
  |9,_,_,hv=>exact hv
  |i+10,hix,_,_=>omega
 ·intro i hix cph vs u hcx hC hw oq ho
  match i,hix,hcx,hw,ho with
  |0,_,hcx,hw,ho=>
   simp only [zq,zh]at ho;subst ho;refine⟨rfl,?_⟩;clear hw;simp only [xzaa,tmpsTo];clear hcx;rw [xzah 35 (.tmp 9) _ rfl rfl (HLT.out u (HOV.out u hC.out.1).t)];exact xzab ⟨fun h=>absurd h (by decide),fun _=>Below.refl _ _⟩ rfl
  |1,_,hcx,hw,ho=>
   simp only [zq,zh]at ho;subst ho;refine⟨rfl,?_⟩;clear hw;simp only [xzaa,tmpsTo,putT,zr];clear hcx;rw [xzah 35 (.tmp 9) _ rfl rfl (HLT.out u (HOV.out u hC.out.1).t)];exact xzab ⟨fun h=>absurd h (by decide),fun _=>Below.refl _ _⟩ rfl
  |2,_,hcx,hw,ho=>
   have e1:vs 1=.agg dT:=hw 1 (by omega) (by kernel_rfl);simp only [zq,zh]at ho;subst ho;refine⟨rfl,?_⟩;clear hw;simp only [xzaa,tmpsTo,putT,zr];rw [e1];clear e1;clear hcx;go_simp;refine xzak ((HWT.out u).mono ?_);rintro e u' ⟨rfl,hbu⟩;exact⟨_,rfl,hbu,rfl⟩
  |3,_,hcx,hw,ho=>
   simp only [zq,zh]at ho;subst ho;refine⟨rfl,?_⟩;clear hw hcx;simp only [xzaa,tmpsTo,putT,zr];go_simp;exact xzab (Below.refl _ _) rfl
  |4,_,hcx,hw,ho=>
   have e0:vs 0=.agg dT:=hw 0 (by omega) (by kernel_rfl);have e2:vs 2=.agg dB:=hw 2 (by omega) (by kernel_rfl);have e3:vs 3=.func (.func 39) #[] #[.pointer (some ⟨bt,0,none⟩),.pointer (some ⟨br,0,none⟩),.pointer (some ⟨bl,0,none⟩),.pointer (some ⟨gb,0,none⟩)]:=hw 3 (by omega) (by kernel_rfl);simp only [zq,zh]at ho;subst ho;refine⟨rfl,?_⟩;have hft:=HFT.out u hC.out.1 (hC.out.2 (hcx rfl));clear hw;simp only [xzaa,tmpsTo,putT,zr];rw [e0,e2,e3];clear e0 e2 e3;clear hcx;have HFU:=zd hft;clear hft;refine act_ofP (R':=FrA W6.heap.size (some gb)) (V':=fun v u'=>v=.tuple #[.string sv,.bool bv]/\OvQ T rule m gb u') ?_ (fun x u' hr hv=>⟨⟨fun _=>hr,fun h=>absurd rfl h⟩,hv⟩);go_simp;refine xzak (HFU.out.mono ?_);rintro e u' ⟨rfl,hfr,hk,hkt⟩;exact⟨_,by rw [HSV.out],xzok hfr hC.out.1.size,rfl,fun h=>(hk h).2,fun x h=>(hkt x h).2⟩
  |5,_,hcx,hw,ho=>
   obtain⟨e4,_⟩:=hw 4 (by omega) (by kernel_rfl);simp only [zq,zh]at ho;subst ho;refine⟨rfl,?_⟩;clear hw;simp only [xzaa,tmpsTo,putT,zr];clear hcx;rw [e4];go_simp;exact xzab (Below.refl _ _) rfl
  |6,_,hcx,hw,ho=>
   have e5:vs 5=.tuple #[.string sv,.bool bv]:=hw 5 (by omega) (by kernel_rfl);simp only [zq,zh]at ho;subst ho;refine⟨rfl,?_⟩;clear hw hcx;simp only [xzaa,tmpsTo,putT,zr];rw [e5];clear e5;go_simp;exact xzab (Below.refl _ _) rfl
  |7,_,hcx,hw,ho=>
   have e5:vs 5=.tuple #[.string sv,.bool bv]:=hw 5 (by omega) (by kernel_rfl);simp only [zq,zh]at ho;subst ho;refine⟨rfl,?_⟩;clear hw hcx;simp only [xzaa,tmpsTo,putT,zr];rw [e5];clear e5;go_simp;exact xzab (Below.refl _ _) rfl
  |8,_,hcx,hw,ho=>
   have e6:vs 6=.string sv:=hw 6 (by omega) (by kernel_rfl);simp only [zq,zh]at ho;subst ho;refine⟨rfl,?_⟩;clear hw hcx;simp only [xzaa,tmpsTo,putT,zr];rw [e6];clear e6;go_simp;exact xzab (Below.refl _ _) rfl
  |9,_,hcx,hw,ho=>
   have e7:vs 7=.bool bv:=hw 7 (by omega) (by kernel_rfl);simp only [zq,zh]at ho;subst ho;refine⟨rfl,?_⟩;clear hw hcx;simp only [xzaa,tmpsTo,putT,zr];rw [e7];clear e7;go_simp;exact xzab (Below.refl _ _) rfl
  |i+10,hix,_,_,_=>omega
 intro vs1 u hC hV;have q6:vs1 8=.string sv:=hV 8 (by omega);have q7:vs1 9=.bool bv:=hV 9 (by omega);have q4:vs1 4=.tuple #[.string sv,.bool bv]/\OvQ T rule m gb u:=hV 4 (by omega);clear hV
 obtain⟨y,hby,hov⟩:∃ y:Int,BlkIs u gb 5 #[.int .u8 y]/\overV (overP T rule m)=.tuple #[.string sv,.int .u8 y,.bool bv]:=by
  have h1:=HSV.out;unfold overP
  cases htq:tellQ (askO T rule m) (allF T T.bare)with
  |none=>
   rw [htq]at h1;unfold toldV at h1
   injection h1 with h1
   simp only [Array.mk.injEq,List.cons.injEq,Value.string.injEq,Value.bool.injEq,and_true]at h1;obtain⟨rfl,rfl⟩:=h1;exact⟨0,q4.2.1 htq,rfl⟩
  |some x=>
   rw [htq]at h1;unfold toldV at h1
   injection h1 with h1
   simp only [Array.mk.injEq,List.cons.injEq,Value.string.injEq,Value.bool.injEq,and_true]at h1;obtain⟨rfl,rfl⟩:=h1;exact⟨_,q4.2.2 x htq,rfl⟩
 have HFIN:=zd (And.intro (HFE.out u hC.out.1) hov);have kby:=hby.cell 0
 simp only [zq]at kby
 clear q4 hov hC hby
 simp only [xzaa,tmpsTo,putT,zr,List.drop_succ_cons,List.drop_zero];rw [q6,q7];clear q6 q7;generalize vs1 0=g0;generalize vs1 1=g1;generalize vs1 2=g2;generalize vs1 3=g3;generalize vs1 4=g4;generalize vs1 5=g5;generalize vs1 6=g6;generalize vs1 7=g7
 go_wp2_with fail
 go_quiet (fail)
 go_wp2
 go_ret3
 exact⟨by rw [HTT.out,HN.out,HFIN.out.2];rfl,xzar HFIN.out.1 _⟩
end
end Go.Proofs.YtdjpphjpnkfeiaaGreatDoor
