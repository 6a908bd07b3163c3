/-
 WHAT hackleref12.Over ANSWERS: a contract. Condition: an automaton that may be lies there, its classes being bytes.
-/
import Derived.Deep.QuietTactic
import Derived.BigQuiet
import Derived.Test.YtdjpphjpnkfeiaaGreatDoorQG39
import Derived.Test.YtdjpphjpnkfeiaaGreatDoorQG40
import Derived.Test.YtdjpphjpnkfeiaaGreatDoorQG02
import Derived.Test.YtdjpphjpnkfeiaaGreatDoorQG26
import Derived.Test.YtdjpphjpnkfeiaaGreatDoorQG32
import Derived.Test.YtdjpphjpnkfeiaaGreatDoorQG14
namespace Go.Proofs.YtdjpphjpnkfeiaaGreatDoor
section
open Go.RowKit
attribute [local irreducible] FreeW textFrame
noncomputable def seekP (D:Df)(q:Int)(m:Nat->Bool)(b:Nat):Bool:=m b&&(decide (0<=D.stepR q b)&&lvB D (D.stepR q b))
theorem xzya {D:Df}{q:Int}{m:Nat->Bool}(h:∀ b,b<256->seekP D q m b=false):seekR D q m=none:=by
 unfold seekR;rw [List.find?_eq_none];intro b hb;have:=h b (List.mem_range.1 hb);unfold seekP at this;rw [this];decide
theorem xzmy {D:Df}{q:Int}{m:Nat->Bool}{c:Nat}(hc:c<256)(h1:seekP D q m c=true)(h:∀ b,b<c->seekP D q m b=false):seekR D q m=some c:=by
 unfold seekR;rw [List.find?_eq_some_iff_getElem];refine⟨h1,c,by simpa using hc,by simp,fun j hj=>?_⟩;have:=h j hj;unfold seekP at this;simp only [List.getElem_range];rw [this];rfl
def OvS (w:World)(D:Df)(m:Nat->Bool)(x y:Value)(gl:Nat)(v:Value)(u:World):Prop:=Below w.heap.size w u/\DfB u w.heap.size D.of D.n x y/\BlkIs u (w.heap.size+1) 48 #[.int .u64 (wd m 0:Nat),.int .u64 (wd m 1:Nat),.int .u64 (wd m 2:Nat),.int .u64 (wd m 3:Nat)]/\BlkF u gl 4 D.next.length (fun i=>.bool (lvB D i))/\PairR w.heap.size u v (allF D D)
theorem OvS.step {w:World}{D:Df}{m:Nat->Bool}{x y:Value}{gl:Nat}{v:Value}{u u':World}(h:OvS w D m x y gl v u)(hb:Below u.heap.size u u'):OvS w D m x y gl v u':=
 ⟨h.1.trans (hb.mono h.1.size),h.2.1.step hb,h.2.2.1.step hb,BlkIs.step h.2.2.2.1 hb,h.2.2.2.2.step hb⟩
noncomputable def ROverIs (D:Df)(rule:Int)(m:Nat->Bool)(w:World):Ending->World->Prop:=fun e w'=>e=.returned (overV (if rule<0 then none else overR D rule m))/\Below w.heap.size w w'
set_option maxRecDepth 20000 in
set_option maxHeartbeats 16000000 in
theorem xzst (D:Df)(rule:Int)(m:Nat->Bool)(v:Value)(w:World)(h:DfAt w D v)(hm:MayD D)(hf:∀ b,b<256->D.of b<256):
 Calls Tryz.prog 17 #[v,.int .i64 rule,setV m] w (ROverIs D rule m w):=by
 have HAT:=zd h;obtain⟨An,cn,At,ct,rfl⟩:=xzal h;obtain⟨W1,hbx,hsz,hb1,hx1⟩:=xzca D.of D.n (.slice An D.next.length cn) (.slice At D.tag.length ct) w;obtain⟨W2,hW2⟩:∃ W2,W1.alloc (.cells #[.int .u64 (wd m 0:Nat),.int .u64 (wd m 1:Nat),.int .u64 (wd m 2:Nat),.int .u64 (wd m 3:Nat)] 48)=W2:=⟨_,rfl⟩
 have hb2:Below W1.heap.size W1 W2:=by rw [<-hW2];exact(Below.refl _ _).alloc (Nat.le_refl _) _
 have hs2:W2.heap.size=w.heap.size+2:=by rw [<-hW2];simp [hsz]
 have hx2:BlkIs W2 (w.heap.size+1) 48 #[.int .u64 (wd m 0:Nat),.int .u64 (wd m 1:Nat),.int .u64 (wd m 2:Nat),.int .u64 (wd m 3:Nat)]:=by rw [<-hW2,<-hsz];exact BlkIs.new _ _ _
 have HB:=zd (show Below w.heap.size w W2/\DfB W2 w.heap.size D.of D.n (.slice An D.next.length cn) (.slice At D.tag.length ct)/\BlkIs W2 (w.heap.size+1) 48 #[.int .u64 (wd m 0:Nat),.int .u64 (wd m 1:Nat),.int .u64 (wd m 2:Nat),.int .u64 (wd m 3:Nat)]from⟨hb1.trans (hb2.mono (by omega)),(DfB.of hx1).step hb2,hx2⟩);have HLV:=zd (xzol D _ W2 (h.step HB.out.1) hm);have HWK:=zd (fun(u:World) (hu:Below w.heap.size w u)=>xzsj D D _ _ u (HAT.out.step hu) (HAT.out.step hu) hm hm hf hf);have HTA0:=zd (fun(a:Int) (u:World) (hu:Below w.heap.size w u) (ha:D.InS a)=>xzsd D a _ u (HAT.out.step hu) ha hm.tags);have HSA0:=zd (fun(a:Int) (b:Nat) (u:World) (hu:Below w.heap.size w u) (hb:b<256) (ha:D.InS a)=>xzep D a b _ u (HAT.out.step hu) hm hf hb ha);have HLA:=zd (fun(u:World) (hu:DfB u w.heap.size D.of D.n (.slice An D.next.length cn) (.slice At D.tag.length ct))=>loadDr hu);have HHS:=zd (fun(c:Nat) (hc:c<256) (u:World)=>xztf m c hc u);have HIN:=zd (allF_in (hm.okD hf) (hm.okD hf));have HNI:=zd (fun(a:Int) (b:Nat)=>nx_in hm.wf a b);have HBD:=zd (show(allF D D).length<=361201 from Nat.le_trans (xzcp (hm.okD hf).wf (hm.okD hf).wf _) (xzkx (hm.okD hf) (hm.okD hf)));unfold setV at HHS;unfold setV;obtain⟨da,hda⟩:∃ dc,dfC D.of D.n (.slice An D.next.length cn) (.slice At D.tag.length ct)=dc:=⟨_,rfl⟩;rw [hda]at hbx HLV HWK HTA0 HSA0 HLA
 have hds:da.size=259:=by rw [<-hda];exact xzac _ _ _ _
 rw [hda];have HDC:=zd hda;clear hb1 hx1 hb2 hx2 hs2 hda h HAT hm hf
 go_enter Tryz.func17,Tryz.ntmps17
 go_wp2_with(first
  |((with_reducible refine xzbc rfl (.tmp 3) ?_ ?_ HB.out.2.1 ?_);exact rfl;exact rfl;rw [HDC.out])
  |(go_at_call 42;refine HLV.out.mono ?_;rintro e u1 ⟨gl,rfl,hgl,hbl,hbu⟩
    have H1:=zd (show Below w.heap.size w u1/\DfB u1 w.heap.size D.of D.n (.slice An D.next.length cn) (.slice At D.tag.length ct)/\BlkIs u1 (w.heap.size+1) 48 #[.int .u64 (wd m 0:Nat),.int .u64 (wd m 1:Nat),.int .u64 (wd m 2:Nat),.int .u64 (wd m 3:Nat)]/\BlkF u1 gl 4 D.next.length (fun i=>.bool (lvB D i))from
     ⟨HB.out.1.trans (hbu.mono HB.out.1.size),HB.out.2.1.step hbu,HB.out.2.2.step hbu,hbl⟩)
    clear hgl hbl hbu HLV)
  |((with_reducible refine xzbc rfl (.tmp 3) ?_ ?_ H1.out.2.1 ?_);exact rfl;exact rfl;rw [HDC.out])
  |(go_at_call 11;refine(HWK.out _ H1.out.1).mono ?_;rintro e uz ⟨vw,rfl,hpr,hbu⟩;obtain⟨Ao,cox,rfl⟩:=hpr.form
    have HQ0:=zd (show OvS w D m (.slice An D.next.length cn) (.slice At D.tag.length ct) gl (.slice Ao (allF D D).length cox) uz from
     ⟨H1.out.1.trans (hbu.mono H1.out.1.size),H1.out.2.1.step hbu,H1.out.2.2.1.step hbu,BlkIs.step H1.out.2.2.2 hbu,hpr.low H1.out.1.size⟩)
    clear hbu hpr HWK H1))
 clear hbx hds
 go_loopw [11] (fun v11 wr=>∃ ix:Nat,v11=.int .i64 ix/\ix<=(allF D D).length/\(∀ (i:Nat) (h:i<ix) (h2:i<(allF D D).length),askR D rule m ((allF D D)[i]).1=false)/\Hid (OvS w D m (.slice An D.next.length cn) (.slice At D.tag.length ct) gl (.slice Ao (allF D D).length cox) wr)) (fun v11 _=>(allF D D).length+1 - (intOf v11).toNat)
 case atStart=>exact⟨0,rfl,Nat.zero_le _,fun i h=>absurd h (Nat.not_lt_zero _),HQ0⟩
 case round=>
  obtain⟨ix,rfl,hib,hnone,HH⟩:=hrel;have hbd:=HBD.out
  by_cases hp:ix<(allF D D).length
  ·have hdl:decide ((ix:Int)<((allF D D).length:Int))=true:=by simp;omega
   by_cases hru:0<=rule
   ·have e1:decide (rule>=0)=true:=by simp;omega
    have e1b:decide (0<=rule)=true:=by simp;omega
    have hki:IntKind.i64.wrap ((ix:Int)+1)=((ix+1:Nat):Int):=by rw [IntKind.wrap_i64];omega
    obtain⟨bo,cox',hsl,_,_,_⟩:=HH.out.2.2.2.2.at hp
    injection hsl with hA1 _ hc1
    subst hA1;subst hc1;obtain⟨q,hq⟩:∃ q,(allF D D)[ix]=q:=⟨_,rfl⟩;have HINq:=zd (show D.InS q.1.1 from(hq▸HIN.out _ (List.getElem_mem hp)).1)
    have HFD:=zd (fun(c:Nat) (e:askR D rule m q.1=true) (e2:seekR D q.1.1 m=some c)=>show Ending.returned (.tuple #[.string (txB q.2),.int .u8 (c:Nat),.bool true])=.returned (overV (if rule<0 then none else overR D rule m))by
     rw [if_neg (by omega)];unfold overR
     rw [xzmr hp (by rw [hq];exact e) (fun i hi=>hnone i hi (by omega)),hq,Option.map_some,e2];rfl)
    have HNX:=zd (fun(e:askR D rule m q.1=false)=>show ∀ (i:Nat) (h:i<ix+1) (h2:i<(allF D D).length),askR D rule m ((allF D D)[i]).1=false from fun i h h2=>by
     by_cases hi:i<ix
     ·exact hnone i hi h2
     ·obtain rfl:i=ix:=by omega
      rw [hq];exact e)
    have HCE:=zd (fun(u:World) (hu:OvS w D m (.slice An D.next.length cn) (.slice At D.tag.length ct) gl (.slice (some ⟨bo,0,none⟩) (allF D D).length cox) u)=>show u.cell? ⟨bo,ix*3,none⟩=some (.int .i64 q.1.1)/\u.cell? ⟨bo,ix*3+2,none⟩=some (.string (txB q.2))by
     have hc:=(hu.2.2.2.2.cellsAt hp).2.2;rw [hq]at hc
     exact⟨hc 0 _ rfl,hc 2 _ rfl⟩)
    have HIF:=zd hp;have HRU:=zd hru;obtain⟨tgb,htgb⟩:∃ tgb,(D.tg q.1.1==rule)=tgb:=⟨_,rfl⟩;have HTGB:=zd htgb;clear hq hnone htgb;go_wp2
    go_loopw [12] (fun v12 wr=>∃ c:Nat,v12=.int .i64 c/\c<=256/\(∀ b,b<c->seekP D q.1.1 m b=false)/\Hid (OvS w D m (.slice An D.next.length cn) (.slice At D.tag.length ct) gl (.slice (some ⟨bo,0,none⟩) (allF D D).length cox) wr)) (fun v12 _=>257 - (intOf v12).toNat)
    case atStart=>exact⟨0,rfl,by decide,fun b hb=>absurd hb (Nat.not_lt_zero _),HH⟩
    case round=>
     obtain⟨c,rfl,hc,hno,HI⟩:=hrel;obtain⟨wz,rfl⟩:∃ wz,wz=wr:=⟨_,rfl⟩
     by_cases hcl:c<256
     ·have hdl2:decide ((c:Int)<256)=true:=by simp;omega
      have hkc:IntKind.i64.wrap ((c:Int)+1)=((c+1:Nat):Int):=by rw [IntKind.wrap_i64];omega
      have hku:IntKind.u8.wrap (c:Int)=(c:Int):=by rw [IntKind.wrap_u8];omega
      have HPK:=zd (fun(u:World) (hu:Below wz.heap.size wz u)=>show DfB u w.heap.size D.of D.n (.slice An D.next.length cn) (.slice At D.tag.length ct)/\u.cell? ⟨bo,ix*3,none⟩=some (.int .i64 q.1.1)from⟨(HI.out.step hu).2.1,(HCE.out u (HI.out.step hu)).1⟩);have HTA:=zd (fun(u:World) (hu:Below wz.heap.size wz u)=>HTA0.out q.1.1 u (HI.out.step hu).1 HINq.out);have HCL:=zd (show c+1<=256 from hcl)
      go_wp2_with fail
      refine xziz 13 73 (fun u=>Hid (Below wz.heap.size wz u)) (fun _ u u'=>Below u.heap.size u u')
       (fun i v u=>match i with
        |0=>v=.int .i64 (c:Nat)
        |1=>v=.bool true
        |2=>v=.bool true
        |3=>v=.agg da
        |4=>v=.slice (some ⟨bo,0,none⟩) (allF D D).length cox
        |5=>v=.int .i64 (ix:Nat)
        |6=>v=.pointer (some ⟨bo,ix*3,none⟩)
        |7=>v=.pointer (some ⟨bo,ix*3,none⟩)
        |8=>v=.int .i64 q.1.1
        |9=>v=.int .i64 (D.tg q.1.1)
        |10=>v=.int .i64 rule
        |11=>v=.bool tgb
        |12=>v=.bool tgb
        |_=>True) (by kernel_rfl) (by kernel_rfl) rfl (zd (Below.refl _ _).drew) ?_ ?_ ?_ ?_
      ·intro i u u' hix hC hr
       exact zd (hC.out.trans (hr.mono hC.out.size))
      ·intro i j v u u' hix hj hne hv hr
       match i,hix,hne,hv with
       |0,_,_,hv=>exact hv
       |1,_,_,hv=>exact hv
       |2,_,_,hv=>exact hv
       |3,_,_,hv=>exact hv
       |4,_,_,hv=>exact hv
       |5,_,_,hv=>exact hv
       |6,_,_,hv=>exact hv
       |7,_,_,hv=>exact hv
       |8,_,_,hv=>exact hv
       |9,_,_,hv=>exact hv
       |10,_,_,hv=>exact hv
       |11,_,_,hv=>exact hv
       |12,_,_,hv=>exact hv
       |i+13,hix,_,_=>omega
      ·intro i hix vs u hC hw oq ho
       match i,hix,hw,ho with
       |0,_,hw,ho=>
        simp only [zq,zh]at ho;subst ho;refine⟨rfl,?_⟩;clear hw;simp only [xzaa,tmpsTo];go_simp;exact xzab (Below.refl _ _) rfl
       |1,_,hw,ho=>
        have e0:vs 0=.int .i64 (c:Nat):=hw 0 (by omega) (by kernel_rfl);simp only [zq,zh]at ho;subst ho;refine⟨rfl,?_⟩;clear hw;simp only [xzaa,tmpsTo,putT,zr];rw [e0];clear e0;go_simp;exact xzab (Below.refl _ _) rfl
       |2,_,hw,ho=>
        have e1:vs 1=.bool true:=hw 1 (by omega) (by kernel_rfl);simp only [zq,zh]at ho;subst ho;refine⟨rfl,?_⟩;clear hw;simp only [xzaa,tmpsTo,putT,zr];rw [e1];clear e1;go_simp;exact xzab (Below.refl _ _) rfl
       |3,_,hw,ho=>
        simp only [zq,zh]at ho;subst ho;have eg:vs 2=.bool true:=hw 2 (by omega) (by kernel_rfl);refine⟨(xzbd (i:=2) (d:=31) (b:=true) (b':=true) rfl rfl ?_).trans rfl,?_⟩
        ·simp only [xzaa,tmpsTo,putT,zr]
         exact eg
        clear eg;clear hw;simp only [xzaa,tmpsTo,putT,zr];rw [xzah 28 (.tmp 3) _ rfl rfl (HLA.out u (HPK.out u hC.out).1)];exact xzab (Below.refl _ _) rfl
       |4,_,hw,ho=>
        simp only [zq,zh]at ho;subst ho;have eg:vs 2=.bool true:=hw 2 (by omega) (by kernel_rfl);refine⟨(xzbd (i:=2) (d:=31) (b:=true) (b':=true) rfl rfl ?_).trans rfl,?_⟩
        ·simp only [xzaa,tmpsTo,putT,zr]
         exact eg
        clear eg;clear hw;simp only [xzaa,tmpsTo,putT,zr];go_simp;exact xzab (Below.refl _ _) rfl
       |5,_,hw,ho=>
        simp only [zq,zh]at ho;subst ho;have eg:vs 2=.bool true:=hw 2 (by omega) (by kernel_rfl);refine⟨(xzbd (i:=2) (d:=31) (b:=true) (b':=true) rfl rfl ?_).trans rfl,?_⟩
        ·simp only [xzaa,tmpsTo,putT,zr]
         exact eg
        clear eg;clear hw;simp only [xzaa,tmpsTo,putT,zr];go_simp;exact xzab (Below.refl _ _) rfl
       |6,_,hw,ho=>
        have e4:vs 4=.slice (some ⟨bo,0,none⟩) (allF D D).length cox:=hw 4 (by omega) (by kernel_rfl);have e5:vs 5=.int .i64 (ix:Nat):=hw 5 (by omega) (by kernel_rfl);simp only [zq,zh]at ho;subst ho;have eg:vs 2=.bool true:=hw 2 (by omega) (by kernel_rfl);refine⟨(xzbd (i:=2) (d:=31) (b:=true) (b':=true) rfl rfl ?_).trans rfl,?_⟩
        ·simp only [xzaa,tmpsTo,putT,zr]
         exact eg
        clear eg;have hin:=HIF.out;clear hw;simp only [xzaa,tmpsTo,putT,zr];rw [e4,e5];clear e4 e5;go_simp;exact xzab (Below.refl _ _) rfl
       |7,_,hw,ho=>
        have e6:vs 6=.pointer (some ⟨bo,ix*3,none⟩):=hw 6 (by omega) (by kernel_rfl);simp only [zq,zh]at ho;subst ho;have eg:vs 2=.bool true:=hw 2 (by omega) (by kernel_rfl);refine⟨(xzbd (i:=2) (d:=31) (b:=true) (b':=true) rfl rfl ?_).trans rfl,?_⟩
        ·simp only [xzaa,tmpsTo,putT,zr]
         exact eg
        clear eg;clear hw;simp only [xzaa,tmpsTo,putT,zr];rw [e6];clear e6;go_simp;exact xzab (Below.refl _ _) rfl
       |8,_,hw,ho=>
        have e7:vs 7=.pointer (some ⟨bo,ix*3,none⟩):=hw 7 (by omega) (by kernel_rfl);simp only [zq,zh]at ho;subst ho;have eg:vs 2=.bool true:=hw 2 (by omega) (by kernel_rfl);refine⟨(xzbd (i:=2) (d:=31) (b:=true) (b':=true) rfl rfl ?_).trans rfl,?_⟩
        ·simp only [xzaa,tmpsTo,putT,zr]
         exact eg
        clear eg;have kq:=(HPK.out u hC.out).2;clear hw;simp only [xzaa,tmpsTo,putT,zr];rw [e7];clear e7;go_simp;exact xzab (Below.refl _ _) rfl
       |9,_,hw,ho=>
        have e3:vs 3=.agg da:=hw 3 (by omega) (by kernel_rfl);have e8:vs 8=.int .i64 q.1.1:=hw 8 (by omega) (by kernel_rfl);simp only [zq,zh]at ho;subst ho;have eg:vs 2=.bool true:=hw 2 (by omega) (by kernel_rfl);refine⟨(xzbd (i:=2) (d:=31) (b:=true) (b':=true) rfl rfl ?_).trans rfl,?_⟩
        ·simp only [xzaa,tmpsTo,putT,zr]
         exact eg
        clear eg;clear hw;simp only [xzaa,tmpsTo,putT,zr];rw [e3,e8];clear e3 e8;go_simp;refine xzap ((HTA.out u hC.out).mono ?_);rintro e u' ⟨rfl,hbu⟩;exact⟨_,rfl,hbu,rfl⟩
       |10,_,hw,ho=>
        simp only [zq,zh]at ho;subst ho;have eg:vs 2=.bool true:=hw 2 (by omega) (by kernel_rfl);refine⟨(xzbd (i:=2) (d:=31) (b:=true) (b':=true) rfl rfl ?_).trans rfl,?_⟩
        ·simp only [xzaa,tmpsTo,putT,zr]
         exact eg
        clear eg;clear hw;simp only [xzaa,tmpsTo,putT,zr];go_simp;exact xzab (Below.refl _ _) rfl
       |11,_,hw,ho=>
        have e9:vs 9=.int .i64 (D.tg q.1.1):=hw 9 (by omega) (by kernel_rfl);have e10:vs 10=.int .i64 rule:=hw 10 (by omega) (by kernel_rfl);simp only [zq,zh]at ho;subst ho;have eg:vs 2=.bool true:=hw 2 (by omega) (by kernel_rfl);refine⟨(xzbd (i:=2) (d:=31) (b:=true) (b':=true) rfl rfl ?_).trans rfl,?_⟩
        ·simp only [xzaa,tmpsTo,putT,zr]
         exact eg
        clear eg;have htg:=HTGB.out;clear hw;simp only [xzaa,tmpsTo,putT,zr];rw [e9,e10];clear e9 e10;go_simp;exact xzab (Below.refl _ _) rfl
       |12,_,hw,ho=>
        have e2:vs 2=.bool true:=hw 2 (by omega) (by kernel_rfl);have e11:vs 11=.bool tgb:=hw 11 (by omega) (by kernel_rfl);simp only [zq,zh]at ho;subst ho;refine⟨rfl,?_⟩;clear hw;simp only [xzaa,tmpsTo,putT,zr];rw [e2,e11];clear e2 e11;go_simp;exact xzab (Below.refl _ _) rfl
       |i+13,hix,_,_=>omega
      intro vs1 wy hC hV;have q12:vs1 12=.bool tgb:=hV 12 (by omega);clear hV;simp only [xzaa,tmpsTo,putT,zr,List.drop_succ_cons,List.drop_zero];rw [q12];clear q12;generalize vs1 0=g0;generalize vs1 1=g1;generalize vs1 2=g2;generalize vs1 3=g3;generalize vs1 4=g4;generalize vs1 5=g5;generalize vs1 6=g6;generalize vs1 7=g7;generalize vs1 8=g8;generalize vs1 9=g9;generalize vs1 10=g10;generalize vs1 11=g11;have HW:=zd (OvS.step HI.out hC.out);clear HI HPK HTA hC
      cases tgb with
      |false=>
       have HE:=zd (HNX.out (by
        have:=HTGB.out;unfold askR;rw [beq_eq_false_iff_ne]at this
        rw [decide_eq_false this,Bool.false_and]))
       clear HNX;go_wp2;exact⟨⟨ix+1,rfl,HIF.out,HE.out,HW⟩,by have:=HIF.out;simp [intOf];omega⟩
      |true=>
       have HPK9:=zd (fun(u:World) (hu:Below wy.heap.size wy u)=>show DfB u w.heap.size D.of D.n (.slice An D.next.length cn) (.slice At D.tag.length ct)/\u.cell? ⟨bo,ix*3,none⟩=some (.int .i64 q.1.1)from⟨(HW.out.step hu).2.1,(HCE.out u (HW.out.step hu)).1⟩);have HSA9:=zd (fun(u:World) (hu:Below wy.heap.size wy u)=>HSA0.out q.1.1 c u (HW.out.step hu).1 hcl HINq.out)
       go_wp2_with fail
       refine xzaf 9 73 (fun u=>Hid (Below wy.heap.size wy u)) (fun _ u u'=>Below u.heap.size u u')
        (fun i v u=>match i with
         |0=>v=.agg da
         |1=>v=.slice (some ⟨bo,0,none⟩) (allF D D).length cox
         |2=>v=.int .i64 (ix:Nat)
         |3=>v=.pointer (some ⟨bo,ix*3,none⟩)
         |4=>v=.pointer (some ⟨bo,ix*3,none⟩)
         |5=>v=.int .i64 q.1.1
         |6=>v=.int .i64 (c:Nat)
         |7=>v=.int .u8 (c:Nat)
         |8=>v=.int .i64 (D.nx q.1.1 c)
         |_=>True) (by kernel_rfl) (by kernel_rfl) rfl (zd (Below.refl _ _).drew) ?_ ?_ ?_ ?_
       ·intro i u u' hix hC hr
        exact zd (hC.out.trans (hr.mono hC.out.size))
       ·intro i j v u u' hix hj hne hv hr
        match i,hix,hne,hv with
        |0,_,_,hv=>exact hv
        |1,_,_,hv=>exact hv
        |2,_,_,hv=>exact hv
        |3,_,_,hv=>exact hv
        |4,_,_,hv=>exact hv
        |5,_,_,hv=>exact hv
        |6,_,_,hv=>exact hv
        |7,_,_,hv=>exact hv
        |8,_,_,hv=>exact hv
        |i+9,hix,_,_=>omega
       ·intro i hix vs u hC hw oq ho
        match i,hix,hw,ho with
        |0,_,hw,ho=>
         simp only [zq,zh]at ho;subst ho;refine⟨rfl,?_⟩;clear hw;simp only [xzaa,tmpsTo];rw [xzah 28 (.tmp 3) _ rfl rfl (HLA.out u (HPK9.out u hC.out).1)];exact xzab (Below.refl _ _) rfl
        |1,_,hw,ho=>
         simp only [zq,zh]at ho;subst ho;refine⟨rfl,?_⟩;clear hw;simp only [xzaa,tmpsTo,putT,zr];go_simp;exact xzab (Below.refl _ _) rfl
        |2,_,hw,ho=>
         simp only [zq,zh]at ho;subst ho;refine⟨rfl,?_⟩;clear hw;simp only [xzaa,tmpsTo,putT,zr];go_simp;exact xzab (Below.refl _ _) rfl
        |3,_,hw,ho=>
         have e1:vs 1=.slice (some ⟨bo,0,none⟩) (allF D D).length cox:=hw 1 (by omega) (by kernel_rfl);have e2:vs 2=.int .i64 (ix:Nat):=hw 2 (by omega) (by kernel_rfl);simp only [zq,zh]at ho;subst ho;refine⟨rfl,?_⟩;have hin:=HIF.out;clear hw;simp only [xzaa,tmpsTo,putT,zr];rw [e1,e2];clear e1 e2;go_simp;exact xzab (Below.refl _ _) rfl
        |4,_,hw,ho=>
         have e3:vs 3=.pointer (some ⟨bo,ix*3,none⟩):=hw 3 (by omega) (by kernel_rfl);simp only [zq,zh]at ho;subst ho;refine⟨rfl,?_⟩;clear hw;simp only [xzaa,tmpsTo,putT,zr];rw [e3];clear e3;go_simp;exact xzab (Below.refl _ _) rfl
        |5,_,hw,ho=>
         have e4:vs 4=.pointer (some ⟨bo,ix*3,none⟩):=hw 4 (by omega) (by kernel_rfl);simp only [zq,zh]at ho;subst ho;refine⟨rfl,?_⟩;have kq:=(HPK9.out u hC.out).2;clear hw;simp only [xzaa,tmpsTo,putT,zr];rw [e4];clear e4;go_simp;exact xzab (Below.refl _ _) rfl
        |6,_,hw,ho=>
         simp only [zq,zh]at ho;subst ho;refine⟨rfl,?_⟩;clear hw;simp only [xzaa,tmpsTo,putT,zr];go_simp;exact xzab (Below.refl _ _) rfl
        |7,_,hw,ho=>
         have e6:vs 6=.int .i64 (c:Nat):=hw 6 (by omega) (by kernel_rfl);simp only [zq,zh]at ho;subst ho;refine⟨rfl,?_⟩;clear hw;simp only [xzaa,tmpsTo,putT,zr];rw [e6];clear e6;go_simp;exact xzab (Below.refl _ _) rfl
        |8,_,hw,ho=>
         have e0:vs 0=.agg da:=hw 0 (by omega) (by kernel_rfl);have e5:vs 5=.int .i64 q.1.1:=hw 5 (by omega) (by kernel_rfl);have e7:vs 7=.int .u8 (c:Nat):=hw 7 (by omega) (by kernel_rfl);simp only [zq,zh]at ho;subst ho;refine⟨rfl,?_⟩;clear hw;simp only [xzaa,tmpsTo,putT,zr];rw [e0,e5,e7];clear e0 e5 e7;go_simp;refine xzap ((HSA9.out u hC.out).mono ?_);rintro e u' ⟨rfl,hbu⟩;exact⟨_,rfl,hbu,rfl⟩
        |i+9,hix,_,_=>omega
       intro vs2 wx hC hV;have q8:vs2 8=.int .i64 (D.nx q.1.1 c):=hV 8 (by omega);clear hV;simp only [xzaa,tmpsTo,putT,zr,List.drop_succ_cons,List.drop_zero];rw [q8];clear q8;generalize vs2 0=g0;generalize vs2 1=g1;generalize vs2 2=g2;generalize vs2 3=g3;generalize vs2 4=g4;generalize vs2 5=g5;generalize vs2 6=g6;generalize vs2 7=g7;have HW2:=zd (OvS.step HW.out hC.out);clear HW HPK9 HSA9 hC;have hxin:=HNI.out q.1.1 c;obtain⟨X,hXX⟩:∃ X,D.nx q.1.1 c=X:=⟨_,rfl⟩;rw [hXX]at hxin;rw [hXX];have hset:=HW2.out.2.2.1;have s0:=hset.cell 0;have s1:=hset.cell 1;have s2:=hset.cell 2;have s3:=hset.cell 3;simp only [zq]at s0 s1 s2 s3;clear hset;unfold Df.InS at hxin
       cases hmc:m c with
       |false=>
        have HE:=zd (show seekP D q.1.1 m c=false by unfold seekP;rw [xziu HINq.out,hXX,hmc,Bool.false_and])
        go_wp2_with(first
         |(go_at_call 43;refine(HHS.out c hcl _).mono ?_;rintro e u3 ⟨rfl,hbu3⟩;have HW3:=zd (OvS.step HW2.out hbu3);rw [hmc];clear hbu3))
        exact⟨⟨c+1,rfl,HCL.out,fun b hb=>(by
         by_cases hbc:b<c
         ·exact hno b hbc
         ·obtain rfl:b=c:=by omega
          exact HE.out),HW3⟩,by have:=HCL.out;simp [intOf];omega⟩
       |true=>
        by_cases hx0:0<=X
        ·obtain⟨xn,rfl⟩:∃ xn:Nat,X=(xn:Nat):=⟨X.toNat,by omega⟩
         have g1:decide ((xn:Int)>=0)=true:=by simp
         have g1b:decide ((0:Int)<=(xn:Int))=true:=by simp
         have g2:decide ((xn:Int)<(D.next.length:Int))=true:=by simp;omega
         have hxn:xn<D.next.length:=by omega
         cases hlv:lvB D (xn:Int)with
         |false=>
          have HE:=zd (show seekP D q.1.1 m c=false by unfold seekP;rw [xziu HINq.out,hXX,hmc,hlv,Bool.and_false,Bool.and_false])
          go_wp2_with(first
           |(go_at_call 43;refine(HHS.out c hcl _).mono ?_;rintro e u3 ⟨rfl,hbu3⟩;have HW3:=zd (OvS.step HW2.out hbu3);rw [hmc];have hcc:=BlkF.cell (HW3.out.2.2.2.1) hxn;simp only [hlv]at hcc;clear hbu3))
          exact⟨⟨c+1,rfl,HCL.out,fun b hb=>(by
           by_cases hbc:b<c
           ·exact hno b hbc
           ·obtain rfl:b=c:=by omega
            exact HE.out),HW3⟩,by have:=HCL.out;simp [intOf];omega⟩
         |true=>
          have HSP:=zd (show seekP D q.1.1 m c=true by unfold seekP;rw [xziu HINq.out,hXX,hmc,hlv,g1b];rfl);have HSR:=zd (xzmy hcl HSP.out hno);have HDN:=zd (HFD.out c (by unfold askR;rw [HSR.out,decide_eq_true (eq_of_beq HTGB.out)];rfl) HSR.out);clear hno HFD HNX HSP HSR
          go_wp2_with(first
           |(go_at_call 43;refine(HHS.out c hcl _).mono ?_;rintro e u3 ⟨rfl,hbu3⟩;have HW3:=zd (OvS.step HW2.out hbu3);have hcc:=BlkF.cell (HW3.out.2.2.2.1) hxn;have kq2:=(HCE.out u3 HW3.out).2;rw [hmc];simp only [hlv]at hcc;clear hbu3))
          go_ret3
          exact⟨HDN.out,HW3.out.1⟩
        ·have g1:decide (X>=0)=false:=by simp;omega
         have g1b:decide ((0:Int)<=X)=false:=by simp;omega
         have HE:=zd (show seekP D q.1.1 m c=false by unfold seekP;rw [xziu HINq.out,hXX,hmc,g1b,Bool.false_and,Bool.and_false])
         go_wp2_with(first
          |(go_at_call 43;refine(HHS.out c hcl _).mono ?_;rintro e u3 ⟨rfl,hbu3⟩;have HW3:=zd (OvS.step HW2.out hbu3);rw [hmc];clear hbu3))
         exact⟨⟨c+1,rfl,HCL.out,fun b hb=>(by
          by_cases hbc:b<c
          ·exact hno b hbc
          ·obtain rfl:b=c:=by omega
           exact HE.out),HW3⟩,by have:=HCL.out;simp [intOf];omega⟩
     ·have hdl2:decide ((c:Int)<256)=false:=by simp;omega
      obtain rfl:c=256:=by omega
      have HE:=zd (HNX.out (by
       unfold askR
       rw [xzya hno];simp))
      clear HNX hno
      go_wp2_with fail
      go_quiet (fail)
      have HW:=zd (OvS.step HI.out (xzao (Below.refl _ _) nq));go_wp2;exact⟨⟨ix+1,rfl,HIF.out,HE.out,HW⟩,by have:=HIF.out;simp [intOf];omega⟩
   ·have e1:decide (rule>=0)=false:=by simp;omega
    have e1b:decide (0<=rule)=false:=by simp;omega
    have HE:=zd (show Ending.returned (.tuple #[.string ⟨#[]⟩,.int .u8 0,.bool false])=.returned (overV (if rule<0 then none else overR D rule m))by rw [if_pos (by omega)];rfl);clear hnone;go_wp2
    go_ret3
    exact⟨HE.out,HH.out.1⟩
  ·have hdl:decide ((ix:Int)<((allF D D).length:Int))=false:=by simp;omega
   have HE:=zd (show Ending.returned (.tuple #[.string ⟨#[]⟩,.int .u8 0,.bool false])=.returned (overV (if rule<0 then none else overR D rule m))by
    by_cases hr:rule<0
    ·rw [if_pos hr];rfl
    ·rw [if_neg hr]
     unfold overR
     rw [xzms (fun i h=>hnone i (by omega) h)];rfl)
   clear hnone;go_wp2
   go_ret3
   exact⟨HE.out,HH.out.1⟩
end
section
open Go.RowKit
def plusP:Tree:=.node 4 (fun _=>false) [ltr8 98] 1 (-1)
def exP:Tree:=.node 3 (fun _=>false) [ltr8 97,plusP] 0 0
def exQ:Tree:=.node 3 (fun _=>false) [ltr8 98,ltr8 99] 0 0
theorem yzgi:exP.mayN=true:=by decide+kernel
theorem eP_once:exP.once=true:=by decide+kernel
theorem xzyb:exP.nodes=4:=by decide+kernel
theorem eP_sumN:sumN [exP]=2:=by decide+kernel
theorem eP_sumP:sumP [exP]=2:=by decide+kernel
theorem xzom:∀ t∈[exP],t.mayN=true/\PartIs t/\t.nodes<=1048576:=by
 intro t ht;simp only [List.mem_cons,List.not_mem_nil,or_false]at ht;subst ht;exact⟨yzgi,xzgt exP (xzgg yzgi) eP_once (by rw [xzyb];decide),by rw [xzyb];decide⟩
theorem eP_okTs:okTs [exP]:=by
 unfold okTs;refine⟨xzwa exP (xzgg yzgi),?_⟩;unfold okTs
 trivial
theorem eP_sums:∀ j,0<=sumP ([exP].take j)/\sumP ([exP].take j)<=2000
 |0=>by simp [sumP]
 |j+1=>by
  show 0<=sumP (exP::[].take j)/\sumP (exP::[].take j)<=2000
  rw [List.take_nil,eP_sumP];decide
def NP:Nf:=buildN [exP]
theorem xzsu (A:Option Addr)(c:Nat)(w:World)(hat:∃ b o,A=some ⟨b,o,none⟩/\AllAt w [exP] b o):
 Calls Tryz.prog 44 #[.slice A 1 c] w fun x w'=>∃ v,x=.returned (.tuple #[v,.int .i64 0])/\NfaAt w' NP v/\Below w.heap.size w w':=
 xzkp [exP] (by decide) (by decide) (fun t ht=>(xzom t ht).1) (fun t ht=>(xzom t ht).2.1) eP_okTs (fun t ht=>(xzom t ht).2.2) (by rw [eP_sumN];decide) eP_sums A c w (fun _=>hat)
theorem NP_small:NP.sets.length=2/\NP.may=true:=by decide+kernel
theorem NP_of:∀ b,b<256->ofN NP b=if b=97 then 1 else if b=98 then 2 else 0:=by decide+kernel
theorem NP_cl:clN NP=3:=by decide+kernel
def lbP (k:Nat):Nat:=if k=0 then 0 else if k=1 then 97 else 98
set_option maxRecDepth 20000 in
theorem NP_lb:∀ k,k<3->lbN NP k=lbP k:=fun k hk=>by
 obtain⟨_,h1,h2,h3⟩:=yzaa NP (k:=k) (by rw [NP_cl];exact hk);rw [NP_of _ h1]at h2;unfold lbP
 have hl:∀ a,a<lbN NP k->(if a=97 then 1 else if a=98 then 2 else 0)≠k:=fun a ha=>by
  have:=h3 a ha
  rwa [NP_of a (by omega)]at this
 obtain rfl|rfl|rfl:k=0\/k=1\/k=2:=by omega
 ·simp only [if_true]
  rcases Nat.eq_zero_or_pos (lbN NP 0)with e|e
  ·exact e
  ·exact absurd rfl (hl 0 e)
 ·have:lbN NP 1=97:=by
   by_cases e:lbN NP 1=97
   ·exact e
   ·rw [if_neg e]at h2
    split at h2<;>cases h2
  rw [this,if_neg (by decide)];rfl
 ·have:lbN NP 2=98:=by
   by_cases e:lbN NP 2=97
   ·rw [if_pos e]at h2;cases h2
   ·rw [if_neg e]at h2
    by_cases e2:lbN NP 2=98
    ·exact e2
    ·rw [if_neg e2]at h2;cases h2
  rw [this,if_neg (by decide)];rfl
theorem NP_sub3:subTo NP lbP 3 3=some ([[],[0],[1]],[[-1,1,2],[-1, -1, -1],[-1, -1,2]]):=by decide+kernel
theorem NP_sub:subZ NP (lbN NP) (clN NP)=some ([[],[0],[1]],[[-1,1,2],[-1, -1, -1],[-1, -1,2]]):=by
 rw [NP_cl];refine xzgp NP (lbN NP) 3 3 ?_ (by decide);rw [xzkr NP 3 NP_lb];exact NP_sub3
def DP:Df:=⟨ofN NP,3,[[-1,1,2],[-1, -1, -1],[-1, -1,2]],[-1,0,0]⟩
theorem NP_tags:tagsL NP [[],[0],[1]]=[-1,0,0]:=by decide+kernel
theorem NP_ans:subAns NP=(DP,0):=by
 unfold subAns;rw [if_pos NP_small.2,NP_sub];simp only [NP_tags,NP_cl]
 rfl
theorem yzcn:DP.may=true:=by
 have h:mayB (ofN NP) ((3:Nat):Int)=true:=by rw [<-NP_cl];exact xzke _
 unfold Df.may;rw [show mayB DP.of DP.n=true from h]
 decide+kernel
theorem yzgj:exQ.mayN=true:=by decide+kernel
theorem eQ_once:exQ.once=true:=by decide+kernel
theorem xzyc:exQ.nodes=3:=by decide+kernel
theorem eQ_sumN:sumN [exQ]=2:=by decide+kernel
theorem eQ_sumP:sumP [exQ]=2:=by decide+kernel
theorem xzon:∀ t∈[exQ],t.mayN=true/\PartIs t/\t.nodes<=1048576:=by
 intro t ht;simp only [List.mem_cons,List.not_mem_nil,or_false]at ht;subst ht;exact⟨yzgj,xzgt exQ (xzgg yzgj) eQ_once (by rw [xzyc];decide),by rw [xzyc];decide⟩
theorem eQ_okTs:okTs [exQ]:=by
 unfold okTs;refine⟨xzwa exQ (xzgg yzgj),?_⟩;unfold okTs
 trivial
theorem eQ_sums:∀ j,0<=sumP ([exQ].take j)/\sumP ([exQ].take j)<=2000
 |0=>by simp [sumP]
 |j+1=>by
  show 0<=sumP (exQ::[].take j)/\sumP (exQ::[].take j)<=2000
  rw [List.take_nil,eQ_sumP];decide
def NQ:Nf:=buildN [exQ]
theorem xzsv (A:Option Addr)(c:Nat)(w:World)(hat:∃ b o,A=some ⟨b,o,none⟩/\AllAt w [exQ] b o):
 Calls Tryz.prog 44 #[.slice A 1 c] w fun x w'=>∃ v,x=.returned (.tuple #[v,.int .i64 0])/\NfaAt w' NQ v/\Below w.heap.size w w':=
 xzkp [exQ] (by decide) (by decide) (fun t ht=>(xzon t ht).1) (fun t ht=>(xzon t ht).2.1) eQ_okTs (fun t ht=>(xzon t ht).2.2) (by rw [eQ_sumN];decide) eQ_sums A c w (fun _=>hat)
theorem NQ_small:NQ.sets.length=2/\NQ.may=true:=by decide+kernel
theorem NQ_of:∀ b,b<256->ofN NQ b=if b=98 then 1 else if b=99 then 2 else 0:=by decide+kernel
theorem NQ_cl:clN NQ=3:=by decide+kernel
def lbQ (k:Nat):Nat:=if k=0 then 0 else if k=1 then 98 else 99
set_option maxRecDepth 20000 in
theorem NQ_lb:∀ k,k<3->lbN NQ k=lbQ k:=fun k hk=>by
 obtain⟨_,h1,h2,h3⟩:=yzaa NQ (k:=k) (by rw [NQ_cl];exact hk);rw [NQ_of _ h1]at h2;unfold lbQ
 have hl:∀ a,a<lbN NQ k->(if a=98 then 1 else if a=99 then 2 else 0)≠k:=fun a ha=>by
  have:=h3 a ha
  rwa [NQ_of a (by omega)]at this
 obtain rfl|rfl|rfl:k=0\/k=1\/k=2:=by omega
 ·simp only [if_true]
  rcases Nat.eq_zero_or_pos (lbN NQ 0)with e|e
  ·exact e
  ·exact absurd rfl (hl 0 e)
 ·have:lbN NQ 1=98:=by
   by_cases e:lbN NQ 1=98
   ·exact e
   ·rw [if_neg e]at h2
    split at h2<;>cases h2
  rw [this,if_neg (by decide)];rfl
 ·have:lbN NQ 2=99:=by
   by_cases e:lbN NQ 2=98
   ·rw [if_pos e]at h2;cases h2
   ·rw [if_neg e]at h2
    by_cases e2:lbN NQ 2=99
    ·exact e2
    ·rw [if_neg e2]at h2;cases h2
  rw [this,if_neg (by decide)];rfl
theorem NQ_sub3:subTo NQ lbQ 3 3=some ([[],[0],[1]],[[-1,1,2],[-1, -1, -1],[-1, -1, -1]]):=by decide+kernel
theorem NQ_sub:subZ NQ (lbN NQ) (clN NQ)=some ([[],[0],[1]],[[-1,1,2],[-1, -1, -1],[-1, -1, -1]]):=by
 rw [NQ_cl];refine xzgp NQ (lbN NQ) 3 3 ?_ (by decide);rw [xzkr NQ 3 NQ_lb];exact NQ_sub3
def DQ:Df:=⟨ofN NQ,3,[[-1,1,2],[-1, -1, -1],[-1, -1, -1]],[-1,0,0]⟩
theorem NQ_tags:tagsL NQ [[],[0],[1]]=[-1,0,0]:=by decide+kernel
theorem NQ_ans:subAns NQ=(DQ,0):=by
 unfold subAns;rw [if_pos NQ_small.2,NQ_sub];simp only [NQ_tags,NQ_cl]
 rfl
theorem yzco:DQ.may=true:=by
 have h:mayB (ofN NQ) ((3:Nat):Int)=true:=by rw [<-NQ_cl];exact xzke _
 unfold Df.may;rw [show mayB DQ.of DQ.n=true from h]
 decide+kernel
theorem xziv {p:SS->Bool}{F G:List (SS×List Nat)}{x:SS×List Nat}(hp:F<+:G)(h:tellQ p F=some x):tellQ p G=some x:=by
 obtain⟨t,rfl⟩:=hp;unfold tellQ at h ⊢;rw [List.find?_append,h];rfl
theorem xziw {A B:Df}(hA:MayD A)(hB:MayD B):foundR A B 1<+:allF A B:=by rw [<-xzgx];exact xzee hA.wf hB.wf 1
theorem xzyd:foundR DP DQ 1=[((0,0),[]),((1, -1),[97]),((2,1),[98]),((-1,2),[99])]:=by decide+kernel
theorem yzgk:foundR D9 D9 1=[((0,0),[]),((1,1),[97])]:=by decide+kernel
theorem PQ_both:tellQ (fun s=>qBoth (DP.tg s.1) (DQ.tg s.2)) (allF DP DQ)=some ((2,1),[98]):=xziv (xziw (xzrk yzcn) (xzrk yzco)) (by rw [xzyd];decide+kernel)
theorem PQ_diff:tellQ (fun s=>qDiff (DP.tg s.1) (DQ.tg s.2)) (allF DP DQ)=some ((1, -1),[97]):=xziv (xziw (xzrk yzcn) (xzrk yzco)) (by rw [xzyd];decide+kernel)
theorem D9_st:D9.stepR 1 98=2:=by decide+kernel
theorem D9_lv:lvB D9 2=true:=lvB_iff.2 (.tag (by decide) (by decide) (by decide))
theorem yzdk:seekR D9 1 (sRange 98 98)=some 98:=xzmy (by decide) (by
 unfold seekP;rw [D9_st,D9_lv]
 decide+kernel) fun b hb=>by
 have:sRange 98 98 b=false:=by unfold sRange;simp;omega
 unfold seekP;rw [this,Bool.false_and]
theorem D9_tell:tellQ (askR D9 0 (sRange 98 98)) (allF D9 D9)=some ((1,1),[97]):=xziv (xziw (xzrk yzbh) (xzrk yzbh)) (by
 rw [yzgk]
 have h0:askR D9 0 (sRange 98 98) ((0,0):SS)=false:=by
  unfold askR;rw [show decide (D9.tg ((0,0):SS).1=0)=false by decide+kernel,Bool.false_and]
 have h1:askR D9 0 (sRange 98 98) ((1,1):SS)=true:=by
  unfold askR;rw [show decide (D9.tg ((1,1):SS).1=0)=true by decide+kernel,show((1,1):SS).1=1 from rfl,yzdk]
  rfl
 unfold tellQ
 rw [List.find?_cons,h0,List.find?_cons,h1])
theorem D9_over:overP D9.trim 0 (sRange 98 98)=some ([97],98):=by
 unfold Df.trim;rw [if_pos yzbh,yzdi (xzrk yzbh) (Int.le_refl _)];unfold overR;rw [D9_tell,Option.map_some,yzdk]
 rfl
end
section
open Go.RowKit
attribute [local irreducible] FreeW textFrame
theorem xzye {B n z k:Nat}{W:World}{v:Value}{xs:List Value}{e:TypeId}(h:W.ownsRow B e z v n xs)(hk:v.ownBlock=some k):∃ cur,BlkIs W k e cur:=by
 rcases h.2 with⟨rfl,_⟩|⟨g,cap,cur,rfl,_,h2,_⟩
 ·simp [Value.ownBlock]at hk
 ·have:g=k:=by simpa [Value.ownBlock]using hk
  subst this;exact⟨cur,h2⟩
def DfKeep (w0:Nat)(u:World)(D:Df)(v:Value):Prop:=∀ W:World,(∀ k t cs,BlkIs u k t cs->t≠35->w0<=k->W.heap[k]? =u.heap[k]?)->DfAt W D v
theorem DfKeep.at {w0:Nat}{u:World}{D:Df}{v:Value}(h:DfKeep w0 u D v):DfAt u D v:=h u fun _ _ _ _ _ _=>rfl
theorem DfKeep.via {w0 w1:Nat}{u u':World}{D:Df}{v:Value}(h:DfKeep w0 u D v)(hw:w1<=w0)(hk:∀ k t cs,BlkIs u k t cs->t≠35->w0<=k->u'.heap[k]? =u.heap[k]?):DfKeep w1 u' D v:=fun W hW=>
 h W fun k t cs hb ht hl=>(hW k t cs ((hk k t cs hb ht hl).trans hb) ht (Nat.le_trans hw hl)).trans (hk k t cs hb ht hl)
theorem DfKeep.step {w0:Nat}{u u':World}{D:Df}{v:Value}(h:DfKeep w0 u D v)(hb:Below u.heap.size u u'):DfKeep w0 u' D v:=h.via (Nat.le_refl _) fun k _ _ hk _ _=>hb.block k (BlkIs.lt hk)
theorem sm_df2 {N:Nf}{w W:World}{ρ:Nat->Nat}{L R:List (List Int)}{fol tak:List (Nat->Bool)}{V:MkV}{bs:Nat->Nat}(h:SM (spN N w) ρ ⟨L,L,R,tagsL N L,fol,tak⟩ V bs W)(hz:subZ N (lbN N) (clN N)=some (L,R)):
 ∀ W':World,(∀ k t cs,BlkIs W k t cs->t≠35->w.heap.size<=k->W'.heap[k]? =W.heap[k]?)->RowsI W' R V.next/\IntsV W' (tagsL N L) V.tag:=by
 have F: ¬ False:=fun h=>h
 intro W' hk;refine⟨rowsD (xzat (h.nx F) fun k hk'=>?_) (fun i hi=>?_) (xzht _ _ _ _ _ _ hz) (show clN N<=_ by have:=yzab N;omega),RowI.ints (xzbe (h.tg F) fun k hk'=>?_)⟩
 ·obtain⟨cur,hc⟩:=xzye (h.nx F) hk'
  exact hk k _ _ hc (by decide) (World.ownsRow.lt (h.nx F) k hk').1
 ·exact(hk _ _ _ (h.rw i hi F) (by decide) (h.rlow i hi)).trans (h.rw i hi F)
 ·obtain⟨cur,hc⟩:=xzye (h.tg F) hk'
  exact hk k _ _ hc (by decide) (World.ownsRow.lt (h.tg F) k hk').1
set_option maxRecDepth 20000 in
set_option maxHeartbeats 16000000 in
theorem xzsw (N:Nf)(v:Value)(w:World)(h:NfaAt w N v)(hms:N.sets.length<=2000)(hT:Tab w):
 Calls Tryz.prog 45 #[v] w fun e w'=>∃ vd,e=.returned (.tuple #[vd,.int .i64 (subAns N).2])/\DfKeep w.heap.size w' (subAns N).1 vd/\Below w.heap.size w w':=by
 obtain⟨A0,A1,A2,A3,A4,c0,c1,c2,c3,c4,rfl⟩:=h.form;obtain⟨W1,hW1⟩:∃ W1,w.alloc (.cells #[.slice A0 N.sets.length c0,.slice A1 N.rules.length c1,.slice A2 N.first.length c2,.slice A3 N.follow.length c3,.slice A4 N.ends.length c4,.int .i64 N.empty] 86)=W1:=⟨_,rfl⟩;obtain⟨W2,hW2⟩:∃ W2,W1.alloc (.cells df0 35)=W2:=⟨_,rfl⟩
 have hs1:W1.heap.size=w.heap.size+1:=by rw [<-hW1];simp
 have hs2:W2.heap.size=w.heap.size+2:=by rw [<-hW2];simp [hs1]
 have hb1:Below w.heap.size w W1:=by rw [<-hW1];exact(Below.refl _ _).alloc (Nat.le_refl _) _
 have hb2:Below w.heap.size w W2:=by rw [<-hW2];exact hb1.alloc (by omega) _
 have hx1:BlkIs W1 w.heap.size 86 #[.slice A0 N.sets.length c0,.slice A1 N.rules.length c1,.slice A2 N.first.length c2,.slice A3 N.follow.length c3,.slice A4 N.ends.length c4,.int .i64 N.empty]:=by rw [<-hW1];exact BlkIs.new _ _ _
 have hx2:BlkIs W2 w.heap.size 86 #[.slice A0 N.sets.length c0,.slice A1 N.rules.length c1,.slice A2 N.first.length c2,.slice A3 N.follow.length c3,.slice A4 N.ends.length c4,.int .i64 N.empty]:=by rw [<-hW2];exact hx1.alloc _
 have hd2:BlkIs W2 (w.heap.size+1) 35 df0:=by rw [<-hW2,<-hs1];exact BlkIs.new _ _ _
 have z:=zeroDf;have HMA:=zd (fun(u:World) (hu:Below w.heap.size w u)=>yzeb N _ u (h.step hu));obtain⟨c0',c1',c2',c3',c4',c5'⟩:=six hx2;have HX:=zd (And.intro hx2 (And.intro hd2 hb2));have HNF:=zd h;have HTT:=zd hT;have HMS:=zd hms;clear h hT hb1 hb2 hx1 hx2 hd2 hms;obtain⟨d0,hd0⟩:∃ d0,df0=d0:=⟨_,rfl⟩;rw [hd0]at hW2 z;have hd00:=xzac (fun _=>0) 0 (.slice none 0 0) (.slice none 0 0)
 go_enter Tryz.func45,Tryz.ntmps45
 go_wp2_with fail
 go_at_call 62
 refine(HMA.out _ HX.out.2.2).mono ?_;rintro e u1 ⟨rfl,hbu⟩;have hb1:=HX.out.2.2.trans (hbu.mono HX.out.2.2.size);have hd1:=BlkIs.step HX.out.2.1 hbu;have hx1:=BlkIs.step HX.out.1 hbu
 cases hmay:N.may with
 |false=>
  have HA:=zd (show subAns N=(dfNone,1)by unfold subAns;rw [hmay];rfl);obtain⟨W9,hsc,hb9,hw9⟩:=xzbg (P:=Tryz.prog) hd1 (new:=df0) rfl (xzcy _ _ _ _ rfl rfl);have hl9:=loadVarDf (DfB.of hb9);have HB9:=zd (hw9.2.1 _ _ (by omega) hb1);have hs9:df0.size=259:=xzac _ _ _ _;rw [hd0]at hsc hs9;rw [show dfC (fun _=>0) 0 (.slice none 0 0) (.slice none 0 0)=d0 from hd0]at hl9;clear hb1 hx1 hd1 hb9 hw9 HMA HX c0' c1' c2' c3' c4' c5' hbu;go_wp2;refine⟨rfl,_,xzci rfl rfl hl9,_,by rw [HA.out];rfl,?_,HB9.out⟩;rw [HA.out,<-hd0]
  exact fun W _=>xzkh W
 |true=>
  have HMI:=zd (may_is hmay);have HNM:=zd (xzno N _ u1 (HNF.out.step hb1) HMS.out (HTT.out.step hb1) (by have:=HMI.out.small;have:=HMI.out.follow;omega) (fun l hl p hp=>by have:=HMI.out.rows l hl p hp;have:=HMI.out.small;omega));have hx1':=six hx1;obtain⟨e0,e1,e2,e3,e4,e5⟩:=hx1';clear HMA HX c0' c1' c2' c3' c4' c5'
  go_wp2_with fail
  go_at_call 63
  refine HNM.out.mono ?_;rintro e u2 ⟨rfl,ρ,V,bs,hsm⟩;have HFA:=zd (xzvc (spN N u1) ρ _ V bs u2 hsm HMI.out (lbN N) (yzab N) ⟨rfl,rfl,rfl,rfl⟩ rfl rfl);have HD1:=zd (And.intro hd1 hb1);clear hsm HNM hd1 hb1 hx1 e0 e1 e2 e3 e4 e5 hbu
  go_wp2_with fail
  go_at_call 64
  refine HFA.out.mono ?_;rintro e u3 ⟨hf1,hf2⟩
  cases hz:subZ N (lbN N) (clN N)with
  |none=>
   obtain⟨rfl,hbu⟩:=hf2 hz;have HA:=zd (show subAns N=(dfNone,4)by unfold subAns;rw [hmay,hz];rfl);have hbu:Below u1.heap.size u1 u3:=hbu;have hd1:=BlkIs.step HD1.out.1 hbu;obtain⟨W9,hsc,hb9,hw9⟩:=xzbg (P:=Tryz.prog) hd1 (new:=df0) rfl (xzcy _ _ _ _ rfl rfl);have hl9:=loadVarDf (DfB.of hb9);have HB9:=zd (hw9.2.1 _ _ (by omega) (HD1.out.2.trans (hbu.mono HD1.out.2.size)));have hs9:df0.size=259:=xzac _ _ _ _;rw [hd0]at hsc hs9;rw [show dfC (fun _=>0) 0 (.slice none 0 0) (.slice none 0 0)=d0 from hd0]at hl9;clear hf1 hf2 hd1 hb9 hw9 HFA hbu;go_wp2;refine⟨rfl,_,xzci rfl rfl hl9,_,by rw [HA.out];rfl,?_,HB9.out⟩;rw [HA.out,<-hd0]
   exact fun W _=>xzkh W
  |some LR=>
   obtain⟨L,R⟩:=LR;obtain⟨rfl,ρ',V',bs',hsm⟩:=hf1 L R hz;have HA:=zd (show subAns N=(⟨ofN N,(clN N:Nat),R,tagsL N L⟩,0)by unfold subAns;rw [hmay,hz];rfl);have hbu:Below u1.heap.size u1 u3:=hsm.below;have hd1:=BlkIs.step HD1.out.1 hbu;obtain⟨hdf,⟨An,cn,en⟩,⟨At,ct,et⟩,hkey⟩:=sm_df hsm hz
   have hn1:V'.next.oneCell'=true:=by rw [en];rfl
   have ht1:V'.tag.oneCell'=true:=by rw [et];rfl
   obtain⟨W9,hsc,hb9,hw9⟩:=xzbg (P:=Tryz.prog) hd1 (new:=dfC (ofN N) (clN N:Nat) V'.next V'.tag) (by rw [xzac];exact(xzac _ _ _ _).symm) (xzcy _ _ _ _ hn1 ht1);have hl9:=loadVarDf (DfB.of hb9);have HB9:=zd (hw9.2.1 _ _ (by omega) (HD1.out.2.trans (hbu.mono HD1.out.2.size)));have hs9:(dfC (ofN N) (clN N:Nat) V'.next V'.tag).size=259:=xzac _ _ _ _;have hsb1:=HD1.out.2.size;have hkey2:=sm_df2 hsm hz
   have HR:=zd (fun(W:World) (hW:∀ k t cs,BlkIs W9 k t cs->t≠35->w.heap.size<=k->W.heap[k]? =W9.heap[k]?)=>hkey2 W fun k t cs hb ht hk=>by
    have e9:=hw9.1 k (by have:=BlkIs.lt HD1.out.1;omega)
    exact(hW k t cs (e9.trans hb) ht (by omega)).trans e9)
   clear hkey2;have hlow:w.heap.size+1<u1.heap.size:=BlkIs.lt HD1.out.1;generalize hvn:V'.next=vn at*;generalize hvt:V'.tag=vt at*;obtain⟨d9,hd9⟩:∃ d9,dfC (ofN N) (clN N:Nat) vn vt=d9:=⟨_,rfl⟩;have hl3:=loadDf hdf;rw [hd9]at hsc hs9 hl9 hl3
   have hld:∀ {ops:Array Oper} {rest:List Oper} {op:Oper} {a:Act} {Q:Exit->Act->World->Prop} (_:op.guard=none) (x:Operand) (_:op.op=.load 35 x) (_:a.eval x=.pointer (some ⟨u1.heap.size+2,0,none⟩)) (_:wpList Tryz.prog ops Q rest (a.put op.dst (.agg d9)) u3),wpList Tryz.prog ops Q (op::rest) a u3:=fun hg x ho hx hK=>xzag hg x ho hx hdf (by rw [hd9];exact hK)
   clear hf1 hf2 hd1 hb9 hw9 HFA hbu hkey hdf hsm hl3 hn1 ht1
   go_wp2_with(refine hld rfl _ rfl rfl ?_)
   refine⟨rfl,_,xzci rfl rfl hl9,_,by rw [HA.out];rfl,?_,HB9.out⟩;rw [HA.out]
   exact fun W hW=>⟨vn,vt,congrArg Value.agg hd9.symm,HR.out W hW⟩
end
end Go.Proofs.YtdjpphjpnkfeiaaGreatDoor
