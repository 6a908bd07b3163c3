/-
 hacklelaw09.alive ANSWERS true: a contract. Condition: the table of math/bits lies as it is laid.
-/
import Derived.Deep.QuietTactic
import Derived.BigQuiet
import Derived.Maps.OwnSet
import Derived.Test.YtdjpphjpnkfeiaaGreatDoorQG26
import Derived.Test.YtdjpphjpnkfeiaaGreatDoorQG05
import Derived.Test.YtdjpphjpnkfeiaaGreatDoorQG31
import Derived.Test.YtdjpphjpnkfeiaaGreatDoorQG27
import Derived.Test.YtdjpphjpnkfeiaaGreatDoorQG03
import Derived.Test.YtdjpphjpnkfeiaaGreatDoorQG04
namespace Go.Proofs.YtdjpphjpnkfeiaaGreatDoor
section
open Go.RowKit
attribute [local irreducible] FreeW
end
section
open Go.RowKit
attribute [local irreducible] FreeW textFrame
theorem xzal {W:World}{D:Df}{v:Value}(h:DfAt W D v):∃ A c B c',v=.agg (dfC D.of D.n (.slice A D.next.length c) (.slice B D.tag.length c')):=by
 obtain⟨vn,vt,rfl,⟨A,c,rfl,_⟩,⟨B,c',rfl,_⟩⟩:=h;exact⟨A,c,B,c',rfl⟩
noncomputable def Df.trim (D:Df):Df:=if D.may then trimP D else dfNone
set_option maxRecDepth 20000 in
set_option maxHeartbeats 8000000 in
theorem yzbj (D:Df)(v:Value)(w:World)(h:DfAt w D v)(hf:∀ b,b<256->D.of b<256):
 Calls Tryz.prog 35 #[v] w fun e w'=>∃ v',e=.returned v'/\DfAt w' D.trim v'/\Below w.heap.size w w':=by
 have HAT:=zd h;obtain⟨A,c,B,c',rfl⟩:=xzal h;obtain⟨W1,hbx,hsz,hb1,hx1⟩:=xzat D.of D.n (.slice A D.next.length c) (.slice B D.tag.length c') w;obtain⟨W2,hW2⟩:∃ W2,W1.alloc (.cells df0 35)=W2:=⟨_,rfl⟩
 have hb12:Below W1.heap.size W1 W2:=by rw [<-hW2];exact(Below.refl _ _).alloc (Nat.le_refl _) _
 have hs2:W2.heap.size=w.heap.size+2:=by rw [<-hW2];simp [hsz]
 have H2:=zd (show Below w.heap.size w W2/\DfB W2 w.heap.size D.of D.n (.slice A D.next.length c) (.slice B D.tag.length c')/\BlkIs W2 (w.heap.size+1) 35 df0/\w.heap.size+1<W2.heap.size from
  ⟨hb1.trans (hb12.mono (by omega)),(DfB.of hx1).step hb12,by rw [<-hW2,<-hsz];exact BlkIs.new _ _ _,by omega⟩)
 obtain⟨dc,hdc⟩:∃ dc,dfC D.of D.n (.slice A D.next.length c) (.slice B D.tag.length c')=dc:=⟨_,rfl⟩;rw [hdc]at hbx HAT
 have hds:dc.size=259:=by rw [<-hdc];exact xzac _ _ _ _
 obtain⟨d0,hd0⟩:∃ d0,df0=d0:=⟨_,rfl⟩;have z:=zeroDf;rw [hd0]at z hW2;have HZ:=zd hd0;rw [hdc];have HDC:=zd hdc;have HMA:=zd (xzns D _ W2 (HAT.out.step H2.out.1) hf);clear h hb1 hx1 hb12 hdc hd0 hf hs2
 cases hm:D.may with
 |false=>
  rw [hm]at HMA;have HTR:=zd (show D.trim=dfNone by unfold Df.trim;rw [hm];rfl);have hbz:=xzzl;rw [HZ.out]at hbz
  have hz0:d0.size=259:=by rw [<-HZ.out];exact xzac _ _ _ _
  go_enter Tryz.func35,Tryz.ntmps35
  go_wp2_with(first
   |((with_reducible refine xzbt (.tmp 1) ?_ ?_ H2.out.2.1 ?_ ?_);exact rfl;exact rfl;kernel_rfl;rw [HDC.out])
   |(go_at_call 47
     refine HMA.out.mono ?_;rintro e u1 ⟨rfl,hbu⟩;obtain⟨W9,hsc,hb9,hw9⟩:=xzbe (P:=Tryz.prog) ((hbu.block _ H2.out.2.2.2).trans H2.out.2.2.1) (new:=df0) rfl (xzct _ _ _ _ rfl rfl);have hl9:=loadVarDf (DfB.of hb9);have HB9:=zd (hw9.2.1 _ _ (by omega) (H2.out.1.trans (hbu.mono H2.out.1.size)));rw [HZ.out]at hsc
     clear hbu hb9 hw9)
   |(refine xzaz rfl 35 _ rfl (cells:=d0) (by refine(congrArg (Tryz.prog.built 35) ?_).trans hbz;kernel_rfl) ?_))
  exact bodyPost_ret (xzae rfl rfl hl9) rfl ⟨_,rfl,by rw [HTR.out];exact xzkh _,HB9.out⟩
 |true=>
  rw [hm]at HMA;have HTR:=zd (show D.trim=trimP D by unfold Df.trim;rw [hm];rfl);have HMD:=zd (xzlz hm)
  go_enter Tryz.func35,Tryz.ntmps35
  go_wp2_with(first
   |((with_reducible refine xzbt (.tmp 1) ?_ ?_ H2.out.2.1 ?_ ?_);exact rfl;exact rfl;kernel_rfl;rw [HDC.out])
   |(go_at_call 47
     refine HMA.out.mono ?_;rintro e u1 ⟨rfl,hbu⟩
     have H3:=zd (show Below w.heap.size w u1/\DfB u1 w.heap.size D.of D.n (.slice A D.next.length c) (.slice B D.tag.length c')/\BlkIs u1 (w.heap.size+1) 35 df0/\w.heap.size+1<u1.heap.size from
      ⟨H2.out.1.trans (hbu.mono H2.out.1.size),H2.out.2.1.step hbu,(hbu.block _ H2.out.2.2.2).trans H2.out.2.2.1,by have:=hbu.size;have:=H2.out.2.2.2;omega⟩)
     clear hbu HMA)
   |((with_reducible refine xzbt (.tmp 1) ?_ ?_ H3.out.2.1 ?_ ?_);exact rfl;exact rfl;kernel_rfl;rw [HDC.out])
   |(go_at_call 55
     refine(xzrx D _ u1 (HAT.out.step H3.out.1) HMD.out).mono ?_;rintro e u2 ⟨vt,rfl,hat,hatw,hb2⟩;obtain⟨A5,c5,B5,c5',rfl⟩:=xzal hat;obtain⟨W9,hsc,hb9,hw9⟩:=xzbe (P:=Tryz.prog) ((hb2.block _ H3.out.2.2.2).trans H3.out.2.2.1) (new:=dfC (trimP D).of (trimP D).n (.slice A5 (trimP D).next.length c5) (.slice B5 (trimP D).tag.length c5')) (by rw [xzac];exact(xzac _ _ _ _).symm) (xzct _ _ _ _ rfl rfl);have hl9:=loadVarDf (DfB.of hb9);have hds9:(dfC (trimP D).of (trimP D).n (.slice A5 (trimP D).next.length c5) (.slice B5 (trimP D).tag.length c5')).size=259:=xzac _ _ _ _
     have HB9:=zd (show DfAt W9 (trimP D) (.agg (dfC (trimP D).of (trimP D).n (.slice A5 (trimP D).next.length c5) (.slice B5 (trimP D).tag.length c5')))/\Below w.heap.size w W9 from
      ⟨hatw _ _ H3.out.2.2.2 hw9,hw9.2.1 _ _ (by omega) (H3.out.1.trans (hb2.mono (by have:=H3.out.1.size;omega)))⟩)
     obtain⟨d9,hd9⟩:∃ d9,dfC (trimP D).of (trimP D).n (.slice A5 (trimP D).next.length c5) (.slice B5 (trimP D).tag.length c5')=d9:=⟨_,rfl⟩;rw [hd9]at hsc hl9 HB9 hds9;rw [hd9]
     clear hb2 hb9 hw9 hat hatw hd9))
  exact bodyPost_ret (xzae rfl rfl hl9) rfl ⟨_,rfl,by rw [HTR.out];exact HB9.out.1,HB9.out.2⟩
end
section
open Go.RowKit
attribute [local irreducible] FreeW textFrame
theorem yzfj (D:Df)(i:Nat)(h1:i<D.next.length)(h2:i<D.tag.length):((D.next.drop i).all (rowOk D.n D.next.length)&&inB 40 (D.tag.drop i))=(rowOk D.n D.next.length D.next[i]&&(decide (-1<=D.tag[i])&&decide (D.tag[i]<40))&&((D.next.drop (i+1)).all (rowOk D.n D.next.length)&&inB 40 (D.tag.drop (i+1)))):=by
 rw [List.drop_eq_getElem_cons h1,List.drop_eq_getElem_cons h2];unfold inB;rw [List.all_cons,List.all_cons];generalize rowOk D.n D.next.length D.next[i]=a;generalize(decide (-1<=D.tag[i])&&decide (D.tag[i]<40))=b;generalize(List.drop (i+1) D.next).all (rowOk D.n D.next.length)=c;generalize((List.drop (i+1) D.tag).all _)=d
 cases a<;>cases b<;>cases c<;>cases d<;>rfl
set_option maxRecDepth 20000 in
set_option maxHeartbeats 8000000 in
theorem xzjr (D:Df)(v:Value)(w:World)(h:DfAt w D v)(hf:∀ b,b<256->D.of b<256):
 Calls Tryz.prog 10 #[v] w fun e w'=>e=.returned (.bool D.may)/\Below w.heap.size w w':=by
 obtain⟨vn,vt,rfl,hrn,hrt⟩:=h;obtain⟨A,c,rfl,hcn,hgn⟩:=hrn;obtain⟨B,c',rfl,hct,hgt⟩:=hrt;obtain⟨W1,hbx,hsz,hb1,hx1⟩:=xzbu D.of D.n (.slice A D.next.length c) (.slice B D.tag.length c') w;have HD:=zd (And.intro (DfB.of hx1) (And.intro hb1 (show w.heap.size<W1.heap.size by omega)));have HN:=zd hgn;have HT:=zd hgt;obtain⟨dc,hdc⟩:∃ dc,dfC D.of D.n (.slice A D.next.length c) (.slice B D.tag.length c')=dc:=⟨_,rfl⟩;rw [hdc]at hbx
 have hds:dc.size=259:=by rw [<-hdc];exact xzac _ _ _ _
 rw [hdc];have HMC:=zd (xzts D.of D.n hf W1);obtain⟨R,hR⟩:∃ R,R=D.may:=⟨_,rfl⟩;rw [<-hR];unfold Df.may Df.sized at hR;clear hgn hgt hb1 hx1 hdc hf;obtain⟨cl,hcl⟩:∃ cl,clsC D.of D.n=cl:=⟨_,rfl⟩;rw [hcl]at HMC
 have hcs:cl.size=257:=by rw [<-hcl];exact xzaj _ _
 have HCL:=zd hcl;clear hcl
 cases hmc:mayB D.of D.n with
 |false=>
  have HF:=zd (show R=false by rw [hR,hmc];simp);clear hR
  go_enter Tryz.func10,Tryz.ntmps10
  go_wp2_with(first
   |((with_reducible refine xzcj rfl (.tmp 5) ?_ ?_ HD.out.1 ?_);exact rfl;exact rfl;rw [HCL.out])
   |(go_at_call 27;refine HMC.out.mono ?_;rintro e u1 ⟨rfl,hbu⟩;rw [hmc];have HU:=zd (show DfB u1 w.heap.size D.of D.n (.slice A D.next.length c) (.slice B D.tag.length c')/\Below w.heap.size w u1/\w.heap.size<u1.heap.size from⟨HD.out.1.step hbu,HD.out.2.1.trans (hbu.mono HD.out.2.1.size),by have:=hbu.size;have:=HD.out.2.2;omega⟩);have k257:=HU.out.1.cells.2.1;have k258:=HU.out.1.cells.2.2;clear hbu))
  go_ret;exact⟨by rw [HF.out];rfl,HU.out.2.1⟩
 |true=>
  rw [hmc,Bool.true_and]at hR
  by_cases k1:600<D.next.length
  ·have e1:decide ((D.next.length:Int)>600)=true:=by simp;omega
   have e1b:decide ((600:Int)<(D.next.length:Int))=true:=by simp;omega
   have HF:=zd (show R=false by rw [hR];simp;intro h;omega);clear hR k1
   go_enter Tryz.func10,Tryz.ntmps10
   go_wp2_with(first
   |((with_reducible refine xzcj rfl (.tmp 5) ?_ ?_ HD.out.1 ?_);exact rfl;exact rfl;rw [HCL.out])
   |(go_at_call 27;refine HMC.out.mono ?_;rintro e u1 ⟨rfl,hbu⟩;rw [hmc];have HU:=zd (show DfB u1 w.heap.size D.of D.n (.slice A D.next.length c) (.slice B D.tag.length c')/\Below w.heap.size w u1/\w.heap.size<u1.heap.size from⟨HD.out.1.step hbu,HD.out.2.1.trans (hbu.mono HD.out.2.1.size),by have:=hbu.size;have:=HD.out.2.2;omega⟩);have k257:=HU.out.1.cells.2.1;have k258:=HU.out.1.cells.2.2;clear hbu))
   go_ret;exact⟨by rw [HF.out];rfl,HU.out.2.1⟩
  have e1:decide ((D.next.length:Int)>600)=false:=by simp;omega
  have e1b:decide ((600:Int)<(D.next.length:Int))=false:=by simp;omega
  by_cases k2:D.tag.length=D.next.length
  case neg=>
   have e2:((D.tag.length:Int) != (D.next.length:Int))=true:=by simp;omega
   have HF:=zd (show R=false by rw [hR];simp;intro h1 h2;exact absurd h2 k2);clear hR k1 k2
   go_enter Tryz.func10,Tryz.ntmps10
   go_wp2_with(first
   |((with_reducible refine xzcj rfl (.tmp 5) ?_ ?_ HD.out.1 ?_);exact rfl;exact rfl;rw [HCL.out])
   |(go_at_call 27;refine HMC.out.mono ?_;rintro e u1 ⟨rfl,hbu⟩;rw [hmc];have HU:=zd (show DfB u1 w.heap.size D.of D.n (.slice A D.next.length c) (.slice B D.tag.length c')/\Below w.heap.size w u1/\w.heap.size<u1.heap.size from⟨HD.out.1.step hbu,HD.out.2.1.trans (hbu.mono HD.out.2.1.size),by have:=hbu.size;have:=HD.out.2.2;omega⟩);have k257:=HU.out.1.cells.2.1;have k258:=HU.out.1.cells.2.2;clear hbu))
   go_ret;exact⟨by rw [HF.out];rfl,HU.out.2.1⟩
  have e2:((D.tag.length:Int) != (D.next.length:Int))=false:=by simp;omega
  have HR0:=zd (show R=((D.next.drop 0).all (rowOk D.n D.next.length)&&inB 40 (D.tag.drop 0))by rw [hR,decide_eq_true (show D.next.length<=600 by omega)];simp [k2]);have HMD:=zd (yzfj D);have K2:=zd k2;clear hR k2
  go_enter Tryz.func10,Tryz.ntmps10
  go_wp2_with(first
   |((with_reducible refine xzcj rfl (.tmp 5) ?_ ?_ HD.out.1 ?_);exact rfl;exact rfl;rw [HCL.out])
   |(go_at_call 27;refine HMC.out.mono ?_;rintro e u1 ⟨rfl,hbu⟩;rw [hmc];have HU:=zd (show DfB u1 w.heap.size D.of D.n (.slice A D.next.length c) (.slice B D.tag.length c')/\Below w.heap.size w u1/\w.heap.size<u1.heap.size from⟨HD.out.1.step hbu,HD.out.2.1.trans (hbu.mono HD.out.2.1.size),by have:=hbu.size;have:=HD.out.2.2;omega⟩);have k257:=HU.out.1.cells.2.1;have k258:=HU.out.1.cells.2.2;clear hbu))
  clear hbx hds hcs HMC HCL HD k257 k258
  go_loopw [3,4] (fun i _ wr=>∃ j:Nat,i=.int .i64 j/\j<=D.next.length/\Hid (Below u1.heap.size u1 wr/\R=((D.next.drop j).all (rowOk D.n D.next.length)&&inB 40 (D.tag.drop j)))) (fun i _ _=>D.next.length - (intOf i).toNat)
  case atStart=>exact⟨0,rfl,Nat.zero_le _,zd ⟨Below.refl _ _,HR0.out⟩⟩
  case round=>
   obtain⟨j,rfl,hj,HH⟩:=hrel;obtain⟨w1,rfl⟩:∃ w1,w1=wr:=⟨_,rfl⟩;have hd1:=HU.out.1.step HH.out.1;have hbw:=HU.out.2.1.trans (HH.out.1.mono HU.out.2.1.size);obtain⟨k256,k257,k258⟩:=hd1.cells
   by_cases hp:j<D.next.length
   ·have hk1:IntKind.i64.wrap ((j:Int)+1)=((j+1:Nat):Int):=by rw [IntKind.wrap_i64];omega
    have hdl:decide ((j:Int)<(D.next.length:Int))=true:=by simp;omega
    have hpt:j<D.tag.length:=by rw [K2.out];exact hp
    have i1:(j:Int)<(D.next.length:Int):=by omega
    have i2:(j:Int)<(D.tag.length:Int):=by omega
    have i2b:decide ((j:Int)<(D.tag.length:Int))=true:=by simp;omega
    obtain⟨bn,on,rfl,hltn,hgr⟩:=HN.out (by intro e;rw [e]at hp;simp at hp);obtain⟨bt,ot,rfl,hltt,hgg⟩:=HT.out (by intro e;rw [e]at hpt;simp at hpt);obtain⟨vr,hcr,hvr⟩:=hgr j hp;have hcell:=(hbw.cell (p:=⟨bn,on+j,none⟩) hltn).trans hcr;have hcellt:=(hbw.cell (p:=⟨bt,ot+j,none⟩) hltt).trans (hgg j hpt);obtain⟨Ar,cr,rfl,hcr2,hgrr⟩:=hvr;have HGR:=zd hgrr;have HDR:=zd (HMD.out j hp hpt);have hcr':=hcr;clear hgr hgg hcr hgrr;generalize D.next[j]=r at*;generalize D.tag[j]=t at*
    by_cases g1:(r.length:Int)=D.n
    case neg=>
     have q1:((r.length:Int) != D.n)=true:=by rw [bne_iff_ne];exact g1
     have HF:=zd (show R=false by rw [HH.out.2,HDR.out];unfold rowOk;simp [g1]);clear g1
     go_wp2_with fail
     go_quiet (fail)
     go_wp2;go_ret;exact⟨by rw [HF.out];rfl,xzar hbw _⟩
    have q1:((r.length:Int) != D.n)=false:=by rw [bne_eq_false_iff_eq];exact g1
    by_cases g2:t< -1
    ·have q2:decide (t< -1)=true:=by simp;omega
     have HF:=zd (show R=false by rw [HH.out.2,HDR.out,decide_eq_false (show ¬ -1<=t by omega)];simp);clear g1 g2
     go_wp2_with fail
     go_quiet (fail)
     go_wp2;go_ret;exact⟨by rw [HF.out];rfl,xzar hbw _⟩
    have q2:decide (t< -1)=false:=by simp;omega
    by_cases g3:39<t
    ·have q3:decide (t>39)=true:=by simp;omega
     have q3b:decide (39<t)=true:=by simp;omega
     have HF:=zd (show R=false by rw [HH.out.2,HDR.out,decide_eq_false (show ¬ t<40 by omega)];simp);clear g1 g2 g3
     go_wp2_with fail
     go_quiet (fail)
     go_wp2;go_ret;exact⟨by rw [HF.out];rfl,xzar hbw _⟩
    have q3:decide (t>39)=false:=by simp;omega
    have q3b:decide (39<t)=false:=by simp;omega
    obtain⟨Z,hZ⟩:∃ Z,((D.next.drop (j+1)).all (rowOk D.n D.next.length)&&inB 40 (D.tag.drop (j+1)))=Z:=⟨_,rfl⟩
    have HI0:=zd (show R=(inB D.next.length (r.drop 0)&&Z)by
     rw [HH.out.2,HDR.out,hZ,decide_eq_true (show -1<=t by omega),decide_eq_true (show t<40 by omega)];unfold rowOk
     simp [g1])
    have HZ:=zd hZ;clear g1 g2 g3 hZ
    go_wp2_with fail
    go_quiet (fail)
    go_wp2
    go_loopw [4] (fun i wr=>∃ c:Nat,i=.int .i64 c/\c<=r.length/\Hid (Below u1.heap.size u1 wr/\R=(inB D.next.length (r.drop c)&&Z))) (fun i _=>r.length - (intOf i).toNat)
    case atStart=>exact⟨0,rfl,Nat.zero_le _,zd ⟨xzar HH.out.1 _,HI0.out⟩⟩
    case round=>
     obtain⟨c2,rfl,hc2,HI⟩:=hrel;obtain⟨w2,rfl⟩:∃ w2,w2=wr:=⟨_,rfl⟩;have hd2:=HU.out.1.step HI.out.1;have hbw2:=HU.out.2.1.trans (HI.out.1.mono HU.out.2.1.size);clear k256 k257 k258 hcell hcellt hbw hd1 q1 q2 q3 q3b;obtain⟨k256,k257,k258⟩:=hd2.cells;have hcell:=(hbw2.cell (p:=⟨bn,on+j,none⟩) hltn).trans hcr'
     by_cases hq:c2<r.length
     ·have hk2:IntKind.i64.wrap ((c2:Int)+1)=((c2+1:Nat):Int):=by rw [IntKind.wrap_i64];omega
      have hdl2:decide ((c2:Int)<(r.length:Int))=true:=by simp;omega
      have i3:(c2:Int)<(r.length:Int):=by omega
      obtain⟨br,or,rfl,hltr,hgx⟩:=HGR.out (by intro e;rw [e]at hq;simp at hq);have hcx:=(hbw2.cell (p:=⟨br,or+c2,none⟩) hltr).trans (hgx c2 hq);have hdd:=HI.out.2;rw [List.drop_eq_getElem_cons hq]at hdd;unfold inB at hdd;rw [List.all_cons]at hdd;clear hgx;generalize r[c2]=x at*;have HX:=zd hdd;clear hdd
      by_cases g1:x< -1
      ·have q1:decide (x< -1)=true:=by simp;omega
       have HF:=zd (show R=false by rw [HX.out,decide_eq_false (show ¬ -1<=x by omega)];simp);clear g1
       go_wp2_with fail
       go_quiet (fail)
       go_wp2;go_ret;exact⟨by rw [HF.out];rfl,xzar hbw2 _⟩
      have q1:decide (x< -1)=false:=by simp;omega
      by_cases g2:x<(D.next.length:Int)
      ·have q2:decide (x>=(D.next.length:Int))=false:=by simp;omega
       have q2b:decide ((D.next.length:Int)<=x)=false:=by simp;omega
       have HN2:=zd (show R=(inB D.next.length (r.drop (c2+1))&&Z)by
        rw [HX.out,decide_eq_true (show -1<=x by omega),decide_eq_true g2];rfl)
       clear g1 g2
       go_wp2_with fail
       go_quiet (fail)
       go_wp2;exact⟨⟨c2+1,rfl,hq,zd ⟨xzar HI.out.1 _,HN2.out⟩⟩,by simp [intOf];omega⟩
      ·have q2:decide (x>=(D.next.length:Int))=true:=by simp;omega
       have q2b:decide ((D.next.length:Int)<=x)=true:=by simp;omega
       have HF:=zd (show R=false by rw [HX.out,decide_eq_false g2];simp);clear g1 g2
       go_wp2_with fail
       go_quiet (fail)
       go_wp2;go_ret;exact⟨by rw [HF.out];rfl,xzar hbw2 _⟩
     ·have hdl2:decide ((c2:Int)<(r.length:Int))=false:=by simp;omega
      obtain rfl:c2=r.length:=by omega
      have HN2:=zd (show R=((D.next.drop (j+1)).all (rowOk D.n D.next.length)&&inB 40 (D.tag.drop (j+1)))by rw [HI.out.2,List.drop_length,HZ.out];rfl);go_wp2;exact⟨⟨j+1,rfl,hp,zd ⟨HI.out.1,HN2.out⟩⟩,by simp [intOf];omega⟩
   ·have hdl:decide ((j:Int)<(D.next.length:Int))=false:=by simp;omega
    obtain rfl:j=D.next.length:=by omega
    have HF:=zd (show R=true by rw [HH.out.2,List.drop_length,<-K2.out,List.drop_length];rfl);go_wp2;go_ret;exact⟨by rw [HF.out];rfl,hbw⟩
end
section
open Go.RowKit
attribute [local irreducible] FreeW textFrame
def Df.stepR (D:Df)(a:Int)(b:Nat):Int:=if a<0\/(D.next.length:Int)<=a then -1 else D.nxt a b
set_option maxRecDepth 20000 in
set_option maxHeartbeats 8000000 in
theorem xzoh (D:Df)(a:Int)(b:Nat)(v:Value)(w:World)(h:DfAt w D v)(hm:MayD D)(hf:∀ b,b<256->D.of b<256)(hb:b<256):
 Calls Tryz.prog 29 #[v,.int .i64 a,.int .u8 (b:Nat)] w fun e w'=>e=.returned (.int .i64 (D.stepR a b))/\Below w.heap.size w w':=by
 obtain⟨vn,vt,rfl,hrn,hrt⟩:=h;obtain⟨An,cn,rfl,hcn,hgn⟩:=hrn;obtain⟨At,ct,rfl,hct,hgt⟩:=hrt;obtain⟨W1,hbx,hsz,hb1,hx1⟩:=xzbu D.of D.n (.slice An D.next.length cn) (.slice At D.tag.length ct) w;have hd1:=DfB.of hx1;obtain⟨c256,c257,c258⟩:=hd1.cells;have c0:=hd1.ofAt hb;have HB:=zd hb1;obtain⟨dc,hdc⟩:∃ dc,dfC D.of D.n (.slice An D.next.length cn) (.slice At D.tag.length ct)=dc:=⟨_,rfl⟩;rw [hdc]at hbx
 have hds:dc.size=259:=by rw [<-hdc];exact xzac _ _ _ _
 rw [hdc];obtain⟨R,hR⟩:∃ R,D.stepR a b=R:=⟨_,rfl⟩;rw [hR];unfold Df.stepR at hR
 by_cases h1:a<0
 ·have e1:decide (a<0)=true:=by simp;omega
  have HN:=zd (show R= -1 by rw [<-hR,if_pos (.inl h1)]);clear hR h1 hb1 hx1 hd1 hgn hgt hdc hm hf
  go_enter Tryz.func29,Tryz.ntmps29
  go_wp2;go_ret;exact⟨by rw [HN.out];rfl,HB.out⟩
 have e1:decide (a<0)=false:=by simp;omega
 by_cases h2:(D.next.length:Int)<=a
 ·have e2:decide (a>=(D.next.length:Int))=true:=by simp;omega
  have e2b:decide ((D.next.length:Int)<=a)=true:=by simp;omega
  have HN:=zd (show R= -1 by rw [<-hR,if_pos (.inr h2)]);clear hR h1 h2 hb1 hx1 hd1 hgn hgt hdc hm hf
  go_enter Tryz.func29,Tryz.ntmps29
  go_wp2;go_ret;exact⟨by rw [HN.out];rfl,HB.out⟩
 rw [if_neg (by omega)]at hR;obtain⟨an,rfl⟩:∃ an:Nat,a=(an:Nat):=⟨a.toNat,by omega⟩
 have ha:an<D.next.length:=by omega
 have e2:decide ((an:Int)>=(D.next.length:Int))=false:=by simp;omega
 have e2b:decide ((D.next.length:Int)<=(an:Int))=false:=by simp;omega
 have hc:D.of b<D.next[an].length:=by have h1:=hm.cl b hb;have h2:=(hm.rows _ (List.getElem_mem ha)).1;omega
 obtain⟨bn,on,rfl,hlt,hg⟩:=hgn (by intro e;rw [e]at ha;simp at ha);obtain⟨vr,hcell0,hvr⟩:=hg an ha;obtain⟨Ar,cr,rfl,hcr,hgr⟩:=hvr;obtain⟨br,or,rfl,hltr,hgr2⟩:=hgr (by intro e;rw [e]at hc;simp at hc);have hcell:=(hb1.cell (p:=⟨bn,on+an,none⟩) hlt).trans hcell0;have hcell2:=(hb1.cell (p:=⟨br,or+D.of b,none⟩) hltr).trans (hgr2 (D.of b) hc)
 have i1:decide ((an:Int)<(D.next.length:Int))=true:=by simp;omega
 have i2:decide ((b:Int)<256)=true:=by simp;omega
 have i3:decide ((D.of b:Int)<(D.next[an].length:Int))=true:=by simp;omega
 have hN:D.nxt (an:Nat) b=D.next[an][D.of b]:=by
  unfold Df.nxt;rw [List.getD_eq_getElem?_getD,List.getD_eq_getElem?_getD,Int.toNat_natCast,List.getElem?_eq_getElem ha,Option.getD_some,List.getElem?_eq_getElem hc];rfl
 rw [hN]at hR;have HN:=zd hR.symm;have HF:=zd (hf b hb);have HHB:=zd hb;clear hb1 hx1 hd1 hgn hg hgr hgr2 hgt hdc hf hm hcell0 hN hR h1 h2;generalize D.next[an][D.of b]=x at*;generalize D.next[an].length=nr at*;generalize D.next.length=nn at*;generalize D.of b=c at*;generalize D.n=n at*
 go_enter Tryz.func29,Tryz.ntmps29
 go_wp2_with fail
 go_region
 go_wp2;go_ret;exact⟨by rw [HN.out];rfl,HB.out.drew⟩
end
section
open Go.RowKit
def Df.nx (D:Df)(a:Int)(b:Nat):Int:=if a= -1 then -1 else D.nxt a b
def Df.tg (D:Df)(a:Int):Int:=if a= -1 then -1 else D.tag.getD a.toNat (-1)
def Df.first (D:Df):Int:=if D.next.length=0 then -1 else 0
def Df.InS (D:Df)(a:Int):Prop:= -1<=a/\a<(D.next.length:Int)
abbrev SS:=Int×Int
def noS (s:SS):Bool:=decide (s=((-1, -1):SS))
def dlt (A B:Df)(s:SS)(b:Nat):SS:=(A.nx s.1 b,B.nx s.2 b)
def startF (A B:Df):List (SS×List Nat):=meetQ noS [] ((A.first,B.first),[])
def kindS (A B:Df)(b:Nat):Nat×Nat:=(A.of b,B.of b)
def lbs (A B:Df):List Nat:=leastQ (kindS A B) 256
def foundTo (A B:Df)(k:Nat):List (SS×List Nat):=walkQ noS (dlt A B) (lbs A B) (startF A B) k
def boundS (A B:Df):Nat:=(A.next.length+1)*(B.next.length+1)
def allF (A B:Df):List (SS×List Nat):=foundTo A B (boundS A B)
def foundR (A B:Df)(k:Nat):List (SS×List Nat):=walkQ noS (dlt A B) (List.range 256) (startF A B) k
theorem yzcp {D:Df}{a b:Nat}(h:D.of a=D.of b)(q:Int):D.nx q a=D.nx q b:=by unfold Df.nx Df.nxt;rw [h]
theorem xzgt (A B:Df)(k:Nat):foundTo A B k=foundR A B k:=
 xzmo (g:=kindS A B) (fun s a b e=>by
  have h1:A.of a=A.of b:=congrArg Prod.fst e;have h2:B.of a=B.of b:=congrArg Prod.snd e
  show(A.nx s.1 a,B.nx s.2 a)=(A.nx s.1 b,B.nx s.2 b)
  rw [yzcp h1,yzcp h2]) 256 _ k
theorem xzqo (D:Df):D.InS D.first:=by unfold Df.InS Df.first;split<;>omega
theorem MayD.nx_in {D:Df}(h:MayD D)(a:Int)(b:Nat):D.InS (D.nx a b):=by
 unfold Df.nx;split
 ·exact⟨by omega,by omega⟩
 ·exact h.nxt_in a b
theorem nx_in {D:Df}(h:WfN D.next)(a:Int)(b:Nat):D.InS (D.nx a b):=by
 unfold Df.nx;split
 ·exact⟨by omega,by omega⟩
 ·unfold Df.nxt
  rw [List.getD_eq_getElem?_getD (i:=D.of b)]
  by_cases h2:D.of b<(D.next.getD a.toNat []).length
  ·rw [List.getElem?_eq_getElem h2]
   exact h.row a.toNat _ (List.getElem_mem h2)
  ·rw [List.getElem?_eq_none (by omega)];exact⟨by simp,by simp;omega⟩
theorem yzbk (A B:Df):((startF A B).map Prod.fst).Nodup/\∀ y∈startF A B,noS y.1=false/\A.InS y.1.1/\B.InS y.1.2:=
 xzwb (fun s:SS=>A.InS s.1/\B.InS s.2) ⟨by simp,by simp⟩ ⟨xzqo A,xzqo B⟩
section
variable {A B : Df} (hA : WfN A.next) (hB : WfN B.next)
include hA hB
theorem xzfc (k:Nat):((foundTo A B k).map Prod.fst).Nodup/\∀ y∈foundTo A B k,noS y.1=false/\A.InS y.1.1/\B.InS y.1.2:=
 xzwc (fun s:SS=>A.InS s.1/\B.InS s.2) (fun _ _ _=>⟨nx_in hA _ _,nx_in hB _ _⟩) (yzbk A B) k
theorem xzcl (k:Nat):(foundTo A B k).length<=boundS A B:=by
 obtain⟨h1,h2⟩:=xzfc hA hB k
 have hc:∀ y∈foundTo A B k,(y.1.1+1).toNat<=A.next.length/\(y.1.2+1).toNat<B.next.length+1:=fun y hy=>by
  obtain⟨_,h3,h4⟩:=h2 y hy;unfold Df.InS at h3 h4;omega
 have key:InR (boundS A B) ((foundTo A B k).map fun y=>(((y.1.1+1).toNat*(B.next.length+1)+(y.1.2+1).toNat:Nat):Int)):=by
  refine⟨?_,fun x hx=>?_⟩
  ·have e:((foundTo A B k).map fun y=>(((y.1.1+1).toNat*(B.next.length+1)+(y.1.2+1).toNat:Nat):Int))=((foundTo A B k).map Prod.fst).map fun s=>(((s.1+1).toNat*(B.next.length+1)+(s.2+1).toNat:Nat):Int):=by
    rw [List.map_map];rfl
   rw [e];unfold List.Nodup;rw [List.pairwise_map];refine List.Pairwise.imp_of_mem ?_ h1;intro s t hs ht hne e2;obtain⟨y,hy,rfl⟩:=List.mem_map.1 hs;obtain⟨z,hz,rfl⟩:=List.mem_map.1 ht;have e3:=Int.ofNat.inj e2;have a1:=congrArg (· %(B.next.length+1)) e3;have a2:=congrArg (· / (B.next.length+1)) e3;simp only [Nat.mul_add_mod_self_right]at a1;rw [Nat.mod_eq_of_lt (hc y hy).2,Nat.mod_eq_of_lt (hc z hz).2]at a1;rw [a1]at e3;have a3:=Nat.eq_of_mul_eq_mul_right (Nat.succ_pos _) (Nat.add_right_cancel e3);obtain⟨_,b1,b2⟩:=h2 y hy;obtain⟨_,b3,b4⟩:=h2 z hz;unfold Df.InS at b1 b2 b3 b4;exact hne (Prod.ext (by omega) (by omega))
  ·obtain⟨y,hy,rfl⟩:=List.mem_map.1 hx
   obtain⟨c1,c2⟩:=hc y hy;refine⟨Int.natCast_nonneg _,?_⟩;have:(y.1.1+1).toNat*(B.next.length+1)<=A.next.length*(B.next.length+1):=Nat.mul_le_mul_right _ c1
   have e:boundS A B=A.next.length*(B.next.length+1)+(B.next.length+1):=by unfold boundS;rw [Nat.add_mul,Nat.one_mul]
   omega
 have:=xzcb _ _ key
 rwa [List.length_map]at this
theorem xzed (k:Nat):foundTo A B k<+:allF A B:=by
 by_cases h:k<=boundS A B
 ·exact yzaw h
 ·have e:foundTo A B k=allF A B:=xzdw (xzcl hA hB (boundS A B)) k (by omega)
  rw [e];exact List.prefix_refl _
theorem xzcm {k:Nat}(h:(foundTo A B k).length<=k):foundTo A B k=allF A B:=by
 by_cases hk:k<=boundS A B
 ·exact(xzdw h (boundS A B) hk).symm
 ·exact xzdw (xzcl hA hB (boundS A B)) k (by omega)
end
def tellQ (p:SS->Bool)(F:List (SS×List Nat)):Option (SS×List Nat):=F.find? fun x=>p x.1
theorem xzmr {p:SS->Bool}{F:List (SS×List Nat)}{k:Nat}(hk:k<F.length)(hp:p (F[k]).1=true)(hn:∀ (i:Nat) (h:i<k),p (F[i]'(by omega)).1=false):tellQ p F=some F[k]:=by
 unfold tellQ;rw [List.find?_eq_some_iff_getElem];exact⟨hp,k,hk,rfl,fun i hi=>by rw [hn i hi];rfl⟩
theorem xzms {p:SS->Bool}{F:List (SS×List Nat)}(h:∀ (i:Nat) (h:i<F.length),p (F[i]).1=false):tellQ p F=none:=by
 unfold tellQ;rw [List.find?_eq_none];intro x hx;obtain⟨i,hi,rfl⟩:=List.mem_iff_getElem.1 hx;rw [h i hi];decide
def txB (l:List Nat):ByteArray:=⟨(l.map UInt8.ofNat).toArray⟩
theorem xzwv (l:List Nat):(txB l).size=l.length:=by show((l.map UInt8.ofNat).toArray).size=_;simp
def Df.bare (D:Df):Df:=⟨D.of,D.n,[],[]⟩
theorem xzww (D:Df):WfN D.bare.next:=fun r hr=>by cases hr
section
variable {D : Df}
theorem yzbl (h0:Lv D 0):numL (keptL D) 0=0:=by
 have hn:D.next.length≠0:=by have:=h0.in;omega
 have hf:[0]<+:foundL D.next (firstL D):=by
  have:firstL D=[0]:=by unfold firstL;rw [if_neg hn]
  rw [this];exact xzqf D.next [0] (Nat.zero_le _)
 obtain⟨c,e⟩:=hf
 have e2:keptL D=0::c.filter (lvB D):=by
  unfold keptL;rw [<-e,List.singleton_append,List.filter_cons_of_pos (lvB_iff.2 h0)]
 rw [e2];unfold numL;rw [if_pos (List.mem_cons_self ..),List.idxOf_cons_self];rfl
theorem xzwx (hw:WfN D.next){x:Int}(hx:x∈keptL D)(b:Nat):(trimP D).nx (numL (keptL D) x) b=numL (keptL D) (D.nx x b):=by
 have h1:=xzge hx;have h2:=(xzdc hw).2 x hx
 have e1: ¬ numL (keptL D) x= -1:=by omega
 have e2: ¬ x= -1:=by omega
 unfold Df.nx;rw [if_neg e1,if_neg e2];unfold Df.nxt;rw [yzfc hx]
 show((D.next.getD x.toNat []).map (numL (keptL D))).getD (D.of b) (-1)=_
 rw [List.getD_eq_getElem?_getD,List.getElem?_map,List.getD_eq_getElem?_getD (l:=D.next.getD x.toNat [])]
 cases h:(D.next.getD x.toNat [])[D.of b]? with
 |some y=>rfl
 |none=>
  show(-1:Int)=numL (keptL D) (-1)
  rw [xzks];intro hm;have:=(xzdc hw).2 _ hm;omega
theorem yzfk {x:Int}(hx:x≠ -1)(b:Nat)(hn:D.nx x b≠ -1):D.nx x b∈D.next.getD x.toNat []:=by
 unfold Df.nx at hn ⊢;rw [if_neg hx]at hn ⊢;unfold Df.nxt at hn ⊢;rw [List.getD_eq_getElem?_getD (i:=D.of b)]at hn ⊢
 cases h:(D.next.getD x.toNat [])[D.of b]? with
 |some y=>exact List.mem_of_getElem? h
 |none=>rw [h]at hn;exact absurd rfl hn
def twoS (D:Df)(s:SS):Prop:=s.1=s.2/\(s.1= -1\/s.1∈foundL D.next (firstL D))
theorem xzwy (hw:WfN D.next):SimQ noS (dlt D D) noS (dlt (trimP D) D.bare) (fun s=>lvB D s.1) (twoS D) (fun s=>((numL (keptL D) s.1, -1):SS)) where
 no0:=fun s h=>by
  have:s=((-1, -1):SS):=of_decide_eq_true h;subst this;exact xzih D
 dead:=fun s b hs h=>by
  rw [Bool.eq_false_iff]at h ⊢;intro hl;refine h (lvB_iff.2 ?_);have hl':=lvB_iff.1 hl
  change Lv D (D.nx s.1 b)at hl'
  have h1:=hl'.in
  have hne:s.1≠ -1:=fun e=>by
   unfold Df.nx at h1;rw [if_pos e]at h1;omega
  have hin:0<=s.1/\s.1<(D.next.length:Int):=by
   rcases hs.2 with h2|h2
   ·exact absurd h2 hne
   ·exact(xzfq hw (xzdx D)).2 _ h2
  exact .step hin.1 hin.2 (yzfk hne b (by omega)) hl'
 on:=fun s b hs=>by
  refine⟨by show D.nx s.1 b=D.nx s.2 b;rw [hs.1],?_⟩
  show D.nx s.1 b= -1\/D.nx s.1 b∈_
  by_cases hn:D.nx s.1 b= -1
  ·exact .inl hn
  ·have hne:s.1≠ -1:=fun e=>by unfold Df.nx at hn;rw [if_pos e]at hn;exact hn rfl
   rcases hs.2 with h2|h2
   ·exact absurd h2 hne
   ·exact .inr (xzem hw (xzdx D) h2 (yzfk hne b hn) hn)
 same:=fun s b hs h1 _=>by
  have hk:s.1∈keptL D:=kept_mem.2 ⟨by
   rcases hs.2 with h2|h2
   ·rw [h2,xzih]at h1;cases h1
   ·exact h2,lvB_iff.1 h1⟩
  refine Prod.ext ?_ ?_
  ·exact xzwx hw hk b
  ·show D.bare.nx (-1) b= -1
   unfold Df.nx;rw [if_pos rfl]
 out:=fun s b hs h1 h2=>by
  have hk:s.1∈keptL D:=kept_mem.2 ⟨by
   rcases hs.2 with h2|h2
   ·rw [h2,xzih]at h1;cases h1
   ·exact h2,lvB_iff.1 h1⟩
  refine decide_eq_true (Prod.ext ?_ ?_)
  ·show(trimP D).nx (numL (keptL D) s.1) b= -1
   rw [xzwx hw hk b]
   refine xzks fun hm=>?_
   change lvB D (D.nx s.1 b)=false at h2
   rw [lvB_iff.2 (kept_mem.1 hm).2]at h2
   cases h2
  ·show D.bare.nx (-1) b= -1
   unfold Df.nx;rw [if_pos rfl]
 live:=fun s hs h1=>by
  have hk:s.1∈keptL D:=kept_mem.2 ⟨by
   rcases hs.2 with h2|h2
   ·rw [h2,xzih]at h1;cases h1
   ·exact h2,lvB_iff.1 h1⟩
  refine decide_eq_false fun e=>?_
  have:=congrArg Prod.fst e;have h3:=xzge hk
  change numL (keptL D) s.1= -1 at this
  omega
 inj:=fun s t hs ht h1 h2 e=>by
  have hk:s.1∈keptL D:=kept_mem.2 ⟨by
   rcases hs.2 with h2|h2
   ·rw [h2,xzih]at h1;cases h1
   ·exact h2,lvB_iff.1 h1⟩
  have hk2:t.1∈keptL D:=kept_mem.2 ⟨by
   rcases ht.2 with h3|h3
   ·rw [h3,xzih]at h2;cases h2
   ·exact h3,lvB_iff.1 h2⟩
  have e1:numL (keptL D) s.1=numL (keptL D) t.1:=congrArg Prod.fst e;have g1:=(xzge hk).2;have g2:=(xzge hk2).2;rw [e1,g2]at g1;have e2:t.1=s.1:=Option.some.inj g1;exact Prod.ext e2.symm (by rw [<-hs.1,<-ht.1,e2])
theorem yzbm:renQ (fun s:SS=>lvB D s.1) (fun s=>((numL (keptL D) s.1, -1):SS)) (startF D D)=startF (trimP D) D.bare:=by
 unfold startF
 by_cases hn:D.next.length=0
 ·have h1:D.first= -1:=by unfold Df.first;rw [if_pos hn]
  have h0: ¬ Lv D 0:=fun h=>by have:=h.in;omega
  have h2:(trimP D).first= -1:=by unfold Df.first;rw [xzii,xzqi h0];rfl
  have h3:D.bare.first= -1:=rfl;rw [h1,h2,h3]
  rfl
 ·have h1:D.first=0:=by unfold Df.first;rw [if_neg hn]
  have h3:D.bare.first= -1:=rfl;rw [h1,h3];have e0:meetQ noS [] (((0,0):SS),([]:List Nat))=[((0,0),[])]:=rfl;rw [e0]
  by_cases h0:Lv D 0
  ·have h2:(trimP D).first=0:=by
    unfold Df.first;rw [xzii,if_neg];have:(0:Int)∈keptL D:=kept_mem.2 ⟨xzig (by unfold firstL;rw [if_neg hn];simp),h0⟩;intro e;rw [List.length_eq_zero_iff.1 e]at this
    cases this
   rw [h2];unfold renQ;rw [List.filter_cons_of_pos (by exact lvB_iff.2 h0)]
   show [(((numL (keptL D) 0, -1):SS),([]:List Nat))]=_
   rw [yzbl h0]
   rfl
  ·have h2:(trimP D).first= -1:=by unfold Df.first;rw [xzii,xzqi h0];rfl
   rw [h2];unfold renQ;rw [List.filter_cons_of_neg (by simp only [lvB_iff];exact h0)]
   rfl
theorem xzqp:∀ y∈startF D D,twoS D y.1:=by
 unfold startF;intro y hy;unfold meetQ at hy
 split at hy
 ·cases hy
 ·simp only [List.nil_append,List.mem_singleton]at hy
  subst hy;refine⟨rfl,?_⟩
  show D.first= -1\/D.first∈_
  unfold Df.first
  split
  ·exact .inl rfl
  ·rename_i h
   exact .inr (xzig (by unfold firstL;rw [if_neg h];simp))
theorem yzfl (hw:WfN D.next)(ht:WfN (trimP D).next):renQ (fun s:SS=>lvB D s.1) (fun s=>((numL (keptL D) s.1, -1):SS)) (allF D D)=allF (trimP D) D.bare:=by
 have hm:(foundTo D D (allF D D).length).length=(allF D D).length:=by
  have h1:=(xzed hw hw (allF D D).length).length_le;rw [xzcm hw hw h1]
 have hall:∀ n,(allF D D).length<=n->foundTo D D n=allF D D:=fun n hn=>by
  refine xzcm hw hw (Nat.le_trans (xzed hw hw n).length_le hn)
 have h:=xzrv (bs:=lbs D D) (xzwy hw) xzqp hm (n:=(allF D D).length+boundS (trimP D) D.bare) (Nat.le_add_right _ _);have e1:walkQ noS (dlt D D) (lbs D D) (startF D D) ((allF D D).length+boundS (trimP D) D.bare)=allF D D:=hall _ (Nat.le_add_right _ _);rw [e1,yzbm]at h;rw [h];exact xzcm ht (xzww D) (Nat.le_trans (xzcl ht (xzww D) _) (Nat.le_add_left _ _))
end
end
section
open Go.RowKit
def seekB (T:Df)(q:Int)(l:List Nat):Option Nat:=l.find? fun b=>decide (T.nx q b≠ -1)
def askO (T:Df)(rule:Int)(m:Nat->Bool)(s:SS):Bool:=decide (T.tg s.1=rule)&&(seekB T s.1 (mems m 256)).isSome
def overP (T:Df)(rule:Int)(m:Nat->Bool):Option (List Nat×Nat):=(tellQ (askO T rule m) (allF T T.bare)).map fun x=>(x.2,(seekB T x.1.1 (mems m 256)).getD 0)
noncomputable def seekR (D:Df)(q:Int)(m:Nat->Bool):Option Nat:=(List.range 256).find? fun b=>m b&&(decide (0<=D.stepR q b)&&lvB D (D.stepR q b))
noncomputable def askR (D:Df)(rule:Int)(m:Nat->Bool)(s:SS):Bool:=decide (D.tg s.1=rule)&&(seekR D s.1 m).isSome
noncomputable def overR (D:Df)(rule:Int)(m:Nat->Bool):Option (List Nat×Nat):=(tellQ (askR D rule m) (allF D D)).map fun x=>(x.2,(seekR D x.1.1 m).getD 0)
theorem xzik {α:Type}{p q:α->Bool}:∀ {l:List α},(∀ a∈l,p a=q a)->l.find? p=l.find? q
 |[],_=>rfl
 |a::l,h=>by
  rw [List.find?_cons,List.find?_cons,h a (List.mem_cons_self ..),xzik fun b hb=>h b (List.mem_cons_of_mem _ hb)]
theorem yzfm {D:Df}{q:Int}(hq:0<=q/\q<(D.next.length:Int))(b:Nat):D.stepR q b=D.nx q b:=by
 unfold Df.stepR Df.nx;rw [if_neg (by omega),if_neg (by omega)]
theorem yzcq {D:Df}(hw:WfN D.next){q:Int}(hk:q∈keptL D)(m:Nat->Bool):seekB (trimP D) (numL (keptL D) q) (mems m 256)=seekR D q m:=by
 have hq:=(xzdc hw).2 q hk;unfold seekB seekR mems;rw [List.find?_filter]
 refine xzik fun b _=>?_
 rw [yzfm hq,xzwx hw hk]
 cases m b
 ·simp
 ·simp only [true_and,Bool.true_and]
  by_cases hl:lvB D (D.nx q b)=true
  ·have h0:=(lvB_iff.1 hl).in
   have hm:D.nx q b∈keptL D:=yzba hw hk (yzfk (by omega) b (by omega)) (lvB_iff.1 hl);have:=xzge hm;rw [hl,decide_eq_true (by omega:numL (keptL D) (D.nx q b)≠ -1),decide_eq_true h0.1];rfl
  ·have hm:D.nx q b∉keptL D:=fun h=>hl (lvB_iff.2 (kept_mem.1 h).2)
   rw [xzks hm,Bool.eq_false_iff.2 hl,Bool.and_false]
   simp
theorem over_eq {D:Df}(hm:MayD D){rule:Int}(hr:0<=rule)(m:Nat->Bool):overP (trimP D) rule m=overR D rule m:=by
 have hw:=hm.wf;have ht:=(xzqj hm).wf;have hb:(trimP D).bare=D.bare:=rfl;unfold overP overR;rw [hb,<-yzfl hw ht];have hP:∀ y∈allF D D,twoS D y.1:=xzwe (no:=noS) (fun s h b=>(xzwy hw).on s b h) xzqp _
 have key:∀ x∈allF D D,lvB D x.1.1=true->x.1.1∈keptL D:=fun x hx h=>kept_mem.2 ⟨by
  rcases(hP x hx).2 with h2|h2
  ·rw [h2,xzih]at h;cases h
  ·exact h2,lvB_iff.1 h⟩
 have e1:tellQ (askO (trimP D) rule m) (renQ (fun s:SS=>lvB D s.1) (fun s=>((numL (keptL D) s.1, -1):SS)) (allF D D))=(tellQ (askR D rule m) (allF D D)).map fun x=>(((numL (keptL D) x.1.1, -1):SS),x.2):=by
  unfold tellQ renQ;rw [List.find?_map,List.find?_filter]
  congr 1
  refine xzik fun x hx=>?_
  simp only [Function.comp];rw [Bool.decide_and,Bool.decide_eq_true,Bool.decide_eq_true]
  cases hl:lvB D x.1.1 with
  |true=>
   have hk:=key x hx hl;unfold askO askR;simp only;rw [yzcq hw hk]
   have e:(trimP D).tg (numL (keptL D) x.1.1)=D.tg x.1.1:=by
    have h1:=xzge hk;have h2:=(xzdc hw).2 _ hk;unfold Df.tg;rw [if_neg (by omega),if_neg (by omega),yzfd hk]
   rw [e]
   simp
  |false=>
   have hn: ¬ Lv D x.1.1:=fun h=>by rw [lvB_iff.2 h]at hl;cases hl
   have e:D.tg x.1.1= -1:=by
    unfold Df.tg
    split
    ·rfl
    ·rename_i hne
     have h2:0<=x.1.1/\x.1.1<(D.next.length:Int):=by
      rcases(hP x hx).2 with h2|h2
      ·exact absurd h2 hne
      ·exact(xzfq hw (xzdx D)).2 _ h2
     exact tag_lv h2.1 h2.2 hn
   unfold askR;rw [e,decide_eq_false (by omega)]
   simp
 rw [e1,Option.map_map]
 cases hf:tellQ (askR D rule m) (allF D D)with
 |none=>rfl
 |some x=>
  have hx:x∈allF D D:=List.mem_of_find?_eq_some hf
  have hp:askR D rule m x.1=true:=by
   have:=List.find?_some hf;exact this
  have hl:lvB D x.1.1=true:=by
   cases hl:lvB D x.1.1 with
   |true=>rfl
   |false=>
    have hn: ¬ Lv D x.1.1:=fun h=>by rw [lvB_iff.2 h]at hl;cases hl
    have e:D.tg x.1.1= -1:=by
     unfold Df.tg
     split
     ·rfl
     ·rename_i hne
      have h2:0<=x.1.1/\x.1.1<(D.next.length:Int):=by
       rcases(hP x hx).2 with h2|h2
       ·exact absurd h2 hne
       ·exact(xzfq hw (xzdx D)).2 _ h2
      exact tag_lv h2.1 h2.2 hn
    unfold askR at hp;rw [e,decide_eq_false (by omega)]at hp
    cases hp
  show some (x.2,(seekB (trimP D) (numL (keptL D) x.1.1) (mems m 256)).getD 0)=some (x.2,(seekR D x.1.1 m).getD 0)
  rw [yzcq hw (key x hx hl)]
end
section
open Go.RowKit
theorem zeroBool (w:World):(zeroValue 4).run Tryz.prog w=.ok (.bool false) w:=by kernel_rfl
abbrev ksV (a b:Int):Value:=.agg #[.int .i16 a,.int .i16 b]
def ksL (a b:Int):Lit:=.string (keyBytes [.int .i16 a,.int .i16 b])
def ksIn (a:Int):Prop:= -32768<=a/\a<32768
theorem kswf {a:Int}(h:ksIn a):(Lit.int .i16 a).wf=true:=by
 unfold ksIn at h
 simp [Lit.wf,IntKind.min,IntKind.max,IntKind.signed,IntKind.bits]
 omega
theorem ksLaw:Maps.Keyed Tryz.prog 65:=
 Maps.Keyed.of_law (deep_law_laid (P:=Tryz.prog) (by kernel_rfl) (m:=2) (by omega) (of_decide_eq_true (by kernel_rfl)) (by kernel_rfl) (by kernel_rfl))
theorem ks_of {a b:Int}(ha:ksIn a)(hb:ksIn b):keyOf Tryz.prog 65 (ksV a b)=some (ksL a b):=by
 have h1:Tryz.prog.keyType 65=true:=by kernel_rfl
 have h2:(ksV a b).formed Tryz.prog 65=true:=by kernel_rfl
 have hd:∃ d,Tryz.prog.types.size+1=d+2:=⟨Tryz.prog.types.size - 1,by have:1<=Tryz.prog.types.size:=of_decide_eq_true (by kernel_rfl);omega⟩;obtain⟨d,hd⟩:=hd
 have hc:Tryz.prog.cellsOf 65=2:=by kernel_rfl
 have hc1:Tryz.prog.cellsOf 63=1:=by kernel_rfl
 unfold keyOf;rw [Tryz.underlying65,hd]
 simp [h1,h2,Program.keyLits,Tryz.underlying65,Tryz.underlying63,hc,hc1,Value.cells,kswf ha,kswf hb,ksL]
theorem ks_inj {a b a' b':Int}(ha:ksIn a)(hb:ksIn b)(ha':ksIn a')(hb':ksIn b')(h:ksL a b=ksL a' b'):a=a'/\b=b':=by
 have h1:=ks_of ha hb;have h2:=ks_of ha' hb';rw [h]at h1;have:=ksLaw.inj h1 h2;simp only [Value.agg.injEq,Array.mk.injEq,List.cons.injEq,Value.int.injEq,true_and,and_true]at this;exact this
theorem ks_lit (a b:Int):WideAt.IsKeyLit (ksL a b):=trivial
def ksMap (W:World)(M n:Nat)(S:Int×Int->Bool):Prop:=∃ D:DataW Unit,W.ownsMap Tryz.prog 65 (plainElem Tryz.prog 4) M n D/\∀ a b,ksIn a->ksIn b->D.atKey (ksL a b) (.lit (.bool false))=.lit (.bool (S (a,b)))
section
variable {W W' : World} {M n : Nat} {S : Int × Int → Bool}
theorem ksMap.lt (h:ksMap W M n S):M<W.heap.size:=by
 obtain⟨D,h1,_⟩:=h;exact h1.lt
theorem ksMap.heap (h:ksMap W M n S)(e:W'.heap[M]? =W.heap[M]?):ksMap W' M n S:=by
 obtain⟨D,h1,h2⟩:=h;refine⟨D,?_,h2⟩;unfold World.ownsMap at h1 ⊢;obtain⟨es,clock,hb,h3⟩:=h1;exact⟨es,clock,e.trans hb,h3⟩
theorem ksMap.block (h:ksMap W M n S):∃ es c,W.heap[M]? =some (.map es c):=by
 obtain⟨D,h1,h2⟩:=h;unfold World.ownsMap at h1;obtain⟨es,clock,hb,_⟩:=h1;exact⟨es,clock,hb⟩
theorem ksMap.ne (h:ksMap W M n S){g:Nat}{t:TypeId}{cs:Array Value}(hg:BlkIs W g t cs):g≠M:=fun e=>by
 obtain⟨es,c,hb⟩:=h.block;unfold BlkIs at hg;rw [e,hb]at hg
 cases hg
theorem ksMap.start (W:World):ksMap (W.alloc (.map #[] 0)) W.heap.size 0 (fun _=>false):=⟨.map [],World.ownsMap_made _ _ _ _,fun _ _ _ _=>rfl⟩
set_option maxRecDepth 20000 in
theorem ksMap.look (h:ksMap W M n S){a b:Int}(ha:ksIn a)(hb:ksIn b):(Instr.lookup 96 (.map (some M)) (ksV a b) false).run Tryz.prog W=.ok (.bool (S (a,b))) W:=by
 obtain⟨D,h1,h2⟩:=h;obtain⟨v,ps,hrun,hv⟩:=h1.lookup ksLaw Tryz.underlying96 (zeroBool W) (plainElem_bool Tryz.underlying4 false) (ks_of ha hb);rw [h2 a b ha hb]at hv;unfold plainElem at hv;rw [Tryz.underlying4]at hv
 cases v<;>simp at hv
 rw [hrun,hv.1]
set_option maxRecDepth 20000 in
theorem ksMap.put (h:ksMap W M n S){a b:Int}(ha:ksIn a)(hb:ksIn b)(hn:n<maxLen):
 ∃ w',(Instr.mapUpdate 96 (.map (some M)) (ksV a b) (.bool true)).run Tryz.prog W=.ok () w'/\ksMap w' M (n+1) (fun s=>decide (s=(a,b))||S s)/\W.grownBy w' (some M):=by
 obtain⟨D,h1,h2⟩:=h;obtain⟨w',hrun,h3,h4⟩:=h1.update ksLaw Tryz.underlying96 hn (ks_of ha hb) (plainElem_bool Tryz.underlying4 true);refine⟨w',hrun,⟨_,h3,fun x y hx hy=>?_⟩,h4⟩
 by_cases e:(x,y)=(a,b)
 ·injection e with e1 e2
  subst e1;subst e2;rw [Maps.atKey_put_same h1.isMap (ks_lit _ _)]
  simp
 ·have hne:ksL x y≠ksL a b:=fun h=>by
   obtain⟨e1,e2⟩:=ks_inj hx hy ha hb h;exact e (by rw [e1,e2])
  rw [Maps.atKey_put_other hne,h2 x y hx hy];simp only [decide_eq_false e,Bool.false_or]
end
abbrev kbV (a b:Int):Value:=.agg #[.int .u8 a,.int .u8 b]
def kbL (a b:Int):Lit:=.string (keyBytes [.int .u8 a,.int .u8 b])
def kbIn (a:Int):Prop:=0<=a/\a<256
theorem kbwf {a:Int}(h:kbIn a):(Lit.int .u8 a).wf=true:=by
 unfold kbIn at h
 simp [Lit.wf,IntKind.min,IntKind.max,IntKind.signed,IntKind.bits]
 omega
theorem kbLaw:Maps.Keyed Tryz.prog 133:=
 Maps.Keyed.of_law (deep_law_laid (P:=Tryz.prog) (by kernel_rfl) (m:=2) (by omega) (of_decide_eq_true (by kernel_rfl)) (by kernel_rfl) (by kernel_rfl))
theorem kb_of {a b:Int}(ha:kbIn a)(hb:kbIn b):keyOf Tryz.prog 133 (kbV a b)=some (kbL a b):=by
 have h1:Tryz.prog.keyType 133=true:=by kernel_rfl
 have h2:(kbV a b).formed Tryz.prog 133=true:=by kernel_rfl
 have hd:∃ d,Tryz.prog.types.size+1=d+2:=⟨Tryz.prog.types.size - 1,by have:1<=Tryz.prog.types.size:=of_decide_eq_true (by kernel_rfl);omega⟩;obtain⟨d,hd⟩:=hd
 have hc:Tryz.prog.cellsOf 133=2:=by kernel_rfl
 have hc1:Tryz.prog.cellsOf 5=1:=by kernel_rfl
 unfold keyOf;rw [Tryz.underlying133,hd]
 simp [h1,h2,Program.keyLits,Tryz.underlying133,Tryz.underlying5,hc,hc1,Value.cells,List.range_succ,kbwf ha,kbwf hb,kbL]
theorem kb_inj {a b a' b':Int}(ha:kbIn a)(hb:kbIn b)(ha':kbIn a')(hb':kbIn b')(h:kbL a b=kbL a' b'):a=a'/\b=b':=by
 have h1:=kb_of ha hb;have h2:=kb_of ha' hb';rw [h]at h1;have:=kbLaw.inj h1 h2;simp only [Value.agg.injEq,Array.mk.injEq,List.cons.injEq,Value.int.injEq,true_and,and_true]at this;exact this
theorem kb_lit (a b:Int):WideAt.IsKeyLit (kbL a b):=trivial
def kbMap (W:World)(M n:Nat)(S:Int×Int->Bool):Prop:=∃ D:DataW Unit,W.ownsMap Tryz.prog 133 (plainElem Tryz.prog 4) M n D/\∀ a b,kbIn a->kbIn b->D.atKey (kbL a b) (.lit (.bool false))=.lit (.bool (S (a,b)))
section
variable {W W' : World} {M n : Nat} {S : Int × Int → Bool}
theorem kbMap.lt (h:kbMap W M n S):M<W.heap.size:=by
 obtain⟨D,h1,_⟩:=h;exact h1.lt
theorem kbMap.heap (h:kbMap W M n S)(e:W'.heap[M]? =W.heap[M]?):kbMap W' M n S:=by
 obtain⟨D,h1,h2⟩:=h;refine⟨D,?_,h2⟩;unfold World.ownsMap at h1 ⊢;obtain⟨es,clock,hb,h3⟩:=h1;exact⟨es,clock,e.trans hb,h3⟩
theorem kbMap.block (h:kbMap W M n S):∃ es c,W.heap[M]? =some (.map es c):=by
 obtain⟨D,h1,h2⟩:=h;unfold World.ownsMap at h1;obtain⟨es,clock,hb,_⟩:=h1;exact⟨es,clock,hb⟩
theorem kbMap.ne (h:kbMap W M n S){g:Nat}{t:TypeId}{cs:Array Value}(hg:BlkIs W g t cs):g≠M:=fun e=>by
 obtain⟨es,c,hb⟩:=h.block;unfold BlkIs at hg;rw [e,hb]at hg
 cases hg
theorem kbMap.start (W:World):kbMap (W.alloc (.map #[] 0)) W.heap.size 0 (fun _=>false):=⟨.map [],World.ownsMap_made _ _ _ _,fun _ _ _ _=>rfl⟩
set_option maxRecDepth 20000 in
theorem kbMap.look (h:kbMap W M n S){a b:Int}(ha:kbIn a)(hb:kbIn b):(Instr.lookup 132 (.map (some M)) (kbV a b) false).run Tryz.prog W=.ok (.bool (S (a,b))) W:=by
 obtain⟨D,h1,h2⟩:=h;obtain⟨v,ps,hrun,hv⟩:=h1.lookup kbLaw Tryz.underlying132 (zeroBool W) (plainElem_bool Tryz.underlying4 false) (kb_of ha hb);rw [h2 a b ha hb]at hv;unfold plainElem at hv;rw [Tryz.underlying4]at hv
 cases v<;>simp at hv
 rw [hrun,hv.1]
set_option maxRecDepth 20000 in
theorem kbMap.put (h:kbMap W M n S){a b:Int}(ha:kbIn a)(hb:kbIn b)(hn:n<maxLen):
 ∃ w',(Instr.mapUpdate 132 (.map (some M)) (kbV a b) (.bool true)).run Tryz.prog W=.ok () w'/\kbMap w' M (n+1) (fun s=>decide (s=(a,b))||S s)/\W.grownBy w' (some M):=by
 obtain⟨D,h1,h2⟩:=h;obtain⟨w',hrun,h3,h4⟩:=h1.update kbLaw Tryz.underlying132 hn (kb_of ha hb) (plainElem_bool Tryz.underlying4 true);refine⟨w',hrun,⟨_,h3,fun x y hx hy=>?_⟩,h4⟩
 by_cases e:(x,y)=(a,b)
 ·injection e with e1 e2
  subst e1;subst e2;rw [Maps.atKey_put_same h1.isMap (kb_lit _ _)]
  simp
 ·have hne:kbL x y≠kbL a b:=fun h=>by
   obtain⟨e1,e2⟩:=kb_inj hx hy ha hb h;exact e (by rw [e1,e2])
  rw [Maps.atKey_put_other hne,h2 x y hx hy];simp only [decide_eq_false e,Bool.false_or]
end
end
end Go.Proofs.YtdjpphjpnkfeiaaGreatDoor
