/-
 hacklelaw09.alive ANSWERS true: a contract. Condition: the table of math/bits lies as it is laid.
-/
import Derived.Test.YtgbljnnmhmlifaaGreatDoorQG46
import Derived.Test.YtgbljnnmhmlifaaGreatDoorQG05
import Derived.Test.YtgbljnnmhmlifaaGreatDoorQG45
import Derived.Test.YtgbljnnmhmlifaaGreatDoorQG30
import Derived.Test.YtgbljnnmhmlifaaGreatDoorQG42
namespace Go.Proofs.YtgbljnnmhmlifaaGreatDoor
section
open Go.RowKit
attribute [local irreducible] FreeW
theorem yzib {W:World}{v:Value}(h:la9.At W v):∃ A c,v=reV 1 (sRange 97 97) A 0 c 0 0:=by
 unfold la9 ltr8 Tree.At at h;obtain⟨A,c,e,_⟩:=h;exact⟨A,c,e⟩
theorem yzdt {W:World}{v:Value}(h:lab9.At W v):∃ A c,v=reV 2 (fun _=>false) A 2 c 0 0:=by
 unfold lab9 Tree.At at h;obtain⟨A,c,e,_⟩:=h;exact⟨A,c,e⟩
set_option maxRecDepth 20000 in
set_option maxHeartbeats 8000000 in
theorem xzzm (w:World)(hT:Tab w):Calls Tryz.prog 4 #[] w fun e w'=>e=.returned (.bool true)/\Below w.heap.size w w':=by
 have HLA:=zd (fun u=>xzkl ⟨#[97]⟩ (by decide) u);have HLB:=zd (fun u=>xzkl ⟨#[97,98]⟩ (by decide) u);rw [la9_is]at HLA;rw [lab9_is]at HLB;have HT:=zd hT;clear hT
 go_enter Tryz.func4,Tryz.ntmps4
 go_wp2_with fail
 go_at_call 14
 refine(HLA.out _).mono ?_;rintro e u1 ⟨v1,rfl,hat1,hb1⟩;obtain⟨A1,c1,rfl⟩:=yzib hat1;have H1:=zd (And.intro hat1 hb1);clear hat1 hb1;unfold reV reL
 go_wp2_with fail
 go_at_call 14
 refine(HLB.out _).mono ?_;rintro e u2 ⟨v2,rfl,hat2,hb2⟩;obtain⟨A2,c2,rfl⟩:=yzdt hat2;have hrows:=rows28 (H1.out.1.step hb2) hat2;have HB2:=zd (H1.out.2.trans (hb2.mono H1.out.2.size));clear hb2 hat2;generalize hU1:u2.alloc (Obj.cells (reL 1 (sRange 97 97) A1 0 c1 0 0++reL 2 (fun _=>false) A2 2 c2 0 0).toArray 49)=U1 at hrows
 have hbU:Below w.heap.size w U1:=by rw [<-hU1];exact HB2.out.alloc HB2.out.size _
 have hsU:U1.heap.size=u2.heap.size+1:=by rw [<-hU1];simp
 unfold reL at hU1;simp only [List.cons_append,List.nil_append]at hU1;have HBD:=zd (xzuc (some ⟨u2.heap.size,0,none⟩) 2 U1 ⟨_,_,rfl,hrows⟩);have HBU:=zd hbU;clear hrows hbU H1;unfold reV reL
 go_wp2_with fail
 go_at_call 7
 refine HBD.out.mono ?_;rintro e u3 ⟨v3,rfl,hn3,hb3⟩;obtain⟨A0,A1',A2',A3,A4,c0,c1',c2',c3,c4,rfl⟩:=hn3.form;have HN3:=zd (And.intro hn3 (HBU.out.trans (hb3.mono HBU.out.size)));clear hn3 hb3 HBD hU1 HLA HLB
 go_wp2_with fail
 have hbA:=HN3.out.2.alloc HN3.out.2.size (.cells #[.slice A0 N9.sets.length c0,.slice A1' N9.rules.length c1',.slice A2' N9.first.length c2',.slice A3 N9.follow.length c3,.slice A4 N9.ends.length c4,.int .i64 N9.empty] 30);have HSU:=zd (xzns N9 _ _ (HN3.out.1.step ((Below.refl _ _).alloc (Nat.le_refl _) (.cells #[.slice A0 N9.sets.length c0,.slice A1' N9.rules.length c1',.slice A2' N9.first.length c2',.slice A3 N9.follow.length c3,.slice A4 N9.ends.length c4,.int .i64 N9.empty] 30))) (by rw [N9_small.1];decide) (HT.out.step hbA));rw [N9_ans]at HSU;have HBA:=zd hbA;clear hbA
 go_at_call 8
 refine HSU.out.mono ?_;rintro e u5 ⟨vd,rfl,hd5,hb5⟩;have HB5:=zd (HBA.out.trans (hb5.mono HBA.out.size));obtain⟨vn,vt,rfl,hrn,hrt⟩:=hd5;clear hb5 HSU HN3 HBA;obtain⟨d0,hd0⟩:∃ d0,df0=d0:=⟨_,rfl⟩;obtain⟨U6,hU6⟩:∃ U6,u5.alloc (.cells df0 38)=U6:=⟨_,rfl⟩
 have hs6:U6.heap.size=u5.heap.size+1:=by rw [<-hU6];simp
 have hb6:Below u5.heap.size u5 U6:=by rw [<-hU6];exact(Below.refl _ _).alloc (Nat.le_refl _) _
 have hx6:BlkIs U6 u5.heap.size 38 df0:=by rw [<-hU6];exact BlkIs.new _ _ _
 obtain⟨An,cn,rfl,hcn,hgn⟩:=hrn;obtain⟨At,ct,rfl,hct,hgt⟩:=hrt;have hat9:DfAt u5 D9 (.agg (dfC D9.of D9.n (.slice An D9.next.length cn) (.slice At D9.tag.length ct))):=⟨_,_,rfl,⟨An,cn,rfl,hcn,hgn⟩,⟨At,ct,rfl,hct,hgt⟩⟩;obtain⟨d9,hd9⟩:∃ d9,dfC D9.of D9.n (.slice An D9.next.length cn) (.slice At D9.tag.length ct)=d9:=⟨_,rfl⟩;obtain⟨W9,hsc,hb9,hw9⟩:=xzbz (P:=Tryz.prog) hx6 (new:=dfC D9.of D9.n (.slice An D9.next.length cn) (.slice At D9.tag.length ct)) (by rw [xzak];exact(xzak _ _ _ _).symm) (xzfv _ _ _ _ rfl rfl);have hds:(dfC D9.of D9.n (.slice An D9.next.length cn) (.slice At D9.tag.length ct)).size=259:=xzak _ _ _ _;have hb59:Below u5.heap.size u5 W9:=hw9.2.1 _ _ (Nat.le_refl _) hb6;have HB9:=zd (HB5.out.trans (hb59.mono HB5.out.size));have hdf9:=DfB.of hb9;obtain⟨k256,k257,k258⟩:=hdf9.cells;have HDF:=zd (And.intro hdf9 (hat9.step hb59));have z:=zeroDf;rw [hd9]at hds hsc;rw [hd0]at z hU6;rw [hd9];have hl3:D9.next.length=3:=rfl;have hl4:D9.tag.length=3:=rfl;rw [hl3]at k257;rw [hl4]at k258
 have HIT:=zd (show IntsV W9 D9.tag (.slice At 3 ct)by
  obtain⟨vn,vt,e,_,h2⟩:=HDF.out.2;have e2:=congrArg (fun v:Value=>match v with| .agg cs=>cs[258]? |_=>none) e;simp only at e2;rw [xzsa _ _ _ _ (by decide),xzsa _ _ _ _ (by decide)]at e2;have e3:Value.slice At D9.tag.length ct=vt:=Option.some.inj e2;rw [<-e3]at h2
  exact h2)
 clear hb59 hb9 hw9 hdf9 hat9 hx6 hb6
 go_wp2_with fail
 obtain⟨Wa,hWa⟩:∃ Wa,W9.alloc (.cells #[.int .i64 (-1),.int .i64 0,.int .i64 1] 3)=Wa:=⟨_,rfl⟩
 have hba:Below W9.heap.size W9 Wa:=by rw [<-hWa];exact(Below.refl _ _).alloc (Nat.le_refl _) _
 have hxa:BlkIs Wa W9.heap.size 3 #[.int .i64 (-1),.int .i64 0,.int .i64 1]:=by rw [<-hWa];exact BlkIs.new _ _ _
 have hlit:IntsV Wa [-1,0,1] (.slice (some ⟨W9.heap.size,0,none⟩) 3 3):=⟨_,3,rfl,by decide,fun _=>⟨_,0,rfl,BlkIs.lt hxa,fun i hi=>by
  match i,hi with
  |0,_=>exact hxa.cell 0
  |1,_=>exact hxa.cell 1
  |2,_=>exact hxa.cell 2⟩⟩
 have HIN:=zd (yzfe [-1,0,1] [-1,0,1] _ _ Wa (HIT.out.step hba) hlit);have HDA:=zd (And.intro (HDF.out.1.step hba) (And.intro (HDF.out.2.step hba) (HB9.out.trans (hba.mono HB9.out.size))));have HLT:=zd (show u5.heap.size<W9.heap.size from World.block_lt_of_cell? W9 ⟨u5.heap.size,256,none⟩ k256);rw [hWa];clear hba hxa hlit HIT HDF hWa;rw [hd9]at HDA
 go_at_call 15
 refine HIN.out.mono ?_;rintro e u7 ⟨rfl,hb7⟩;have HD7:=zd (And.intro (HDA.out.1.step hb7) (And.intro (HDA.out.2.1.step hb7) (HDA.out.2.2.trans (hb7.mono HDA.out.2.2.size))));have HR1:=zd (xzli D9 ⟨#[97,98]⟩ (by decide) _ u7 HD7.out.2.1 (yzct N9));rw [D9_runs.1]at HR1
 have hdec:decide (([-1,0,1]:List Int)=[-1,0,1])=true:=by decide
 rw [hdec];clear hb7 HDA HIN k256 k257 k258 hdec
 go_wp2_with(first
  |((with_reducible refine xzbc (.tmp 3) ?_ ?_ HD7.out.1 ?_ ?_);exact rfl;exact rfl;kernel_rfl;rw [hd9])
  |(go_at_call 12;refine HR1.out.mono ?_;rintro e u8 ⟨rfl,hb8⟩;have HD8:=zd (And.intro (HD7.out.1.step hb8) (And.intro (HD7.out.2.1.step hb8) (HD7.out.2.2.trans (hb8.mono HD7.out.2.2.size))));have HR2:=zd (xzli D9 ⟨#[98]⟩ (by decide) _ u8 HD8.out.2.1 (yzct N9));rw [D9_runs.2]at HR2;clear HR1 HD7 hb8)
  |((with_reducible refine xzbc (.tmp 3) ?_ ?_ HD8.out.1 ?_ ?_);exact rfl;exact rfl;kernel_rfl;rw [hd9])
  |(go_at_call 12;refine HR2.out.mono ?_;rintro e u9 ⟨rfl,hb9⟩;have HB10:=zd (HD8.out.2.2.trans (hb9.mono HD8.out.2.2.size));clear HR2 HD8 hb9))
 go_ret;exact⟨rfl,HB10.out⟩
end
section
open Go.RowKit
attribute [local irreducible] FreeW textFrame
theorem xzjg {W:World}{D:Df}{v:Value}(h:DfAt W D v):∃ A c B c',v=.agg (dfC D.of D.n (.slice A D.next.length c) (.slice B D.tag.length c')):=by
 obtain⟨vn,vt,rfl,⟨A,c,rfl,_⟩,⟨B,c',rfl,_⟩⟩:=h;exact⟨A,c,B,c',rfl⟩
noncomputable def Df.trim (D:Df):Df:=if D.may then trimP D else dfNone
set_option maxRecDepth 20000 in
set_option maxHeartbeats 8000000 in
theorem yzdu (D:Df)(v:Value)(w:World)(h:DfAt w D v)(hf:∀ b,b<256->D.of b<256):
 Calls Tryz.prog 9 #[v] w fun e w'=>∃ v',e=.returned v'/\DfAt w' D.trim v'/\Below w.heap.size w w':=by
 have HAT:=zd h;obtain⟨A,c,B,c',rfl⟩:=xzjg h;obtain⟨W1,hbx,hsz,hb1,hx1⟩:=xzds D.of D.n (.slice A D.next.length c) (.slice B D.tag.length c') w;obtain⟨W2,hW2⟩:∃ W2,W1.alloc (.cells df0 38)=W2:=⟨_,rfl⟩
 have hb12:Below W1.heap.size W1 W2:=by rw [<-hW2];exact(Below.refl _ _).alloc (Nat.le_refl _) _
 have hs2:W2.heap.size=w.heap.size+2:=by rw [<-hW2];simp [hsz]
 have H2:=zd (show Below w.heap.size w W2/\DfB W2 w.heap.size D.of D.n (.slice A D.next.length c) (.slice B D.tag.length c')/\BlkIs W2 (w.heap.size+1) 38 df0/\w.heap.size+1<W2.heap.size from
  ⟨hb1.trans (hb12.mono (by omega)),(DfB.of hx1).step hb12,by rw [<-hW2,<-hsz];exact BlkIs.new _ _ _,by omega⟩)
 obtain⟨dc,hdc⟩:∃ dc,dfC D.of D.n (.slice A D.next.length c) (.slice B D.tag.length c')=dc:=⟨_,rfl⟩;rw [hdc]at hbx HAT
 have hds:dc.size=259:=by rw [<-hdc];exact xzak _ _ _ _
 obtain⟨d0,hd0⟩:∃ d0,df0=d0:=⟨_,rfl⟩;have z:=zeroDf;rw [hd0]at z hW2;have HZ:=zd hd0;rw [hdc];have HDC:=zd hdc;have HMA:=zd (xzyk D _ W2 (HAT.out.step H2.out.1) hf);clear h hb1 hx1 hb12 hdc hd0 hf hs2
 cases hm:D.may with
 |false=>
  rw [hm]at HMA;have HTR:=zd (show D.trim=dfNone by unfold Df.trim;rw [hm];rfl);have hbz:=yzcr;rw [HZ.out]at hbz
  have hz0:d0.size=259:=by rw [<-HZ.out];exact xzak _ _ _ _
  go_enter Tryz.func9,Tryz.ntmps9
  go_wp2_with(first
   |((with_reducible refine xzbc (.tmp 1) ?_ ?_ H2.out.2.1 ?_ ?_);exact rfl;exact rfl;kernel_rfl;rw [HDC.out])
   |(go_at_call 25
     refine HMA.out.mono ?_;rintro e u1 ⟨rfl,hbu⟩;obtain⟨W9,hsc,hb9,hw9⟩:=xzbz (P:=Tryz.prog) ((hbu.block _ H2.out.2.2.2).trans H2.out.2.2.1) (new:=df0) rfl (xzfv _ _ _ _ rfl rfl);have hl9:=loadVarDf (DfB.of hb9);have HB9:=zd (hw9.2.1 _ _ (by omega) (H2.out.1.trans (hbu.mono H2.out.1.size)));rw [HZ.out]at hsc
     clear hbu hb9 hw9)
   |(refine xzbk rfl 38 _ rfl (cells:=d0) (by refine(congrArg (Tryz.prog.built 38) ?_).trans hbz;kernel_rfl) ?_))
  exact bodyPost_ret (xzae rfl rfl hl9) rfl ⟨_,rfl,by rw [HTR.out];exact xzlh _,HB9.out⟩
 |true=>
  rw [hm]at HMA;have HTR:=zd (show D.trim=trimP D by unfold Df.trim;rw [hm];rfl);have HMD:=zd (may_d hm)
  go_enter Tryz.func9,Tryz.ntmps9
  go_wp2_with(first
   |((with_reducible refine xzbc (.tmp 1) ?_ ?_ H2.out.2.1 ?_ ?_);exact rfl;exact rfl;kernel_rfl;rw [HDC.out])
   |(go_at_call 25
     refine HMA.out.mono ?_;rintro e u1 ⟨rfl,hbu⟩
     have H3:=zd (show Below w.heap.size w u1/\DfB u1 w.heap.size D.of D.n (.slice A D.next.length c) (.slice B D.tag.length c')/\BlkIs u1 (w.heap.size+1) 38 df0/\w.heap.size+1<u1.heap.size from
      ⟨H2.out.1.trans (hbu.mono H2.out.1.size),H2.out.2.1.step hbu,(hbu.block _ H2.out.2.2.2).trans H2.out.2.2.1,by have:=hbu.size;have:=H2.out.2.2.2;omega⟩)
     clear hbu HMA)
   |((with_reducible refine xzbc (.tmp 1) ?_ ?_ H3.out.2.1 ?_ ?_);exact rfl;exact rfl;kernel_rfl;rw [HDC.out])
   |(go_at_call 26
     refine(xzuf D _ u1 (HAT.out.step H3.out.1) HMD.out).mono ?_;rintro e u2 ⟨vt,rfl,hat,hatw,hb2⟩;obtain⟨A5,c5,B5,c5',rfl⟩:=xzjg hat;obtain⟨W9,hsc,hb9,hw9⟩:=xzbz (P:=Tryz.prog) ((hb2.block _ H3.out.2.2.2).trans H3.out.2.2.1) (new:=dfC (trimP D).of (trimP D).n (.slice A5 (trimP D).next.length c5) (.slice B5 (trimP D).tag.length c5')) (by rw [xzak];exact(xzak _ _ _ _).symm) (xzfv _ _ _ _ rfl rfl);have hl9:=loadVarDf (DfB.of hb9);have hds9:(dfC (trimP D).of (trimP D).n (.slice A5 (trimP D).next.length c5) (.slice B5 (trimP D).tag.length c5')).size=259:=xzak _ _ _ _
     have HB9:=zd (show DfAt W9 (trimP D) (.agg (dfC (trimP D).of (trimP D).n (.slice A5 (trimP D).next.length c5) (.slice B5 (trimP D).tag.length c5')))/\Below w.heap.size w W9 from
      ⟨hatw _ _ H3.out.2.2.2 hw9,hw9.2.1 _ _ (by omega) (H3.out.1.trans (hb2.mono (by have:=H3.out.1.size;omega)))⟩)
     obtain⟨d9,hd9⟩:∃ d9,dfC (trimP D).of (trimP D).n (.slice A5 (trimP D).next.length c5) (.slice B5 (trimP D).tag.length c5')=d9:=⟨_,rfl⟩;rw [hd9]at hsc hl9 HB9 hds9;rw [hd9]
     clear hb2 hb9 hw9 hat hatw hd9))
  exact bodyPost_ret (xzae rfl rfl hl9) rfl ⟨_,rfl,by rw [HTR.out];exact HB9.out.1,HB9.out.2⟩
set_option maxRecDepth 20000 in
set_option maxHeartbeats 8000000 in
theorem xzzn (D:Df)(s:ByteArray)(hs:s.size<=1073741824)(v:Value)(w:World)(h:DfAt w D v)(hf:∀ b,b<256->D.of b<256):
 Calls Tryz.prog 11 #[v,.string s] w fun e w'=>e=.returned (.int .i64 (D.tagOf s))/\Below w.heap.size w w':=by
 have HAT:=zd h;obtain⟨vn,vt,rfl,hrn,hrt⟩:=h;obtain⟨An,cn,rfl,hcn,_⟩:=hrn;obtain⟨At,ct,rfl,hct,hgt⟩:=hrt;obtain⟨W1,hbx,hsz,hb1,hx1⟩:=xzds D.of D.n (.slice An D.next.length cn) (.slice At D.tag.length ct) w;have HD:=zd (And.intro (DfB.of hx1) (And.intro hb1 (show w.heap.size<W1.heap.size by omega)));obtain⟨dc,hdc⟩:∃ dc,dfC D.of D.n (.slice An D.next.length cn) (.slice At D.tag.length ct)=dc:=⟨_,rfl⟩;rw [hdc]at hbx HAT
 have hds:dc.size=259:=by rw [<-hdc];exact xzak _ _ _ _
 rw [hdc];have HDC:=zd hdc;have HRN:=zd (xzli D s hs _ W1 (HAT.out.step hb1) hf);obtain⟨R,hR⟩:∃ R,D.tagOf s=R:=⟨_,rfl⟩;rw [hR];unfold Df.tagOf at hR
 have hrr:D.run s= -1\/(∃ a:Nat,D.run s=(a:Nat)/\a<D.tag.length):=by
  unfold Df.run
  cases hm:D.may with
  |false=>exact .inl (by simp)
  |true=>
   have h:=may_d hm
   by_cases hne:D.next=[]
   ·rw [hne];exact .inl (by simp)
   ·have hie:D.next.isEmpty=false:=by cases e:D.next with|nil=>exact absurd e hne|cons a r=>rfl
    rw [hie];simp only [Bool.not_false,Bool.and_self,if_true];have:=h.goTo_in hne s s.size
    by_cases e:D.goTo s s.size= -1
    ·exact .inl e
    ·exact .inr ⟨(D.goTo s s.size).toNat,by omega,by rw [h.tags];omega⟩
 have HGT:=zd hgt;clear hb1 hx1 hdc hf hgt
 rcases hrr with hr|⟨a,hr,hal⟩
 ·rw [hr]at HRN hR
  have HN:=zd (show R= -1 by rw [<-hR];rfl);clear hR hr
  go_enter Tryz.func11,Tryz.ntmps11
  go_wp2_with(first
   |((with_reducible refine xzbc (.tmp 2) ?_ ?_ HD.out.1 ?_ ?_);exact rfl;exact rfl;kernel_rfl;rw [HDC.out])
   |(go_at_call 12;refine HRN.out.mono ?_;rintro e u1 ⟨rfl,hbu⟩;have HB:=zd (HD.out.2.1.trans (hbu.mono HD.out.2.1.size));clear hbu))
  go_ret;exact⟨by rw [HN.out];rfl,HB.out⟩
 ·rw [hr]at HRN hR
  rw [if_neg (by omega),Int.toNat_natCast,List.getD_eq_getElem?_getD,List.getElem?_eq_getElem hal]at hR;have HN:=zd (show R=D.tag[a]from hR.symm);obtain⟨bt,ot,rfl,hlt,hg⟩:=HGT.out (by intro e;rw [e]at hal;simp at hal);have hga:=hg a hal
  have i1:decide ((a:Int)<(D.tag.length:Int))=true:=by simp;omega
  have e1:((a:Int)== -1)=false:=by rw [beq_eq_false_iff_ne];omega
  have e1b:decide ((a:Int)= -1)=false:=by rw [decide_eq_false_iff_not];omega
  have HC:=zd hga;clear hR hr hg;generalize D.tag[a]=tx at*
  go_enter Tryz.func11,Tryz.ntmps11
  go_wp2_with(first
   |((with_reducible refine xzbc (.tmp 2) ?_ ?_ HD.out.1 ?_ ?_);exact rfl;exact rfl;kernel_rfl;rw [HDC.out])
   |(go_at_call 12;refine HRN.out.mono ?_;rintro e u1 ⟨rfl,hbu⟩;have HB:=zd (HD.out.2.1.trans (hbu.mono HD.out.2.1.size));have k258:=(hbu.cell (p:=⟨w.heap.size,258,none⟩) HD.out.2.2).trans HD.out.1.cells.2.2;have kt:=(HB.out.cell (p:=⟨bt,ot+a,none⟩) hlt).trans HC.out;clear hbu))
  go_ret;exact⟨by rw [HN.out];rfl,HB.out⟩
end
section
open Go.RowKit
attribute [local irreducible] FreeW
theorem boxed9 (D:Df)(A5 B5:Option Addr)(c5 c5':Nat)(u:World):∃ U6 W9,u.alloc (.cells df0 38)=U6/\(storeCells ⟨u.heap.size,0,none⟩ (dfC D.of D.n (.slice A5 D.next.length c5) (.slice B5 D.tag.length c5')).toList).run Tryz.prog U6=.ok () W9/\
 DfB W9 u.heap.size D.of D.n (.slice A5 D.next.length c5) (.slice B5 D.tag.length c5')/\Below u.heap.size u W9/\(dfC D.of D.n (.slice A5 D.next.length c5) (.slice B5 D.tag.length c5')).size=259:=by
 have hb6:Below u.heap.size u (u.alloc (.cells df0 38)):=(Below.refl _ _).alloc (Nat.le_refl _) _;have hx6:=BlkIs.new u 38 df0;obtain⟨W9,hsc,hb9,hw9⟩:=xzbz (P:=Tryz.prog) hx6 (new:=dfC D.of D.n (.slice A5 D.next.length c5) (.slice B5 D.tag.length c5')) (by rw [xzak];exact(xzak _ _ _ _).symm) (xzfv _ _ _ _ rfl rfl);exact⟨_,W9,rfl,hsc,DfB.of hb9,hw9.2.1 _ _ (Nat.le_refl _) hb6,xzak _ _ _ _⟩
set_option maxRecDepth 20000 in
set_option maxHeartbeats 16000000 in
theorem xzug (l:List Tree)(s:ByteArray)(v:Value)(w:World)(hat:TreesV w l v)(hT:Tab w):Calls Tryz.prog 3 #[v,.string s] w fun e w'=>e=.returned (.bool true)/\Below w.heap.size w w':=by
 have HT:=zd (fun(u:World) (hu:Below w.heap.size w u)=>hat.step hu);have HTA:=zd (fun(u:World) (hu:Below w.heap.size w u)=>hT.step hu);have HAL:=zd (xzzm w hT);have HGR:=zd (fun(u:World) (hu:Below w.heap.size w u)=>xzxb l v u (hat.step hu));have HMY:=zd (fun(u:World) (hu:Below w.heap.size w u)=>yzge l v u (hat.step hu));unfold Great8 at HGR;obtain⟨A,c,rfl,hc,hs⟩:=hat;clear hs hT
 go_enter Tryz.func3,Tryz.ntmps3
 go_wp2_with fail
 go_at_call 4
 refine HAL.out.mono ?_;rintro e w1 ⟨rfl,hb1⟩;have HB1:=zd hb1;clear hb1
 go_wp2_with fail
 go_at_call 5
 refine(HGR.out _ HB1.out).mono ?_;rintro e w2 ⟨⟨gb,rfl,hgb⟩,hb2⟩;have HB2:=zd (HB1.out.trans (hb2.mono HB1.out.size));have HGB:=zd hgb;clear hb2 hgb
 cases gb with
 |true=>
  go_wp2;go_ret;exact⟨rfl,HB2.out⟩
 |false=>
  by_cases hs40:40<s.size
  ·have q1:decide ((s.size:Int)>40)=true:=by simp;omega
   have q2:decide ((40:Int)<(s.size:Int))=true:=by simp;omega
   go_wp2;go_ret;exact⟨rfl,HB2.out⟩
  have q1:decide ((s.size:Int)>40)=false:=by simp;omega
  have q2:decide ((40:Int)<(s.size:Int))=false:=by simp;omega
  go_wp2_with fail
  go_at_call 6
  refine(HMY.out _ HB2.out).mono ?_;rintro e w3 ⟨rfl,hb3⟩;have HX:=zd (HB2.out.trans (hb3.mono HB2.out.size));clear hb3;obtain⟨mb,hmb⟩:∃ mb,mayL l=mb:=⟨_,rfl⟩;rw [hmb];have HMB:=zd hmb;clear hmb
  cases mb with
  |false=>
   go_wp2;go_ret;exact⟨rfl,HX.out⟩
  |true=>
   have hG:=HGB.out (by trivial);obtain⟨hl1,hl40,hall⟩:=light hG.2.1 HMB.out;have HL:=zd (And.intro hG.2.1 (And.intro hall (hG.2.2 fun t ht=>(hall t ht).2)));clear hG hall
   by_cases hsum:2000<sumP l
   ·have HBD:=zd (xzxa HL.out.1 HMB.out hsum _ w3 (HT.out w3 HX.out))
    go_wp2_with fail
    go_at_call 7
    refine HBD.out.mono ?_;rintro e u1 ⟨rfl,hu1⟩;have HU1:=zd (HX.out.trans (hu1.mono HX.out.size));clear hu1;go_wp2;go_ret;exact⟨rfl,(HU1.out.alloc HU1.out.size _)⟩
   ·have hsum:sumP l<=150:=by have:=HL.out.2.2;omega
    have HBD:=zd (xztt HL.out.1 HMB.out hsum _ w3 (HT.out w3 HX.out))
    have hok:∀ t∈l,t.ok=true:=fun t ht=>(HL.out.2.1 t ht).2.1
    have hsn:=sumP_exact l hok (by omega)
    have hs30:s.size<=1073741824:=by omega
    have HWH:=zd (fun(u:World) (hu:Below w.heap.size w u)=>xzwx l hok s hs30 _ u (HT.out u hu));have HBG:=zd (fun(u:World) (hu:Below w.heap.size w u)=>xztr l hok s hs30 _ u (HT.out u hu));have hmay:=xzld l hok hl40 (by rw [xzdq l hok];omega);have hpl:=xzdq l hok
    have hrul:=fun L R (h:subZ (buildN l) (lbN (buildN l)) (clN (buildN l))=some (L,R))=>yzdj hok hl40 (by omega) h s
    have hdm:=fun L R (h:subZ (buildN l) (lbN (buildN l)) (clN (buildN l))=some (L,R))=>(show(dfN (buildN l) L R).may=true from xzyn (xzux hmay) h)
    have HSU:=zd (fun(u:World) (v:Value) (h:NfaAt u (buildN l) v) (hu:Below w.heap.size w u)=>xzns (buildN l) v u h (by omega) (HTA.out u hu))
    have han:subAns (buildN l)=(match subZ (buildN l) (lbN (buildN l)) (clN (buildN l))with|none=>(dfNone,4)|some (L,R)=>(dfN (buildN l) L R,0)):=by
     unfold subAns;rw [if_pos hmay];rfl
    generalize whichI s.data.toList 0 l=wi at*;generalize(l.any fun t=>t.begins s.data.toList (atP 0))=bg at*;have HS30:=zd hs30;have HF:=zd (yzct (buildN l));clear hok hsn hmay hsum hpl hs30;generalize buildN l=N at*
    go_wp2_with fail
    go_at_call 7
    refine HBD.out.mono ?_;rintro e u1 ⟨v1,rfl,hn1,hu1⟩;obtain⟨A0,A1,A2,A3,A4,c0,c1,c2,c3,c4,rfl⟩:=hn1.form;have hbx:=BlkIs.new u1 30 #[.slice A0 N.sets.length c0,.slice A1 N.rules.length c1,.slice A2 N.first.length c2,.slice A3 N.follow.length c3,.slice A4 N.ends.length c4,.int .i64 N.empty];have hby:Below u1.heap.size u1 _:=(Below.refl _ u1).alloc (Nat.le_refl _) (.cells #[.slice A0 N.sets.length c0,.slice A1 N.rules.length c1,.slice A2 N.first.length c2,.slice A3 N.follow.length c3,.slice A4 N.ends.length c4,.int .i64 N.empty] 30);have hbw:=HX.out.trans (hu1.mono HX.out.size);have HY:=zd (And.intro (hbw.trans (hby.mono hbw.size)) (hn1.step hby));have HS2:=zd (HSU.out _ _ HY.out.2 HY.out.1);clear hu1 hn1 hbx hby hbw HSU;rw [han]at HS2
    cases hz:subZ N (lbN N) (clN N)with
    |none=>
     rw [hz]at HS2;clear hrul hdm han hz
     go_wp2_with fail
     go_at_call 8
     refine HS2.out.mono ?_;rintro e u3 ⟨vd,rfl,hd3,hb3⟩;obtain⟨A5,c5,B5,c5',rfl⟩:=xzjg hd3;obtain⟨U6,W9,hU6,hsc,hx9,hb9,hds⟩:=boxed9 dfNone A5 B5 c5 c5' u3;have hb39:=HY.out.1.trans (hb3.mono HY.out.1.size);have HZ:=zd (hb39.trans (hb9.mono hb39.size));obtain⟨dc,hdc⟩:∃ dc,dfC dfNone.of dfNone.n (.slice A5 dfNone.next.length c5) (.slice B5 dfNone.tag.length c5')=dc:=⟨_,rfl⟩;obtain⟨d0,hd0⟩:∃ d0,df0=d0:=⟨_,rfl⟩;have z:=zeroDf;rw [hd0]at z hU6;rw [hdc]at hsc hds;rw [hdc];clear hd3 hb3 hx9 hb9 hd0 hdc hb39;go_wp2;go_ret;exact⟨rfl,HZ.out⟩
    |some p=>
     obtain⟨L,R⟩:=p;rw [hz]at HS2;have hrl:=hrul L R hz;have hdl:=hdm L R hz;have hof:∀ b,b<256->(dfN N L R).of b<256:=HF.out;clear hrul hdm han hz
     dsimp only at HS2
     generalize dfN N L R=D at*;have HRL:=zd (And.intro hrl (And.intro hdl hof));clear hrl hdl hof
     go_wp2_with fail
     go_at_call 8
     refine HS2.out.mono ?_;rintro e u3 ⟨vd,rfl,hd3,hb3⟩;obtain⟨A5,c5,B5,c5',rfl⟩:=xzjg hd3;obtain⟨U6,W9,hU6,hsc,hx9,hb9,hds⟩:=boxed9 D A5 B5 c5 c5' u3;have hb39:=HY.out.1.trans (hb3.mono HY.out.1.size);have hb99:=hb39.trans (hb9.mono hb39.size);have hlt3:u3.heap.size<W9.heap.size:=World.block_lt_of_cell? W9 ⟨u3.heap.size,0,none⟩ (hx9 0 (by decide));have hd9:=hd3.step hb9;obtain⟨dc,hdc⟩:∃ dc,dfC D.of D.n (.slice A5 D.next.length c5) (.slice B5 D.tag.length c5')=dc:=⟨_,rfl⟩;have HZ:=zd (And.intro hb99 (And.intro hx9 (And.intro hd9 hlt3)));have HTR:=zd (yzdu D _ W9 hd9 HRL.out.2.2);obtain⟨d0,hd0⟩:∃ d0,df0=d0:=⟨_,rfl⟩;have z:=zeroDf;rw [hd0]at z hU6;rw [hdc]at hsc hds HTR;rw [hdc];have HDC:=zd hdc;have HD0:=zd hd0;clear hd3 hb3 hx9 hb9 hd0 hdc hb39 hb99 hd9 hlt3;have HDX:=HZ
     go_wp2_with((with_reducible refine xzej ?_ (.tmp 7) ?_ ?_ HDX.out.2.1 ?_);exact rfl;exact rfl;exact rfl;rw [HDC.out])
     go_at_call 9
     refine HTR.out.mono ?_;rintro e u5 ⟨vt,rfl,hat5,hb5⟩
     have htr:D.trim=trimP D:=by unfold Df.trim;rw [if_pos HRL.out.2.1]
     rw [htr]at hat5;obtain⟨A7,c7,B7,c7',rfl⟩:=xzjg hat5;obtain⟨V6,V9,hV6,hsc7,hx7,hb7,hds7⟩:=boxed9 (trimP D) A7 B7 c7 c7' u5;rw [HD0.out]at hV6;have hbV:=hb5.trans (hb7.mono hb5.size);have hat7:=hat5.step hb7;have hbw9:=HZ.out.1.trans (hbV.mono HZ.out.1.size);obtain⟨tc,htc⟩:∃ tc,dfC (trimP D).of (trimP D).n (.slice A7 (trimP D).next.length c7) (.slice B7 (trimP D).tag.length c7')=tc:=⟨_,rfl⟩;have HVF:=zd (fun(u:World) (hu:Below V9.heap.size V9 u)=>And.intro (hbw9.trans (hu.mono hbw9.size)) (And.intro ((HZ.out.2.1.step hbV).step hu) (hx7.step hu)));have HC:=zd (Below.refl V9.heap.size V9);have HTD:=zd (fun(u:World) (hu:Below V9.heap.size V9 u)=>xzzn D s HS30.out _ u ((HZ.out.2.2.1.step hbV).step hu) HRL.out.2.2);have HTT:=zd (fun(u:World) (hu:Below V9.heap.size V9 u)=>xzzn (trimP D) s HS30.out _ u (hat7.step hu) HRL.out.2.2);have HRN:=zd (fun(u:World) (hu:Below V9.heap.size V9 u)=>xzli (trimP D) s HS30.out _ u (hat7.step hu) HRL.out.2.2);have HDX:=zd (And.intro hbw9 (And.intro (HZ.out.2.1.step hbV) (And.intro (HZ.out.2.2.1.step hbV) trivial)));rw [HDC.out,HRL.out.1.1]at HTD;rw [htc,HRL.out.1.2.1]at HTT;rw [htc]at HRN hsc7 hds7;rw [htc];have HTC:=zd htc;clear hat5 hb5 hx7 hb7 hbV hat7 hbw9 htc htr HTR hsc hds hU6
     go_wp2_with(first
      |((with_reducible refine xzej ?_ (.tmp 7) ?_ ?_ HDX.out.2.1 ?_);exact rfl;exact rfl;exact rfl;rw [HDC.out])
      |(go_at_call 10;refine(HWH.out _ (HVF.out _ HC.out).1).mono ?_;rintro e u6 ⟨rfl,hu6⟩
        have HDX:=zd (HVF.out _ (HC.out.trans (hu6.mono HC.out.size)));have HC:=zd (HC.out.trans (hu6.mono HC.out.size))
        clear hu6)
      |((with_reducible refine xzbc (.tmp 9) ?_ ?_ (HVF.out _ HC.out).2.2 ?_ ?_);exact rfl;exact rfl;kernel_rfl;rw [HTC.out])
      |(go_at_call 11;(first|(with_reducible refine(HTD.out _ HC.out).mono ?_)|(with_reducible refine(HTT.out _ HC.out).mono ?_));rintro e u7 ⟨rfl,hu7⟩
        have HC:=zd (HC.out.trans (hu7.mono HC.out.size))
        clear hu7)
      |(go_at_call 12;refine(HRN.out _ HC.out).mono ?_;rintro e u8 ⟨rfl,hu8⟩
        have hrn:=HRL.out.1.2.2;obtain⟨rn,hrr⟩:∃ rn,(trimP D).run s=rn:=⟨_,rfl⟩;rw [hrr]at hrn;rw [hrr];have hrn2:decide (0<=rn)=bg:=hrn;have HC:=zd (HC.out.trans (hu8.mono HC.out.size))
        clear hu8 hrr)
      |(go_at_call 13;refine(HBG.out _ (HVF.out _ HC.out).1).mono ?_;rintro e u9 ⟨rfl,hu9⟩
        have HC:=zd (HC.out.trans (hu9.mono HC.out.size))
        clear hu9))
     go_ret;exact⟨rfl,(HVF.out _ HC.out).1⟩
end
end Go.Proofs.YtgbljnnmhmlifaaGreatDoor
