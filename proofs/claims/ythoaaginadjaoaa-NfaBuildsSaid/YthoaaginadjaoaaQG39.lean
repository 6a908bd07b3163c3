/-
 WHICH PLACES OF NODES COME DIRECTLY BEHIND WHICH, whole: a contract. Condition: the nodes' places lie in the rows of marks.
-/
import Derived.RegionTactic
import Derived.Deep.RegionHeld3
import Derived.Test.YthoaaginadjaoaaQG38
import Derived.Test.YthoaaginadjaoaaQG11
import Derived.Test.YthoaaginadjaoaaQG35
import Derived.Test.YthoaaginadjaoaaQG28
namespace Go.Proofs.Ythoaaginadjaoaa
section
open Go.RowKit
attribute [local irreducible] FreeW
set_option maxRecDepth 20000 in
set_option maxHeartbeats 16000000 in
theorem xzpw (n gm:Nat)(rb:Nat->Nat)(hn:n<=1048576)(a:Bud)(iha:∀ (v:Value) (w:World) (F:Nat->Nat->Bool),BudAt w a v->a.inN n->MatAt w gm rb n F->Calls Try.prog 31 #[v,.slice (some ⟨gm,0,none⟩) n n] w (PairsIs gm rb n (fun i q=>F i q||a.pr i q) w)) (v:Value)(w:World)(F:Nat->Nat->Bool)(hv:BudAt w (Bud.pls a) v)(hi:(Bud.pls a).inN n)(hm:MatAt w gm rb n F):
 Calls Try.prog 31 #[v,.slice (some ⟨gm,0,none⟩) n n] w (PairsIs gm rb n (fun i q=>F i q||(Bud.pls a).pr i q) w):=by
 have hmk:=fun u=>xzbd n (by omega) u
 obtain⟨k,x,rfl,hb,h1⟩:=hv;obtain⟨A,hA⟩:=h1.form;subst hA;have hia:a.inN n:=hi;have HA:=zd (iha _ w F h1 hia hm);have HRA:=zd (fun(ends:Bool) (u:World) (g:Nat) (f:Nat->Bool) (hu:OnM rb n w u) (hg:BlkIs u g 4 (bl n f))=>xzev n ends a _ u g f (BudAt.onM hu hm h1) hia hg);have HRZ:=zd (fun(ends:Bool) (u:World) (g:Nat) (f:Nat->Bool) (hu:OnM rb n w u) (hg:BlkIs u g 4 (bl n f))=>xzev n ends a _ u g f (BudAt.onM hu hm h1) hia hg);unfold PairsIs at HA;unfold RimIs at HRA HRZ;have HK:=zd (fun(u:World) (hu:OnM rb n w u)=>hu.typ hm (by decide) hb);have HFAR:=zd hm.far;clear iha h1 hm;unfold ndC at hb HK;obtain⟨c0,c1,c2,c3,c4,c5,c6,c7⟩:=hb.eight;clear hb
 go_enter Try.func31,Try.ntmps31
 go_wp2_with fail
 go_at_call 31
 refine HA.out.mono ?_;rintro e u1 ⟨⟨x1,rfl⟩,ho1,hm1⟩;have HU:=zd (And.intro ho1 hm1);clear HA ho1 hm1 c0 c1 c2 c3 c4 c5 c6 c7;obtain⟨c0,c1,c2,c3,c4,c5,c6,c7⟩:=(HK.out u1 HU.out.1).eight
 go_wp2_with fail
 go_at_call 31
 refine(xzjd n gm u1).mono ?_;rintro e u2 ⟨⟨x2,rfl⟩,rfl⟩;have HV:=HU;clear c0 c1 c2 c3 c4 c5 c6 c7;obtain⟨c0,c1,c2,c3,c4,c5,c6,c7⟩:=(HK.out u2 HV.out.1).eight;go_wp2;clear c0 c1 c2 c3 c4 c5 c6 c7
 go_region
 have hN:=(xzlp w u2 n);obtain⟨u4,hu4⟩:∃ u4,((u2.alloc (Obj.cells (bl n fun _=>false) 4)).alloc (Obj.cells (bl n fun _=>false) 4)).drew=u4:=⟨_,rfl⟩;rw [hu4]at hN ⊢;obtain⟨gf,hgf,hgf'⟩:∃ g,u2.heap.size+1=g/\Two w u2 u4 n u2.heap.size g:=⟨_,rfl,hN⟩;rw [hgf];obtain⟨gl,hgl,hgl'⟩:∃ g,u2.heap.size=g/\Two w u2 u4 n g gf:=⟨_,rfl,hgf'⟩;rw [hgl];have HN:=zd hgl';clear hgf hgl hu4 hN hgf' hgl'
 rotate_left
 have hN:=(xzlp w u2 n).symm;obtain⟨u4,hu4⟩:∃ u4,((u2.alloc (Obj.cells (bl n fun _=>false) 4)).alloc (Obj.cells (bl n fun _=>false) 4)).drew=u4:=⟨_,rfl⟩;rw [hu4]at hN ⊢;obtain⟨gl,hgl,hgl'⟩:∃ g,u2.heap.size+1=g/\Two w u2 u4 n g u2.heap.size:=⟨_,rfl,hN⟩;rw [hgl];obtain⟨gf,hgf,hgf'⟩:∃ g,u2.heap.size=g/\Two w u2 u4 n gl g:=⟨_,rfl,hgl'⟩;rw [hgf];have HN:=zd hgf';clear hgl hgf hu4 hN hgl' hgf'
 rotate_left
 all_goals
  have ho4:=HV.out.1.trans (OnM.of HN.out.below);have hm4:=HV.out.2.step HN.out.below;have hws:=HV.out.1.size;have hg1:=HN.out.ge1;have hg2:=HN.out.ge2;have HS:=zd (And.intro ho4 hm4);have HG:=zd (And.intro (Nat.le_trans hws hg1) (And.intro (Nat.le_trans hws hg2) HN.out.ne));have HB4:=zd (And.intro HN.out.b1 HN.out.b2);clear HV HU ho4 hm4 hws hg1 hg2 HN;obtain⟨c0,c1,c2,c3,c4,c5,c6,c7⟩:=(HK.out u4 HS.out.1).eight
  go_wp2_with fail
  go_at_call 30
  refine(HRA.out true u4 gl _ HS.out.1 HB4.out.1).mono ?_;rintro e u5 ⟨⟨x5,rfl⟩,ho5,hb5⟩
  have hmat:=fun {g:Nat} (h:w.heap.size<=g)=>(And.intro (fun e=>by have:=HFAR.out.1;omega:gm≠g) (fun i hi e=>by have:=HFAR.out.2 i hi;omega:∀ i,i<n->rb i≠g))
  have HMT:=zd (And.intro (@hmat gl HG.out.1) (@hmat gf HG.out.2.1));have hS5:=And.intro (HS.out.1.new ho5 HG.out.1) (HS.out.2.on ho5 HMT.out.1.1 HMT.out.1.2);have hf5:=ho5.blk (fun e=>HG.out.2.2 e.symm) HB4.out.2;obtain⟨la,hla⟩:∃ la:Nat->Bool,(fun q=>false||a.rm true q)=la:=⟨_,rfl⟩;rw [hla]at hb5;have HLA:=zd hla;have HS5:=zd (And.intro hS5 (And.intro hb5 hf5));clear hmat hS5 hf5 ho5 hb5 hla HS HB4 c0 c1 c2 c3 c4 c5 c6 c7;obtain⟨c0,c1,c2,c3,c4,c5,c6,c7⟩:=(HK.out u5 HS5.out.1.1).eight
  go_wp2_with fail
  go_at_call 30
  refine(HRZ.out false u5 gf _ HS5.out.1.1 HS5.out.2.2).mono ?_;rintro e u6 ⟨⟨x6,rfl⟩,ho6,hb6⟩;obtain⟨fi,hfi⟩:∃ fi:Nat->Bool,(fun q=>false||a.rm false q)=fi:=⟨_,rfl⟩;rw [hfi]at hb6;have HFI:=zd hfi;have hl6:=ho6.blk HG.out.2.2 HS5.out.2.1;have hm6:=HS5.out.1.2.on ho6 HMT.out.2.1 HMT.out.2.2;obtain⟨F1,hF1⟩:∃ F1:Nat->Nat->Bool,(fun i q=>F i q||a.pr i q)=F1:=⟨_,rfl⟩;rw [hF1]at hm6;have HF1:=zd hF1;have HS6:=zd (And.intro (HS5.out.1.1.new ho6 HG.out.2.1) (And.intro hm6 (And.intro hl6 hb6)));clear hfi hl6 hm6 hF1 ho6 hb6 HS5 HRA HRZ HK c0 c1 c2 c3 c4 c5 c6 c7;go_wp2
  go_loopw [6] (fun i wr=>∃ p:Nat,i=.int .i64 p/\p<=n/\Hid (OnM rb n w wr/\MatAt wr gm rb n (fun i q=>F1 i q||(decide (i<p)&&(la i&&fi q)))/\BlkIs wr gl 4 (bl n la)/\BlkIs wr gf 4 (bl n fi))) (fun i _=>n - (intOf i).toNat)
  case atStart=>exact⟨0,rfl,Nat.zero_le _,zd ⟨HS6.out.1,HS6.out.2.1.of (fun i q=>by simp),HS6.out.2.2.1,HS6.out.2.2.2⟩⟩
  case round=>
   obtain⟨p,rfl,hp,HH⟩:=hrel
   by_cases hpn:p<n
   ·have hk1:IntKind.i64.wrap ((p:Int)+1)=((p+1:Nat):Int):=by rw [IntKind.wrap_i64];omega
    have hdp:decide ((p:Int)<(n:Int))=true:=by simp;omega
    have hi1:(p:Int)<(n:Int):=by omega
    obtain⟨G,hG⟩:∃ G:Nat->Nat->Bool,(fun i q=>F1 i q||(decide (i<p)&&(la i&&fi q)))=G:=⟨_,rfl⟩;have hh:=HH.out;rw [hG]at hh;have HH2:=zd hh;have HGG:=zd hG;clear HH hh hG;go_wp2
    go_loopw [7] (fun i wz=>∃ q:Nat,i=.int .i64 q/\q<=n/\Hid (OnM rb n w wz/\MatAt wz gm rb n (fun i j=>G i j||(decide (i=p)&&(decide (j<q)&&(la p&&fi j))))/\BlkIs wz gl 4 (bl n la)/\BlkIs wz gf 4 (bl n fi))) (fun i _=>n - (intOf i).toNat)
    case atStart=>exact⟨0,rfl,Nat.zero_le _,zd ⟨HH2.out.1,HH2.out.2.1.of (fun i q=>by simp),HH2.out.2.2.1,HH2.out.2.2.2⟩⟩
    case round=>
     obtain⟨q,rfl,hq,HZ⟩:=hrel;obtain⟨H,hH⟩:∃ H:Nat->Nat->Bool,(fun i j=>G i j||(decide (i=p)&&(decide (j<q)&&(la p&&fi j))))=H:=⟨_,rfl⟩;have hz:=HZ.out;rw [hH]at hz;have HZ2:=zd hz;have HHH:=zd hH;clear HZ hz hH
     by_cases hqn:q<n
     ·have hk2:IntKind.i64.wrap ((q:Int)+1)=((q+1:Nat):Int):=by rw [IntKind.wrap_i64];omega
      have hdq:decide ((q:Int)<(n:Int))=true:=by simp;omega
      have hi2:(q:Int)<(n:Int):=by omega
      have y9:=xzao HZ2.out.2.2.1 hpn
      cases hlp:la p with
      |false=>
       rw [hlp]at y9;have HLP:=zd hlp;clear hlp;go_wp2
       exact⟨⟨p+1,rfl,hpn,zd ⟨HZ2.out.1,HZ2.out.2.1.cong fun i _ j _=>by
        rw [<-HHH.out,<-HGG.out]
        exact xzpu HLP.out,HZ2.out.2.2.1,HZ2.out.2.2.2⟩⟩,by simp [intOf];omega⟩
      |true=>
       rw [hlp]at y9;have HLP:=zd hlp;clear hlp;obtain⟨x,hx⟩:∃ x,H p q=x:=⟨_,rfl⟩;have HX:=zd hx;clear hx
       go_wp2_with fail
       refine xzat 19 19 100 (fun u=>Hid (OnM rb n w u/\MatAt u gm rb n H/\BlkIs u gl 4 (bl n la)/\BlkIs u gf 4 (bl n fi))) (fun _=>#[]) (fun _=>0) (by kernel_rfl) (by kernel_rfl) rfl (zd ⟨HZ2.out.1.trans (OnM.of (Below.refl _ _).drew),HZ2.out.2.1.drew,HZ2.out.2.2.1.drew,HZ2.out.2.2.2.drew⟩) (fun u u' h hb=>zd ⟨h.out.1.trans (OnM.of hb),h.out.2.1.step hb,h.out.2.2.1.step hb,h.out.2.2.2.step hb⟩) (fun i o h1 h2=>absurd h1 (by omega)) ?_;clear y9;simp only [List.take_succ_cons,List.take_zero,List.drop_succ_cons,List.drop_zero]
       cases x with
       |true=>
        repeat
         refine xzae fun K hK=>?_
         first
          |((first
           |(refine xzcp 12 93 false rfl rfl ?_ ?_;(focus (go_simp;done))))
            have HK:=zd hK;clear hK;go_simp;have hK:=HK.out;clear HK;refine hK _ ?_
            clear hK K)
          |(skip
            (first
             |skip)
            go_simp
            apply Exists.intro
            refine⟨fun u h1=>?_,hK _ ?_⟩
            ·have y0:=h1.out.2.1.at hpn
             have y1:=xzao (h1.out.2.1.cell p hpn) hqn;rw [HX.out]at y1;have y2:=xzao h1.out.2.2.2 hqn;unfold freeAt;go_simp
             first
              |exact xzah
              |(apply xzag
                first
                 |fail
                )
            clear hK K)
        refine xzay ?_;intro gg u7 hC hb7 _ _;have HD:=zd hC.out;clear hC hb7;rw [Nat.sub_self,List.take_zero];unfold putNews;have z1:=xzao (HD.out.2.1.cell p hpn) hqn;have z2:=(HD.out.2.1.cell p hpn).frozen q;go_wp2;exact⟨⟨q+1,rfl,hqn,zd ⟨HD.out.1.put hpn _,HD.out.2.1.put hpn true (fun i _ j _=>by have hh:=xzlq (G:=G) (H:=H) (la:=la) (fi:=fi) (p:=p) (q:=q) (val:=true) (fun a b=>(congrFun (congrFun HHH.out a) b).symm) HLP.out (by simp [HX.out]) i j;rw [HLP.out]at hh;exact hh),HD.out.2.2.1.far (fun e=>HMT.out.1.2 p hpn e.symm) _,HD.out.2.2.2.far (fun e=>HMT.out.2.2 p hpn e.symm) _⟩⟩,by simp [intOf];omega⟩
       |false=>
        repeat
         refine xzae fun K hK=>?_
         (first
          |(refine xzbo 12 93 false rfl rfl ?_ ?_;(focus (go_simp;done)))
          |skip)
         go_simp
         apply Exists.intro
         refine⟨fun u h1=>?_,hK _ ?_⟩
         ·have y0:=h1.out.2.1.at hpn
          have y1:=xzao (h1.out.2.1.cell p hpn) hqn;rw [HX.out]at y1;have y2:=xzao h1.out.2.2.2 hqn;unfold freeAt;go_simp
          first
           |exact xzah
           |(apply xzag
             first
              |fail
             )
         clear hK K
        refine xzay ?_;intro gg u7 hC hb7 _ _;have HD:=zd hC.out;clear hC hb7;rw [Nat.sub_self,List.take_zero];unfold putNews;have z1:=xzao (HD.out.2.1.cell p hpn) hqn;have z2:=(HD.out.2.1.cell p hpn).frozen q;go_wp2;exact⟨⟨q+1,rfl,hqn,zd ⟨HD.out.1.put hpn _,HD.out.2.1.put hpn (fi q) (fun i _ j _=>by have hh:=xzlq (G:=G) (H:=H) (la:=la) (fi:=fi) (p:=p) (q:=q) (val:=(fi q)) (fun a b=>(congrFun (congrFun HHH.out a) b).symm) HLP.out (by simp [HX.out]) i j;rw [HLP.out]at hh;exact hh),HD.out.2.2.1.far (fun e=>HMT.out.1.2 p hpn e.symm) _,HD.out.2.2.2.far (fun e=>HMT.out.2.2 p hpn e.symm) _⟩⟩,by simp [intOf];omega⟩
     ·have hdq:decide ((q:Int)<(n:Int))=false:=by simp;omega
      obtain rfl:q=n:=by omega
      go_wp2
      exact⟨⟨p+1,rfl,hpn,zd ⟨HZ2.out.1,HZ2.out.2.1.cong fun i _ j hj=>by
       rw [<-HHH.out,<-HGG.out]
       exact xztg hj,HZ2.out.2.2.1,HZ2.out.2.2.2⟩⟩,by simp [intOf];omega⟩
   ·have hdp:decide ((p:Int)<(n:Int))=false:=by simp;omega
    obtain rfl:p=n:=by omega
    go_wp2
    go_end0
    refine PairsIs.of ⟨⟨_,rfl⟩,HH.out.1,HH.out.2.1.cong (F':=fun i q=>F i q||(Bud.pls a).pr i q) fun i hi q hq=>?_⟩ fun i q=>rfl
    rw [<-HF1.out,<-HLA.out,<-HFI.out]
    simp [Bud.rm,Bud.pr,hi,Bool.or_assoc]
set_option maxRecDepth 20000 in
set_option maxHeartbeats 16000000 in
theorem xzpx (n gm:Nat)(rb:Nat->Nat)(a b:Bud)(iha:∀ (v:Value) (w:World) (F:Nat->Nat->Bool),BudAt w a v->a.inN n->MatAt w gm rb n F->Calls Try.prog 31 #[v,.slice (some ⟨gm,0,none⟩) n n] w (PairsIs gm rb n (fun i q=>F i q||a.pr i q) w))
 (ihb:∀ (v:Value) (w:World) (F:Nat->Nat->Bool),BudAt w b v->b.inN n->MatAt w gm rb n F->Calls Try.prog 31 #[v,.slice (some ⟨gm,0,none⟩) n n] w (PairsIs gm rb n (fun i q=>F i q||b.pr i q) w))(v:Value)(w:World)(F:Nat->Nat->Bool)(hv:BudAt w (Bud.alt a b) v)(hi:(Bud.alt a b).inN n)(hm:MatAt w gm rb n F):
 Calls Try.prog 31 #[v,.slice (some ⟨gm,0,none⟩) n n] w (PairsIs gm rb n (fun i q=>F i q||(Bud.alt a b).pr i q) w):=by
 obtain⟨k,x,y,rfl,hb,h1,h2⟩:=hv;obtain⟨A,hA⟩:=h1.form;obtain⟨B,hB⟩:=h2.form;subst hA;subst hB;have HA:=zd (iha _ w F h1 hi.1 hm);have HB:=zd (fun(u:World) (F':Nat->Nat->Bool) (hu:OnM rb n w u) (hg':MatAt u gm rb n F')=>ihb _ u F' (BudAt.onM hu hm h2) hi.2 hg');unfold PairsIs at HA HB;have HK:=zd (fun(u:World) (hu:OnM rb n w u)=>hu.typ hm (by decide) hb);clear iha ihb h2 h1 hm;unfold ndC at hb HK;obtain⟨c0,c1,c2,c3,c4,c5,c6,c7⟩:=hb.eight;clear hb
 go_enter Try.func31,Try.ntmps31
 go_wp2_with fail
 go_at_call 31
 refine HA.out.mono ?_;rintro e u1 ⟨⟨x1,rfl⟩,ho1,hm1⟩;have HU:=zd (And.intro ho1 hm1);clear HA ho1 hm1 c0 c1 c2 c3 c4 c5 c6 c7;obtain⟨c0,c1,c2,c3,c4,c5,c6,c7⟩:=(HK.out u1 HU.out.1).eight
 go_wp2_with fail
 go_at_call 31
 refine(HB.out u1 _ HU.out.1 HU.out.2).mono ?_;rintro e u2 ⟨⟨x2,rfl⟩,ho2,hm2⟩;have HV:=zd (And.intro (HU.out.1.trans ho2) hm2);clear ho2 hm2 HB c0 c1 c2 c3 c4 c5 c6 c7;obtain⟨c0,c1,c2,c3,c4,c5,c6,c7⟩:=(HK.out u2 HV.out.1).eight;go_wp2
 go_end0
 exact PairsIs.of ⟨⟨_,rfl⟩,HV.out.1,HV.out.2⟩ fun i q=>by simp [Bud.pr,Bool.or_assoc]
set_option maxRecDepth 20000 in
theorem xzje (n gm:Nat)(what p k:Nat)(m:Nat->Bool)(x y:Value)(w:World)(hw:what=0\/what=1)(hb:BlkIs w k 81 (ndC what p m x y)):
 Calls Try.prog 31 #[.pointer (some ⟨k,0,none⟩),.slice (some ⟨gm,0,none⟩) n n] w (SameIs w):=by
 have hwd:decide ((what:Int)<2)=true:=by rcases hw with rfl|rfl<;>rfl
 clear hw;unfold ndC at hb;obtain⟨c0,c1,c2,c3,c4,c5,c6,c7⟩:=hb.eight;clear hb
 go_enter Try.func31,Try.ntmps31
 go_wp2
 go_end0
 exact⟨⟨_,rfl⟩,rfl⟩
theorem xzpy (n gm:Nat)(rb:Nat->Nat)(hn:n<=1048576):∀ (N:Bud) (v:Value) (w:World) (F:Nat->Nat->Bool),BudAt w N v->N.inN n->MatAt w gm rb n F->
 Calls Try.prog 31 #[v,.slice (some ⟨gm,0,none⟩) n n] w (PairsIs gm rb n (fun i q=>F i q||N.pr i q) w):=by
 intro N
 induction N with
 |nil=>
  intro v w F hv hi hm;obtain rfl:=hv;refine(xzjd n gm w).mono ?_;rintro e u ⟨h1,rfl⟩;exact⟨h1,OnM.refl _ _ _,hm.of fun i q=>by simp [Bud.pr]⟩
 |e=>
  intro v w F hv hi hm;obtain⟨k,rfl,hb⟩:=hv;refine(xzje n gm 0 0 k _ _ _ w (.inl rfl) hb).mono ?_;rintro e u ⟨h1,rfl⟩;exact⟨h1,OnM.refl _ _ _,hm.of fun i q=>by simp [Bud.pr]⟩
 |pl p m=>
  intro v w F hv hi hm;obtain⟨k,rfl,hb⟩:=hv;refine(xzje n gm 1 p k m _ _ w (.inr rfl) hb).mono ?_;rintro e u ⟨h1,rfl⟩;exact⟨h1,OnM.refl _ _ _,hm.of fun i q=>by simp [Bud.pr]⟩
 |cat a b iha ihb=>exact fun v w F hv hi hm=>xzpv n gm rb hn a b iha ihb v w F hv hi hm
 |alt a b iha ihb=>exact fun v w F hv hi hm=>xzpx n gm rb a b iha ihb v w F hv hi hm
 |pls a iha=>exact fun v w F hv hi hm=>xzpw n gm rb hn a iha v w F hv hi hm
end
section
open Go.RowKit
attribute [local irreducible] FreeW
def OutsIs (cb n0:Nat)(T:Tree)(w:World):Ending->World->Prop:=fun e w'=>(∃ x,e=.returned x/\BudAt w' (outT T n0).1 x)/\On cb w w'/\BlkIs w' cb 3 #[.int .i64 ((n0+T.plN:Nat):Int)]
def OutIs (T:Tree):Prop:=∀ (v:Value) (w:World) (cb n0:Nat),T.At w v->BlkIs w cb 3 #[.int .i64 (n0:Nat)]->n0+T.plN<=1048576->
 Calls Try.prog 27 #[v,.pointer (some ⟨cb,0,none⟩)] w (OutsIs cb n0 T w)
theorem Tree.At.on {g:Nat}{x:Value}{t:TypeId}:∀ (T:Tree) {W W':World} {v:Value},On g W W'->BlkIs W g t #[x]->T.At W v->T.At W' v:=by
 intro T
 induction T using Tree.ind with
 |h k m l lo hi ih=>
  intro W W' v hon hg h;unfold Tree.At at h ⊢;obtain⟨A,c,rfl,hc,hs⟩:=h;refine⟨A,c,rfl,hc,fun hne=>?_⟩;obtain⟨b,o,rfl,ha⟩:=hs hne;refine⟨b,o,rfl,AllAt.mk l b o fun i hi=>?_⟩;obtain⟨cs,h1,h2,h3⟩:=AllAt.get l b o ha i hi;refine⟨cs,ih _ (List.getElem_mem hi) hon hg h1,h2,fun j u hu=>?_⟩;have h4:=h3 j u hu;have hlt:b<W.heap.size:=World.block_lt_of_cell? W ⟨b,o+i*8+j,none⟩ h4
  have hbg:b≠g:=fun e=>by
   subst e;have h5:=h3 1 cs[1] (by rw [List.getElem?_eq_getElem]);have h6:=hg.cell (o+i*8+1);rw [h5]at h6
   simp at h6
  have h7:=hon.block b hlt hbg;rw [<-h4];unfold World.cell?;simp only [h7]
theorem xzsn (T:Tree):T.ok=true->T.places<=(T.plN:Int):=by
 induction T using Tree.ind with
 |h k m l lo hi ih=>
  intro h;have hop:=xzcb h;have hk:=xzas hop.2
  have hs:sumP l<=(sumN l:Int):=by
   have:∀ l:List Tree,(∀ t∈l,t.places<=(t.plN:Int))->sumP l<=(sumN l:Int):=by
    intro l
    induction l with
    |nil=>intro _;simp [sumP,sumN]
    |cons a r ihr=>
     intro hl;have h1:=hl a (by simp)
     have h2:=ihr fun t ht=>hl t (by simp [ht])
     simp only [sumP,sumN];omega
   exact this l fun t ht=>ih t ht (hop.1 t ht)
  have hc:(if k=4 then copiesI lo hi else 1)=(((if k=4 then(copiesI lo hi).toNat else 1:Nat)):Int):=by
   split
   ·unfold copiesI
    split<;>omega
   ·rfl
  have h1:((if k=1 then 1 else 0)+sumP l)<=(((if k=1 then 1 else 0)+sumN l:Nat):Int):=by split<;>omega
  unfold Tree.places Tree.plN;refine Int.le_trans (Int.min_le_left _ _) ?_;rw [hc,Int.natCast_mul];exact Int.mul_le_mul_of_nonneg_right h1 (Int.natCast_nonneg _)
theorem xzex {T:Tree}(hok:T.ok=true):T.places=0↔T.plN=0:=by
 have hp:=xzav T hok
 constructor
 ·intro h
  have:=xzds T hok (by omega);omega
 ·intro h
  by_cases h2:T.places<=2000
  ·have:=xzds T hok h2
   omega
  ·have:=xzsn T hok
   omega
theorem xzso {T:Tree}(h:T.plN=0)(n:Nat):(outT T n).1=.e:=by
 cases T with
 |node k m l lo hi=>unfold outT;rw [if_pos h]
set_option maxRecDepth 20000 in
set_option maxHeartbeats 16000000 in
theorem xzsp (T:Tree)(hok:T.ok=true)(hn:T.nodes<=1048576)(h0:T.plN=0):OutIs T:=by
 intro v w cb n0 hat hcb hN;have hp0:T.places=0:=(xzex hok).2 h0;have htk:T.takes (ByteArray.mk #[]).data.toList=true:=xzlm T hok h0 [] (atP 0) 0 (by unfold atP updS;simp)
 have hpl:=fun(u:World) (hu:Below w.heap.size w u)=>xzbt T hok hn v u (hat.step hu)
 have htt:=fun(u:World) (hu:Below w.heap.size w u)=>xzkf T v (ByteArray.mk #[]) (by decide) u hok (hat.step hu)
 rw [hp0]at hpl;rw [htk]at htt;have HPOST:=zd (fun(x:Value) (u:World) (hu:Below w.heap.size w u) (hx:BudAt u .e x)=>(show OutsIs cb n0 T w (.returned x) u from⟨⟨x,rfl,by rw [xzso h0];exact hx⟩,On.of hu,by rw [h0];exact hcb.step hu⟩))
 cases T with
 |node k m l lo hi=>
 obtain⟨A,c,rfl,_,_⟩:=hat.open;have hB0:Below w.heap.size w (w.alloc (.cells (reL k m A l.length c lo hi).toArray 39)):=(Below.refl _ _).alloc (Nat.le_refl _) _;have hX0:=BlkIs.new w 39 (reL k m A l.length c lo hi).toArray;have HPL:=zd hpl;have HTT:=zd htt;have HB0:=zd hB0;have HX0:=zd hX0;clear hat hpl htt hB0 hX0 hp0 htk h0 hok hn hcb;unfold reV reL at*;obtain⟨d0,d1,d2,d3,d4,d5,d6,d7⟩:=HX0.out.eight
 go_enter Try.func27,Try.ntmps27
 go_wp2_with fail
 go_at_call 8
 refine(HPL.out _ HB0.out).mono ?_;rintro e u1 ⟨rfl,hb1⟩;have HB1:=zd (HB0.out.trans (hb1.mono HB0.out.size));have HX1:=zd (HX0.out.step hb1);clear hb1 d0 d1 d2 d3 d4 d5 d6 d7;obtain⟨d0,d1,d2,d3,d4,d5,d6,d7⟩:=HX1.out.eight
 go_wp2_with fail
 go_at_call 43
 refine(HTT.out _ HB1.out).mono ?_;rintro e u2 ⟨rfl,hb2⟩;have HB2:=zd (HB1.out.trans (hb2.mono HB1.out.size));clear hb2 d0 d1 d2 d3 d4 d5 d6 d7;go_wp2;go_ret;exact HPOST.out _ _ (HB2.out.alloc HB2.out.size _) ⟨_,rfl,BlkIs.new _ _ _⟩
set_option maxRecDepth 20000 in
set_option maxHeartbeats 16000000 in
theorem xzsq (m:Nat->Bool)(lo hi:Int)(hok:(Tree.node 1 m [] lo hi).ok=true):OutIs (.node 1 m [] lo hi):=by
 intro v w cb n0 hat hcb hN
 have hpn:(Tree.node 1 m [] lo hi).plN=1:=by unfold Tree.plN;simp [sumN]
 have hp1:(Tree.node 1 m [] lo hi).places=1:=by unfold Tree.places;simp [sumP];decide
 have hpl:=fun(u:World) (hu:Below w.heap.size w u)=>xzbt _ hok (by unfold Tree.nodes;simp [nodesL]) v u (hat.step hu)
 rw [hp1]at hpl;rw [hpn]at hN
 have hout:(outT (Tree.node 1 m [] lo hi) n0).1=.pl n0 m:=by
  unfold outT;rw [if_neg (by rw [hpn];omega),if_pos rfl]
 have HPOST:=zd (fun(x:Value) (u:World) (hu:On cb w u) (hx:BudAt u (.pl n0 m) x) (hc:BlkIs u cb 3 #[.int .i64 ((n0+1:Nat):Int)])=>(show OutsIs cb n0 (Tree.node 1 m [] lo hi) w (.returned x) u from⟨⟨x,rfl,by rw [hout];exact hx⟩,hu,by rw [hpn];exact hc⟩));obtain⟨A,c,rfl,_,_⟩:=hat.open;have hB0:Below w.heap.size w (w.alloc (.cells (reL 1 m A 0 c lo hi).toArray 39)):=(Below.refl _ _).alloc (Nat.le_refl _) _;have hX0:=BlkIs.new w 39 (reL 1 m A 0 c lo hi).toArray;have HPL:=zd hpl;have HB0:=zd hB0;have HX0:=zd hX0;have HCB:=zd hcb
 have hwr2:IntKind.i64.wrap ((n0:Int)+1 - 1)=(n0:Int):=by rw [IntKind.wrap_i64];omega
 clear hat hpl hB0 hX0 hp1 hpn hok hcb hout;have hlen:(([]:List Tree).length:Int)=0:=rfl;unfold reV reL at*;obtain⟨d0,d1,d2,d3,d4,d5,d6,d7⟩:=HX0.out.eight
 go_enter Try.func27,Try.ntmps27
 go_wp2_with fail
 go_at_call 8
 refine(HPL.out _ HB0.out).mono ?_;rintro e u1 ⟨rfl,hb1⟩;have HB1:=zd (HB0.out.trans (hb1.mono HB0.out.size));have HX1:=zd (HX0.out.step hb1);clear hb1 d0 d1 d2 d3 d4 d5 d6 d7;obtain⟨d0,d1,d2,d3,d4,d5,d6,d7⟩:=HX1.out.eight;have hc1:=HCB.out.step HB1.out;have c0:u1.cell? ⟨cb,0,none⟩=some (.int .i64 (n0:Int)):=hc1.cell 0;have f0:=hc1.frozen 0
 have hne:w.heap.size≠cb:=fun e=>by have:=HCB.out.lt;omega
 have HPUT:=zd (hc1.put 0 (.int .i64 ((n0:Int)+1)));have HNE:=zd hne;clear hc1 hne
 go_wp2_with fail
 obtain⟨u2,hu2⟩:∃ u2,u1.setCell ⟨cb,0,none⟩ (.int .i64 ((n0:Int)+1))=u2:=⟨_,rfl⟩;rw [hu2];rw [hu2]at HPUT;have HX2:=zd (show BlkIs u2 w.heap.size 39 _ by rw [<-hu2];exact HX1.out.far HNE.out _);have HON:=zd (show On cb w u2 by rw [<-hu2];exact(On.of HB1.out).trans (On.put _));clear hu2 c0 f0 d0 d1 d2 d3 d4 d5 d6 d7;obtain⟨d0,d1,d2,d3,d4,d5,d6,d7⟩:=HX2.out.eight;have c0:u2.cell? ⟨cb,0,none⟩=some (.int .i64 ((n0:Int)+1)):=HPUT.out.cell 0
 go_region
 go_wp2;go_ret;refine HPOST.out _ _ (HON.out.trans (On.of ((Below.refl _ _).alloc (Nat.le_refl _) _).drew)) ⟨_,rfl,(BlkIs.new _ _ _).drew⟩ ?_;rw [Int.natCast_add];exact(HPUT.out.alloc _).drew
end
section
open Go.RowKit
attribute [local irreducible] FreeW
theorem On.cell {g:Nat}{u u':World}{p:Addr}{v:Value}(h:On g u u')(hp:p.block≠g)(hc:u.cell? p=some v):u'.cell? p=some v:=by
 have h7:=h.block p.block (World.block_lt_of_cell? u p hc) hp;rw [<-hc];unfold World.cell?;simp only [h7]
theorem On.drew {g:Nat}{u v:World}(h:On g u v):On g u v.drew:=h.trans (On.of (Below.refl _ _).drew)
theorem xzfq (t:Tree):∀ (l:List Tree) (n:Nat),outs (l++[t]) n=((outs l n).1++[(outT t (outs l n).2).1],(outT t (outs l n).2).2)
 |[],n=>by simp [outs]
 |a::r,n=>by simp only [List.cons_append,outs,xzfq t r]
def glL (k:Int)(L:List Bud):Bud:=if k=2 then catL L else altL L
def gB (k:Int)(a b:Bud):Bud:=if k=2 then .cat a b else .alt a b
theorem xzvb (k:Int)(L:List Bud)(b:Bud)(h:L≠[]):glL k (L++[b])=gB k (glL k L) b:=by
 unfold glL gB
 cases L with
 |nil=>exact absurd rfl h
 |cons a r=>split<;>simp [catL,altL]
theorem glL_one (k:Int)(b:Bud):glL k [b]=b:=by unfold glL;split<;>rfl
theorem BudAt.join {W:World}{k:Int}{g:Nat}{a b:Bud}{x y:Value}(hk:k=2\/k=3)(hb:BlkIs W g 81 #[.int .i64 k,.int .i64 0,.int .u64 0,.int .u64 0,.int .u64 0,.int .u64 0,x,y])(h1:BudAt W a x)(h2:BudAt W b y):BudAt W (gB k a b) (.pointer (some ⟨g,0,none⟩)):=by
 have e0:(0:Int)=(wd no8 0:Nat)/\(0:Int)=(wd no8 1:Nat)/\(0:Int)=(wd no8 2:Nat)/\(0:Int)=(wd no8 3:Nat):=⟨by decide+kernel,by decide+kernel,by decide+kernel,by decide+kernel⟩
 rcases hk with rfl|rfl
 ·exact⟨g,x,y,rfl,by
   unfold ndC;rw [<-e0.1,<-e0.2.1,<-e0.2.2.1,<-e0.2.2.2];exact hb,h1,h2⟩
 ·exact⟨g,x,y,rfl,by
   unfold ndC;rw [<-e0.1,<-e0.2.1,<-e0.2.2.1,<-e0.2.2.2];exact hb,h1,h2⟩
theorem out_row {k:Int}(hk:k=2\/k=3){m:Nat->Bool}{l:List Tree}{lo hi:Int}(h:(Tree.node k m l lo hi).plN≠0)(n:Nat):(outT (Tree.node k m l lo hi) n).1=glL k (outs l n).1:=by
 unfold outT;rw [if_neg h,if_neg (by omega)]
 rcases hk with rfl|rfl
 ·rw [if_pos rfl];rfl
 ·rw [if_neg (by decide),if_pos rfl];rfl
set_option maxRecDepth 20000 in
set_option maxHeartbeats 16000000 in
theorem xzpz (k:Int)(hk:k=2\/k=3)(m:Nat->Bool)(l:List Tree)(lo hi:Int)(hok:(Tree.node k m l lo hi).ok=true)(hn:(Tree.node k m l lo hi).nodes<=1048576)(h0:(Tree.node k m l lo hi).plN≠0)(IH:∀ t∈l,OutIs t):OutIs (.node k m l lo hi):=by
 intro v w cb n0 hat hcb hN;have hop:=xzcb hok
 have hl2:2<=l.length:=by
  have h2:=hop.2;unfold okNode at h2
  rcases hk with rfl|rfl
  ·simp at h2;omega
  ·simp at h2;omega
 have hpn:(Tree.node k m l lo hi).plN=sumN l:=by
  unfold Tree.plN
  rcases hk with rfl|rfl<;>simp
 have hp0:(Tree.node k m l lo hi).places≠0:=fun e=>h0 ((xzex hok).1 e)
 have hpl:=fun(u:World) (hu:Below w.heap.size w u)=>xzbt _ hok hn v u (hat.step hu)
 obtain⟨pz,hpz⟩:∃ pz,pz=(Tree.node k m l lo hi).places:=⟨_,rfl⟩;rw [<-hpz]at hpl hp0
 have hpd:decide (pz=0)=false:=by simp;exact hp0
 rw [hpn]at hN
 have hnl:l.length<=1048576:=by
  have h1:=xzcj l;unfold Tree.nodes at hn;omega
 obtain⟨kk,hkk⟩:∃ kk,kk=k:=⟨_,rfl⟩;have HPOST:=zd (fun(x:Value) (u:World) (hu:On cb w u) (hx:BudAt u (glL kk (outs l n0).1) x) (hc:BlkIs u cb 3 #[.int .i64 ((n0+sumN l:Nat):Int)])=>(show OutsIs cb n0 (Tree.node k m l lo hi) w (.returned x) u from⟨⟨x,rfl,by rw [out_row hk h0,<-hkk];exact hx⟩,hu,by rw [hpn];exact hc⟩))
 have hokT:okTs l:=(by
  have:=xzcw _ hok;unfold Tree.okT at this
  exact this.2)
 have HSN:=zd (fun(j:Nat) (h:j<l.length)=>(show(outs (l.take (j+1)) n0).1=(outs (l.take j) n0).1++[(outT l[j] (n0+sumN (l.take j))).1]/\sumN (l.take (j+1))=sumN (l.take j)+(l[j]).plN/\n0+sumN (l.take j)+(l[j]).plN<=1048576 by
  have h1:=xzdm l (j+1);have h2:=(outs_n (l.take j) n0 (xzee j hokT)).1;rw [List.take_succ_eq_append_getElem h]at h1 ⊢;rw [xzdl]at h1 ⊢;rw [xzfq,h2]
  exact⟨rfl,rfl,by omega⟩))
 have HLN:=zd (fun(j:Nat)=>(outs_n (l.take j) n0 (xzee j hokT)).2);have HCAT:=zd (fun(j:Nat) (h:j<l.length) (u:World) (hu:On cb w u) (n:Nat) (hc:BlkIs u cb 3 #[.int .i64 (n:Nat)]) (hb:n+(l[j]).plN<=1048576) (cs:List Value) (hcs:Tree.At w l[j] (.agg cs.toArray))=>IH l[j] (List.getElem_mem h) (.agg cs.toArray) u cb n (Tree.At.on l[j] hu hcb hcs) hc hb);obtain⟨A,c,rfl,hcc,hrows⟩:=hat.open;obtain⟨b,o,rfl,hbw,hg⟩:=hrows (by intro e;rw [e]at hl2;simp at hl2);have HG:=zd hg
 have hbc:b≠cb:=fun e=>by
  obtain⟨cs,h1,h2,h3⟩:=hg 0 (by omega);have h5:=h3 1 cs[1] (by rw [List.getElem?_eq_getElem]);have h6:=hcb.cell (o+0*8+1);rw [e]at h5;rw [h5]at h6
  simp at h6
 have hB0:Below w.heap.size w (w.alloc (.cells (reL k m (some ⟨b,o,none⟩) l.length c lo hi).toArray 39)):=(Below.refl _ _).alloc (Nat.le_refl _) _;have hX0:=BlkIs.new w 39 (reL k m (some ⟨b,o,none⟩) l.length c lo hi).toArray;have HPL:=zd hpl;have HB0:=zd hB0;have HX0:=zd hX0
 have hne:w.heap.size≠cb:=fun e=>by have:=hcb.lt;omega
 have HCB:=zd hcb;have HNE:=zd (And.intro hne hbc)
 have hpe:(pz==0)=false:=by simp;exact hp0
 have hl1:(0:Int)<(l.length:Int):=by omega
 have hnl':(l.length:Int)<=1048576:=by omega
 have HKK:=zd (show kk=2\/kk=3 by rw [hkk];exact hk);have HKE:=zd hkk.symm;clear hkk;clear hat hpl hB0 hX0 hpz hp0 h0 hop hpn hrows hg hne hbc hcb IH hokT hok hn;unfold reV reL at*;obtain⟨d0,d1,d2,d3,d4,d5,d6,d7⟩:=HX0.out.eight
 rcases hk with rfl|rfl
 all_goals
  go_enter Try.func27,Try.ntmps27
  go_wp2_with fail
  go_at_call 8
  refine(HPL.out _ HB0.out).mono ?_;rintro e u1 ⟨rfl,hb1⟩;have HB1:=zd (HB0.out.trans (hb1.mono HB0.out.size));have HX1:=zd (HX0.out.step hb1);clear hb1 d0 d1 d2 d3 d4 d5 d6 d7;obtain⟨d0,d1,d2,d3,d4,d5,d6,d7⟩:=HX1.out.eight;obtain⟨cs,hcat,hlen,hrow⟩:=HG.out 0 (by omega);obtain⟨A',n',c',rfl⟩:=hcat.eight;obtain⟨r0,r1,r2,r3,r4,r5,r6,r7⟩:=xzaj hrow HB1.out;have hcx:=HCAT.out 0 (by omega) u1 (On.of HB1.out) n0 (HCB.out.step HB1.out) (by have:=(HSN.out 0 (by omega)).2.2;simpa [sumN]using this) _ hcat;unfold OutsIs at hcx;have HCX:=zd hcx;clear hcx hcat hlen hrow;simp only [Nat.zero_mul,Nat.add_zero]at r0 r1 r2 r3 r4 r5 r6 r7
  go_wp2_with fail
  go_at_call 27
  refine HCX.out.mono ?_;rintro e u2 ⟨⟨x0,rfl,hx⟩,ho2,hc2⟩
  have hb2:BlkIs u2 w.heap.size 39 #[.int .i64 kk,.int .u64 (wd m 0:Nat),.int .u64 (wd m 1:Nat),.int .u64 (wd m 2:Nat),.int .u64 (wd m 3:Nat),.slice (some ⟨b,o,none⟩) l.length c,.int .i64 lo,.int .i64 hi]:=by
   rw [<-HKE.out];exact ho2.blk HNE.out.1 HX1.out
  have hx2:BudAt u2 (glL kk (outs (l.take 1) n0).1) x0:=by
   rw [(HSN.out 0 (by omega)).1];simp only [List.take_zero,outs,List.nil_append,glL_one,sumN,Nat.add_zero];exact hx
  have hc3:BlkIs u2 cb 3 #[.int .i64 ((n0+sumN (l.take 1):Nat):Int)]:=by
   rw [(HSN.out 0 (by omega)).2.1];simp only [List.take_zero,sumN,Nat.zero_add];exact hc2
  have HS2:=zd (And.intro ((On.of HB1.out).trans ho2) (And.intro hb2 (And.intro hc3 hx2)));clear hx ho2 hc2 hb2 hx2 hc3 HCX HX1 r0 r1 r2 r3 r4 r5 r6 r7 d0 d1 d2 d3 d4 d5 d6 d7;go_wp2
  go_loopw [5,6] (fun x i wr=>∃ j:Nat,i=.int .i64 j/\1<=j/\j<=l.length/\Hid (On cb w wr/\BlkIs wr w.heap.size 39 #[.int .i64 kk,.int .u64 (wd m 0:Nat),.int .u64 (wd m 1:Nat),.int .u64 (wd m 2:Nat),.int .u64 (wd m 3:Nat),.slice (some ⟨b,o,none⟩) l.length c,.int .i64 lo,.int .i64 hi]/\BlkIs wr cb 3 #[.int .i64 ((n0+sumN (l.take j):Nat):Int)]/\BudAt wr (glL kk (outs (l.take j) n0).1) x)) (fun _ i _=>l.length - (intOf i).toNat)
  case atStart=>exact⟨1,rfl,Nat.le_refl _,by omega,HS2⟩
  case round=>
   obtain⟨j,rfl,hj1,hj,HH⟩:=hrel;clear HS2;obtain⟨d0,d1,d2,d3,d4,d5,d6,d7⟩:=HH.out.2.1.eight
   by_cases hp:j<l.length
   ·have hk1:IntKind.i64.wrap ((j:Int)+1)=((j+1:Nat):Int):=by rw [IntKind.wrap_i64];omega
    have hdl:decide ((j:Int)<(l.length:Int))=true:=by simp;omega
    have hji:(j:Int)<(l.length:Int):=by omega
    obtain⟨cs,hcat,hlen,hrow⟩:=HG.out j hp;obtain⟨A2,n2,c2,rfl⟩:=hcat.eight;obtain⟨r0,r1,r2,r3,r4,r5,r6,r7⟩:=xzaj hrow (Below.refl _ _);have q0:=HH.out.1.cell HNE.out.2 r0;have q1:=HH.out.1.cell HNE.out.2 r1;have q2:=HH.out.1.cell HNE.out.2 r2;have q3:=HH.out.1.cell HNE.out.2 r3;have q4:=HH.out.1.cell HNE.out.2 r4;have q5:=HH.out.1.cell HNE.out.2 r5;have q6:=HH.out.1.cell HNE.out.2 r6;have q7:=HH.out.1.cell HNE.out.2 r7;have hcx:=HCAT.out j hp wr.drew HH.out.1.drew (n0+sumN (l.take j)) HH.out.2.2.1.drew (HSN.out j hp).2.2 _ hcat;unfold OutsIs at hcx;have HCX:=zd hcx;clear hcx hcat hlen hrow r0 r1 r2 r3 r4 r5 r6 r7;obtain⟨Ax,hAx⟩:=HH.out.2.2.2.form;subst hAx;have HKP:=zd (fun(u:World) (h:On cb wr u)=>And.intro h (And.intro (h.cell HNE.out.1 d0) (And.intro (h.cell HNE.out.1 d5) (And.intro (h.cell HNE.out.2 q0) (And.intro (h.cell HNE.out.2 q1) (And.intro (h.cell HNE.out.2 q2) (And.intro (h.cell HNE.out.2 q3) (And.intro (h.cell HNE.out.2 q4) (And.intro (h.cell HNE.out.2 q5) (And.intro (h.cell HNE.out.2 q6) (h.cell HNE.out.2 q7)))))))))))
    go_wp2_with fail
    go_region_held3 (fun w'=>On cb wr w'/\w'.cell? ⟨w.heap.size,0,none⟩=some (.int .i64 kk)/\w'.cell? ⟨w.heap.size,5,none⟩=some (.slice (some ⟨b,o,none⟩) l.length c)/\w'.cell? ⟨b,o+j*8,none⟩=some (.int .i64 l[j].kind)/\w'.cell? ⟨b,o+j*8+1,none⟩=some (.int .u64 (wd l[j].set 0:Nat))/\w'.cell? ⟨b,o+j*8+2,none⟩=some (.int .u64 (wd l[j].set 1:Nat))/\w'.cell? ⟨b,o+j*8+3,none⟩=some (.int .u64 (wd l[j].set 2:Nat))/\w'.cell? ⟨b,o+j*8+4,none⟩=some (.int .u64 (wd l[j].set 3:Nat))/\w'.cell? ⟨b,o+j*8+5,none⟩=some (.slice A2 n2 c2)/\w'.cell? ⟨b,o+j*8+6,none⟩=some (.int .i64 l[j].lo)/\w'.cell? ⟨b,o+j*8+7,none⟩=some (.int .i64 l[j].hi))
     ((first
       |exact HKP.out _ (On.drew (On.refl cb wr))
       |exact HKP.out _ ((On.drew (On.refl cb wr)).trans ho3)
       |exact HKP.out _ (((On.drew (On.refl cb wr)).trans ho3).trans (On.of ((Below.refl _ _).alloc (Nat.le_refl _) _)))
       |assumption
       |go_keep))
     ((first
       |(go_at_call 27;go_must(refine HCX.out.mono ?_);rintro e w3 ⟨⟨x3,rfl,hx3⟩,ho3,hc3⟩;obtain⟨A3,rfl⟩:=hx3.form)))
    obtain⟨W4,hW4⟩:∃ W4,w3.alloc (.cells #[.int .i64 kk,.int .i64 0,.int .u64 0,.int .u64 0,.int .u64 0,.int .u64 0,.pointer Ax,.pointer A3] 81)=W4:=⟨_,rfl⟩
    have hal:Below w3.heap.size w3 W4:=by rw [<-hW4];exact(Below.refl _ _).alloc (Nat.le_refl _) _
    have hnw:BlkIs W4 w3.heap.size 81 #[.int .i64 kk,.int .i64 0,.int .u64 0,.int .u64 0,.int .u64 0,.int .u64 0,.pointer Ax,.pointer A3]:=by rw [<-hW4];exact BlkIs.new _ _ _
    rw [hW4];have hon:On cb wr w3:=(On.drew (On.refl cb wr)).trans ho3;have hnx:=BudAt.join HKK.out hnw ((BudAt.on hon HH.out.2.2.1 (by decide) HH.out.2.2.2).step hal) (hx3.step hal)
    have HFIN:=zd (show On cb w W4/\BlkIs W4 w.heap.size 39 _/\BlkIs W4 cb 3 #[.int .i64 ((n0+sumN (l.take (j+1)):Nat):Int)]/\BudAt W4 (glL kk (outs (l.take (j+1)) n0).1) (.pointer (some ⟨w3.heap.size,0,none⟩))from
     ⟨(HH.out.1.trans hon).trans (On.of hal),(hon.blk HNE.out.1 HH.out.2.1).step hal,by
       rw [(HSN.out j hp).2.1,<-Nat.add_assoc];exact hc3.step hal,by
       rw [(HSN.out j hp).1,xzvb _ _ _ (fun e=>by have:=HLN.out j;rw [e]at this;simp at this;omega)];exact hnx⟩)
    clear hW4 hal hnw hon hnx HH ho3 hc3 hx3 HCX HKP q0 q1 q2 q3 q4 q5 q6 q7 d0 d1 d2 d3 d4 d5 d6 d7;go_wp2;exact⟨⟨j+1,rfl,by omega,hp,HFIN⟩,by simp [intOf];omega⟩
   ·have hdl:decide ((j:Int)<(l.length:Int))=false:=by simp;omega
    obtain rfl:j=l.length:=by omega
    have hxx:=HH.out.2.2;rw [List.take_length]at hxx;go_wp2;go_ret;exact HPOST.out _ _ HH.out.1 hxx.2 hxx.1
end
end Go.Proofs.Ythoaaginadjaoaa
