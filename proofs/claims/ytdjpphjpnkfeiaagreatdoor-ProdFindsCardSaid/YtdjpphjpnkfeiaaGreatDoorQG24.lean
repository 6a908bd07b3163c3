/-
 WHAT nfa.Build ANSWERS of rules that may be, whose parts are made as said: its walk. Condition: as many places as may be.
-/
import Derived.Laws.OwnMore
import Derived.Test.YtdjpphjpnkfeiaaGreatDoorQG23
import Derived.Test.YtdjpphjpnkfeiaaGreatDoorQG17
import Derived.Test.YtdjpphjpnkfeiaaGreatDoorQG07
import Derived.Test.YtdjpphjpnkfeiaaGreatDoorQG06
import Derived.Test.YtdjpphjpnkfeiaaGreatDoorQG02
import Derived.Test.YtdjpphjpnkfeiaaGreatDoorQG08
import Derived.Test.YtdjpphjpnkfeiaaGreatDoorQG14
import Derived.Test.YtdjpphjpnkfeiaaGreatDoorQG11
namespace Go.Proofs.YtdjpphjpnkfeiaaGreatDoor
section
open Go.RowKit
attribute [local irreducible] FreeW textFrame
theorem xzvw:(Tryz.prog.info? 86).map (·.size)=some 6:=by kernel_rfl
theorem yzas {w:World}{g:Nat}{t:TypeId}{a b c d e f:Value}(h:BlkIs w g t #[a,b,c,d,e,f]):(loadVar 86 ⟨g,0,none⟩).run Tryz.prog w=.ok (.agg #[a,b,c,d,e,f]) w:=
 run_loadVar_mid (P:=Tryz.prog) w g 0 86 [a,b,c,d,e,f] _ h.range Tryz.underlying86 rfl xzvw
theorem xzie {fn:Func}{p q:Tmp}{ty:TypeId}{tmps:Array Value}{P:Program}{w w':World}{a:Addr}{v:Value}(h:fn.results=#[.cell p ty,.tmp q])(hp:tmps.getD p undef=.pointer (some a))(hl:(loadVar ty a).run P w=.ok v w'):
 (results fn tmps).run P w=.ok (.tuple #[v,tmps.getD q undef]) w':=by
 rw [results_cell_tmp h,hp]
 simp [asAddr,hl,Result.andThen]
theorem SetsV.sub {V W:World}{l:List (Nat->Bool)}{v:Value}(h:SetsV V l v)(hs:Sub V W):SetsV W l v:=by
 obtain⟨A,c,e,hc,hx⟩:=h;refine⟨A,c,e,hc,fun hne=>?_⟩;obtain⟨b,o,e2,hlt,hg⟩:=hx hne
 have hg2:=fun i hi k hk=>hs _ _ (hg i hi k hk)
 exact⟨b,o,e2,World.block_lt_of_cell? W ⟨b,o+0*4+0,none⟩ (hg2 0 (List.length_pos_iff.2 hne) 0 (by decide)),hg2⟩
theorem BoolsV.sub {V W:World}{l:List Bool}{v:Value}(h:BoolsV V l v)(hs:Sub V W):BoolsV W l v:=by
 obtain⟨A,c,e,hc,hx⟩:=h;refine⟨A,c,e,hc,fun hne=>?_⟩;obtain⟨b,o,e2,hlt,hg⟩:=hx hne
 have hg2:=fun i hi=>hs _ _ (hg i hi)
 exact⟨b,o,e2,World.block_lt_of_cell? W ⟨b,o+0,none⟩ (hg2 0 (List.length_pos_iff.2 hne)),hg2⟩
theorem RowsI.sub {V W:World}{l:List (List Int)}{v:Value}(h:RowsI V l v)(hs:Sub V W):RowsI W l v:=by
 obtain⟨A,c,e,hc,hx⟩:=h;refine⟨A,c,e,hc,fun hne=>?_⟩;obtain⟨b,o,e2,hlt,hg⟩:=hx hne;obtain⟨u0,h0,_⟩:=hg 0 (List.length_pos_iff.2 hne);refine⟨b,o,e2,World.block_lt_of_cell? W ⟨b,o+0,none⟩ (hs _ _ h0),fun i hi=>?_⟩;obtain⟨u,h1,h2⟩:=hg i hi;exact⟨u,hs _ _ h1,h2.sub hs⟩
theorem xzfa {W:World}{H:Nat->Bool}{B:Nat}{t:TypeId}{z n:Nat}{v:Value}{xs:List Value}(h:W.ownsRow B t z v n xs)(hH:∀ k,v.ownBlock=some k->H k=false):(hide W H).ownsRow B t z v n xs:=xzad h fun k hk=>by
 rw [xzel,hH k hk];simp
theorem xzqa {n:Nat}:∀ {F:List (List Int)},OkR n F->F.flatten.length<=F.length*n
 |[],_=>by simp
 |r::F,h=>by
  have h1:=xzay (h r (by simp))
  have h2:=xzqa (F:=F) fun x hx=>h x (by simp [hx])
  simp only [List.flatten_cons,List.length_append,List.length_cons,Nat.succ_mul];omega
set_option maxRecDepth 20000 in
set_option maxHeartbeats 16000000 in
theorem xzkp (l:List Tree)(h1:1<=l.length)(h40:l.length<=40)(hmay:∀ t∈l,t.mayN=true)(HP:∀ t∈l,PartIs t)(hokT:okTs l)(hnod:∀ t∈l,t.nodes<=1048576)(hsN:sumN l<=2000)(hsP:∀ j,0<=sumP (l.take j)/\sumP (l.take j)<=2000)
 (A:Option Addr)(c:Nat)(w:World)(hat:l≠[]->∃ b o,A=some ⟨b,o,none⟩/\AllAt w l b o):
 Calls Tryz.prog 44 #[.slice A l.length c] w fun x w'=>∃ v,x=.returned (.tuple #[v,.int .i64 0])/\NfaAt w' (buildN l) v/\Below w.heap.size w w':=by
 have hb1:Below w.heap.size w (w.alloc (.cells #[.slice none 0 0,.slice none 0 0,.slice none 0 0,.slice none 0 0,.slice none 0 0,.int .i64 0] 86)):=(Below.refl _ _).alloc (Nat.le_refl _) _;have hx1:=BlkIs.new w 86 #[.slice none 0 0,.slice none 0 0,.slice none 0 0,.slice none 0 0,.slice none 0 0,.int .i64 0];have H0:=zd (And.intro hb1 hx1);obtain⟨b,o,rfl,hall⟩:=hat (by intro e;rw [e]at h1;simp at h1);have HALL:=zd (fun(j:Nat) (hj:j<l.length)=>AllAt.get l b o hall j hj);have HM:=zd (fun(j:Nat) (hj:j<l.length)=>And.intro (hmay _ (List.getElem_mem hj)) (And.intro (HP _ (List.getElem_mem hj)) (And.intro (xznz hokT _ (List.getElem_mem hj)) (hnod _ (List.getElem_mem hj)))))
 have HSP:=zd (fun(j:Nat) (hj:j<l.length)=>(show sumP (l.take (j+1))=sumP (l.take j)+placesZ l[j]by
  rw [List.take_succ_eq_append_getElem hj,xzkk];unfold placesZ;rw [if_pos (hmay _ (List.getElem_mem hj))]))
 have HSB:=zd hsP;have HOT:=zd hokT;have HSN:=zd hsN
 have e1:decide ((l.length:Int)<1)=false:=by simp;omega
 have e2:decide ((l.length:Int)>40)=false:=by simp;omega
 have e2b:decide (40<(l.length:Int))=false:=by simp;omega
 clear hb1 hx1 hat hall hmay HP hokT hnod hsN hsP h1
 go_enter Tryz.func44,Tryz.ntmps44
 go_wp2
 go_loopw [4,22] (fun s i wr=>∃ (j:Nat) (n:Int),s=.int .i64 n/\i=.int .i64 (j:Int)/\j<=l.length/\Hid (n=sumP (l.take j)/\Below w.heap.size w wr/\BlkIs wr w.heap.size 86 #[.slice none 0 0,.slice none 0 0,.slice none 0 0,.slice none 0 0,.slice none 0 0,.int .i64 0])) (fun _ i _=>l.length - (intOf i).toNat)
 case atStart=>exact⟨0,0,rfl,rfl,Nat.zero_le _,zd ⟨by simp [sumP],H0.out⟩⟩
 case round=>
  obtain⟨j,n,rfl,rfl,hj,HH⟩:=hrel
  by_cases hp:j<l.length
  ·have hk1:IntKind.i64.wrap ((j:Int)+1)=((j+1:Nat):Int):=by rw [IntKind.wrap_i64];omega
   have hdl:decide ((j:Int)<(l.length:Int))=true:=by simp;omega
   obtain⟨cs,hcat,hlen,hrow⟩:=HALL.out j hp;obtain⟨A',n',c',rfl⟩:=hcat.eight;obtain⟨r0,r1,r2,r3,r4,r5,r6,r7⟩:=xzdg (W':=wr) (fun i x hi=>(HH.out.2.1.cell (World.block_lt_of_cell? w _ (hrow i x hi))).trans (hrow i x hi)) (Below.refl _ _);have hxb:=BlkIs.new wr 55 (reL (l[j]).kind (l[j]).set A' n' c' (l[j]).lo (l[j]).hi).toArray;have hxw:Below wr.heap.size wr (wr.alloc (.cells (reL (l[j]).kind (l[j]).set A' n' c' (l[j]).lo (l[j]).hi).toArray 55)):=(Below.refl _ _).alloc (Nat.le_refl _) _;obtain⟨W9,hW9⟩:∃ W9,wr.alloc (.cells (reL (l[j]).kind (l[j]).set A' n' c' (l[j]).lo (l[j]).hi).toArray 55)=W9:=⟨_,rfl⟩;rw [hW9]at hxb hxw;have hcx:=xzvf l[j] _ W9 ((hcat.step HH.out.2.1).step hxw) (HM.out j hp).2.2.2;have hss:=HSP.out j hp;have hs1:=HSB.out (j+1);have hs0:=HSB.out j
   have hpz:0<=placesZ l[j]:=by
    have hm:=(HM.out j hp).1;unfold placesZ;rw [if_pos hm];unfold Tree.mayN at hm;simp only [Bool.and_eq_true]at hm;exact xzex _ hm.2.2
   have hen:=HH.out.1;simp only [reL]at hW9;unfold reV reL at*;rw [<-hen]at hss hs0;have HX:=zd (And.intro (HH.out.2.1.trans (hxw.mono HH.out.2.1.size)) (HH.out.2.2.step hxw));have HC:=zd hcx;have HSS:=zd hss;generalize placesZ l[j]=pz at*;generalize(l[j]).kind=kx at*;generalize(l[j]).set=mx at*;generalize(l[j]).lo=lx at*;generalize(l[j]).hi=hx at*
   have hk2:IntKind.i64.wrap (n+pz)=n+pz:=by rw [IntKind.wrap_i64];omega
   have hneg:decide (pz<0)=false:=by simp;omega
   obtain⟨x0,x1,x2,x3,x4,x5,x6,x7⟩:=hxb.eight;clear hcat hrow hlen hcx hss hs1 hs0 hpz hen hxb hxw
   go_wp2_with fail
   go_at_call 59
   refine HC.out.mono ?_;rintro x u ⟨rfl,hbu⟩;have HU:=zd (And.intro (HX.out.1.trans (hbu.mono HX.out.1.size)) (HX.out.2.step hbu));clear hbu x0 x1 x2 x3 x4 x5 x6 x7 r0 r1 r2 r3 r4 r5 r6 r7;go_wp2;exact⟨⟨j+1,n+pz,rfl,rfl,hp,zd ⟨HSS.out.symm,HU.out⟩⟩,by simp [intOf];omega⟩
  ·have hdl:decide ((j:Int)<(l.length:Int))=false:=by simp;omega
   obtain rfl:j=l.length:=by omega
   have hs0:=HSB.out l.length;have hen:=HH.out.1;rw [<-hen]at hs0
   have hgt:decide (n>2000)=false:=by simp;omega
   have hgt2:decide (2000<n)=false:=by simp;omega
   obtain⟨w3,hw3⟩:∃ w3,wr.alloc (.cells #[.slice none 0 0,.slice none 0 0,.slice none 0 0,.slice none 0 0,.slice none 0 0,.int .i64 (-1)] 117)=w3:=⟨_,rfl⟩
   have hb3:Below wr.heap.size wr w3:=by rw [<-hw3];exact(Below.refl _ _).alloc (Nat.le_refl _) _
   have hm3:BlkIs w3 wr.heap.size 117 #[.slice none 0 0,.slice none 0 0,.slice none 0 0,.slice none 0 0,.slice none 0 0,.int .i64 (-1)]:=by rw [<-hw3];exact BlkIs.new _ _ _
   have hwm:w.heap.size<wr.heap.size:=HH.out.2.2.lt
   have hfk:FkI (fun k=>decide (k=wr.heap.size)) (fun _=>false) w3 wr.heap.size Bs.none.S Bs.none.R Bs.none.F Bs.none.E Bs.none.em (.slice none 0 0) (.slice none 0 0) (.slice none 0 0):=
    ⟨⟨_,_,[],hm3,by simp,World.ownsRow_nil _ _ _ _,World.ownsRow_nil _ _ _ _,fun k e=>by simp [Value.ownBlock]at e,fun k e=>by simp [Value.ownBlock]at e,fun i hi=>by simp [Bs.none]at hi⟩,World.ownsRow_nil _ _ _ _,World.ownsRow_nil _ _ _ _,World.ownsRow_nil _ _ _ _,
      fun k e=>by simp [Value.ownBlock]at e,fun k e=>by simp [Value.ownBlock]at e,fun k e=>by simp [Value.ownBlock]at e,fun k e=>by simp [Value.ownBlock]at e,fun k e=>by simp [Value.ownBlock]at e,fun k e=>by simp [Value.ownBlock]at e⟩
   have hfb:FkB wr.heap.size w3 (fun k=>decide (k=wr.heap.size)) (fun _=>false) w3 (.slice none 0 0) (.slice none 0 0) (.slice none 0 0):=
    ⟨Below.refl _ _,(fun k e=>by have e:=of_decide_eq_true e;have:=hm3.lt;omega),(fun k e=>absurd e (by simp)),(fun k e=>absurd e (by simp [Value.ownBlock])),(fun k e=>absurd e (by simp [Value.ownBlock])),(fun k e=>absurd e (by simp [Value.ownBlock]))⟩
   have HW:=zd (And.intro (HH.out.2.1.trans (hb3.mono HH.out.2.1.size)) (And.intro (HH.out.2.2.step hb3) (And.intro hfk hfb)));have HB3:=zd (And.intro hb3 hwm);have HSZ:=zd hm3.lt;have hOK0:Bs.none.Ok 0 0:=⟨⟨rfl,fun r hr=>by simp [Bs.none]at hr⟩,rfl,rfl,rfl,by simp [Bs.none]⟩;have HOK:=zd (fun j=>Bs.all_ok (l.take j) Bs.none 0 0 0 hOK0 (xzkn j HOT.out) (by have:=xzgo l j;have:=HSN.out;omega));obtain⟨k0,k1,k2,k3,k4,k5⟩:=six HH.out.2.2;clear hs0 hen hb3 hm3 hwm hfk hfb hOK0;obtain⟨wo,rfl⟩:∃ wo:World,wo=wr:=⟨_,rfl⟩;go_wp2
   go_loopw [42] (fun s wz=>∃ j:Nat,s=.int .i64 (j:Int)/\j<=l.length/\Hid (∃ M K r f e,FkI M K wz wo.heap.size (Bs.all Bs.none 0 (l.take j)).S (Bs.all Bs.none 0 (l.take j)).R (Bs.all Bs.none 0 (l.take j)).F (Bs.all Bs.none 0 (l.take j)).E (Bs.all Bs.none 0 (l.take j)).em r f e/\FkB wo.heap.size w3 M K wz r f e)) (fun s _=>l.length - (intOf s).toNat)
   case atStart=>exact⟨0,rfl,Nat.zero_le _,zd ⟨_,_,_,_,_,HW.out.2.2.1,HW.out.2.2.2⟩⟩
   case round=>
    obtain⟨j,rfl,hj,HH2⟩:=hrel;obtain⟨M,K,r,f,e,hfk,hfb⟩:=HH2.out;have hbw:Below w.heap.size w wr:=HW.out.1.trans (hfb.low.mono (by have:=HB3.out.2;omega))
    by_cases hp:j<l.length
    ·have hk1:IntKind.i64.wrap ((j:Int)+1)=((j+1:Nat):Int):=by rw [IntKind.wrap_i64];omega
     have hdl:decide ((j:Int)<(l.length:Int))=true:=by simp;omega
     obtain⟨cs,hcat,hlen,hrow⟩:=HALL.out j hp;obtain⟨A',n',c',rfl⟩:=hcat.eight;obtain⟨r0,r1,r2,r3,r4,r5,r6,r7⟩:=xzdg (W':=wr) (fun i x hi=>(hbw.cell (World.block_lt_of_cell? w _ (hrow i x hi))).trans (hrow i x hi)) (Below.refl _ _);have hxw:Below wr.heap.size wr (wr.alloc (.cells (reL (l[j]).kind (l[j]).set A' n' c' (l[j]).lo (l[j]).hi).toArray 55)):=(Below.refl _ _).alloc (Nat.le_refl _) _;have hxb:=BlkIs.new wr 55 (reL (l[j]).kind (l[j]).set A' n' c' (l[j]).lo (l[j]).hi).toArray;obtain⟨W9,hW9⟩:∃ W9,wr.alloc (.cells (reL (l[j]).kind (l[j]).set A' n' c' (l[j]).lo (l[j]).hi).toArray 55)=W9:=⟨_,rfl⟩;rw [hW9]at hxw hxb;have hmm:=HM.out j hp;have hbo:=HOK.out j
     have hBw:wo.heap.size<=wr.heap.size:=by have:=hfb.low.size;have:=HSZ.out;omega
     have hfb9:=hfb.step hxw hBw
     have hat9:(l[j]).At (hide W9 M) _:=hcat.sub fun p x hx=>xzea (by
      rw [Bool.eq_false_iff];intro e;have:=(hfb.mm _ e).1;have:=World.block_lt_of_cell? w p hx;have:=HB3.out.2
      omega) (((hbw.trans (hxw.mono hbw.size)).cell (World.block_lt_of_cell? w p hx)).trans hx)
     have hsum:sumN (l.take j)+(l[j]).plN<=2000:=by
      have q1:=xzgo l (j+1);rw [List.take_succ_eq_append_getElem hp,xzko]at q1;have:=HSN.out;omega
     have hsn:Bs.all Bs.none 0 (l.take (j+1))=(Bs.all Bs.none 0 (l.take j)).add (j:Int) l[j]:=by
      rw [List.take_succ_eq_append_getElem hp,Bs.all_snoc]
      congr 1
      simp;omega
     have hlt:(l.take j).length<=40:=by rw [List.length_take];omega
     have HADD:=zd (add_any l[j] hmm.2.1 hmm.2.2.1 wo.heap.size wo.heap.size (j:Int) _ _ _ _ _ r f e M K _ W9 (hfk.step hxw) ⟨Below.refl _ _,hfb9.mm,hfb9.kk,hfb9.r0,hfb9.f0,hfb9.e0⟩ (by have:=hxw.size;omega) hat9 hbo.ks (by rw [hbo.kr,hbo.kn]) (by rw [hbo.ke,hbo.kn]) (by have:=hbo.kf;omega) (by rw [hbo.kn];omega));have HLO:=zd hfb9.low;have HSS:=zd hsn;simp only [reL]at hW9;unfold reV reL at*;unfold Bs.add at HSS;generalize Bs.all Bs.none 0 (l.take j)=X at*;generalize partP l[j] X.S=TS at*;generalize(l[j]).plN=d at*;generalize(l[j]).kind=kx at*;generalize(l[j]).set=mx at*;generalize(l[j]).lo=lx at*;generalize(l[j]).hi=hx at*;obtain⟨x0,x1,x2,x3,x4,x5,x6,x7⟩:=hxb.eight;clear hcat hrow hlen hxw hxb hmm hbo hBw hfb9 hat9 hsum hsn hlt hfk hfb hbw HH2
     go_wp2_with fail
     go_at_call 60
     refine HADD.out.mono ?_;rintro x u ⟨y,rfl,M',K',r',f',e',hf1,hf2⟩;have HF:=zd (And.intro hf1 hf2);clear hf1 hf2;go_wp2;exact⟨⟨j+1,rfl,hp,zd ⟨M',K',r',f',e',by rw [HSS.out];exact HF.out.1,⟨HLO.out.trans HF.out.2.low,HF.out.2.mm,HF.out.2.kk,HF.out.2.r0,HF.out.2.f0,HF.out.2.e0⟩⟩⟩,by simp [intOf];omega⟩
    ·obtain rfl:j=l.length:=by omega
     have hdl:decide ((l.length:Int)<(l.length:Int))=false:=by simp
     rw [List.take_length]at hfk;have hbo:=HOK.out l.length;rw [List.take_length]at hbo;have hB:buildN l=⟨(Bs.all Bs.none 0 l).S.sets,(Bs.all Bs.none 0 l).R,(Bs.all Bs.none 0 l).F,(Bs.all Bs.none 0 l).S.follow,(Bs.all Bs.none 0 l).E,(Bs.all Bs.none 0 l).em⟩:=rfl;have HBN:=zd hB;clear hB;have hsn2:=HSN.out;generalize Bs.all Bs.none 0 l=X at*;obtain⟨vs,vf,ws,hmk⟩:=hfk.mka;have hfl:=xzqa hbo.ks.2
     have hfn:X.S.follow.length<=2000:=by rw [hbo.ks.1,hbo.kn];omega
     have hfq:X.S.follow.length*X.S.sets.length<=2000*2000:=Nat.mul_le_mul hfn (by rw [hbo.kn];omega);have HAP:=zd (yzar X.S.follow vf wr (xzmm hmk) (by omega) (by omega));obtain⟨A0,c0,rfl,_⟩:=xzbb hmk.own0;obtain⟨A3,c3,rfl,_⟩:=xzbb hmk.own3;obtain⟨A1,c1,rfl,_⟩:=xzbb hfk.rr;obtain⟨A2,c2,rfl,_⟩:=xzbb hfk.rf;obtain⟨A4,c4,rfl,_⟩:=xzbb hfk.re;have hzb:BlkIs wr w.heap.size 86 _:=(hfb.low.block w.heap.size (by have:=HB3.out.2;omega)).trans HW.out.2.1;obtain⟨k0',k1',k2',k3',k4',k5'⟩:=six hmk.blk;have HX:=zd (And.intro hfk (And.intro hfb (And.intro hmk (And.intro hzb hbw))));clear hfk hfb hmk hzb hbw hbo hfl hfn hfq hsn2 HH2
     go_wp2_with fail
     go_at_call 61
     refine HAP.out.mono ?_;rintro x u ⟨v9,rfl,hrows,hbu⟩;obtain⟨A9,c9,rfl,hc9,hr9⟩:=hrows;have hbk:=HX.out.2.2.1.blk.step hbu;obtain⟨U1,hU1⟩:∃ U1,u.setCell ⟨wo.heap.size,3,none⟩ (.slice A9 X.S.follow.length c9)=U1:=⟨_,rfl⟩
     have hb1:BlkIs U1 wo.heap.size 117 #[.slice A0 X.S.sets.length c0,.slice A1 X.R.length c1,.slice A2 X.F.length c2,.slice A9 X.S.follow.length c9,.slice A4 X.E.length c4,.int .i64 X.em]:=by rw [<-hU1];exact hbk.put 3 (.slice A9 X.S.follow.length c9)
     have hz1:BlkIs U1 w.heap.size 86 #[.slice none 0 0,.slice none 0 0,.slice none 0 0,.slice none 0 0,.slice none 0 0,.int .i64 0]:=by rw [<-hU1];exact(HX.out.2.2.2.1.step hbu).far (p:=⟨wo.heap.size,3,none⟩) (by have:=HB3.out.2;show w.heap.size≠wo.heap.size;omega) _
     obtain⟨g0,g1,g2,g3,g4,g5⟩:=six hbk;have fz:=hbk.frozen 3;obtain⟨l0,l1,l2,l3,l4,l5⟩:=six hb1;obtain⟨m0,m1,m2,m3,m4,m5⟩:=six hz1;have fm0:=hz1.frozen 0;have fm1:=hz1.frozen 1;have fm2:=hz1.frozen 2;have fm3:=hz1.frozen 3;have fm4:=hz1.frozen 4;have fm5:=hz1.frozen 5;have hlt:=hz1.lt;have HU:=zd (And.intro hz1 (And.intro hbu (And.intro hc9 hr9)));clear hbk hb1 hz1 hbu hr9 k0' k1' k2' k3' k4' k5';go_wp2
     have hHm:∀ k,(decide (k=wo.heap.size)||decide (k=w.heap.size))=false↔k≠wo.heap.size/\k≠w.heap.size:=fun k=>by simp
     have hsub:Sub (hide u fun k=>decide (k=wo.heap.size)||decide (k=w.heap.size)) (((((((U1.setCell ⟨w.heap.size,0,none⟩ (.slice A0 X.S.sets.length c0)).setCell ⟨w.heap.size,1,none⟩ (.slice A1 X.R.length c1)).setCell ⟨w.heap.size,2,none⟩ (.slice A2 X.F.length c2)).setCell
      ⟨w.heap.size,3,none⟩ (.slice A9 X.S.follow.length c9)).setCell ⟨w.heap.size,4,none⟩ (.slice A4 X.E.length c4)).setCell ⟨w.heap.size,5,none⟩ (.int .i64 X.em))):=by
      rw [<-hU1]
      have hw:(fun k=>decide (k=wo.heap.size)||decide (k=w.heap.size)) w.heap.size=true:=by simp
      have hm:(fun k=>decide (k=wo.heap.size)||decide (k=w.heap.size)) wo.heap.size=true:=by simp
      exact(((((((xzcp (p:=⟨wo.heap.size,3,none⟩) hm _).trans (xzcp (p:=⟨w.heap.size,0,none⟩) hw _)).trans (xzcp (p:=⟨w.heap.size,1,none⟩) hw _)).trans (xzcp (p:=⟨w.heap.size,2,none⟩) hw _)).trans (xzcp (p:=⟨w.heap.size,3,none⟩) hw _)).trans (xzcp (p:=⟨w.heap.size,4,none⟩) hw _)).trans (xzcp (p:=⟨w.heap.size,5,none⟩) hw _)).trans xzba
     have hl:=yzas ((((((HU.out.1.put 0 (.slice A0 X.S.sets.length c0)).put 1 (.slice A1 X.R.length c1)).put 2 (.slice A2 X.F.length c2)).put 3 (.slice A9 X.S.follow.length c9)).put 4 (.slice A4 X.E.length c4)).put 5 (.int .i64 X.em));have hmk:=HX.out.2.2.1.step HU.out.2.1;have hfk:=HX.out.1.step HU.out.2.1;have hmm:=HX.out.2.1.mm;have hwl:=HB3.out.2;have hwr:wo.heap.size<wr.heap.size:=(hmm _ HX.out.2.2.1.mine).2
     have hgt0:∀ k,wo.heap.size<=k->k≠wo.heap.size->(decide (k=wo.heap.size)||decide (k=w.heap.size))=false:=fun k a1 a2=>(hHm k).2 ⟨a2,by omega⟩
     have hbes:∀ k,M k=false->k≠wo.heap.size:=fun k hk e=>by rw [e,HX.out.2.2.1.mine]at hk;cases hk
     refine⟨rfl,_,xzie rfl rfl hl,_,rfl,?_,?_⟩
     ·rw [HBN.out]
      refine⟨_,_,_,_,_,rfl,SetsV.sub (xzrt (xzfa hmk.own0 fun k hk=>hgt0 k (hmm k (hmk.far0 k hk).1).1 (hmk.far0 k hk).2)) hsub,IntsV.sub (RowI.ints (B:=0) (xzfa hfk.rr fun k hk=>hgt0 k (HX.out.2.1.r0 k hk) (hbes k (hfk.br k hk).2))) hsub,
       IntsV.sub (RowI.ints (B:=0) (xzfa hfk.rf fun k hk=>hgt0 k (HX.out.2.1.f0 k hk) (hbes k (hfk.bf k hk).2))) hsub,?_,BoolsV.sub (xzod (xzfa hfk.re fun k hk=>hgt0 k (HX.out.2.1.e0 k hk) (hbes k (hfk.be k hk).2))) hsub⟩
      refine RowsI.sub (V:=hide u (low wr.heap.size)) ⟨A9,c9,rfl,HU.out.2.2.1,HU.out.2.2.2⟩ ((xzbf fun k k1 _=>⟨?_,rfl⟩).trans hsub);have:=low_no.1 k1;exact(hHm k).2 ⟨by omega,by omega⟩
     ·have h7:Below w.heap.size w U1:=by
       rw [<-hU1];exact(HX.out.2.2.2.2.trans (HU.out.2.1.mono HX.out.2.2.2.2.size)).setCell (p:=⟨wo.heap.size,3,none⟩) (by show w.heap.size<=wo.heap.size;omega) _
      exact(((((h7.setCell (p:=⟨_,_,none⟩) (Nat.le_refl _) _).setCell (p:=⟨_,_,none⟩) (Nat.le_refl _) _).setCell (p:=⟨_,_,none⟩) (Nat.le_refl _) _).setCell (p:=⟨_,_,none⟩) (Nat.le_refl _) _).setCell (p:=⟨_,_,none⟩) (Nat.le_refl _) _).setCell (p:=⟨_,_,none⟩) (Nat.le_refl _) _
end
section
open Go.RowKit
theorem xzoe (k:Int)(A:Option Addr)(n c:Nat)(lo hi:Int):reV k (fun _=>false) A n c lo hi=.agg #[.int .i64 k,.int .u64 0,.int .u64 0,.int .u64 0,.int .u64 0,.slice A n c,.int .i64 lo,.int .i64 hi]:=by
 unfold reV reL;simp only [wd_zero];rfl
def cellsOf:List (List Value)->List Value
 |[]=>[]
 |c::r=>c++cellsOf r
theorem yzcn {W U:World}(hs:∀ p v,W.cell? p=some v->U.cell? p=some v){g:Nat}:∀ (ts:List Tree) (css:List (List Value)) (pre:Nat),ts.length=css.length->
 (∀ (i:Nat) (h:i<ts.length) (h':i<css.length),ts[i].At W (.agg css[i].toArray)/\css[i].length=8)->(∀ j v,(cellsOf css)[j]? =some v->U.cell? ⟨g,pre+j,none⟩=some v)->AllAt U ts g pre
 |[],_,_,_,_,_=>trivial
 |t::r,[],_,h,_,_=>by simp at h
 |t::r,c::css,pre,hl,h,hc=>by
  have h0:=h 0 (by simp) (by simp);refine⟨⟨c,?_,h0.2,fun j v hv=>?_⟩,?_⟩
  ·have h1:=h0.1
   exact Tree.At.sub hs _ h1
  ·refine hc j v ?_
   show(c++cellsOf css)[j]? =some v
   rw [List.getElem?_append_left (List.getElem?_eq_some_iff.1 hv).1];exact hv
  ·refine yzcn hs r css (pre+8) (by simpa using hl) (fun i h1 h2=>?_) (fun j v hv=>?_)
   ·have:=h (i+1) (by simpa using h1) (by simpa using h2)
    simpa using this
   ·rw [Nat.add_assoc]
    refine hc (8+j) v ?_
    show(c++cellsOf css)[8+j]? =some v
    rw [List.getElem?_append_right (by have:c.length=8:=h0.2;omega),show 8+j - c.length=j by have:c.length=8:=h0.2;omega];exact hv
theorem xzqb {W:World}(t:TypeId)(ts:List Tree)(css:List (List Value))(hl:ts.length=css.length)(h:∀ (i:Nat) (h:i<ts.length) (h':i<css.length),ts[i].At W (.agg css[i].toArray)/\css[i].length=8):
 AllAt (W.alloc (.cells (cellsOf css).toArray t)) ts W.heap.size 0:=by
 have hb:Below W.heap.size W (W.alloc (.cells (cellsOf css).toArray t)):=(Below.refl _ _).alloc (Nat.le_refl _) _;refine yzcn (W:=W) (fun p v hv=>by rw [hb.cell (World.block_lt_of_cell? W p hv)];exact hv) ts css 0 hl h (fun j v hv=>?_);have:=(BlkIs.new W t (cellsOf css).toArray).cell j;rw [Nat.zero_add,this]
 simpa using hv
theorem xzqc {W:World}{k:Int}{m:Nat->Bool}{l:List Tree}{lo hi:Int}{g c:Nat}(h:AllAt W l g 0)(hc:l.length<=c/\c<=9223372036854775807):Tree.At W (.node k m l lo hi) (reV k m (some ⟨g,0,none⟩) l.length c lo hi):=by
 unfold Tree.At;exact⟨_,c,rfl,hc,fun _=>⟨g,0,rfl,h⟩⟩
theorem leaf_at {W:World}{k:Int}{m:Nat->Bool}:Tree.At W (.node k m [] 0 0) (reV k m none 0 0 0 0):=by
 unfold Tree.At;exact⟨none,0,rfl,⟨Nat.le_refl _,by decide⟩,fun h=>absurd rfl h⟩
mutual
def Tree.lit:Tree->Bool
 | .node k _ l _ _=>(k != 0)&&litL l
def litL:List Tree->Bool
 |[]=>true
 |t::r=>t.lit&&litL r
end
theorem yzat {W:World}{g j:Nat}{t:TypeId}(h:BlkIs W g t zeroL.toArray){k:Int}(hk:k≠0):W.cell? ⟨g,j,none⟩≠some (.int .i64 k):=by
 rw [h.cell j];intro e
 match j with
 |0=>simp [zeroL]at e;exact hk e.symm
 |1=>simp [zeroL]at e
 |2=>simp [zeroL]at e
 |3=>simp [zeroL]at e
 |4=>simp [zeroL]at e
 |5=>simp [zeroL]at e
 |6=>simp [zeroL]at e;exact hk e.symm
 |7=>simp [zeroL]at e;exact hk e.symm
 |j+8=>simp [zeroL]at e
mutual
theorem lit_far {W U:World}{g:Nat}{t:TypeId}(hz:BlkIs W g t zeroL.toArray)(hs:∀ p v,p.block≠g->W.cell? p=some v->U.cell? p=some v):∀ (T:Tree) {v:Value},T.lit=true->Tree.At W T v->Tree.At U T v
 | .node k m l lo hi,v,hl,h=>by
  simp only [Tree.lit,Bool.and_eq_true]at hl;unfold Tree.At at h ⊢;obtain⟨A,c,h1,h2,h3⟩:=h;refine⟨A,c,h1,h2,fun hne=>?_⟩;obtain⟨b,o,h4,h5⟩:=h3 hne;exact⟨b,o,h4,litL_far hz hs l hl.2 h5⟩
theorem litL_far {W U:World}{g:Nat}{t:TypeId}(hz:BlkIs W g t zeroL.toArray)(hs:∀ p v,p.block≠g->W.cell? p=some v->U.cell? p=some v):∀ (l:List Tree) {b o:Nat},litL l=true->AllAt W l b o->AllAt U l b o
 |[],b,o,_,_=>trivial
 | .node k m s lo hi::r,b,o,hl,h=>by
  simp only [litL,Bool.and_eq_true]at hl;obtain⟨⟨cs,h1,h2,h3⟩,h4⟩:=h;refine⟨⟨cs,lit_far hz hs _ hl.1 h1,h2,fun j v hv=>hs _ v ?_ (h3 j v hv)⟩,litL_far hz hs r hl.2 h4⟩;intro e;have e':b=g:=e;subst e'
  obtain⟨A,c,e1,_⟩:∃ A c,Value.agg cs.toArray=reV k m A s.length c lo hi/\_:=by
   unfold Tree.At at h1;obtain⟨A,c,h1,h1'⟩:=h1;exact⟨A,c,h1,h1'⟩
  have e2:cs=reL k m A s.length c lo hi:=by
   unfold reV at e1
   injection e1 with e1
   exact List.toArray_inj e1
  have h5:=h3 0 (.int .i64 k) (by rw [e2];rfl)
  have hk:k≠0:=by
   have:=hl.1;simp only [Tree.lit,Bool.and_eq_true]at this
   simpa using this.1
  exact yzat hz hk h5
end
end
section
open Go.RowKit
def ltr8 (b:Int):Tree:=.node 1 (sRange b b) [] 0 0
end
section
open Go.RowKit
theorem sizeS8 {W:World}{T:Tree}{k:Int}{m:Nat->Bool}{A:Option Addr}{n c:Nat}{lo hi:Int}(h:T.At W (reV k m A n c lo hi)):T.At W (.agg (reL k m A n c lo hi).toArray)/\(reL k m A n c lo hi).length=8:=⟨h,rfl⟩
theorem xzvx (W:World)(b:Int):(ltr8 b).At W (reV 1 (sRange b b) none 0 0 0 0):=leaf_at
theorem rows28 {W:World}{T1 T2:Tree}{k1 l1 h1 k2 l2 h2:Int}{m1 m2:Nat->Bool}{A1 A2:Option Addr}{n1 c1 n2 c2:Nat}(a1:T1.At W (reV k1 m1 A1 n1 c1 l1 h1))(a2:T2.At W (reV k2 m2 A2 n2 c2 l2 h2)):
 AllAt (W.alloc (.cells (reL k1 m1 A1 n1 c1 l1 h1++reL k2 m2 A2 n2 c2 l2 h2).toArray 55)) [T1,T2] W.heap.size 0:=by
 have:=xzqb (W:=W) 55 [T1,T2] [reL k1 m1 A1 n1 c1 l1 h1,reL k2 m2 A2 n2 c2 l2 h2] rfl (fun i h h'=>by
  match i,h,h' with
  |0,_,_=>exact sizeS8 a1
  |1,_,_=>exact sizeS8 a2)
 exact this
theorem rows18 {W:World}{T1:Tree}{k1 l1 h1:Int}{m1:Nat->Bool}{A1:Option Addr}{n1 c1:Nat}(a1:T1.At W (reV k1 m1 A1 n1 c1 l1 h1)):
 AllAt (W.alloc (.cells (reL k1 m1 A1 n1 c1 l1 h1).toArray 55)) [T1] W.heap.size 0:=by
 have:=xzqb (W:=W) 55 [T1] [reL k1 m1 A1 n1 c1 l1 h1] rfl (fun i h h'=>by
  match i,h,h' with
  |0,_,_=>exact sizeS8 a1)
 exact this
def InBox8 (w:World)(T:Tree)(g:Nat)(A:Option Addr)(n c:Nat)(u:World):Prop:=T.At u (reV T.kind T.set A n c T.lo T.hi)/\BlkIs u g 55 (reL T.kind T.set A n c T.lo T.hi).toArray/\Below w.heap.size w u
theorem InBox8.step {w u u':World}{T:Tree}{g:Nat}{A:Option Addr}{n c:Nat}(h:InBox8 w T g A n c u)(hb:Below u.heap.size u u'):InBox8 w T g A n c u':=⟨h.1.step hb,h.2.1.step hb,h.2.2.trans (hb.mono h.2.2.size)⟩
end
section
open Go.RowKit
attribute [local irreducible] FreeW textFrame
end
section
open Go.RowKit
section
variable {W : World} {As : Option Addr} {cs : Nat} {L : List (Nat → Bool)}
end
end
end Go.Proofs.YtdjpphjpnkfeiaaGreatDoor
