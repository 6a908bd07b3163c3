/-
 WHAT nfa.Build ANSWERS of rules that may be, whose parts are made as said: its walk. Condition: as many places as may be.
-/
import Derived.Laws.OwnMore
import Derived.Test.YthoaaginadjaoaaQG26
namespace Go.Proofs.Ythoaaginadjaoaa
section
open Go.RowKit
attribute [local irreducible] FreeW textFrame
theorem xzeh:(Try.prog.info? 30).map (·.size)=some 6:=by kernel_rfl
theorem xzfo {w:World}{g:Nat}{t:TypeId}{a b c d e f:Value}(h:BlkIs w g t #[a,b,c,d,e,f]):(loadVar 30 ⟨g,0,none⟩).run Try.prog w=.ok (.agg #[a,b,c,d,e,f]) w:=
 run_loadVar_mid (P:=Try.prog) w g 0 30 [a,b,c,d,e,f] _ h.range Try.underlying30 rfl xzeh
theorem xzbc {fn:Func}{p q:Tmp}{ty:TypeId}{tmps:Array Value}{P:Program}{w w':World}{a:Addr}{v:Value}(h:fn.results=#[.cell p ty,.tmp q])(hp:tmps.getD p undef=.pointer (some a))(hl:(loadVar ty a).run P w=.ok v w'):
 (results fn tmps).run P w=.ok (.tuple #[v,tmps.getD q undef]) w':=by
 rw [results_cell_tmp h,hp]
 simp [asAddr,hl,Result.andThen]
theorem SetsV.sub {V W:World}{l:List (Nat->Bool)}{v:Value}(h:SetsV V l v)(hs:Sub V W):SetsV W l v:=by
 obtain⟨A,c,e,hc,hx⟩:=h;refine⟨A,c,e,hc,fun hne=>?_⟩;obtain⟨b,o,e2,hlt,hg⟩:=hx hne
 have hg2:=fun i hi k hk=>hs _ _ (hg i hi k hk)
 exact⟨b,o,e2,World.block_lt_of_cell? W ⟨b,o+0*4+0,none⟩ (hg2 0 (List.length_pos_iff.2 hne) 0 (by decide)),hg2⟩
theorem BoolsV.sub {V W:World}{l:List Bool}{v:Value}(h:BoolsV V l v)(hs:Sub V W):BoolsV W l v:=by
 obtain⟨A,c,e,hc,hx⟩:=h;refine⟨A,c,e,hc,fun hne=>?_⟩;obtain⟨b,o,e2,hlt,hg⟩:=hx hne
 have hg2:=fun i hi=>hs _ _ (hg i hi)
 exact⟨b,o,e2,World.block_lt_of_cell? W ⟨b,o+0,none⟩ (hg2 0 (List.length_pos_iff.2 hne)),hg2⟩
theorem RowsI.sub {V W:World}{l:List (List Int)}{v:Value}(h:RowsI V l v)(hs:Sub V W):RowsI W l v:=by
 obtain⟨A,c,e,hc,hx⟩:=h;refine⟨A,c,e,hc,fun hne=>?_⟩;obtain⟨b,o,e2,hlt,hg⟩:=hx hne;obtain⟨u0,h0,_⟩:=hg 0 (List.length_pos_iff.2 hne);refine⟨b,o,e2,World.block_lt_of_cell? W ⟨b,o+0,none⟩ (hs _ _ h0),fun i hi=>?_⟩;obtain⟨u,h1,h2⟩:=hg i hi;exact⟨u,hs _ _ h1,h2.sub hs⟩
theorem xzei {W:World}{H:Nat->Bool}{B:Nat}{t:TypeId}{z n:Nat}{v:Value}{xs:List Value}(h:W.ownsRow B t z v n xs)(hH:∀ k,v.ownBlock=some k->H k=false):(hide W H).ownsRow B t z v n xs:=xzac h fun k hk=>by
 rw [xzeq,hH k hk];simp
theorem xzlb {n:Nat}:∀ {F:List (List Int)},OkR n F->F.flatten.length<=F.length*n
 |[],_=>by simp
 |r::F,h=>by
  have h1:=xzai (h r (by simp))
  have h2:=xzlb (F:=F) fun x hx=>h x (by simp [hx])
  simp only [List.flatten_cons,List.length_append,List.length_cons,Nat.succ_mul];omega
set_option maxRecDepth 20000 in
set_option maxHeartbeats 16000000 in
theorem xzlc (l:List Tree)(h1:1<=l.length)(h40:l.length<=40)(hmay:∀ t∈l,t.mayN=true)(HP:∀ t∈l,PartIs t)(hokT:okTs l)(hnod:∀ t∈l,t.nodes<=1048576)(hsN:sumN l<=2000)(hsP:∀ j,0<=sumP (l.take j)/\sumP (l.take j)<=2000)
 (A:Option Addr)(c:Nat)(w:World)(hat:l≠[]->∃ b o,A=some ⟨b,o,none⟩/\AllAt w l b o):
 Calls Try.prog 6 #[.slice A l.length c] w fun x w'=>∃ v,x=.returned (.tuple #[v,.int .i64 0])/\NfaAt w' (buildN l) v/\Below w.heap.size w w':=by
 have hb1:Below w.heap.size w (w.alloc (.cells #[.slice none 0 0,.slice none 0 0,.slice none 0 0,.slice none 0 0,.slice none 0 0,.int .i64 0] 30)):=(Below.refl _ _).alloc (Nat.le_refl _) _;have hx1:=BlkIs.new w 30 #[.slice none 0 0,.slice none 0 0,.slice none 0 0,.slice none 0 0,.slice none 0 0,.int .i64 0];have H0:=zd (And.intro hb1 hx1);obtain⟨b,o,rfl,hall⟩:=hat (by intro e;rw [e]at h1;simp at h1);have HALL:=zd (fun(j:Nat) (hj:j<l.length)=>AllAt.get l b o hall j hj);have HM:=zd (fun(j:Nat) (hj:j<l.length)=>And.intro (hmay _ (List.getElem_mem hj)) (And.intro (HP _ (List.getElem_mem hj)) (And.intro (xzer hokT _ (List.getElem_mem hj)) (hnod _ (List.getElem_mem hj)))))
 have HSP:=zd (fun(j:Nat) (hj:j<l.length)=>(show sumP (l.take (j+1))=sumP (l.take j)+placesZ l[j]by
  rw [List.take_succ_eq_append_getElem hj,xzbq];unfold placesZ;rw [if_pos (hmay _ (List.getElem_mem hj))]))
 have HSB:=zd hsP;have HOT:=zd hokT;have HSN:=zd hsN
 have e1:decide ((l.length:Int)<1)=false:=by simp;omega
 have e2:decide ((l.length:Int)>40)=false:=by simp;omega
 have e2b:decide (40<(l.length:Int))=false:=by simp;omega
 clear hb1 hx1 hat hall hmay HP hokT hnod hsN hsP h1
 go_enter Try.func6,Try.ntmps6
 go_wp2
 go_loopw [4,22] (fun s i wr=>∃ (j:Nat) (n:Int),s=.int .i64 n/\i=.int .i64 (j:Int)/\j<=l.length/\Hid (n=sumP (l.take j)/\Below w.heap.size w wr/\BlkIs wr w.heap.size 30 #[.slice none 0 0,.slice none 0 0,.slice none 0 0,.slice none 0 0,.slice none 0 0,.int .i64 0])) (fun _ i _=>l.length - (intOf i).toNat)
 case atStart=>exact⟨0,0,rfl,rfl,Nat.zero_le _,zd ⟨by simp [sumP],H0.out⟩⟩
 case round=>
  obtain⟨j,n,rfl,rfl,hj,HH⟩:=hrel
  by_cases hp:j<l.length
  ·have hk1:IntKind.i64.wrap ((j:Int)+1)=((j+1:Nat):Int):=by rw [IntKind.wrap_i64];omega
   have hdl:decide ((j:Int)<(l.length:Int))=true:=by simp;omega
   obtain⟨cs,hcat,hlen,hrow⟩:=HALL.out j hp;obtain⟨A',n',c',rfl⟩:=hcat.eight;obtain⟨r0,r1,r2,r3,r4,r5,r6,r7⟩:=xzaj (W':=wr) (fun i x hi=>(HH.out.2.1.cell (World.block_lt_of_cell? w _ (hrow i x hi))).trans (hrow i x hi)) (Below.refl _ _);have hxb:=BlkIs.new wr 39 (reL (l[j]).kind (l[j]).set A' n' c' (l[j]).lo (l[j]).hi).toArray;have hxw:Below wr.heap.size wr (wr.alloc (.cells (reL (l[j]).kind (l[j]).set A' n' c' (l[j]).lo (l[j]).hi).toArray 39)):=(Below.refl _ _).alloc (Nat.le_refl _) _;obtain⟨W9,hW9⟩:∃ W9,wr.alloc (.cells (reL (l[j]).kind (l[j]).set A' n' c' (l[j]).lo (l[j]).hi).toArray 39)=W9:=⟨_,rfl⟩;rw [hW9]at hxb hxw;have hcx:=xzdd l[j] _ W9 ((hcat.step HH.out.2.1).step hxw) (HM.out j hp).2.2.2;have hss:=HSP.out j hp;have hs1:=HSB.out (j+1);have hs0:=HSB.out j
   have hpz:0<=placesZ l[j]:=by
    have hm:=(HM.out j hp).1;unfold placesZ;rw [if_pos hm];unfold Tree.mayN at hm;simp only [Bool.and_eq_true]at hm;exact xzav _ hm.2.2
   have hen:=HH.out.1;simp only [reL]at hW9;unfold reV reL at*;rw [<-hen]at hss hs0;have HX:=zd (And.intro (HH.out.2.1.trans (hxw.mono HH.out.2.1.size)) (HH.out.2.2.step hxw));have HC:=zd hcx;have HSS:=zd hss;generalize placesZ l[j]=pz at*;generalize(l[j]).kind=kx at*;generalize(l[j]).set=mx at*;generalize(l[j]).lo=lx at*;generalize(l[j]).hi=hx at*
   have hk2:IntKind.i64.wrap (n+pz)=n+pz:=by rw [IntKind.wrap_i64];omega
   have hneg:decide (pz<0)=false:=by simp;omega
   obtain⟨x0,x1,x2,x3,x4,x5,x6,x7⟩:=hxb.eight;clear hcat hrow hlen hcx hss hs1 hs0 hpz hen hxb hxw
   go_wp2_with fail
   go_at_call 9
   refine HC.out.mono ?_;rintro x u ⟨rfl,hbu⟩;have HU:=zd (And.intro (HX.out.1.trans (hbu.mono HX.out.1.size)) (HX.out.2.step hbu));clear hbu x0 x1 x2 x3 x4 x5 x6 x7 r0 r1 r2 r3 r4 r5 r6 r7;go_wp2;exact⟨⟨j+1,n+pz,rfl,rfl,hp,zd ⟨HSS.out.symm,HU.out⟩⟩,by simp [intOf];omega⟩
  ·have hdl:decide ((j:Int)<(l.length:Int))=false:=by simp;omega
   obtain rfl:j=l.length:=by omega
   have hs0:=HSB.out l.length;have hen:=HH.out.1;rw [<-hen]at hs0
   have hgt:decide (n>2000)=false:=by simp;omega
   have hgt2:decide (2000<n)=false:=by simp;omega
   obtain⟨w3,hw3⟩:∃ w3,wr.alloc (.cells #[.slice none 0 0,.slice none 0 0,.slice none 0 0,.slice none 0 0,.slice none 0 0,.int .i64 (-1)] 51)=w3:=⟨_,rfl⟩
   have hb3:Below wr.heap.size wr w3:=by rw [<-hw3];exact(Below.refl _ _).alloc (Nat.le_refl _) _
   have hm3:BlkIs w3 wr.heap.size 51 #[.slice none 0 0,.slice none 0 0,.slice none 0 0,.slice none 0 0,.slice none 0 0,.int .i64 (-1)]:=by rw [<-hw3];exact BlkIs.new _ _ _
   have hwm:w.heap.size<wr.heap.size:=HH.out.2.2.lt
   have hfk:FkI (fun k=>decide (k=wr.heap.size)) (fun _=>false) w3 wr.heap.size Bs.none.S Bs.none.R Bs.none.F Bs.none.E Bs.none.em (.slice none 0 0) (.slice none 0 0) (.slice none 0 0):=
    ⟨⟨_,_,[],hm3,by simp,World.ownsRow_nil _ _ _ _,World.ownsRow_nil _ _ _ _,fun k e=>by simp [Value.ownBlock]at e,fun k e=>by simp [Value.ownBlock]at e,fun i hi=>by simp [Bs.none]at hi⟩,World.ownsRow_nil _ _ _ _,World.ownsRow_nil _ _ _ _,World.ownsRow_nil _ _ _ _,
      fun k e=>by simp [Value.ownBlock]at e,fun k e=>by simp [Value.ownBlock]at e,fun k e=>by simp [Value.ownBlock]at e,fun k e=>by simp [Value.ownBlock]at e,fun k e=>by simp [Value.ownBlock]at e,fun k e=>by simp [Value.ownBlock]at e⟩
   have hfb:FkB wr.heap.size w3 (fun k=>decide (k=wr.heap.size)) (fun _=>false) w3 (.slice none 0 0) (.slice none 0 0) (.slice none 0 0):=
    ⟨Below.refl _ _,(fun k e=>by have e:=of_decide_eq_true e;have:=hm3.lt;omega),(fun k e=>absurd e (by simp)),(fun k e=>absurd e (by simp [Value.ownBlock])),(fun k e=>absurd e (by simp [Value.ownBlock])),(fun k e=>absurd e (by simp [Value.ownBlock]))⟩
   have HW:=zd (And.intro (HH.out.2.1.trans (hb3.mono HH.out.2.1.size)) (And.intro (HH.out.2.2.step hb3) (And.intro hfk hfb)));have HB3:=zd (And.intro hb3 hwm);have HSZ:=zd hm3.lt;have hOK0:Bs.none.Ok 0 0:=⟨⟨rfl,fun r hr=>by simp [Bs.none]at hr⟩,rfl,rfl,rfl,by simp [Bs.none]⟩;have HOK:=zd (fun j=>Bs.all_ok (l.take j) Bs.none 0 0 0 hOK0 (xzee j HOT.out) (by have:=xzdm l j;have:=HSN.out;omega));obtain⟨k0,k1,k2,k3,k4,k5⟩:=six HH.out.2.2;clear hs0 hen hb3 hm3 hwm hfk hfb hOK0;obtain⟨wo,rfl⟩:∃ wo:World,wo=wr:=⟨_,rfl⟩;go_wp2
   go_loopw [42] (fun s wz=>∃ j:Nat,s=.int .i64 (j:Int)/\j<=l.length/\Hid (∃ M K r f e,FkI M K wz wo.heap.size (Bs.all Bs.none 0 (l.take j)).S (Bs.all Bs.none 0 (l.take j)).R (Bs.all Bs.none 0 (l.take j)).F (Bs.all Bs.none 0 (l.take j)).E (Bs.all Bs.none 0 (l.take j)).em r f e/\FkB wo.heap.size w3 M K wz r f e)) (fun s _=>l.length - (intOf s).toNat)
   case atStart=>exact⟨0,rfl,Nat.zero_le _,zd ⟨_,_,_,_,_,HW.out.2.2.1,HW.out.2.2.2⟩⟩
   case round=>
    obtain⟨j,rfl,hj,HH2⟩:=hrel;obtain⟨M,K,r,f,e,hfk,hfb⟩:=HH2.out;have hbw:Below w.heap.size w wr:=HW.out.1.trans (hfb.low.mono (by have:=HB3.out.2;omega))
    by_cases hp:j<l.length
    ·have hk1:IntKind.i64.wrap ((j:Int)+1)=((j+1:Nat):Int):=by rw [IntKind.wrap_i64];omega
     have hdl:decide ((j:Int)<(l.length:Int))=true:=by simp;omega
     obtain⟨cs,hcat,hlen,hrow⟩:=HALL.out j hp;obtain⟨A',n',c',rfl⟩:=hcat.eight;obtain⟨r0,r1,r2,r3,r4,r5,r6,r7⟩:=xzaj (W':=wr) (fun i x hi=>(hbw.cell (World.block_lt_of_cell? w _ (hrow i x hi))).trans (hrow i x hi)) (Below.refl _ _);have hxw:Below wr.heap.size wr (wr.alloc (.cells (reL (l[j]).kind (l[j]).set A' n' c' (l[j]).lo (l[j]).hi).toArray 39)):=(Below.refl _ _).alloc (Nat.le_refl _) _;have hxb:=BlkIs.new wr 39 (reL (l[j]).kind (l[j]).set A' n' c' (l[j]).lo (l[j]).hi).toArray;obtain⟨W9,hW9⟩:∃ W9,wr.alloc (.cells (reL (l[j]).kind (l[j]).set A' n' c' (l[j]).lo (l[j]).hi).toArray 39)=W9:=⟨_,rfl⟩;rw [hW9]at hxw hxb;have hmm:=HM.out j hp;have hbo:=HOK.out j
     have hBw:wo.heap.size<=wr.heap.size:=by have:=hfb.low.size;have:=HSZ.out;omega
     have hfb9:=hfb.step hxw hBw
     have hat9:(l[j]).At (hide W9 M) _:=hcat.sub fun p x hx=>xzcs (by
      rw [Bool.eq_false_iff];intro e;have:=(hfb.mm _ e).1;have:=World.block_lt_of_cell? w p hx;have:=HB3.out.2
      omega) (((hbw.trans (hxw.mono hbw.size)).cell (World.block_lt_of_cell? w p hx)).trans hx)
     have hsum:sumN (l.take j)+(l[j]).plN<=2000:=by
      have q1:=xzdm l (j+1);rw [List.take_succ_eq_append_getElem hp,xzdl]at q1;have:=HSN.out;omega
     have hsn:Bs.all Bs.none 0 (l.take (j+1))=(Bs.all Bs.none 0 (l.take j)).add (j:Int) l[j]:=by
      rw [List.take_succ_eq_append_getElem hp,Bs.all_snoc]
      congr 1
      simp;omega
     have hlt:(l.take j).length<=40:=by rw [List.length_take];omega
     have HADD:=zd (add_any l[j] hmm.2.1 hmm.2.2.1 wo.heap.size wo.heap.size (j:Int) _ _ _ _ _ r f e M K _ W9 (hfk.step hxw) ⟨Below.refl _ _,hfb9.mm,hfb9.kk,hfb9.r0,hfb9.f0,hfb9.e0⟩ (by have:=hxw.size;omega) hat9 hbo.ks (by rw [hbo.kr,hbo.kn]) (by rw [hbo.ke,hbo.kn]) (by have:=hbo.kf;omega) (by rw [hbo.kn];omega));have HLO:=zd hfb9.low;have HSS:=zd hsn;simp only [reL]at hW9;unfold reV reL at*;unfold Bs.add at HSS;generalize Bs.all Bs.none 0 (l.take j)=X at*;generalize partP l[j] X.S=TS at*;generalize(l[j]).plN=d at*;generalize(l[j]).kind=kx at*;generalize(l[j]).set=mx at*;generalize(l[j]).lo=lx at*;generalize(l[j]).hi=hx at*;obtain⟨x0,x1,x2,x3,x4,x5,x6,x7⟩:=hxb.eight;clear hcat hrow hlen hxw hxb hmm hbo hBw hfb9 hat9 hsum hsn hlt hfk hfb hbw HH2
     go_wp2_with fail
     go_at_call 20
     refine HADD.out.mono ?_;rintro x u ⟨y,rfl,M',K',r',f',e',hf1,hf2⟩;have HF:=zd (And.intro hf1 hf2);clear hf1 hf2;go_wp2;exact⟨⟨j+1,rfl,hp,zd ⟨M',K',r',f',e',by rw [HSS.out];exact HF.out.1,⟨HLO.out.trans HF.out.2.low,HF.out.2.mm,HF.out.2.kk,HF.out.2.r0,HF.out.2.f0,HF.out.2.e0⟩⟩⟩,by simp [intOf];omega⟩
    ·obtain rfl:j=l.length:=by omega
     have hdl:decide ((l.length:Int)<(l.length:Int))=false:=by simp
     rw [List.take_length]at hfk;have hbo:=HOK.out l.length;rw [List.take_length]at hbo;have hB:buildN l=⟨(Bs.all Bs.none 0 l).S.sets,(Bs.all Bs.none 0 l).R,(Bs.all Bs.none 0 l).F,(Bs.all Bs.none 0 l).S.follow,(Bs.all Bs.none 0 l).E,(Bs.all Bs.none 0 l).em⟩:=rfl;have HBN:=zd hB;clear hB;have hsn2:=HSN.out;generalize Bs.all Bs.none 0 l=X at*;obtain⟨vs,vf,ws,hmk⟩:=hfk.mka;have hfl:=xzlb hbo.ks.2
     have hfn:X.S.follow.length<=2000:=by rw [hbo.ks.1,hbo.kn];omega
     have hfq:X.S.follow.length*X.S.sets.length<=2000*2000:=Nat.mul_le_mul hfn (by rw [hbo.kn];omega);have HAP:=zd (xzsc X.S.follow vf wr (xzir hmk) (by omega) (by omega));obtain⟨A0,c0,rfl,_⟩:=xzak hmk.own0;obtain⟨A3,c3,rfl,_⟩:=xzak hmk.own3;obtain⟨A1,c1,rfl,_⟩:=xzak hfk.rr;obtain⟨A2,c2,rfl,_⟩:=xzak hfk.rf;obtain⟨A4,c4,rfl,_⟩:=xzak hfk.re;have hzb:BlkIs wr w.heap.size 30 _:=(hfb.low.block w.heap.size (by have:=HB3.out.2;omega)).trans HW.out.2.1;obtain⟨k0',k1',k2',k3',k4',k5'⟩:=six hmk.blk;have HX:=zd (And.intro hfk (And.intro hfb (And.intro hmk (And.intro hzb hbw))));clear hfk hfb hmk hzb hbw hbo hfl hfn hfq hsn2 HH2
     go_wp2_with fail
     go_at_call 21
     refine HAP.out.mono ?_;rintro x u ⟨v9,rfl,hrows,hbu⟩;obtain⟨A9,c9,rfl,hc9,hr9⟩:=hrows;have hbk:=HX.out.2.2.1.blk.step hbu;obtain⟨U1,hU1⟩:∃ U1,u.setCell ⟨wo.heap.size,3,none⟩ (.slice A9 X.S.follow.length c9)=U1:=⟨_,rfl⟩
     have hb1:BlkIs U1 wo.heap.size 51 #[.slice A0 X.S.sets.length c0,.slice A1 X.R.length c1,.slice A2 X.F.length c2,.slice A9 X.S.follow.length c9,.slice A4 X.E.length c4,.int .i64 X.em]:=by rw [<-hU1];exact hbk.put 3 (.slice A9 X.S.follow.length c9)
     have hz1:BlkIs U1 w.heap.size 30 #[.slice none 0 0,.slice none 0 0,.slice none 0 0,.slice none 0 0,.slice none 0 0,.int .i64 0]:=by rw [<-hU1];exact(HX.out.2.2.2.1.step hbu).far (p:=⟨wo.heap.size,3,none⟩) (by have:=HB3.out.2;show w.heap.size≠wo.heap.size;omega) _
     obtain⟨g0,g1,g2,g3,g4,g5⟩:=six hbk;have fz:=hbk.frozen 3;obtain⟨l0,l1,l2,l3,l4,l5⟩:=six hb1;obtain⟨m0,m1,m2,m3,m4,m5⟩:=six hz1;have fm0:=hz1.frozen 0;have fm1:=hz1.frozen 1;have fm2:=hz1.frozen 2;have fm3:=hz1.frozen 3;have fm4:=hz1.frozen 4;have fm5:=hz1.frozen 5;have hlt:=hz1.lt;have HU:=zd (And.intro hz1 (And.intro hbu (And.intro hc9 hr9)));clear hbk hb1 hz1 hbu hr9 k0' k1' k2' k3' k4' k5';go_wp2
     have hHm:∀ k,(decide (k=wo.heap.size)||decide (k=w.heap.size))=false↔k≠wo.heap.size/\k≠w.heap.size:=fun k=>by simp
     have hsub:Sub (hide u fun k=>decide (k=wo.heap.size)||decide (k=w.heap.size)) (((((((U1.setCell ⟨w.heap.size,0,none⟩ (.slice A0 X.S.sets.length c0)).setCell ⟨w.heap.size,1,none⟩ (.slice A1 X.R.length c1)).setCell ⟨w.heap.size,2,none⟩ (.slice A2 X.F.length c2)).setCell
      ⟨w.heap.size,3,none⟩ (.slice A9 X.S.follow.length c9)).setCell ⟨w.heap.size,4,none⟩ (.slice A4 X.E.length c4)).setCell ⟨w.heap.size,5,none⟩ (.int .i64 X.em))):=by
      rw [<-hU1]
      have hw:(fun k=>decide (k=wo.heap.size)||decide (k=w.heap.size)) w.heap.size=true:=by simp
      have hm:(fun k=>decide (k=wo.heap.size)||decide (k=w.heap.size)) wo.heap.size=true:=by simp
      exact(((((((xzbx (p:=⟨wo.heap.size,3,none⟩) hm _).trans (xzbx (p:=⟨w.heap.size,0,none⟩) hw _)).trans (xzbx (p:=⟨w.heap.size,1,none⟩) hw _)).trans (xzbx (p:=⟨w.heap.size,2,none⟩) hw _)).trans (xzbx (p:=⟨w.heap.size,3,none⟩) hw _)).trans (xzbx (p:=⟨w.heap.size,4,none⟩) hw _)).trans (xzbx (p:=⟨w.heap.size,5,none⟩) hw _)).trans xzar
     have hl:=xzfo ((((((HU.out.1.put 0 (.slice A0 X.S.sets.length c0)).put 1 (.slice A1 X.R.length c1)).put 2 (.slice A2 X.F.length c2)).put 3 (.slice A9 X.S.follow.length c9)).put 4 (.slice A4 X.E.length c4)).put 5 (.int .i64 X.em));have hmk:=HX.out.2.2.1.step HU.out.2.1;have hfk:=HX.out.1.step HU.out.2.1;have hmm:=HX.out.2.1.mm;have hwl:=HB3.out.2;have hwr:wo.heap.size<wr.heap.size:=(hmm _ HX.out.2.2.1.mine).2
     have hgt0:∀ k,wo.heap.size<=k->k≠wo.heap.size->(decide (k=wo.heap.size)||decide (k=w.heap.size))=false:=fun k a1 a2=>(hHm k).2 ⟨a2,by omega⟩
     have hbes:∀ k,M k=false->k≠wo.heap.size:=fun k hk e=>by rw [e,HX.out.2.2.1.mine]at hk;cases hk
     refine⟨rfl,_,xzbc rfl rfl hl,_,rfl,?_,?_⟩
     ·rw [HBN.out]
      refine⟨_,_,_,_,_,rfl,SetsV.sub (xzhg (xzei hmk.own0 fun k hk=>hgt0 k (hmm k (hmk.far0 k hk).1).1 (hmk.far0 k hk).2)) hsub,IntsV.sub (RowI.ints (B:=0) (xzei hfk.rr fun k hk=>hgt0 k (HX.out.2.1.r0 k hk) (hbes k (hfk.br k hk).2))) hsub,
       IntsV.sub (RowI.ints (B:=0) (xzei hfk.rf fun k hk=>hgt0 k (HX.out.2.1.f0 k hk) (hbes k (hfk.bf k hk).2))) hsub,?_,BoolsV.sub (xzjx (xzei hfk.re fun k hk=>hgt0 k (HX.out.2.1.e0 k hk) (hbes k (hfk.be k hk).2))) hsub⟩
      refine RowsI.sub (V:=hide u (low wr.heap.size)) ⟨A9,c9,rfl,HU.out.2.2.1,HU.out.2.2.2⟩ ((xzaw fun k k1 _=>⟨?_,rfl⟩).trans hsub);have:=low_no.1 k1;exact(hHm k).2 ⟨by omega,by omega⟩
     ·have h7:Below w.heap.size w U1:=by
       rw [<-hU1];exact(HX.out.2.2.2.2.trans (HU.out.2.1.mono HX.out.2.2.2.2.size)).setCell (p:=⟨wo.heap.size,3,none⟩) (by show w.heap.size<=wo.heap.size;omega) _
      exact(((((h7.setCell (p:=⟨_,_,none⟩) (Nat.le_refl _) _).setCell (p:=⟨_,_,none⟩) (Nat.le_refl _) _).setCell (p:=⟨_,_,none⟩) (Nat.le_refl _) _).setCell (p:=⟨_,_,none⟩) (Nat.le_refl _) _).setCell (p:=⟨_,_,none⟩) (Nat.le_refl _) _).setCell (p:=⟨_,_,none⟩) (Nat.le_refl _) _
end
section
open Go.RowKit
theorem xzhi:∀ (i:Nat) (l:List (Nat->Bool)),cellsS (l.drop i)=(cellsS l).drop (i*4)
 |0,l=>by simp
 |i+1,[]=>by simp [cellsS]
 |i+1,x::l=>by
  rw [List.drop_succ_cons,xzhi i l];simp only [cellsS,List.flatMap_cons];rw [show(i+1)*4=i*4+1+1+1+1 by omega]
  rfl
theorem xzhj:∀ (i:Nat) (l:List (Nat->Bool)),cellsS (l.take i)=(cellsS l).take (i*4)
 |0,l=>by simp [cellsS]
 |i+1,[]=>by simp [cellsS]
 |i+1,x::l=>by
  rw [List.take_succ_cons];have h:=xzhj i l;simp only [cellsS,List.flatMap_cons]at h ⊢;rw [h,show(i+1)*4=i*4+1+1+1+1 by omega]
  rfl
section
variable {W : World} {As : Option Addr} {cs : Nat} {L : List (Nat → Bool)}
theorem xzpb (hown:W.ownsRow 0 37 4 (.slice As L.length cs) L.length (cellsS L)){i j:Nat}(hij:i<=j)(hj:j<=L.length)(hl:L.length+(j - i)<=1099511627776):
 ∃ v' W',(Builtin.append_ #[25,25] 25 #[.slice As L.length cs,sliced As i j cs 4]).run Try.prog W=.ok v' W'/\W'.ownsRow 0 37 4 v' (L++(L.drop i).take (j - i)).length (cellsS (L++(L.drop i).take (j - i)))/\
  W.grownBy W' (Value.slice As L.length cs).ownBlock/\W'.ownsRow 0 37 4 (.slice As L.length cs) L.length (cellsS L)/\(v'.ownBlock=(Value.slice As L.length cs).ownBlock\/v'.ownBlock=some W.heap.size):=by
 have hT:((L.drop i).take (j - i)).length=j - i:=by simp;omega
 rcases hown.2 with⟨h1,h2⟩|⟨g,cap,cur,e,hbg,hg,hnc,hcm,hcs,htake⟩
 ·injection h1 with e1 e2 e3
  subst e1 e3
  obtain rfl:j=0:=by omega
  obtain rfl:i=0:=by omega
  obtain⟨i0,hi0,hz0,hz1,hz2⟩:=info_parts xzky;refine⟨_,W,run_append_owned_none (P:=Try.prog) W 0 25 25 37 i0 4 Try.underlying25 hi0 _ _ _ hown,?_,⟨rfl,rfl,rfl,Nat.le_refl _,fun _ _ _=>rfl⟩,hown,.inl rfl⟩
  simpa using hown
 ·injection e with e1 _ e2
  subst e1 e2
  have hT2:cellsS ((L.drop i).take (j - i))=((cellsS L).drop (i*4)).take ((j - i)*4):=by rw [xzhj,xzhi]
  have hcells:=fun k u hu=>hown.cells (g:=g) rfl k u hu
  obtain⟨a,ha,hnews⟩:∃ a,sliced (some ⟨g,0,none⟩) i j cs 4=.slice (some a) (j - i) (cs - i)/\∀ k u,(cellsS ((L.drop i).take (j - i)))[k]? =some u->W.cell? (a.add k)=some u:=by
   unfold sliced
   by_cases hc:cs=i
   ·refine⟨_,by rw [if_pos hc],fun k u hu=>?_⟩
    obtain rfl:j=i:=by omega
    simp [cellsS]at hu
   ·refine⟨_,by rw [if_neg hc];rfl,fun k u hu=>?_⟩
    rw [hT2,List.getElem?_take]at hu
    split at hu
    ·rw [List.getElem?_drop]at hu
     have h:=hcells _ _ hu;simp only [Addr.add_lit,Nat.zero_add]at h ⊢;rw [show i*4+k=i*4+k from rfl]at h;exact h
    ·cases hu
  rw [ha];have hh:=xzhc (S:=⟨L,[]⟩) hown (T:=(L.drop i).take (j - i)) (a:=a) (c:=cs - i) hnews (by simp only [hT];exact hl);rw [hT]at hh;exact hh
end
theorem xzsd {W u:World}{t:TypeId}{n:Nat}{v:Value}{xs:List Value}{g0 q:Nat}(h1:W.ownsRow 0 t 1 v n xs)(h2:u.ownsRow 0 t 1 v n xs)(hb:v.ownBlock≠some g0->u.heap[g0]? =W.heap[g0]?)(hq:q<n):u.cell? ⟨g0,q,none⟩=W.cell? ⟨g0,q,none⟩:=by
 by_cases e:v.ownBlock=some g0
 ·rcases h1.2 with⟨rfl,rfl⟩|⟨g,cap,cur,rfl,_⟩
  ·omega
  ·injection e with e
   subst e
   have hl:xs.length=n:=by have:=h1.1;omega
   have hx:xs[q]? =some xs[q]:=List.getElem?_eq_getElem (by omega);have k1:=h1.cells (g:=g) rfl q _ hx;have k2:=h2.cells (g:=g) rfl q _ hx;simp only [Addr.add_lit,Nat.zero_add]at k1 k2;exact k2.trans k1.symm
 ·unfold World.cell?
  rw [hb e]
def OldR (W:World)(H:Nat->Bool)(g0:Nat)(L:List (List Int)):Prop:=∀ (q:Nat) (h:q<L.length),∃ x,W.cell? ⟨g0,q,none⟩=some x/\IntsV (hide W H) L[q] x
end
end Go.Proofs.Ythoaaginadjaoaa
