/-
 WHAT nfa's step ANSWERS: a contract. Condition: the places, and those that follow, are places of the automaton; at most 2^20 of them.
-/
import Derived.Lib.Strings
import Derived.Test.YthoaaginadjaoaaQG05
import Derived.Test.YthoaaginadjaoaaQG06
namespace Go.Proofs.Ythoaaginadjaoaa
section
open Go.RowKit
def Nf.followAt (N:Nf)(p:Int):List Int:=N.follow.getD p.toNat []
def hasI (l:List Int)(q:Nat):Bool:=l.any fun x=>x==(q:Int)
def markF (N:Nf)(at':List Int)(q:Nat):Bool:=at'.any fun p=>hasI (N.followAt p) q
def keepTo (k:Nat)(f:Nat->Bool)(N:Nf)(c:Nat):List Int:=((List.range k).filter fun q=>f q&&N.setAt q c).map fun(i:Nat)=>(i:Int)
theorem xzro (k:Nat)(f:Nat->Bool)(N:Nf)(c:Nat):keepTo (k+1) f N c=if f k&&N.setAt k c then keepTo k f N c++[(k:Int)]else keepTo k f N c:=by
 unfold keepTo;rw [List.range_succ,List.filter_append,List.map_append]
 by_cases e:(f k&&N.setAt k c)=true
 ·rw [if_pos e];simp only [List.filter_cons,List.filter_nil,e,if_true,List.map_cons,List.map_nil]
 ·rw [if_neg e];simp only [List.filter_cons,List.filter_nil,e];simp
theorem xzue (k:Nat)(f:Nat->Bool)(N:Nf)(c:Nat):(keepTo k f N c).length<=k:=by
 unfold keepTo;rw [List.length_map];refine Nat.le_trans (List.length_filter_le _ _) ?_;rw [List.length_range];exact Nat.le_refl _
theorem xzrp (l:List Int)(j:Nat)(h:j<l.length)(q:Nat):hasI (l.take (j+1)) q=(hasI (l.take j) q||(l[j]==(q:Int))):=by
 unfold hasI;rw [List.take_succ_eq_append_getElem h,List.any_append];simp
theorem xzrq (N:Nf)(l:List Int)(j:Nat)(h:j<l.length)(q:Nat):markF N (l.take (j+1)) q=(markF N (l.take j) q||hasI (N.followAt l[j]) q):=by
 unfold markF;rw [List.take_succ_eq_append_getElem h,List.any_append];simp
theorem xzuf {k:Nat}{f:Nat->Bool}{l:List Int}{j:Nat}(h:j<l.length){x:Nat}(hx:l[j]=(x:Int)):
 bl k (updS (fun q=>f q||hasI (l.take j) q) x true)=bl k (fun q=>f q||hasI (l.take (j+1)) q):=by
 apply xzbi
 intro i _;unfold updS;rw [xzrp l j h i,hx]
 by_cases e:i=x
 ·subst e;simp
 ·have:((x:Int)==(i:Int))=false:=by simp;omega
  rw [if_neg e,this];simp
set_option maxRecDepth 20000 in
set_option maxHeartbeats 8000000 in
theorem xzug (N:Nf)(at':List Int)(c:Nat)(hc:c<256)(v va:Value)(w:World)(h:NfaAt w N v)(ha:IntsV w at' va)(hin:∀ p∈at',0<=p/\p<N.sets.length)(hfl:N.follow.length=N.sets.length)
 (hrow:∀ r∈N.follow,∀ x∈r,0<=x/\x<(N.sets.length:Int))(hn:N.sets.length<=1048576):
 Calls Try.prog 36 #[v,va,.int .u8 c] w fun e w'=>∃ v',e=.returned v'/\RowI (w.heap.size+2) w' v' (keepTo N.sets.length (markF N at') N c)/\Below w.heap.size w w':=by
 obtain⟨v0,v1,v2,v3,v4,rfl,hs0,hs1,hs2,hs3,hs4⟩:=h;obtain⟨A0,c0,rfl,hc0,hg0⟩:=hs0;obtain⟨A2,c2,rfl,hc2,hx2⟩:=hs2;obtain⟨A3,c3,rfl,hc3,hg3⟩:=hs3;obtain⟨A1,c1,rfl,hc1,hx1⟩:=hs1;obtain⟨A4,c4,rfl,hc4,hx4⟩:=hs4;obtain⟨Aa,ca,rfl,hca,hga⟩:=ha
 have hmk:=fun u=>xzbd N.sets.length (by omega) u
 have hb0:Below w.heap.size w (w.alloc (.cells #[.slice A0 N.sets.length c0,.slice A1 N.rules.length c1,.slice A2 N.first.length c2,.slice A3 N.follow.length c3,.slice A4 N.ends.length c4,.int .i64 N.empty] 30)):=(Below.refl _ _).alloc (Nat.le_refl _) _;have hbx:=BlkIs.new w 30 #[.slice A0 N.sets.length c0,.slice A1 N.rules.length c1,.slice A2 N.first.length c2,.slice A3 N.follow.length c3,.slice A4 N.ends.length c4,.int .i64 N.empty];have hbm:=BlkIs.new (w.alloc (.cells #[.slice A0 N.sets.length c0,.slice A1 N.rules.length c1,.slice A2 N.first.length c2,.slice A3 N.follow.length c3,.slice A4 N.ends.length c4,.int .i64 N.empty] 30)) 4 (bl N.sets.length fun _=>false);rw [World.size_alloc]at hbm;have H0:=zd (And.intro (hb0.alloc (by simp) (.cells (bl N.sets.length fun _=>false) 4)) (And.intro (hbx.alloc (.cells (bl N.sets.length fun _=>false) 4)) hbm));obtain⟨d0,d1,d2,d3,d4,d5⟩:=six hbx;have HGA:=zd hga;have HIN:=zd (fun(j:Nat) (h:j<at'.length)=>hin _ (List.getElem_mem h))
 have HSET:=zd (fun(pn:Nat) (h:pn<N.sets.length)=>(show ∃ b o,A0=some ⟨b,o,none⟩/\∀ u:World,Below w.heap.size w u->u.cell? ⟨b,o+pn*4,none⟩=some (.int .u64 (wd (N.setAt pn) 0:Nat))/\u.cell? ⟨b,o+pn*4+1,none⟩=some (.int .u64 (wd (N.setAt pn) 1:Nat))/\u.cell? ⟨b,o+pn*4+2,none⟩=some (.int .u64 (wd (N.setAt pn) 2:Nat))/\u.cell? ⟨b,o+pn*4+3,none⟩=some (.int .u64 (wd (N.setAt pn) 3:Nat))by
  obtain⟨b,o,e1,l1,g1⟩:=hg0 (by intro e;rw [e]at h;simp at h)
  have es:N.setAt pn=N.sets[pn]:=by unfold Nf.setAt;simp [h]
  rw [es]
  exact⟨b,o,e1,fun u hu=>⟨(hu.cell (p:=⟨b,o+pn*4,none⟩) l1).trans (g1 pn h 0 (by decide)),(hu.cell (p:=⟨b,o+pn*4+1,none⟩) l1).trans (g1 pn h 1 (by decide)),(hu.cell (p:=⟨b,o+pn*4+2,none⟩) l1).trans (g1 pn h 2 (by decide)),(hu.cell (p:=⟨b,o+pn*4+3,none⟩) l1).trans (g1 pn h 3 (by decide))⟩⟩))
 have HFOL:=zd (fun(pn:Nat) (h:pn<N.sets.length)=>(show ∃ b o Ar cr,A3=some ⟨b,o,none⟩/\(∀ x∈N.followAt pn,0<=x/\x<(N.sets.length:Int))/\(N.followAt pn).length<=cr/\cr<=9223372036854775807/\∀ u:World,Below w.heap.size w u->u.cell? ⟨b,o+pn,none⟩=some (.slice Ar (N.followAt pn).length cr)/\(N.followAt pn≠[]->∃ b2 o2,Ar=some ⟨b2,o2,none⟩/\∀ (i:Nat) (h:i<(N.followAt pn).length),u.cell? ⟨b2,o2+i,none⟩=some (.int .i64 (N.followAt pn)[i]))by
  have h':pn<N.follow.length:=by rw [hfl];exact h
  have es:N.followAt pn=N.follow[pn]:=by unfold Nf.followAt;simp [h']
  obtain⟨b,o,e1,l1,g1⟩:=hg3 (by intro e;rw [e]at h';simp at h');obtain⟨u0,hu0,Ar,cr,rfl,hcr,hgr⟩:=g1 pn h';rw [es];refine⟨b,o,Ar,cr,e1,hrow _ (List.getElem_mem h'),hcr.1,hcr.2,fun u hu=>⟨(hu.cell (p:=⟨b,o+pn,none⟩) l1).trans hu0,fun hne=>?_⟩⟩;obtain⟨b2,o2,e2,l2,g2⟩:=hgr hne
  exact⟨b2,o2,e2,fun i hi=>(hu.cell (p:=⟨b2,o2+i,none⟩) l2).trans (g2 i hi)⟩))
 have HHAS:=zd (fun(m:Nat->Bool) (u:World)=>xzsy m c hc u);unfold setV at HHAS;have HFL:=zd hfl;clear hb0 hbx hbm hg0 hg3 hga hx1 hx2 hx4 hin hrow hfl
 go_enter Try.func36,Try.ntmps36
 go_wp2
 go_loopw [21] (fun i wr=>∃ j:Nat,i=.int .i64 j/\j<=at'.length/\Hid (Below w.heap.size w wr/\BlkIs wr w.heap.size 30 #[.slice A0 N.sets.length c0,.slice A1 N.rules.length c1,.slice A2 N.first.length c2,.slice A3 N.follow.length c3,.slice A4 N.ends.length c4,.int .i64 N.empty]/\BlkIs wr (w.heap.size+1) 4 (bl N.sets.length (markF N (at'.take j))))) (fun i _=>at'.length - (intOf i).toNat)
 case atStart=>exact⟨0,rfl,Nat.zero_le _,zd H0.out⟩
 case round=>
  obtain⟨j,rfl,hj,HH⟩:=hrel;clear hmk
  by_cases hp:j<at'.length
  ·have hk1:IntKind.i64.wrap ((j:Int)+1)=((j+1:Nat):Int):=by rw [IntKind.wrap_i64];omega
   have hdl:decide ((j:Int)<(at'.length:Int))=true:=by simp;omega
   obtain⟨d0,d1,d2,d3,d4,d5⟩:=six HH.out.2.1;obtain⟨b,o,rfl,hlt,hg⟩:=HGA.out (by intro e;rw [e]at hp;simp at hp);have hcell:=(HH.out.1.cell (p:=⟨b,o+j,none⟩) hlt).trans (hg j hp);have hpin:=HIN.out j hp;have HMS:=zd (xzrq N at' j hp);clear hg hlt;generalize at'[j]=p at*;obtain⟨pn,rfl⟩:=Int.eq_ofNat_of_zero_le hpin.1
   have hpn:pn<N.sets.length:=by omega
   have hi3:(pn:Int)<(N.follow.length:Int):=by rw [HFL.out];omega
   obtain⟨b3,o3,Ar,cr,rfl,hxin,hcr1,hcr2,hyy⟩:=HFOL.out pn hpn;have HYY:=zd hyy;have HXI:=zd hxin;obtain⟨y0,_⟩:=hyy wr HH.out.1;clear hyy hpin hxin;generalize N.followAt (pn:Int)=row at*;generalize hmf:markF N (at'.take j)=f at*;have HMF:=zd hmf;clear hmf;go_wp2
   go_loopw [31] (fun i wz=>∃ q:Nat,i=.int .i64 q/\q<=row.length/\Hid (Below w.heap.size w wz/\BlkIs wz w.heap.size 30 #[.slice A0 N.sets.length c0,.slice A1 N.rules.length c1,.slice A2 N.first.length c2,.slice (some ⟨b3,o3,none⟩) N.follow.length c3,.slice A4 N.ends.length c4,.int .i64 N.empty]/\BlkIs wz (w.heap.size+1) 4 (bl N.sets.length (fun x=>f x||hasI (row.take q) x)))) (fun i _=>row.length - (intOf i).toNat)
   case atStart=>exact⟨0,rfl,Nat.zero_le _,zd ⟨HH.out.1,HH.out.2.1,by
    have e:(fun x=>f x||hasI (row.take 0) x)=f:=by funext x;simp [hasI]
    rw [e];exact HH.out.2.2⟩⟩
   case round=>
    obtain⟨q,rfl,hq,HK⟩:=hrel
    by_cases hpq:q<row.length
    ·have hk2:IntKind.i64.wrap ((q:Int)+1)=((q+1:Nat):Int):=by rw [IntKind.wrap_i64];omega
     have hdq:decide ((q:Int)<(row.length:Int))=true:=by simp;omega
     obtain⟨b2,o2,rfl,hg2⟩:=(HYY.out _ HK.out.1).2 (by intro e;rw [e]at hpq;simp at hpq);have hcell2:=hg2 q hpq;have hxx:=HXI.out _ (List.getElem_mem hpq);have HUP:=zd (fun(x:Nat) (hx:row[q]=(x:Int))=>xzuf (k:=N.sets.length) (f:=f) hpq hx);clear hg2;generalize row[q]=x at*;obtain⟨xn,rfl⟩:=Int.eq_ofNat_of_zero_le hxx.1
     have hxn:xn<N.sets.length:=by omega
     have hxI:(xn:Int)<(N.sets.length:Int):=by omega
     have z1:=xzao HK.out.2.2 hxn;have z2:=HK.out.2.2.frozen xn;have HU:=zd (HUP.out xn rfl);clear hxx;go_wp2;refine⟨⟨q+1,rfl,hpq,zd ⟨HK.out.1.setCell (p:=⟨_,_,none⟩) (by simp) _,HK.out.2.1.far (by simp) _,?_⟩⟩,by simp [intOf];omega⟩;rw [<-HU.out,<-xzgq];exact HK.out.2.2.put _ _
    ·have hdq:decide ((q:Int)<(row.length:Int))=false:=by simp;omega
     obtain rfl:q=row.length:=by omega
     have HFIN:=zd (show markF N (at'.take (j+1))=(fun x=>f x||hasI (row.take row.length) x)by
      funext x;rw [HMS.out x,List.take_length])
     go_wp2;exact⟨⟨j+1,rfl,hp,zd ⟨HK.out.1,HK.out.2.1,by rw [HFIN.out];exact HK.out.2.2⟩⟩,by simp [intOf];omega⟩
  ·have hdl:decide ((j:Int)<(at'.length:Int))=false:=by simp;omega
   obtain rfl:j=at'.length:=by omega
   have hmt:at'.take at'.length=at':=List.take_length;have hm3:=HH.out;rw [hmt]at hm3;have HM3:=zd hm3;clear hm3 hmt HH;obtain⟨f,hf⟩:∃ f,f=markF N at':=⟨_,rfl⟩;rw [<-hf]at HM3;have HFQ:=zd hf;clear hf;go_wp2
   go_loopw [12,42] (fun s i wz=>∃ q:Nat,i=.int .i64 q/\q<=N.sets.length/\Hid (RowI (w.heap.size+2) wz s (keepTo q f N c)/\Below w.heap.size w wz/\BlkIs wz w.heap.size 30 #[.slice A0 N.sets.length c0,.slice A1 N.rules.length c1,.slice A2 N.first.length c2,.slice A3 N.follow.length c3,.slice A4 N.ends.length c4,.int .i64 N.empty]/\BlkIs wz (w.heap.size+1) 4 (bl N.sets.length f))) (fun _ i _=>N.sets.length - (intOf i).toNat)
   case atStart=>exact⟨0,rfl,Nat.zero_le _,zd ⟨RowI.nil _ _,HM3.out⟩⟩
   case round=>
    obtain⟨q,rfl,hq,HK⟩:=hrel
    by_cases hpq:q<N.sets.length
    ·have hk2:IntKind.i64.wrap ((q:Int)+1)=((q+1:Nat):Int):=by rw [IntKind.wrap_i64];omega
     have hdq:decide ((q:Int)<(N.sets.length:Int))=true:=by simp;omega
     have hqI:(q:Int)<(N.sets.length:Int):=by omega
     obtain⟨d0,d1,d2,d3,d4,d5⟩:=six HK.out.2.2.1;have z1:=xzao HK.out.2.2.2 hpq;obtain⟨b0,o0,rfl,hyy⟩:=HSET.out q hpq;obtain⟨y0,y1,y2,y3⟩:=hyy _ HK.out.2.1;have hks:=xzro q f N c;have hkl:=xzue q f N c;have HC:=zd (HHAS.out (N.setAt (q:Int)) wr);clear hyy;generalize N.setAt (q:Int)=m at*;generalize f q=fq at*;generalize m c=mc at*;have HKS:=zd hks;clear hks
     cases fq with
     |false=>
      go_wp2;exact⟨⟨q+1,rfl,hpq,zd ⟨by rw [HKS.out];exact HK.out.1,HK.out.2⟩⟩,by simp [intOf];omega⟩
     |true=>
      cases mc with
      |false=>
       go_wp2_with fail
       go_at_call 45
       refine HC.out.mono ?_;rintro e u ⟨rfl,hbu⟩;have HU:=zd (And.intro (HK.out.1.step hbu) (And.intro (HK.out.2.1.trans (hbu.mono HK.out.2.1.size)) (And.intro (HK.out.2.2.1.step hbu) (HK.out.2.2.2.step hbu))));clear hbu d0 d1 d2 d3 d4 d5 y0 y1 y2 y3 z1;go_wp2;exact⟨⟨q+1,rfl,hpq,zd ⟨by rw [HKS.out];exact HU.out.1,HU.out.2⟩⟩,by simp [intOf];omega⟩
      |true=>
       go_wp2_with fail
       go_at_call 45
       refine HC.out.mono ?_;rintro e u ⟨rfl,hbu⟩;have hsz:=(HK.out.2.2.2.step hbu).lt;obtain⟨v',W',hrun,hri,hbw⟩:=(HK.out.1.step hbu).push (by omega) (q:Int) (by omega);have HU:=zd (And.intro hri (And.intro ((HK.out.2.1.trans (hbu.mono HK.out.2.1.size)).trans (hbw.mono (by omega))) (And.intro ((hbw.block w.heap.size (by omega)).trans (HK.out.2.2.1.step hbu)) ((hbw.block (w.heap.size+1) (by omega)).trans (HK.out.2.2.2.step hbu)))));clear hbu hri hbw d0 d1 d2 d3 d4 d5 y0 y1 y2 y3 z1 hkl
       go_wp2_with(refine xzal rfl _ _ 26 26 rfl rfl rfl hrun ?_)
       exact⟨⟨q+1,rfl,hpq,zd ⟨by rw [HKS.out];exact HU.out.1,HU.out.2⟩⟩,by simp [intOf];omega⟩
    ·have hdq:decide ((q:Int)<(N.sets.length:Int))=false:=by simp;omega
     obtain rfl:q=N.sets.length:=by omega
     go_wp2;go_ret;exact⟨_,rfl,by rw [<-HFQ.out];exact HK.out.1,HK.out.2.1⟩
end
section
open Go.RowKit
attribute [local irreducible] FreeW
theorem RowI.low {B B':Nat}{W:World}{v:Value}{l:List Int}(h:RowI B W v l)(hb:B'<=B):RowI B' W v l:=
 ⟨h.1,h.2.imp id fun⟨g,cap,cur,e,h1,r⟩=>⟨g,cap,cur,e,Nat.le_trans hb h1,r⟩⟩
end
section
open Go.RowKit
theorem NfaAt.form {W:World}{N:Nf}{v:Value}(h:NfaAt W N v):∃ A0 A1 A2 A3 A4 c0 c1 c2 c3 c4,v=.agg #[.slice A0 N.sets.length c0,.slice A1 N.rules.length c1,.slice A2 N.first.length c2,.slice A3 N.follow.length c3,.slice A4 N.ends.length c4,.int .i64 N.empty]:=by
 obtain⟨v0,v1,v2,v3,v4,rfl,⟨A0,c0,rfl,_,_⟩,⟨A1,c1,rfl,_,_⟩,⟨A2,c2,rfl,_,_⟩,⟨A3,c3,rfl,_,_⟩,⟨A4,c4,rfl,_,_⟩⟩:=h;exact⟨A0,A1,A2,A3,A4,c0,c1,c2,c3,c4,rfl⟩
theorem xzdc {all:Int}:∀ (l:List Int) (a:Int),risesB all a l=true->∀ p∈l,a<p/\p<all
 |[],_,_,p,hp=>by cases hp
 |x::r,a,h,p,hp=>by
  unfold risesB at h;simp only [Bool.and_eq_true,decide_eq_true_eq]at h
  rcases List.mem_cons.1 hp with rfl|hp
  ·exact h.1
  ·have:=xzdc r x h.2 p hp
   omega
theorem xzkq {all:Int}:∀ (l:List Int) (a:Int),risesB all a l=true->l=[]\/(l.length:Int)+a<all
 |[],_,_=>.inl rfl
 |x::r,a,h=>by
  unfold risesB at h;simp only [Bool.and_eq_true,decide_eq_true_eq]at h;refine .inr ?_
  rcases xzkq r x h.2 with rfl|h2
  ·simp;omega
  ·simp only [List.length_cons];omega
structure MayIs (N:Nf):Prop where
 small:N.sets.length<=2000
 rules:N.rules.length=N.sets.length
 follow:N.follow.length=N.sets.length
 ends:N.ends.length=N.sets.length
 rule:∀ r∈N.rules,0<=r/\r<40
 row:∀ r∈N.follow,risesB N.sets.length (-1) r=true
 first:risesB N.sets.length (-1) N.first=true
 empty: -1<=N.empty/\N.empty<40
theorem may_is {N:Nf}(h:N.may=true):MayIs N:=by
 unfold Nf.may Nf.sized Nf.rest okR at h;simp only [Bool.and_eq_true,decide_eq_true_eq,beq_iff_eq,List.all_eq_true]at h;obtain⟨⟨⟨h1,h2⟩,h3,h4⟩,h5,h6,h7,h8,h9⟩:=h;exact⟨h1,h2,h3,h4,h5,h6,h7,h8,h9⟩
theorem MayIs.firsts {N:Nf}(h:MayIs N):(∀ p∈N.first,0<=p/\p<(N.sets.length:Int))/\N.first.length<=2000:=by
 refine⟨fun p hp=>by have:=xzdc _ _ h.first p hp;omega,?_⟩;have hs:=h.small
 rcases xzkq _ _ h.first with e|e
 ·rw [e];simp
 ·omega
theorem MayIs.rows {N:Nf}(h:MayIs N):∀ r∈N.follow,∀ x∈r,0<=x/\x<(N.sets.length:Int):=fun r hr x hx=>by
 have:=xzdc _ _ (h.row r hr) x hx;omega
theorem MayIs.ruleAt {N:Nf}(h:MayIs N)(p:Int):0<=N.ruleAt p/\N.ruleAt p<40:=by
 unfold Nf.ruleAt;rw [List.getD_eq_getElem?_getD]
 by_cases e:p.toNat<N.rules.length
 ·rw [List.getElem?_eq_getElem e];exact h.rule _ (List.getElem_mem e)
 ·rw [List.getElem?_eq_none (by omega)];simp
end
section
open Go.RowKit
def b8 (s:ByteArray)(i:Nat):Nat:=if h:i<s.size then(s[i]'h).toNat else 0
theorem b8_lt (s:ByteArray)(i:Nat):b8 s i<256:=by
 unfold b8;split
 ·exact UInt8.toNat_lt _
 ·decide
def atTo (N:Nf)(s:ByteArray):Nat->List Int
 |0=>[]
 |1=>beginL N (b8 s 0)
 |j+2=>keepTo N.sets.length (markF N (atTo N s (j+1))) N (b8 s (j+1))
theorem xzkr (N:Nf)(s:ByteArray){j:Nat}(h:1<=j):atTo N s (j+1)=keepTo N.sets.length (markF N (atTo N s j)) N (b8 s j):=by
 obtain⟨k,rfl⟩:∃ k,j=k+1:=⟨j - 1,by omega⟩
 rfl
theorem keep_in {k:Nat}{f:Nat->Bool}{N:Nf}{c:Nat}:∀ p∈keepTo k f N c,0<=p/\p<(k:Int):=fun p hp=>by
 unfold keepTo at hp;obtain⟨i,hi,rfl⟩:=List.mem_map.1 hp;have:=List.mem_range.1 (List.mem_filter.1 hi).1;omega
theorem xzuh (k:Nat)(N:Nf)(c:Nat):keepTo k (markF N []) N c=[]:=by
 unfold keepTo markF
 simp
theorem xztb {N:Nf}(h:MayIs N)(s:ByteArray):∀ j,∀ p∈atTo N s j,0<=p/\p<(N.sets.length:Int)
 |0=>fun p hp=>by cases hp
 |1=>fun p hp=>by
  unfold atTo beginL at hp;exact h.firsts.1 p (List.mem_filter.1 hp).1
 |j+2=>fun p hp=>by
  unfold atTo at hp;exact keep_in p hp
theorem xzks {N:Nf}(s:ByteArray){j:Nat}(h:1<=j)(he:atTo N s j=[]):∀ n,atTo N s (j+n)=[]
 |0=>he
 |n+1=>by
  rw [show j+(n+1)=(j+n)+1 by omega,xzkr N s (by omega),xzks s h he n,xzuh]
theorem IntsV.len0 {W:World}{l:List Int}{v:Value}(h:IntsV W l v):∃ A c,v=.slice A l.length c:=by
 obtain⟨A,c,rfl,_,_⟩:=h;exact⟨A,c,rfl⟩
def ranL (N:Nf)(s:ByteArray):List Int:=if N.may then atTo N s s.size else []
def ranT (N:Nf)(s:ByteArray):Int:=if N.may then(if s.size=0 then N.empty else tagL N (atTo N s s.size))else -1
set_option maxRecDepth 20000 in
set_option maxHeartbeats 8000000 in
theorem Run_any (N:Nf)(s:ByteArray)(hs:s.size<=1073741824)(v:Value)(w:World)(h:NfaAt w N v):
 Calls Try.prog 16 #[v,.string s] w fun e w'=>∃ v',e=.returned (.tuple #[v',.int .i64 (ranT N s)])/\IntsV w' (ranL N s) v'/\Below w.heap.size w w':=by
 obtain⟨A0,A1,A2,A3,A4,c0,c1,c2,c3,c4,rfl⟩:=h.form;have hb0:Below w.heap.size w (w.alloc (.cells #[.slice A0 N.sets.length c0,.slice A1 N.rules.length c1,.slice A2 N.first.length c2,.slice A3 N.follow.length c3,.slice A4 N.ends.length c4,.int .i64 N.empty] 30)):=(Below.refl _ _).alloc (Nat.le_refl _) _;have hbx:=BlkIs.new w 30 #[.slice A0 N.sets.length c0,.slice A1 N.rules.length c1,.slice A2 N.first.length c2,.slice A3 N.follow.length c3,.slice A4 N.ends.length c4,.int .i64 N.empty];obtain⟨W1,hW1⟩:∃ W1,w.alloc (.cells #[.slice A0 N.sets.length c0,.slice A1 N.rules.length c1,.slice A2 N.first.length c2,.slice A3 N.follow.length c3,.slice A4 N.ends.length c4,.int .i64 N.empty] 30)=W1:=⟨_,rfl⟩;rw [hW1]at hb0 hbx;have HAT:=zd h;have H0:=zd (And.intro hb0 hbx);have HM:=zd (fun(u:World) (hu:Below w.heap.size w u)=>xzoa N _ u (h.step hu));obtain⟨d0,d1,d2,d3,d4,d5⟩:=six hbx;obtain⟨R,hR⟩:∃ R,R=ranL N s:=⟨_,rfl⟩;obtain⟨Q,hQ⟩:∃ Q,Q=ranT N s:=⟨_,rfl⟩;rw [<-hR,<-hQ];unfold ranL at hR;unfold ranT at hQ;clear h hb0 hbx
 cases hm:N.may with
 |false=>
  rw [hm]at HM hR hQ;simp only [Bool.false_eq_true,if_false]at hR hQ;have HRQ:=zd (And.intro hR hQ);clear hR hQ HAT
  go_enter Try.func16,Try.ntmps16
  go_wp2_with fail
  go_at_call 14
  refine(HM.out _ H0.out.1).mono ?_;rintro e u ⟨rfl,hbu⟩;have HU:=zd (H0.out.1.trans (hbu.mono H0.out.1.size));clear hbu;go_wp2;exact bodyPost_ret (results_tmp2 rfl _ _ _) rfl ⟨.slice none 0 0,by rw [HRQ.out.2];rfl,by rw [HRQ.out.1];exact IntsV.nil _,HU.out⟩
 |true=>
  rw [hm]at HM hR hQ;simp only [if_true]at hR hQ;have hmi:=may_is hm;have HMI:=zd hmi
  by_cases hz:s.size=0
  ·obtain rfl:s=⟨#[]⟩:=by
    apply ByteArray.ext
    exact Array.eq_empty_of_size_eq_zero hz
   rw [if_pos hz]at hQ;have HRQ:=zd (And.intro (show R=[]from hR) hQ);clear hR hQ HAT hz hs hmi
   go_enter Try.func16,Try.ntmps16
   go_wp2_with fail
   go_at_call 14
   refine(HM.out _ H0.out.1).mono ?_;rintro e u ⟨rfl,hbu⟩;have HU:=zd (And.intro (H0.out.1.trans (hbu.mono H0.out.1.size)) (H0.out.2.step hbu));clear hbu d0 d1 d2 d3 d4 d5;obtain⟨d0,d1,d2,d3,d4,d5⟩:=six HU.out.2
   go_wp2_with fail
   go_region
   go_wp2;exact bodyPost_ret (results_tmp2 rfl _ _ _) rfl ⟨.slice none 0 0,by rw [HRQ.out.2];rfl,by rw [HRQ.out.1];exact IntsV.nil _,HU.out.1.drew⟩
  ·rw [if_neg hz]at hQ
   have hpos:0<s.size:=by omega
   have e0:s.toList.isEmpty=false:=by
    rw [Lib.toList_data]
    cases hcs:s.data.toList with
    |nil=>
     have hl:s.data.toList.length=s.size:=by rw [Array.length_toList];rfl
     rw [hcs]at hl
     simp at hl
     omega
    |cons a r=>rfl
   have HBG:=zd (fun(u:World) (hu:Below w.heap.size w u)=>xzrl N (b8 s 0) (b8_lt s 0) _ u (HAT.out.step hu) hmi.firsts.1 (by have:=hmi.firsts.2;omega));have HST:=zd (fun(j:Nat) (va:Value) (u:World) (hu:Below w.heap.size w u) (ha:IntsV u (atTo N s j) va)=>xzug N (atTo N s j) (b8 s j) (b8_lt s j) _ va u (HAT.out.step hu) ha (xztb hmi s j) hmi.follow hmi.rows (by have:=hmi.small;omega));have HTG:=zd (fun(j:Nat) (va:Value) (u:World) (hu:Below w.heap.size w u) (ha:IntsV u (atTo N s j) va)=>tag_any N (atTo N s j) _ va u (HAT.out.step hu) ha (fun p hp=>by have:=xztb hmi s j p hp;have:=hmi.rules;omega) (by rw [hmi.ends,hmi.rules]))
   have hix:∀ (j:Nat),j<s.size->∀ u:World,(Instr.index 9 (.string s) (.int .i64 (j:Nat))).run Try.prog u=.ok (.int .u8 (b8 s j:Nat)) u:=fun j hj u=>by
    have:=xzoc 9 Try.underlying9 s j hj u (P:=Try.prog);rw [this];unfold b8;rw [dif_pos hj]
   have hix0:∀ u:World,(Instr.index 9 (.string s) (.int .i64 0)).run Try.prog u=.ok (.int .u8 (b8 s 0:Nat)) u:=fun u=>hix 0 hpos u
   have HIX:=zd hix;have HRQ:=zd (And.intro hR hQ);clear hR hQ HAT hz hmi hix
   go_enter Try.func16,Try.ntmps16
   go_wp2_with fail
   go_at_call 14
   refine(HM.out _ H0.out.1).mono ?_;rintro e u ⟨rfl,hbu⟩;have HU:=zd (And.intro (H0.out.1.trans (hbu.mono H0.out.1.size)) (H0.out.2.step hbu));clear hbu d0 d1 d2 d3 d4 d5
   go_wp2_with fail
   refine wp_region_held_drew (S:=fun u=>Below w.heap.size w u/\BlkIs u w.heap.size 30 #[.slice A0 N.sets.length c0,.slice A1 N.rules.length c1,.slice A2 N.first.length c2,.slice A3 N.follow.length c3,.slice A4 N.ends.length c4,.int .i64 N.empty]) (by kernel_rfl) ⟨HU.out.1.drew,HU.out.2.drew⟩ ?_;intro hS0
   refine wpAnyH_take (i:=0) (v:=.agg #[.slice A0 N.sets.length c0,.slice A1 N.rules.length c1,.slice A2 N.first.length c2,.slice A3 N.follow.length c3,.slice A4 N.ends.length c4,.int .i64 N.empty]) rfl (by kernel_rfl) (by kernel_rfl) (by kernel_rfl) (fun _ _ _ h=>h) (.inl ⟨rfl,fun u hu=>by
    obtain⟨d0,d1,d2,d3,d4,d5⟩:=six hu.2
    go_simp⟩) hS0 ?_
   refine wpAnyH_take (i:=1) (v:=.string s) rfl (by kernel_rfl) (by kernel_rfl) (by kernel_rfl) (fun _ _ _ h=>h) (.inl ⟨rfl,fun u hu=>by go_simp⟩) hS0 ?_;refine wpAnyH_take (i:=2) (v:=.int .u8 (b8 s 0:Nat)) rfl (by kernel_rfl) (by kernel_rfl) (by kernel_rfl) (fun _ _ _ h=>h) (.inl ⟨rfl,fun u hu=>by go_simp⟩) hS0 ?_;refine wpAnyH_ready (rs:=[3]) (by kernel_rfl) (by simp) ?_;refine AllReadyH.cons rfl (fun K hK=>?_) AllReadyH.nil;go_simp
   go_at_call 35
   refine(HBG.out _ hS0.1).mono ?_;rintro e u5 ⟨v5,rfl,hri5,hb5⟩;refine hK.out _ _ ⟨hS0.1.trans (hb5.mono hS0.1.size),hS0.2.step hb5⟩ (fun hS1=>?_);have HI5:=zd (show IntsV u5 (atTo N s 1) v5 from hri5.ints);clear hK K hS0 hb5 hri5;refine wpAnyH_ready (rs:=[4]) (by kernel_rfl) (by simp) ?_;refine AllReadyH.cons rfl (fun K hK=>?_) AllReadyH.nil;go_simp;refine hK.out _ _ hS1 (fun hS2=>?_);clear hK K;refine wpAnyH_done (by kernel_rfl) ?_ _;have HS2:=zd (And.intro hS2 HI5.out);clear hS1 hS2 HI5;go_wp2
   go_loopw [6,7] (fun x i wr=>∃ j:Nat,i=.int .i64 j/\1<=j/\j<=s.size/\Hid ((Below w.heap.size w wr/\BlkIs wr w.heap.size 30 #[.slice A0 N.sets.length c0,.slice A1 N.rules.length c1,.slice A2 N.first.length c2,.slice A3 N.follow.length c3,.slice A4 N.ends.length c4,.int .i64 N.empty])/\IntsV wr (atTo N s j) x)) (fun _ i _=>s.size - (intOf i).toNat)
   case atStart=>exact⟨1,rfl,Nat.le_refl _,hpos,HS2⟩
   case round=>
    obtain⟨j,rfl,hj1,hj,HH⟩:=hrel;obtain⟨Ax,cx,rfl⟩:=HH.out.2.len0;obtain⟨d0,d1,d2,d3,d4,d5⟩:=six HH.out.1.2
    by_cases hp:j<s.size/\0<(atTo N s j).length
    ·have hk1:IntKind.i64.wrap ((j:Int)+1)=((j+1:Nat):Int):=by rw [IntKind.wrap_i64];omega
     have hp1:=hp.1
     have hdl:decide ((j:Int)<(s.size:Int))=true:=by simp;omega
     have hdn:decide (((atTo N s j).length:Int)>0)=true:=by simp;omega
     have hdm:decide (0<((atTo N s j).length:Int))=true:=by simp;omega
     have hdo:decide (0<(atTo N s j).length)=true:=by simp;omega
     have hixj:=HIX.out j hp1;have HCS:=zd (fun(u:World) (hu:Below w.heap.size w u) (ha:IntsV u (atTo N s j) (.slice Ax (atTo N s j).length cx))=>HST.out j _ u hu ha);have hsu:=xzkr N s hj1;rw [<-hsu]at HCS;clear hp hsu d0 d1 d2 d3 d4 d5;generalize(atTo N s j).length=nx at*;generalize b8 s j=bj at*;obtain⟨d0,d1,d2,d3,d4,d5⟩:=six HH.out.1.2
     go_wp2_with fail
     refine wp_region_held_drew (S:=fun u=>(Below w.heap.size w u/\BlkIs u w.heap.size 30 #[.slice A0 N.sets.length c0,.slice A1 N.rules.length c1,.slice A2 N.first.length c2,.slice A3 N.follow.length c3,.slice A4 N.ends.length c4,.int .i64 N.empty])/\IntsV u (atTo N s j) (.slice Ax nx cx)) (by kernel_rfl) ⟨⟨HH.out.1.1.drew,HH.out.1.2.drew⟩,HH.out.2.step (Below.refl _ _).drew⟩ ?_;clear d0 d1 d2 d3 d4 d5;intro hS0
     refine wpAnyH_take (i:=0) (v:=.agg #[.slice A0 N.sets.length c0,.slice A1 N.rules.length c1,.slice A2 N.first.length c2,.slice A3 N.follow.length c3,.slice A4 N.ends.length c4,.int .i64 N.empty]) rfl (by kernel_rfl) (by kernel_rfl) (by kernel_rfl) (fun _ _ _ h=>h) (.inl ⟨rfl,fun u hu=>by
      obtain⟨d0,d1,d2,d3,d4,d5⟩:=six hu.1.2
      go_simp⟩) hS0 ?_
     refine wpAnyH_take (i:=1) (v:=.slice Ax nx cx) rfl (by kernel_rfl) (by kernel_rfl) (by kernel_rfl) (fun _ _ _ h=>h) (.inl ⟨rfl,fun u hu=>by go_simp⟩) hS0 ?_;refine wpAnyH_take (i:=2) (v:=.string s) rfl (by kernel_rfl) (by kernel_rfl) (by kernel_rfl) (fun _ _ _ h=>h) (.inl ⟨rfl,fun u hu=>by go_simp⟩) hS0 ?_;refine wpAnyH_take (i:=3) (v:=.int .i64 (j:Int)) rfl (by kernel_rfl) (by kernel_rfl) (by kernel_rfl) (fun _ _ _ h=>h) (.inl ⟨rfl,fun u hu=>by go_simp⟩) hS0 ?_;refine wpAnyH_take (i:=4) (v:=.int .u8 (bj:Nat)) rfl (by kernel_rfl) (by kernel_rfl) (by kernel_rfl) (fun _ _ _ h=>h) (.inl ⟨rfl,fun u hu=>by go_simp⟩) hS0 ?_;refine wpAnyH_ready (rs:=[5]) (by kernel_rfl) (by simp) ?_;refine AllReadyH.cons rfl (fun K hK=>?_) AllReadyH.nil;go_simp
     go_at_call 36
     refine(HCS.out _ hS0.1.1 hS0.2).mono ?_;rintro e u5 ⟨v5,rfl,hri5,hb5⟩;refine hK.out _ _ ⟨⟨hS0.1.1.trans (hb5.mono hS0.1.1.size),hS0.1.2.step hb5⟩,hS0.2.step hb5⟩ (fun hS1=>?_);have HI5:=zd hri5.ints;clear hK K hS0 hb5 hri5;refine wpAnyH_ready (rs:=[6]) (by kernel_rfl) (by simp) ?_;refine AllReadyH.cons rfl (fun K hK=>?_) AllReadyH.nil;go_simp;refine hK.out _ _ hS1 (fun hS2=>?_);clear hK K;refine wpAnyH_done (by kernel_rfl) ?_ _;have HS2:=zd (And.intro hS2.1 HI5.out);clear hS1 hS2 HI5;go_wp2;exact⟨⟨j+1,rfl,by omega,hp1,HS2⟩,by simp [intOf];omega⟩
    ·have HEND:=zd (show atTo N s s.size=atTo N s j by
      by_cases hjs:j<s.size
      ·have:atTo N s j=[]:=by
        have: ¬ 0<(atTo N s j).length:=fun h=>hp ⟨hjs,h⟩
        exact List.eq_nil_of_length_eq_zero (by omega)
       have h2:=xzks s hj1 this (s.size - j);rw [show j+(s.size - j)=s.size by omega]at h2;rw [h2,this]
      ·rw [show j=s.size by omega])
     have HCT:=zd (fun(u:World) (hu:Below w.heap.size w u) (ha:IntsV u (atTo N s j) (.slice Ax (atTo N s j).length cx))=>HTG.out j _ u hu ha);have HFIN:=zd (show tagL N (atTo N s j)=Q by rw [HRQ.out.2,HEND.out]);have HFIR:=zd (show R=atTo N s j by rw [HRQ.out.1,HEND.out]);rw [HFIN.out]at HCT
     by_cases hjs:j<s.size
     ·have hdl:decide ((j:Int)<(s.size:Int))=true:=by simp;omega
      have hl0: ¬ 0<(atTo N s j).length:=fun h=>hp ⟨hjs,h⟩
      have hdn:decide (((atTo N s j).length:Int)>0)=false:=decide_eq_false (by omega);have hdm:decide (0<((atTo N s j).length:Int))=false:=decide_eq_false (by omega);have hdo:decide (0<(atTo N s j).length)=false:=decide_eq_false hl0;clear hp hl0;generalize(atTo N s j).length=nx at*
      go_wp2_with fail
      go_at_call 37
      refine(HCT.out _ HH.out.1.1 HH.out.2).mono ?_;rintro e u9 ⟨rfl,hb9⟩;have HV:=zd (And.intro (HH.out.2.step hb9) (HH.out.1.1.trans (hb9.mono HH.out.1.1.size)));clear hb9;go_wp2;exact bodyPost_ret (results_tmp2 rfl _ _ _) rfl ⟨_,rfl,by rw [HFIR.out];exact HV.out.1,HV.out.2⟩
     ·have hdl:decide ((j:Int)<(s.size:Int))=false:=by simp;omega
      clear hp;generalize(atTo N s j).length=nx at*
      go_wp2_with fail
      go_at_call 37
      refine(HCT.out _ HH.out.1.1 HH.out.2).mono ?_;rintro e u9 ⟨rfl,hb9⟩;have HV:=zd (And.intro (HH.out.2.step hb9) (HH.out.1.1.trans (hb9.mono HH.out.1.1.size)));clear hb9;go_wp2;exact bodyPost_ret (results_tmp2 rfl _ _ _) rfl ⟨_,rfl,by rw [HFIR.out];exact HV.out.1,HV.out.2⟩
end
section
open Go.RowKit
end
section
open Go.RowKit
end
end Go.Proofs.Ythoaaginadjaoaa
