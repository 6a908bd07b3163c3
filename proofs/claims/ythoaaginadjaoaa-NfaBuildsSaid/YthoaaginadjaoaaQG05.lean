/-
 AN AUTOMATON WITH CHOICES IN MEMORY; WHAT nfa.May ANSWERS: a contract. No condition but that it lies there.
-/
import Derived.Maps.AppendAt
import Derived.Test.YthoaaginadjaoaaQG04
namespace Go.Proofs.Ythoaaginadjaoaa
section
open Go.RowKit
structure Nf where
 sets:List (Nat->Bool)
 rules:List Int
 first:List Int
 follow:List (List Int)
 ends:List Bool
 empty:Int
def SetsV (W:World)(ms:List (Nat->Bool))(v:Value):Prop:=∃ A c,v=.slice A ms.length c/\(ms.length<=c/\c<=9223372036854775807)/\(ms≠[]->∃ b o,A=some ⟨b,o,none⟩/\b<W.heap.size/\∀ (i:Nat) (h:i<ms.length) (k:Nat),k<4->W.cell? ⟨b,o+i*4+k,none⟩=some (.int .u64 (wd ms[i] k:Nat)))
def BoolsV (W:World)(l:List Bool)(v:Value):Prop:=∃ A c,v=.slice A l.length c/\(l.length<=c/\c<=9223372036854775807)/\(l≠[]->∃ b o,A=some ⟨b,o,none⟩/\b<W.heap.size/\∀ (i:Nat) (h:i<l.length),W.cell? ⟨b,o+i,none⟩=some (.bool l[i]))
def RowsI (W:World)(ll:List (List Int))(v:Value):Prop:=∃ A c,v=.slice A ll.length c/\(ll.length<=c/\c<=9223372036854775807)/\(ll≠[]->∃ b o,A=some ⟨b,o,none⟩/\b<W.heap.size/\∀ (i:Nat) (h:i<ll.length),∃ u,W.cell? ⟨b,o+i,none⟩=some u/\IntsV W ll[i] u)
def NfaAt (W:World)(N:Nf)(v:Value):Prop:=∃ v0 v1 v2 v3 v4,v=.agg #[v0,v1,v2,v3,v4,.int .i64 N.empty]/\SetsV W N.sets v0/\IntsV W N.rules v1/\IntsV W N.first v2/\RowsI W N.follow v3/\BoolsV W N.ends v4
theorem SetsV.step {W W':World}{l:List (Nat->Bool)}{v:Value}(h:SetsV W l v)(hb:Below W.heap.size W W'):SetsV W' l v:=by
 obtain⟨A,c,e,hc,hs⟩:=h;refine⟨A,c,e,hc,fun hne=>?_⟩;obtain⟨b,o,e2,hlt,hg⟩:=hs hne;exact⟨b,o,e2,Nat.lt_of_lt_of_le hlt hb.size,fun i hi k hk=>(hb.cell (p:=⟨b,o+i*4+k,none⟩) hlt).trans (hg i hi k hk)⟩
theorem BoolsV.step {W W':World}{l:List Bool}{v:Value}(h:BoolsV W l v)(hb:Below W.heap.size W W'):BoolsV W' l v:=by
 obtain⟨A,c,e,hc,hs⟩:=h;refine⟨A,c,e,hc,fun hne=>?_⟩;obtain⟨b,o,e2,hlt,hg⟩:=hs hne;exact⟨b,o,e2,Nat.lt_of_lt_of_le hlt hb.size,fun i hi=>(hb.cell (p:=⟨b,o+i,none⟩) hlt).trans (hg i hi)⟩
theorem RowsI.step {W W':World}{l:List (List Int)}{v:Value}(h:RowsI W l v)(hb:Below W.heap.size W W'):RowsI W' l v:=by
 obtain⟨A,c,e,hc,hs⟩:=h;refine⟨A,c,e,hc,fun hne=>?_⟩;obtain⟨b,o,e2,hlt,hg⟩:=hs hne;refine⟨b,o,e2,Nat.lt_of_lt_of_le hlt hb.size,fun i hi=>?_⟩;obtain⟨u,h1,h2⟩:=hg i hi;exact⟨u,(hb.cell (p:=⟨b,o+i,none⟩) hlt).trans h1,h2.step hb⟩
theorem NfaAt.step {W W':World}{N:Nf}{v:Value}(h:NfaAt W N v)(hb:Below W.heap.size W W'):NfaAt W' N v:=by
 obtain⟨v0,v1,v2,v3,v4,e,h0,h1,h2,h3,h4⟩:=h;exact⟨v0,v1,v2,v3,v4,e,h0.step hb,h1.step hb,h2.step hb,h3.step hb,h4.step hb⟩
def okR (r:Int):Bool:=decide (0<=r)&&decide (r<40)
def Nf.sized (N:Nf):Bool:=(decide (N.sets.length<=2000)&&(N.rules.length==N.sets.length))&&((N.follow.length==N.sets.length)&&(N.ends.length==N.sets.length))
def Nf.rest (N:Nf):Bool:=risesB N.sets.length (-1) N.first&&(decide (-1<=N.empty)&&decide (N.empty<40))
def Nf.follows (N:Nf):Bool:=N.follow.all (risesB N.sets.length (-1))
def Nf.may (N:Nf):Bool:=N.sized&&(N.rules.all okR&&(N.follow.all (risesB N.sets.length (-1))&&N.rest))
set_option maxRecDepth 20000 in
set_option maxHeartbeats 8000000 in
theorem xzoa (N:Nf)(v:Value)(w:World)(h:NfaAt w N v):Calls Try.prog 14 #[v] w fun e w'=>e=.returned (.bool N.may)/\Below w.heap.size w w':=by
 obtain⟨v0,v1,v2,v3,v4,rfl,hs0,hs1,hs2,hs3,hs4⟩:=h;have hb0:=(Below.refl w.heap.size w).alloc (Nat.le_refl _) (.cells #[v0,v1,v2,v3,v4,.int .i64 N.empty] 30);have hr1:=hs1.step hb0;have hr2:=hs2.step hb0;have hr3:=hs3.step hb0;obtain⟨A0,c0,rfl,hc0,hx0⟩:=hs0;obtain⟨A4,c4,rfl,hc4,hx4⟩:=hs4;have HR2:=zd (xzia N.first v2 N.sets.length _ hr2);obtain⟨A1,c1,rfl,hc1,hg1⟩:=hr1;obtain⟨A2,c2,rfl,hc2,hg2⟩:=hr2;obtain⟨A3,c3,rfl,hc3,hg3⟩:=hr3;have hx:=BlkIs.new w 30 #[.slice A0 N.sets.length c0,.slice A1 N.rules.length c1,.slice A2 N.first.length c2,.slice A3 N.follow.length c3,.slice A4 N.ends.length c4,.int .i64 N.empty];obtain⟨R,hR⟩:∃ R,R=N.may:=⟨_,rfl⟩;rw [<-hR];unfold Nf.may Nf.sized Nf.rest at hR;obtain⟨W1,hW1⟩:∃ W1,w.alloc (.cells #[.slice A0 N.sets.length c0,.slice A1 N.rules.length c1,.slice A2 N.first.length c2,.slice A3 N.follow.length c3,.slice A4 N.ends.length c4,.int .i64 N.empty] 30)=W1:=⟨_,rfl⟩;rw [hW1]at hb0 hx HR2 hg1 hg3;obtain⟨d0,d1,d2,d3,d4,d5⟩:=six hx;have HB:=zd hb0;have HG1:=zd hg1;have HG3:=zd hg3;clear hs1 hs2 hs3 hb0 hx hg1 hg2 hg3 hx0 hx4;generalize N.empty=em at*;generalize N.first=fi at*;generalize N.rules=ru at*;generalize N.follow=fo at*;generalize N.ends.length=n4 at*;generalize N.sets.length=n0 at*
 by_cases hk:n0<=2000
 case neg=>
  have e0:decide ((n0:Int)>2000)=true:=by simp;omega
  have e0b:decide ((2000:Int)<(n0:Int))=true:=by simp;omega
  have HN:=zd (show R=false by rw [hR];simp [hk]);clear hR hk
  go_enter Try.func14,Try.ntmps14
  go_wp2;go_ret;exact⟨by rw [HN.out];rfl,HB.out⟩
 have e0:decide ((n0:Int)>2000)=false:=by simp;omega
 have e0b:decide ((2000:Int)<(n0:Int))=false:=by simp;omega
 by_cases h1:ru.length=n0
 case neg=>
  have e1:((ru.length:Int) != (n0:Int))=true:=by simp;omega
  have HN:=zd (show R=false by rw [hR];simp [h1]);clear hR hk h1
  go_enter Try.func14,Try.ntmps14
  go_wp2;go_ret;exact⟨by rw [HN.out];rfl,HB.out⟩
 have e1:((ru.length:Int) != (n0:Int))=false:=by simp;omega
 by_cases h3:fo.length=n0
 case neg=>
  have e3:((fo.length:Int) != (n0:Int))=true:=by simp;omega
  have HN:=zd (show R=false by rw [hR];simp [h3]);clear hR hk h1 h3
  go_enter Try.func14,Try.ntmps14
  go_wp2;go_ret;exact⟨by rw [HN.out];rfl,HB.out⟩
 have e3:((fo.length:Int) != (n0:Int))=false:=by simp;omega
 by_cases h4:n4=n0
 case neg=>
  have e4:((n4:Int) != (n0:Int))=true:=by simp;omega
  have HN:=zd (show R=false by rw [hR];simp [h4]);clear hR hk h1 h3 h4
  go_enter Try.func14,Try.ntmps14
  go_wp2;go_ret;exact⟨by rw [HN.out];rfl,HB.out⟩
 have e4:((n4:Int) != (n0:Int))=false:=by simp;omega
 have HN:=zd (show R=(ru.all okR&&(fo.all (risesB n0 (-1))&&(risesB n0 (-1) fi&&(decide (-1<=em)&&decide (em<40)))))by rw [hR];simp [h1,h3,h4,hk]);clear hR hk h1 h3 h4
 go_enter Try.func14,Try.ntmps14
 go_wp2
 go_loopw [37] (fun i wr=>∃ j:Nat,i=.int .i64 j/\j<=ru.length/\Hid (wr=W1/\R=((ru.drop j).all okR&&(fo.all (risesB n0 (-1))&&(risesB n0 (-1) fi&&(decide (-1<=em)&&decide (em<40))))))) (fun i _=>ru.length - (intOf i).toNat)
 case atStart=>exact⟨0,rfl,Nat.zero_le _,zd ⟨by trivial,HN.out⟩⟩
 case round=>
  obtain⟨j,rfl,hj,HH⟩:=hrel;obtain⟨rfl,hRR⟩:=HH.out;have HH:=zd hRR;clear hRR
  by_cases hp:j<ru.length
  ·have hk1:IntKind.i64.wrap ((j:Int)+1)=((j+1:Nat):Int):=by rw [IntKind.wrap_i64];omega
   have hdl:decide ((j:Int)<(ru.length:Int))=true:=by simp;omega
   obtain⟨b,o,rfl,hlt,hg⟩:=HG1.out (by intro e;subst e;simp at hp);have hcell:=hg j hp;have hd:=HH.out;rw [List.drop_eq_getElem_cons hp,List.all_cons]at hd;unfold okR at hd;clear hg;generalize ru[j]=p at*;have HD:=zd hd;clear hd
   by_cases g1:p<0
   ·have q1:decide (p<0)=true:=by simp;omega
    have HF:=zd (show R=false by rw [HD.out];simp;intro;omega);clear g1;go_wp2;go_ret;exact⟨by rw [HF.out];rfl,HB.out⟩
   ·have q1:decide (p<0)=false:=by simp;omega
    by_cases g2:40<=p
    ·have q2:decide (p>=40)=true:=by simp;omega
     have q2b:decide (40<=p)=true:=by simp;omega
     have HF:=zd (show R=false by rw [HD.out];simp;intro;omega);clear g1 g2;go_wp2;go_ret;exact⟨by rw [HF.out];rfl,HB.out⟩
    ·have q2:decide (p>=40)=false:=by simp;omega
     have q2b:decide (40<=p)=false:=by simp;omega
     have HF:=zd (show R=((ru.drop (j+1)).all okR&&(fo.all (risesB n0 (-1))&&(risesB n0 (-1) fi&&(decide (-1<=em)&&decide (em<40)))))by rw [HD.out,show decide (0<=p)=true by simp;omega,show decide (p<40)=true by simp;omega];rfl);clear g1 g2;go_wp2;exact⟨⟨j+1,rfl,hp,zd ⟨by trivial,HF.out⟩⟩,by simp [intOf];omega⟩
  ·have hdl:decide ((j:Int)<(ru.length:Int))=false:=by simp;omega
   have HN2:=zd (show R=(fo.all (risesB n0 (-1))&&(risesB n0 (-1) fi&&(decide (-1<=em)&&decide (em<40))))by rw [HH.out,List.drop_eq_nil_of_le (by omega)];rfl);go_wp2
   go_loopw [51] (fun i wz=>∃ q:Nat,i=.int .i64 q/\q<=fo.length/\Hid (Below wr.heap.size wr wz/\wz=wr/\R=((fo.drop q).all (risesB n0 (-1))&&(risesB n0 (-1) fi&&(decide (-1<=em)&&decide (em<40)))))) (fun i _=>fo.length - (intOf i).toNat)
   case atStart=>exact⟨0,rfl,Nat.zero_le _,zd ⟨Below.refl _ _,rfl,HN2.out⟩⟩
   case round=>
    obtain⟨q,rfl,hq,HK⟩:=hrel;obtain⟨_,rfl,hRR⟩:=HK.out;have HK:=zd hRR;clear hRR
    by_cases hpq:q<fo.length
    ·have hk1:IntKind.i64.wrap ((q:Int)+1)=((q+1:Nat):Int):=by rw [IntKind.wrap_i64];omega
     have hdq:decide ((q:Int)<(fo.length:Int))=true:=by simp;omega
     obtain⟨b,o,rfl,hlt,hg⟩:=HG3.out (by intro e;subst e;simp at hpq);obtain⟨u,hcell,hrow⟩:=hg q hpq;have hcall:=xzia _ u n0 _ hrow;obtain⟨Ar,cr,rfl,_,_⟩:=hrow;have hd:=HK.out;rw [List.drop_eq_getElem_cons hpq,List.all_cons]at hd;clear hg;generalize fo[q]=row at*;generalize risesB n0 (-1) row=rb at*;have HC:=zd hcall;have HD:=zd hd;clear hcall hd
     cases rb with
     |true=>
      go_wp2_with fail
      go_at_call 33
      refine HC.out.mono ?_;rintro e u2 ⟨rfl,rfl⟩;go_wp2;exact⟨⟨q+1,rfl,hpq,zd ⟨Below.refl _ _,by trivial,by rw [HD.out];rfl⟩⟩,by simp [intOf];omega⟩
     |false=>
      go_wp2_with fail
      go_at_call 33
      refine HC.out.mono ?_;rintro e u2 ⟨rfl,rfl⟩;go_wp2;go_ret;exact⟨by rw [HD.out];rfl,HB.out⟩
    ·have hdq:decide ((q:Int)<(fo.length:Int))=false:=by simp;omega
     have HN3:=zd (show R=(risesB n0 (-1) fi&&(decide (-1<=em)&&decide (em<40)))by rw [HK.out,List.drop_eq_nil_of_le (by omega)];rfl);generalize risesB n0 (-1) fi=rb at*;generalize hm1:decide (-1<=em)=g1 at*;generalize hm2:decide (em<40)=g2 at*;have hm1b:decide (em>= -1)=g1:=hm1
     cases rb<;>cases g1<;>cases g2<;>
     (go_wp2_with fail
      go_at_call 33
      refine HR2.out.mono ?_;rintro e u2 ⟨rfl,rfl⟩;go_wp2;go_ret
      exact⟨by rw [HN3.out];rfl,HB.out⟩)
end
section
open Go.RowKit
attribute [local irreducible] FreeW
def Nf.ruleAt (N:Nf)(p:Int):Int:=N.rules.getD p.toNat 0
def Nf.endAt (N:Nf)(p:Int):Bool:=N.ends.getD p.toNat false
def tagStep (N:Nf)(least p:Int):Int:=if N.endAt p&&(decide (least<0)||decide (N.ruleAt p<least))then N.ruleAt p else least
def tagL (N:Nf)(at':List Int):Int:=at'.foldl (tagStep N) (-1)
theorem xzub (N:Nf)(l:List Int)(p:Int):tagL N (l++[p])=tagStep N (tagL N l) p:=by unfold tagL;rw [List.foldl_append];rfl
set_option maxRecDepth 20000 in
set_option maxHeartbeats 4000000 in
theorem tag_any (N:Nf)(at':List Int)(v va:Value)(w:World)(h:NfaAt w N v)(ha:IntsV w at' va)(hin:∀ p∈at',0<=p/\p<N.rules.length)(hle:N.ends.length=N.rules.length):
 Calls Try.prog 37 #[v,va] w fun e w'=>e=.returned (.int .i64 (tagL N at'))/\Below w.heap.size w w':=by
 obtain⟨v0,v1,v2,v3,v4,rfl,hs0,hs1,hs2,hs3,hs4⟩:=h;have hb0:=(Below.refl w.heap.size w).alloc (Nat.le_refl _) (.cells #[v0,v1,v2,v3,v4,.int .i64 N.empty] 30);have hr1:=hs1.step hb0;have hr4:=hs4.step hb0;have hra:=ha.step hb0;obtain⟨A0,c0,rfl,hc0,hx0⟩:=hs0;obtain⟨A2,c2,rfl,hc2,hx2⟩:=hs2;obtain⟨A3,c3,rfl,hc3,hx3⟩:=hs3;obtain⟨A1,c1,rfl,hc1,hg1⟩:=hr1;obtain⟨A4,c4,rfl,hc4,hg4⟩:=hr4;obtain⟨Aa,ca,rfl,hca,hga⟩:=hra;have hx:=BlkIs.new w 30 #[.slice A0 N.sets.length c0,.slice A1 N.rules.length c1,.slice A2 N.first.length c2,.slice A3 N.follow.length c3,.slice A4 N.ends.length c4,.int .i64 N.empty];obtain⟨W1,hW1⟩:∃ W1,w.alloc (.cells #[.slice A0 N.sets.length c0,.slice A1 N.rules.length c1,.slice A2 N.first.length c2,.slice A3 N.follow.length c3,.slice A4 N.ends.length c4,.int .i64 N.empty] 30)=W1:=⟨_,rfl⟩;rw [hW1]at hb0 hx hg1 hg4 hga;obtain⟨d0,d1,d2,d3,d4,d5⟩:=six hx;have HB:=zd hb0;have HGA:=zd hga;have HIN:=zd (fun(j:Nat) (h:j<at'.length)=>hin _ (List.getElem_mem h))
 have HCELL:=zd (fun(pn:Nat) (h:pn<N.rules.length)=>(show ∃ b o b' o',A1=some ⟨b,o,none⟩/\A4=some ⟨b',o',none⟩/\W1.cell? ⟨b,o+pn,none⟩=some (.int .i64 (N.ruleAt pn))/\W1.cell? ⟨b',o'+pn,none⟩=some (.bool (N.endAt pn))by
  obtain⟨b,o,e1,_,g1⟩:=hg1 (by intro e;rw [e]at h;simp at h)
  have h':pn<N.ends.length:=by rw [hle];exact h
  obtain⟨b',o',e2,_,g2⟩:=hg4 (by intro e;rw [e]at h';simp at h');refine⟨b,o,b',o',e1,e2,?_,?_⟩
  ·rw [g1 pn h];unfold Nf.ruleAt;simp [h]
  ·rw [g2 pn h'];unfold Nf.endAt;simp [h']))
 obtain⟨R,hR⟩:∃ R,R=tagL N at':=⟨_,rfl⟩;rw [<-hR];have HR:=zd hR;have HLE:=zd hle;clear hs1 hs4 hb0 hx hg1 hg4 hga hx0 hx2 hx3 ha hin hR hle
 go_enter Try.func37,Try.ntmps37
 go_wp2
 go_loopw [5,11] (fun s i wr=>∃ (j:Nat) (a:Int),s=.int .i64 a/\i=.int .i64 j/\j<=at'.length/\Hid (wr=W1/\a=tagL N (at'.take j))) (fun _ i _=>at'.length - (intOf i).toNat)
 case atStart=>exact⟨0, -1,rfl,rfl,Nat.zero_le _,zd ⟨by trivial,rfl⟩⟩
 case round=>
  obtain⟨j,a,rfl,rfl,hj,HH⟩:=hrel;obtain⟨rfl,hRR⟩:=HH.out;have HH:=zd hRR;clear hRR
  by_cases hp:j<at'.length
  ·have hk1:IntKind.i64.wrap ((j:Int)+1)=((j+1:Nat):Int):=by rw [IntKind.wrap_i64];omega
   have hdl:decide ((j:Int)<(at'.length:Int))=true:=by simp;omega
   obtain⟨b,o,rfl,hlt,hg⟩:=HGA.out (by intro e;subst e;simp at hp);have hcell:=hg j hp;have hpin:=HIN.out j hp
   have htk:tagL N (at'.take (j+1))=tagStep N (tagL N (at'.take j)) at'[j]:=by rw [List.take_succ_eq_append_getElem hp,xzub]
   rw [<-HH.out]at htk;clear hg hlt;generalize at'[j]=p at*;obtain⟨pn,rfl⟩:=Int.eq_ofNat_of_zero_le hpin.1
   have hpn:pn<N.rules.length:=by omega
   obtain⟨b1,o1,b4,o4,rfl,rfl,y1,y4⟩:=HCELL.out pn hpn
   have hi1:(pn:Int)<(N.rules.length:Int):=by omega
   have hi4:(pn:Int)<(N.ends.length:Int):=by rw [HLE.out];omega
   unfold tagStep at htk;generalize N.ruleAt (pn:Int)=r at*;generalize N.endAt (pn:Int)=en at*;have HT:=zd htk;clear htk hpin
   cases en with
   |false=>
    have HN:=zd (show a=tagL N (at'.take (j+1))by rw [HT.out];simp);go_wp2;exact⟨⟨j+1,a,rfl,rfl,hp,zd ⟨by trivial,HN.out⟩⟩,by simp [intOf];omega⟩
   |true=>
    by_cases h1:a<0
    ·have q1:decide (a<0)=true:=by simp;omega
     have HN:=zd (show r=tagL N (at'.take (j+1))by rw [HT.out];simp [h1]);clear h1;go_wp2;exact⟨⟨j+1,r,rfl,rfl,hp,zd ⟨by trivial,HN.out⟩⟩,by simp [intOf];omega⟩
    ·have q1:decide (a<0)=false:=by simp;omega
     by_cases h2:r<a
     ·have q2:decide (r<a)=true:=by simp;omega
      have HN:=zd (show r=tagL N (at'.take (j+1))by rw [HT.out];simp [h2]);clear h1 h2;go_wp2;exact⟨⟨j+1,r,rfl,rfl,hp,zd ⟨by trivial,HN.out⟩⟩,by simp [intOf];omega⟩
     ·have q2:decide (r<a)=false:=by simp;omega
      have HN:=zd (show a=tagL N (at'.take (j+1))by rw [HT.out];simp [h1,h2]);clear h1 h2;go_wp2;exact⟨⟨j+1,a,rfl,rfl,hp,zd ⟨by trivial,HN.out⟩⟩,by simp [intOf];omega⟩
  ·have hdl:decide ((j:Int)<(at'.length:Int))=false:=by simp;omega
   have HN:=zd (show a=R by rw [HH.out,HR.out,List.take_of_length_le (by omega)]);go_wp2;go_ret;exact⟨by rw [<-HN.out];rfl,HB.out⟩
end
section
open Go.RowKit
attribute [local irreducible] FreeW
theorem xzaq {W W':World}{B:Nat}{t:TypeId}{z n:Nat}{v:Value}{xs:List Value}(h:W.ownsRow B t z v n xs)(hk:∀ k,v.ownBlock=some k->W'.heap[k]? =W.heap[k]?):W'.ownsRow B t z v n xs:=by
 refine⟨h.1,h.2.imp id ?_⟩;rintro⟨g,cap,cur,rfl,h1,h2,h3⟩;exact⟨g,cap,cur,rfl,h1,(hk g rfl).trans h2,h3⟩
def RowI (B:Nat)(W:World)(v:Value)(l:List Int):Prop:=W.ownsRow B 3 1 v l.length (l.map (Value.int .i64))
theorem RowI.nil (B:Nat)(W:World):RowI B W (.slice none 0 0) []:=World.ownsRow_nil _ _ _ _
theorem RowI.step {B:Nat}{W W':World}{v:Value}{l:List Int}(h:RowI B W v l)(hb:Below W.heap.size W W'):RowI B W' v l:=xzaq h fun k hk=>hb.block k (World.ownsRow.lt h k hk).2
theorem RowI.ints {B:Nat}{W:World}{v:Value}{l:List Int}(h:RowI B W v l):IntsV W l v:=by
 rcases h.2 with⟨rfl,h1⟩|⟨g,cap,cur,rfl,h2,h3,h4,h5,h6,h7⟩
 ·obtain rfl:=List.eq_nil_of_length_eq_zero h1
  exact IntsV.nil W
 ·refine⟨_,cap,rfl,⟨h4,by unfold maxLen at h5;omega⟩,fun _=>⟨g,0,rfl,(Array.getElem?_eq_some_iff.1 h3).1,fun i hi=>?_⟩⟩
  have:=World.ownsRow.cells h (g:=g) rfl i (.int .i64 l[i]) (by simp [hi])
  rwa [Addr.add_lit]at this
theorem xzeo:(Try.prog.info? 3).map (fun i=>(i.zero,i.size,i.bytes))=some (some (.int .i64 0),1,8):=by kernel_rfl
theorem RowI.push {B:Nat}{W:World}{v:Value}{l:List Int}(h:RowI B W v l)(hB:B<=W.heap.size)(p:Int)(hl:l.length+1<=1099511627776):
 ∃ v' W',(Builtin.append_ #[26,26] 26 #[v,.slice (some ⟨W.heap.size,0,none⟩) 1 1]).run Try.prog (W.alloc (.cells #[.int .i64 p] 3))=.ok v' W'/\RowI B W' v' (l++[p])/\Below B W W':=by
 obtain⟨i0,hi0,hz0,hz1,hz2⟩:=info_parts xzeo;have hUB:Below W.heap.size W (W.alloc (.cells #[.int .i64 p] 3)):=(Below.refl _ _).alloc (Nat.le_refl _) _;have h1:=h.step hUB;have hnew:=BlkIs.new W 3 #[.int .i64 p]
 obtain⟨v',W',hr,hown,hgr,_,_⟩:=run_append_own_at (P:=Try.prog) (w:=W.alloc (.cells #[.int .i64 p] 3)) B 26 26 3 i0 (.int .i64 0) 1 8 Try.underlying26 hi0 hz0 hz1 hz2 rfl (by decide) v l.length _ h1
  ⟨W.heap.size,0,none⟩ 1 1 [.int .i64 p] rfl (fun j u hu=>by
   rw [Addr.add_lit,Nat.zero_add];have:=hnew.range j u (by simpa using hu)
   simpa using this) (by simp [Value.oneCell']) (by unfold maxLen;omega) (by omega) (by have:=hUB.size;omega)
 refine⟨v',W',hr,?_,(hUB.mono hB).grown hgr (by have:=hUB.size;omega) (fun q hq=>(World.ownsRow.lt h1 q hq).1)⟩;unfold RowI;rw [List.map_append,List.length_append];exact hown
theorem xzrk {P:Program}{op:Oper}{a:Act}{w:World}{K:Act->World->Prop}{Q:Exit->Act->World->Prop}(s x:Operand)(t t2:TypeId)(hop:op.op=Op.call {callee:=Callee.builtin Builtin.append,args:=#[s,x],argTypes:=#[t,t2]}){v xv v':Value}{w':World}(hs:a.eval s=v)(hx:a.eval x=xv)
 (hrun:(Builtin.append_ #[t,t2] op.type #[v,xv]).run P w=.ok v' w')(h:K (a.put op.dst v') w'):op.wp P a w K Q:=by
 unfold Oper.wp execOp;simp only [hop,resolve,invoke,builtin,Sem.run_bind,Sem.run_pure,Result.andThen_ok,List.map_toArray,List.map_cons,List.map_nil,hs,hx,hrun];exact h
section
variable {P : Program} {op : Oper} {ops : Array Oper} {rest : List Oper} {a : Act} {w : World} {Q : Exit → Act → World → Prop}
theorem xzal (hg:op.guard=none)(s x:Operand)(t t2:TypeId)(hop:op.op=Op.call {callee:=Callee.builtin Builtin.append,args:=#[s,x],argTypes:=#[t,t2]}){v xv v':Value}{w':World}(hs:a.eval s=v)(hx:a.eval x=xv)
 (hrun:(Builtin.append_ #[t,t2] op.type #[v,xv]).run P w=.ok v' w')(h:wpList P ops Q rest (a.put op.dst v') w'):wpList P ops Q (op::rest) a w:=
 wpList_plain hg fun _ hK=>xzrk s x t t2 hop hs hx hrun (hK _ _ h)
end
def Nf.setAt (N:Nf)(p:Int):Nat->Bool:=N.sets.getD p.toNat fun _=>false
def beginL (N:Nf)(c:Nat):List Int:=N.first.filter fun p=>N.setAt p c
theorem xzmg {α:Type}(f:α->Bool)(l:List α)(j:Nat)(h:j<l.length):(l.take (j+1)).filter f=if f l[j]then(l.take j).filter f++[l[j]]else(l.take j).filter f:=by
 rw [List.take_succ_eq_append_getElem h,List.filter_append]
 by_cases e:f l[j]=true
 ·rw [if_pos e];simp [e]
 ·rw [if_neg e];simp [e]
set_option maxRecDepth 20000 in
set_option maxHeartbeats 4000000 in
theorem xzrl (N:Nf)(c:Nat)(hc:c<256)(v:Value)(w:World)(h:NfaAt w N v)(hin:∀ p∈N.first,0<=p/\p<N.sets.length)(hn:N.first.length<=1073741824):
 Calls Try.prog 35 #[v,.int .u8 c] w fun e w'=>∃ v',e=.returned v'/\RowI (w.heap.size+1) w' v' (beginL N c)/\Below w.heap.size w w':=by
 obtain⟨v0,v1,v2,v3,v4,rfl,hs0,hs1,hs2,hs3,hs4⟩:=h;obtain⟨A0,c0,rfl,hc0,hg0⟩:=hs0;obtain⟨A2,c2,rfl,hc2,hg2⟩:=hs2;obtain⟨A3,c3,rfl,hc3,hx3⟩:=hs3;obtain⟨A1,c1,rfl,hc1,hx1⟩:=hs1;obtain⟨A4,c4,rfl,hc4,hx4⟩:=hs4;have hb0:Below w.heap.size w (w.alloc (.cells #[.slice A0 N.sets.length c0,.slice A1 N.rules.length c1,.slice A2 N.first.length c2,.slice A3 N.follow.length c3,.slice A4 N.ends.length c4,.int .i64 N.empty] 30)):=(Below.refl _ _).alloc (Nat.le_refl _) _;have H0:=zd (And.intro hb0 (BlkIs.new w 30 #[.slice A0 N.sets.length c0,.slice A1 N.rules.length c1,.slice A2 N.first.length c2,.slice A3 N.follow.length c3,.slice A4 N.ends.length c4,.int .i64 N.empty]));have HG2:=zd hg2;have HIN:=zd (fun(j:Nat) (h:j<N.first.length)=>hin _ (List.getElem_mem h))
 have HCELL:=zd (fun(pn:Nat) (h:pn<N.sets.length)=>(show ∃ b o,A0=some ⟨b,o,none⟩/\∀ u:World,Below w.heap.size w u->u.cell? ⟨b,o+pn*4,none⟩=some (.int .u64 (wd (N.setAt pn) 0:Nat))/\u.cell? ⟨b,o+pn*4+1,none⟩=some (.int .u64 (wd (N.setAt pn) 1:Nat))/\u.cell? ⟨b,o+pn*4+2,none⟩=some (.int .u64 (wd (N.setAt pn) 2:Nat))/\u.cell? ⟨b,o+pn*4+3,none⟩=some (.int .u64 (wd (N.setAt pn) 3:Nat))by
  obtain⟨b,o,e1,l1,g1⟩:=hg0 (by intro e;rw [e]at h;simp at h)
  have es:N.setAt pn=N.sets[pn]:=by unfold Nf.setAt;simp [h]
  rw [es]
  exact⟨b,o,e1,fun u hu=>⟨(hu.cell (p:=⟨b,o+pn*4,none⟩) l1).trans (g1 pn h 0 (by decide)),(hu.cell (p:=⟨b,o+pn*4+1,none⟩) l1).trans (g1 pn h 1 (by decide)),(hu.cell (p:=⟨b,o+pn*4+2,none⟩) l1).trans (g1 pn h 2 (by decide)),(hu.cell (p:=⟨b,o+pn*4+3,none⟩) l1).trans (g1 pn h 3 (by decide))⟩⟩))
 obtain⟨R,hR⟩:∃ R,R=beginL N c:=⟨_,rfl⟩;rw [<-hR];have HR:=zd hR;have HHAS:=zd (fun(m:Nat->Bool) (u:World)=>xzsy m c hc u);unfold setV at HHAS;clear hb0 hg0 hg2 hx1 hx3 hx4 hin hR
 go_enter Try.func35,Try.ntmps35
 go_wp2
 go_loopw [5,11] (fun s i wr=>∃ (j:Nat) (l:List Int),i=.int .i64 j/\j<=N.first.length/\l.length<=j/\Hid ((RowI (w.heap.size+1) wr s l/\Below w.heap.size w wr/\BlkIs wr w.heap.size 30 #[.slice A0 N.sets.length c0,.slice A1 N.rules.length c1,.slice A2 N.first.length c2,.slice A3 N.follow.length c3,.slice A4 N.ends.length c4,.int .i64 N.empty])/\l=(N.first.take j).filter fun p=>N.setAt p c)) (fun _ i _=>N.first.length - (intOf i).toNat)
 case atStart=>exact⟨0,[],rfl,Nat.zero_le _,Nat.le_refl _,zd ⟨⟨RowI.nil _ _,H0.out⟩,rfl⟩⟩
 case round=>
  obtain⟨j,l,rfl,hj,hlj,HH⟩:=hrel;obtain⟨d0,d1,d2,d3,d4,d5⟩:=six HH.out.1.2.2
  by_cases hp:j<N.first.length
  ·have hk1:IntKind.i64.wrap ((j:Int)+1)=((j+1:Nat):Int):=by rw [IntKind.wrap_i64];omega
   have hdl:decide ((j:Int)<(N.first.length:Int))=true:=by simp;omega
   obtain⟨b,o,rfl,hlt,hg⟩:=HG2.out (by intro e;rw [e]at hp;simp at hp);have hcell:=(HH.out.1.2.1.cell (p:=⟨b,o+j,none⟩) hlt).trans (hg j hp);have hpin:=HIN.out j hp;have hf:=xzmg (fun p=>N.setAt p c) N.first j hp;rw [<-HH.out.2]at hf;clear hg hlt;generalize N.first[j]=p at*;obtain⟨pn,rfl⟩:=Int.eq_ofNat_of_zero_le hpin.1
   have hpn:pn<N.sets.length:=by omega
   have hi1:(pn:Int)<(N.sets.length:Int):=by omega
   obtain⟨b0,o0,rfl,hyy⟩:=HCELL.out pn hpn;obtain⟨y0,y1,y2,y3⟩:=hyy wr HH.out.1.2.1;clear hyy hpin;have HC:=zd (HHAS.out (N.setAt (pn:Int)) wr);generalize N.setAt (pn:Int)=m at*;generalize m c=hm at*;have HF:=zd hf;clear hf
   cases hm with
   |true=>
    go_wp2_with fail
    go_at_call 45
    refine HC.out.mono ?_;rintro e u ⟨rfl,hbu⟩;have hsz:=HH.out.1.2.2.lt;obtain⟨v',W',hrun,hri,hbw⟩:=(HH.out.1.1.step hbu).push (by have:=hbu.size;omega) (pn:Int) (by omega);have HU:=zd (And.intro hri (And.intro ((HH.out.1.2.1.trans (hbu.mono HH.out.1.2.1.size)).trans (hbw.mono (by omega))) ((hbw.block w.heap.size (by omega)).trans (HH.out.1.2.2.step hbu))));clear hbu hri hbw d0 d1 d2 d3 d4 d5 y0 y1 y2 y3 hcell
    go_wp2_with(refine xzal rfl _ _ 26 26 rfl rfl rfl hrun ?_)
    exact⟨⟨j+1,l++[(pn:Int)],rfl,hp,by rw [List.length_append,List.length_singleton];omega,zd ⟨HU.out,by rw [HF.out];rfl⟩⟩,by simp [intOf];omega⟩
   |false=>
    go_wp2_with fail
    go_at_call 45
    refine HC.out.mono ?_;rintro e u ⟨rfl,hbu⟩;have HU:=zd (And.intro (HH.out.1.1.step hbu) (And.intro (HH.out.1.2.1.trans (hbu.mono HH.out.1.2.1.size)) (HH.out.1.2.2.step hbu)));clear hbu d0 d1 d2 d3 d4 d5 y0 y1 y2 y3 hcell;go_wp2;exact⟨⟨j+1,l,rfl,hp,by omega,zd ⟨HU.out,by rw [HF.out];rfl⟩⟩,by simp [intOf];omega⟩
  ·have hdl:decide ((j:Int)<(N.first.length:Int))=false:=by simp;omega
   have HF:=zd (show l=R by rw [HH.out.2,HR.out,List.take_of_length_le (by omega)];rfl);go_wp2;go_ret;exact⟨_,rfl,by rw [<-HF.out];exact HH.out.1.1,HH.out.1.2.1⟩
end
section
open Go.RowKit
attribute [local irreducible] FreeW
set_option maxRecDepth 20000 in
set_option maxHeartbeats 2000000 in
theorem xzep (l r:List Int)(v v':Value)(w:World)(hl:IntsV w l v)(hr:IntsV w r v'):Calls Try.prog 17 #[v,v'] w fun e w'=>e=.returned (.bool (decide (l=r)))/\Below w.heap.size w w':=by
 obtain⟨A,c,rfl,hc,hs⟩:=hl;obtain⟨A',c',rfl,hc',hs'⟩:=hr;have HS:=zd hs;have HS':=zd hs';clear hs hs'
 by_cases hlen:l.length=r.length
 case neg=>
  have e0:((l.length:Int) != (r.length:Int))=true:=by simp;omega
  have HF:=zd (show decide (l=r)=false by simp;intro e;exact hlen (by rw [e]));clear hlen
  go_enter Try.func17,Try.ntmps17
  go_wp2;go_ret;exact⟨by rw [HF.out];rfl,Below.refl _ _⟩
 have e0:((l.length:Int) != (r.length:Int))=false:=by simp;omega
 have HL:=zd hlen;obtain⟨R,hR⟩:∃ R,R=decide (l=r):=⟨_,rfl⟩;rw [<-hR];have HR:=zd hR;clear hlen hR
 go_enter Try.func17,Try.ntmps17
 go_wp2
 go_loopw [5] (fun i wr=>∃ j:Nat,i=.int .i64 j/\j<=l.length/\Hid (Below w.heap.size w wr/\l.take j=r.take j)) (fun i _=>l.length - (intOf i).toNat)
 case atStart=>exact⟨0,rfl,Nat.zero_le _,zd ⟨Below.refl _ _,rfl⟩⟩
 case round=>
  obtain⟨j,rfl,hj,HH⟩:=hrel
  by_cases hp:j<l.length
  ·have hk1:IntKind.i64.wrap ((j:Int)+1)=((j+1:Nat):Int):=by rw [IntKind.wrap_i64];omega
   have hdl:decide ((j:Int)<(l.length:Int))=true:=by simp;omega
   have hp':j<r.length:=by rw [<-HL.out];exact hp
   have hi1:(j:Int)<(l.length:Int):=by omega
   have hi2:(j:Int)<(r.length:Int):=by omega
   obtain⟨b,o,rfl,hlt,hg⟩:=HS.out (by intro e;rw [e]at hp;simp at hp);obtain⟨b',o',rfl,hlt',hg'⟩:=HS'.out (by intro e;rw [e]at hp';simp at hp');have HX:=zd (fun(u:World) (hu:Below w.heap.size w u)=>(hu.cell (p:=⟨b,o+j,none⟩) hlt).trans (hg j hp));have HY:=zd (fun(u:World) (hu:Below w.heap.size w u)=>(hu.cell (p:=⟨b',o'+j,none⟩) hlt').trans (hg' j hp'));have ht1:=List.take_succ_eq_append_getElem hp;have ht2:=List.take_succ_eq_append_getElem hp'
   have hne:l[j]≠r[j]->l≠r:=fun h e=>h (by subst e;rfl)
   clear hg hg';generalize l[j]=x at*;generalize r[j]=y at*;have HT:=zd (And.intro ht1 (And.intro ht2 hne));clear ht1 ht2 hne hp'
   by_cases hxy:x=y
   ·have e1:(x != y)=false:=by simp [hxy]
    have HN:=zd (show l.take (j+1)=r.take (j+1)by rw [HT.out.1,HT.out.2.1,HH.out.2,hxy]);clear hxy
    go_wp2_with fail
    refine xzaz 26 (fun u=>Hid (Below w.heap.size w u)) (by kernel_rfl) (by kernel_rfl) rfl (zd HH.out.1.drew) (fun u u' h hb=>zd (h.out.trans (hb.mono h.out.size))) ?_
    repeat
     refine xzae fun K hK=>?_
     (first
      |skip)
     go_simp
     apply Exists.intro
     refine⟨fun u h1=>?_,hK _ ?_⟩
     ·have y0:=HX.out u h1.out
      have y1:=HY.out u h1.out;unfold freeAt;go_simp
      first
       |exact xzah
       |(apply xzag
         first
          |fail
         )
     clear hK K
    refine xzay ?_;intro u hC hb2;have HC:=zd hC.out;clear hC hb2;go_wp2;exact⟨⟨j+1,rfl,hp,zd ⟨HC.out,HN.out⟩⟩,by simp [intOf];omega⟩
   ·have e1:(x != y)=true:=by simp [hxy]
    have HN:=zd (show R=false by rw [HR.out];simp;exact HT.out.2.2 hxy);clear hxy
    go_wp2_with fail
    refine xzaz 26 (fun u=>Hid (Below w.heap.size w u)) (by kernel_rfl) (by kernel_rfl) rfl (zd HH.out.1.drew) (fun u u' h hb=>zd (h.out.trans (hb.mono h.out.size))) ?_
    repeat
     refine xzae fun K hK=>?_
     (first
      |skip)
     go_simp
     apply Exists.intro
     refine⟨fun u h1=>?_,hK _ ?_⟩
     ·have y0:=HX.out u h1.out
      have y1:=HY.out u h1.out;unfold freeAt;go_simp
      first
       |exact xzah
       |(apply xzag
         first
          |fail
         )
     clear hK K
    refine xzay ?_;intro u hC hb2;have HC:=zd hC.out;clear hC hb2;go_wp2;go_ret;exact⟨by rw [HN.out];rfl,HC.out⟩
  ·have hdl:decide ((j:Int)<(l.length:Int))=false:=by simp;omega
   have HN:=zd (show R=true by
    have:=HH.out.2;rw [List.take_of_length_le (by omega),List.take_of_length_le (by rw [<-HL.out];omega)]at this
    rw [HR.out,this];simp)
   go_wp2;go_ret;exact⟨by rw [HN.out];rfl,HH.out.1⟩
def listB (bs:List Bool):List Int:=((List.range bs.length).filter fun i=>bs.getD i false).map fun(i:Nat)=>(i:Int)
def listTo (bs:List Bool)(j:Nat):List Int:=((List.range j).filter fun i=>bs.getD i false).map fun(i:Nat)=>(i:Int)
theorem xzmh (bs:List Bool)(j:Nat):listTo bs (j+1)=if bs.getD j false then listTo bs j++[(j:Int)]else listTo bs j:=by
 unfold listTo;rw [List.range_succ,List.filter_append,List.map_append]
 by_cases e:bs.getD j false=true
 ·rw [if_pos e];simp only [List.filter_cons,List.filter_nil,e,if_true,List.map_cons,List.map_nil]
 ·rw [if_neg e];simp only [List.filter_cons,List.filter_nil,e];simp
theorem xzob (bs:List Bool)(j:Nat):(listTo bs j).length<=j:=by
 unfold listTo;rw [List.length_map];refine Nat.le_trans (List.length_filter_le _ _) ?_;rw [List.length_range];exact Nat.le_refl _
set_option maxRecDepth 20000 in
set_option maxHeartbeats 2000000 in
theorem xzjp (bs:List Bool)(v:Value)(w:World)(h:BoolsV w bs v)(hn:bs.length<=1073741824):
 Calls Try.prog 32 #[v] w fun e w'=>∃ v',e=.returned v'/\RowI w.heap.size w' v' (listB bs)/\Below w.heap.size w w':=by
 obtain⟨A,c,rfl,hc,hs⟩:=h;have HS:=zd hs;clear hs
 go_enter Try.func32,Try.ntmps32
 go_wp2
 go_loopw [3,4] (fun s i wr=>∃ (j:Nat),i=.int .i64 j/\j<=bs.length/\Hid (RowI w.heap.size wr s (listTo bs j)/\Below w.heap.size w wr)) (fun _ i _=>bs.length - (intOf i).toNat)
 case atStart=>exact⟨0,rfl,Nat.zero_le _,zd ⟨RowI.nil _ _,Below.refl _ _⟩⟩
 case round=>
  obtain⟨j,rfl,hj,HH⟩:=hrel
  by_cases hp:j<bs.length
  ·have hk1:IntKind.i64.wrap ((j:Int)+1)=((j+1:Nat):Int):=by rw [IntKind.wrap_i64];omega
   have hdl:decide ((j:Int)<(bs.length:Int))=true:=by simp;omega
   obtain⟨b,o,rfl,hlt,hg⟩:=HS.out (by intro e;rw [e]at hp;simp at hp);have hcell:=(HH.out.2.cell (p:=⟨b,o+j,none⟩) hlt).trans (hg j hp);have hl:=xzmh bs j;have hln:=xzob bs j
   have eg:bs.getD j false=bs[j]:=by simp [hp]
   rw [eg]at hl;clear hg hlt eg;generalize bs[j]=x at*;have HL:=zd hl;clear hl
   cases x with
   |true=>
    obtain⟨v',W',hrun,hri,hbw⟩:=HH.out.1.push HH.out.2.size (j:Int) (by omega);have HU:=zd (And.intro hri (HH.out.2.trans hbw));clear hri hbw hln
    go_wp2_with(refine xzal rfl _ _ 26 26 rfl rfl rfl hrun ?_)
    exact⟨⟨j+1,rfl,hp,zd ⟨by rw [HL.out];exact HU.out.1,HU.out.2⟩⟩,by simp [intOf];omega⟩
   |false=>
    go_wp2;exact⟨⟨j+1,rfl,hp,zd ⟨by rw [HL.out];exact HH.out.1,HH.out.2⟩⟩,by simp [intOf];omega⟩
  ·have hdl:decide ((j:Int)<(bs.length:Int))=false:=by simp;omega
   obtain rfl:j=bs.length:=by omega
   go_wp2;go_ret;exact⟨_,rfl,HH.out.1,HH.out.2⟩
end
end Go.Proofs.Ythoaaginadjaoaa
