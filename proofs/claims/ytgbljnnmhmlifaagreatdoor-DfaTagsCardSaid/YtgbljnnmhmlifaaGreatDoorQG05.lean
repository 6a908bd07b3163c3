/-
 AN AUTOMATON WITH CHOICES IN MEMORY; WHAT nfa.May ANSWERS: a contract. No condition but that it lies there.
-/
import Derived.Maps.AppendAt
import Derived.Test.YtgbljnnmhmlifaaGreatDoorQG04
namespace Go.Proofs.YtgbljnnmhmlifaaGreatDoor
section
open Go.RowKit
structure Nf where
 sets:List (Nat->Bool)
 rules:List Int
 first:List Int
 follow:List (List Int)
 ends:List Bool
 empty:Int
def SetsV (W:World)(ms:List (Nat->Bool))(v:Value):Prop:=∃ A c,v=.slice A ms.length c/\(ms.length<=c/\c<=9223372036854775807)/\(ms≠[]->∃ b o,A=some ⟨b,o,none⟩/\b<W.heap.size/\∀ (i:Nat) (h:i<ms.length) (k:Nat),k<4->W.cell? ⟨b,o+i*4+k,none⟩=some (.int .u64 (wd ms[i] k:Nat)))
def BoolsV (W:World)(l:List Bool)(v:Value):Prop:=∃ A c,v=.slice A l.length c/\(l.length<=c/\c<=9223372036854775807)/\(l≠[]->∃ b o,A=some ⟨b,o,none⟩/\b<W.heap.size/\∀ (i:Nat) (h:i<l.length),W.cell? ⟨b,o+i,none⟩=some (.bool l[i]))
def RowsI (W:World)(ll:List (List Int))(v:Value):Prop:=∃ A c,v=.slice A ll.length c/\(ll.length<=c/\c<=9223372036854775807)/\(ll≠[]->∃ b o,A=some ⟨b,o,none⟩/\b<W.heap.size/\∀ (i:Nat) (h:i<ll.length),∃ u,W.cell? ⟨b,o+i,none⟩=some u/\IntsV W ll[i] u)
def NfaAt (W:World)(N:Nf)(v:Value):Prop:=∃ v0 v1 v2 v3 v4,v=.agg #[v0,v1,v2,v3,v4,.int .i64 N.empty]/\SetsV W N.sets v0/\IntsV W N.rules v1/\IntsV W N.first v2/\RowsI W N.follow v3/\BoolsV W N.ends v4
theorem SetsV.step {W W':World}{l:List (Nat->Bool)}{v:Value}(h:SetsV W l v)(hb:Below W.heap.size W W'):SetsV W' l v:=by
 obtain⟨A,c,e,hc,hs⟩:=h;refine⟨A,c,e,hc,fun hne=>?_⟩;obtain⟨b,o,e2,hlt,hg⟩:=hs hne;exact⟨b,o,e2,Nat.lt_of_lt_of_le hlt hb.size,fun i hi k hk=>(hb.cell (p:=⟨b,o+i*4+k,none⟩) hlt).trans (hg i hi k hk)⟩
theorem BoolsV.step {W W':World}{l:List Bool}{v:Value}(h:BoolsV W l v)(hb:Below W.heap.size W W'):BoolsV W' l v:=by
 obtain⟨A,c,e,hc,hs⟩:=h;refine⟨A,c,e,hc,fun hne=>?_⟩;obtain⟨b,o,e2,hlt,hg⟩:=hs hne;exact⟨b,o,e2,Nat.lt_of_lt_of_le hlt hb.size,fun i hi=>(hb.cell (p:=⟨b,o+i,none⟩) hlt).trans (hg i hi)⟩
theorem RowsI.step {W W':World}{l:List (List Int)}{v:Value}(h:RowsI W l v)(hb:Below W.heap.size W W'):RowsI W' l v:=by
 obtain⟨A,c,e,hc,hs⟩:=h;refine⟨A,c,e,hc,fun hne=>?_⟩;obtain⟨b,o,e2,hlt,hg⟩:=hs hne;refine⟨b,o,e2,Nat.lt_of_lt_of_le hlt hb.size,fun i hi=>?_⟩;obtain⟨u,h1,h2⟩:=hg i hi;exact⟨u,(hb.cell (p:=⟨b,o+i,none⟩) hlt).trans h1,h2.step hb⟩
theorem NfaAt.step {W W':World}{N:Nf}{v:Value}(h:NfaAt W N v)(hb:Below W.heap.size W W'):NfaAt W' N v:=by
 obtain⟨v0,v1,v2,v3,v4,e,h0,h1,h2,h3,h4⟩:=h;exact⟨v0,v1,v2,v3,v4,e,h0.step hb,h1.step hb,h2.step hb,h3.step hb,h4.step hb⟩
def okR (r:Int):Bool:=decide (0<=r)&&decide (r<40)
def Nf.sized (N:Nf):Bool:=(decide (N.sets.length<=2000)&&(N.rules.length==N.sets.length))&&((N.follow.length==N.sets.length)&&(N.ends.length==N.sets.length))
def Nf.rest (N:Nf):Bool:=risesB N.sets.length (-1) N.first&&(decide (-1<=N.empty)&&decide (N.empty<40))
def Nf.follows (N:Nf):Bool:=N.follow.all (risesB N.sets.length (-1))
def Nf.may (N:Nf):Bool:=N.sized&&(N.rules.all okR&&(N.follow.all (risesB N.sets.length (-1))&&N.rest))
set_option maxRecDepth 20000 in
set_option maxHeartbeats 8000000 in
theorem yzfd (N:Nf)(v:Value)(w:World)(h:NfaAt w N v):Calls Tryz.prog 22 #[v] w fun e w'=>e=.returned (.bool N.may)/\Below w.heap.size w w':=by
 obtain⟨v0,v1,v2,v3,v4,rfl,hs0,hs1,hs2,hs3,hs4⟩:=h;have hb0:=(Below.refl w.heap.size w).alloc (Nat.le_refl _) (.cells #[v0,v1,v2,v3,v4,.int .i64 N.empty] 30);have hr1:=hs1.step hb0;have hr2:=hs2.step hb0;have hr3:=hs3.step hb0;obtain⟨A0,c0,rfl,hc0,hx0⟩:=hs0;obtain⟨A4,c4,rfl,hc4,hx4⟩:=hs4;have HR2:=zd (xzlu N.first v2 N.sets.length _ hr2);obtain⟨A1,c1,rfl,hc1,hg1⟩:=hr1;obtain⟨A2,c2,rfl,hc2,hg2⟩:=hr2;obtain⟨A3,c3,rfl,hc3,hg3⟩:=hr3;have hx:=BlkIs.new w 30 #[.slice A0 N.sets.length c0,.slice A1 N.rules.length c1,.slice A2 N.first.length c2,.slice A3 N.follow.length c3,.slice A4 N.ends.length c4,.int .i64 N.empty];obtain⟨R,hR⟩:∃ R,R=N.may:=⟨_,rfl⟩;rw [<-hR];unfold Nf.may Nf.sized Nf.rest at hR;obtain⟨W1,hW1⟩:∃ W1,w.alloc (.cells #[.slice A0 N.sets.length c0,.slice A1 N.rules.length c1,.slice A2 N.first.length c2,.slice A3 N.follow.length c3,.slice A4 N.ends.length c4,.int .i64 N.empty] 30)=W1:=⟨_,rfl⟩;rw [hW1]at hb0 hx HR2 hg1 hg3;obtain⟨d0,d1,d2,d3,d4,d5⟩:=six hx;have HB:=zd hb0;have HG1:=zd hg1;have HG3:=zd hg3;clear hs1 hs2 hs3 hb0 hx hg1 hg2 hg3 hx0 hx4;generalize N.empty=em at*;generalize N.first=fi at*;generalize N.rules=ru at*;generalize N.follow=fo at*;generalize N.ends.length=n4 at*;generalize N.sets.length=n0 at*
 by_cases hk:n0<=2000
 case neg=>
  have e0:decide ((n0:Int)>2000)=true:=by simp;omega
  have e0b:decide ((2000:Int)<(n0:Int))=true:=by simp;omega
  have HN:=zd (show R=false by rw [hR];simp [hk]);clear hR hk
  go_enter Tryz.func22,Tryz.ntmps22
  go_wp2;go_ret;exact⟨by rw [HN.out];rfl,HB.out⟩
 have e0:decide ((n0:Int)>2000)=false:=by simp;omega
 have e0b:decide ((2000:Int)<(n0:Int))=false:=by simp;omega
 by_cases h1:ru.length=n0
 case neg=>
  have e1:((ru.length:Int) != (n0:Int))=true:=by simp;omega
  have HN:=zd (show R=false by rw [hR];simp [h1]);clear hR hk h1
  go_enter Tryz.func22,Tryz.ntmps22
  go_wp2;go_ret;exact⟨by rw [HN.out];rfl,HB.out⟩
 have e1:((ru.length:Int) != (n0:Int))=false:=by simp;omega
 by_cases h3:fo.length=n0
 case neg=>
  have e3:((fo.length:Int) != (n0:Int))=true:=by simp;omega
  have HN:=zd (show R=false by rw [hR];simp [h3]);clear hR hk h1 h3
  go_enter Tryz.func22,Tryz.ntmps22
  go_wp2;go_ret;exact⟨by rw [HN.out];rfl,HB.out⟩
 have e3:((fo.length:Int) != (n0:Int))=false:=by simp;omega
 by_cases h4:n4=n0
 case neg=>
  have e4:((n4:Int) != (n0:Int))=true:=by simp;omega
  have HN:=zd (show R=false by rw [hR];simp [h4]);clear hR hk h1 h3 h4
  go_enter Tryz.func22,Tryz.ntmps22
  go_wp2;go_ret;exact⟨by rw [HN.out];rfl,HB.out⟩
 have e4:((n4:Int) != (n0:Int))=false:=by simp;omega
 have HN:=zd (show R=(ru.all okR&&(fo.all (risesB n0 (-1))&&(risesB n0 (-1) fi&&(decide (-1<=em)&&decide (em<40)))))by rw [hR];simp [h1,h3,h4,hk]);clear hR hk h1 h3 h4
 go_enter Tryz.func22,Tryz.ntmps22
 go_wp2
 go_loopw [37] (fun i wr=>∃ j:Nat,i=.int .i64 j/\j<=ru.length/\Hid (wr=W1/\R=((ru.drop j).all okR&&(fo.all (risesB n0 (-1))&&(risesB n0 (-1) fi&&(decide (-1<=em)&&decide (em<40))))))) (fun i _=>ru.length - (intOf i).toNat)
 case atStart=>exact⟨0,rfl,Nat.zero_le _,zd ⟨by trivial,HN.out⟩⟩
 case round=>
  obtain⟨j,rfl,hj,HH⟩:=hrel;obtain⟨rfl,hRR⟩:=HH.out;have HH:=zd hRR;clear hRR
  by_cases hp:j<ru.length
  ·have hk1:IntKind.i64.wrap ((j:Int)+1)=((j+1:Nat):Int):=by rw [IntKind.wrap_i64];omega
   have hdl:decide ((j:Int)<(ru.length:Int))=true:=by simp;omega
   obtain⟨b,o,rfl,hlt,hg⟩:=HG1.out (by intro e;subst e;simp at hp);have hcell:=hg j hp;have hd:=HH.out;rw [List.drop_eq_getElem_cons hp,List.all_cons]at hd;unfold okR at hd;clear hg;generalize ru[j]=p at*;have HD:=zd hd;clear hd
   by_cases g1:p<0
   ·have q1:decide (p<0)=true:=by simp;omega
    have HF:=zd (show R=false by rw [HD.out];simp;intro;omega);clear g1;go_wp2;go_ret;exact⟨by rw [HF.out];rfl,HB.out⟩
   ·have q1:decide (p<0)=false:=by simp;omega
    by_cases g2:40<=p
    ·have q2:decide (p>=40)=true:=by simp;omega
     have q2b:decide (40<=p)=true:=by simp;omega
     have HF:=zd (show R=false by rw [HD.out];simp;intro;omega);clear g1 g2;go_wp2;go_ret;exact⟨by rw [HF.out];rfl,HB.out⟩
    ·have q2:decide (p>=40)=false:=by simp;omega
     have q2b:decide (40<=p)=false:=by simp;omega
     have HF:=zd (show R=((ru.drop (j+1)).all okR&&(fo.all (risesB n0 (-1))&&(risesB n0 (-1) fi&&(decide (-1<=em)&&decide (em<40)))))by rw [HD.out,show decide (0<=p)=true by simp;omega,show decide (p<40)=true by simp;omega];rfl);clear g1 g2;go_wp2;exact⟨⟨j+1,rfl,hp,zd ⟨by trivial,HF.out⟩⟩,by simp [intOf];omega⟩
  ·have hdl:decide ((j:Int)<(ru.length:Int))=false:=by simp;omega
   have HN2:=zd (show R=(fo.all (risesB n0 (-1))&&(risesB n0 (-1) fi&&(decide (-1<=em)&&decide (em<40))))by rw [HH.out,List.drop_eq_nil_of_le (by omega)];rfl);go_wp2
   go_loopw [51] (fun i wz=>∃ q:Nat,i=.int .i64 q/\q<=fo.length/\Hid (Below wr.heap.size wr wz/\wz=wr/\R=((fo.drop q).all (risesB n0 (-1))&&(risesB n0 (-1) fi&&(decide (-1<=em)&&decide (em<40)))))) (fun i _=>fo.length - (intOf i).toNat)
   case atStart=>exact⟨0,rfl,Nat.zero_le _,zd ⟨Below.refl _ _,rfl,HN2.out⟩⟩
   case round=>
    obtain⟨q,rfl,hq,HK⟩:=hrel;obtain⟨_,rfl,hRR⟩:=HK.out;have HK:=zd hRR;clear hRR
    by_cases hpq:q<fo.length
    ·have hk1:IntKind.i64.wrap ((q:Int)+1)=((q+1:Nat):Int):=by rw [IntKind.wrap_i64];omega
     have hdq:decide ((q:Int)<(fo.length:Int))=true:=by simp;omega
     obtain⟨b,o,rfl,hlt,hg⟩:=HG3.out (by intro e;subst e;simp at hpq);obtain⟨u,hcell,hrow⟩:=hg q hpq;have hcall:=xzlu _ u n0 _ hrow;obtain⟨Ar,cr,rfl,_,_⟩:=hrow;have hd:=HK.out;rw [List.drop_eq_getElem_cons hpq,List.all_cons]at hd;clear hg;generalize fo[q]=row at*;generalize risesB n0 (-1) row=rb at*;have HC:=zd hcall;have HD:=zd hd;clear hcall hd
     cases rb with
     |true=>
      go_wp2_with fail
      go_at_call 39
      refine HC.out.mono ?_;rintro e u2 ⟨rfl,rfl⟩;go_wp2;exact⟨⟨q+1,rfl,hpq,zd ⟨Below.refl _ _,by trivial,by rw [HD.out];rfl⟩⟩,by simp [intOf];omega⟩
     |false=>
      go_wp2_with fail
      go_at_call 39
      refine HC.out.mono ?_;rintro e u2 ⟨rfl,rfl⟩;go_wp2;go_ret;exact⟨by rw [HD.out];rfl,HB.out⟩
    ·have hdq:decide ((q:Int)<(fo.length:Int))=false:=by simp;omega
     have HN3:=zd (show R=(risesB n0 (-1) fi&&(decide (-1<=em)&&decide (em<40)))by rw [HK.out,List.drop_eq_nil_of_le (by omega)];rfl);generalize risesB n0 (-1) fi=rb at*;generalize hm1:decide (-1<=em)=g1 at*;generalize hm2:decide (em<40)=g2 at*;have hm1b:decide (em>= -1)=g1:=hm1
     cases rb<;>cases g1<;>cases g2<;>
     (go_wp2_with fail
      go_at_call 39
      refine HR2.out.mono ?_;rintro e u2 ⟨rfl,rfl⟩;go_wp2;go_ret
      exact⟨by rw [HN3.out];rfl,HB.out⟩)
end
section
open Go.RowKit
attribute [local irreducible] FreeW
def Nf.ruleAt (N:Nf)(p:Int):Int:=N.rules.getD p.toNat 0
def Nf.endAt (N:Nf)(p:Int):Bool:=N.ends.getD p.toNat false
def tagStep (N:Nf)(least p:Int):Int:=if N.endAt p&&(decide (least<0)||decide (N.ruleAt p<least))then N.ruleAt p else least
def tagL (N:Nf)(at':List Int):Int:=at'.foldl (tagStep N) (-1)
def hitR (N:Nf)(at':List Int)(r:Int):Bool:=at'.any fun p=>(N.ruleAt p==r)&&N.endAt p
theorem xzuw (N:Nf)(l:List Int)(p:Int):tagL N (l++[p])=tagStep N (tagL N l) p:=by unfold tagL;rw [List.foldl_append];rfl
theorem xzqf (N:Nf)(hR:∀ p,0<=N.ruleAt p/\N.ruleAt p<40):∀ l:List Int,(tagL N l= -1/\∀ r,hitR N l r=false)\/(0<=tagL N l/\tagL N l<40/\hitR N l (tagL N l)=true/\∀ r,hitR N l r=true->tagL N l<=r):=by
 intro l
 have hsn:∀ (l:List Int) (p r:Int),hitR N (l++[p]) r=(hitR N l r||((N.ruleAt p==r)&&N.endAt p)):=fun l p r=>by unfold hitR;rw [List.any_append];simp
 have hrec:∀ n,n<=l.length->((tagL N (l.take n)= -1/\∀ r,hitR N (l.take n) r=false)\/(0<=tagL N (l.take n)/\tagL N (l.take n)<40/\hitR N (l.take n) (tagL N (l.take n))=true/\∀ r,hitR N (l.take n) r=true->tagL N (l.take n)<=r)):=by
  intro n
  induction n with
  |zero=>intro _;exact .inl ⟨rfl,fun r=>rfl⟩
  |succ n ih=>
   intro hn;have ih:=ih (by omega);rw [List.take_succ_eq_append_getElem (by omega)];generalize l.take n=t at*;generalize l[n]=p at*;rw [xzuw];simp only [hsn];have hp:=hR p;unfold tagStep
   cases he:N.endAt p with
   |false=>simpa using ih
   |true=>
    rcases ih with⟨i1,i2⟩|⟨i1,i2,i3,i4⟩
    ·rw [i1]
     refine .inr ?_;simp only [i2,Bool.true_and,Bool.false_or,Bool.and_true]
     simp
     exact⟨hp.1,hp.2⟩
    ·refine .inr ?_
     by_cases hl:N.ruleAt p<tagL N t
     ·simp only [hl,decide_true,Bool.or_true,Bool.and_true,if_true]
      refine⟨hp.1,hp.2,by simp,fun r hr=>?_⟩;rw [Bool.or_eq_true]at hr
      rcases hr with hr|hr
      ·have:=i4 r hr;omega
      ·have:N.ruleAt p=r:=by simpa using hr
       omega
     ·have h0:decide (tagL N t<0)=false:=by simp;omega
      simp only [h0,hl,decide_false,Bool.or_false,Bool.and_false,Bool.false_eq_true,if_false];refine⟨i1,i2,by rw [i3];rfl,fun r hr=>?_⟩;rw [Bool.or_eq_true]at hr
      rcases hr with hr|hr
      ·exact i4 r hr
      ·have:N.ruleAt p=r:=by simpa using hr
       omega
 have:=hrec l.length (Nat.le_refl _)
 rwa [List.take_length]at this
end
section
open Go.RowKit
attribute [local irreducible] FreeW
theorem xzbh {W W':World}{B:Nat}{t:TypeId}{z n:Nat}{v:Value}{xs:List Value}(h:W.ownsRow B t z v n xs)(hk:∀ k,v.ownBlock=some k->W'.heap[k]? =W.heap[k]?):W'.ownsRow B t z v n xs:=by
 refine⟨h.1,h.2.imp id ?_⟩;rintro⟨g,cap,cur,rfl,h1,h2,h3⟩;exact⟨g,cap,cur,rfl,h1,(hk g rfl).trans h2,h3⟩
def RowI (B:Nat)(W:World)(v:Value)(l:List Int):Prop:=W.ownsRow B 3 1 v l.length (l.map (Value.int .i64))
theorem RowI.nil (B:Nat)(W:World):RowI B W (.slice none 0 0) []:=World.ownsRow_nil _ _ _ _
theorem RowI.step {B:Nat}{W W':World}{v:Value}{l:List Int}(h:RowI B W v l)(hb:Below W.heap.size W W'):RowI B W' v l:=xzbh h fun k hk=>hb.block k (World.ownsRow.lt h k hk).2
theorem RowI.ints {B:Nat}{W:World}{v:Value}{l:List Int}(h:RowI B W v l):IntsV W l v:=by
 rcases h.2 with⟨rfl,h1⟩|⟨g,cap,cur,rfl,h2,h3,h4,h5,h6,h7⟩
 ·obtain rfl:=List.eq_nil_of_length_eq_zero h1
  exact IntsV.nil W
 ·refine⟨_,cap,rfl,⟨h4,by unfold maxLen at h5;omega⟩,fun _=>⟨g,0,rfl,(Array.getElem?_eq_some_iff.1 h3).1,fun i hi=>?_⟩⟩
  have:=World.ownsRow.cells h (g:=g) rfl i (.int .i64 l[i]) (by simp [hi])
  rwa [Addr.add_lit]at this
theorem xzdh:(Tryz.prog.info? 3).map (fun i=>(i.zero,i.size,i.bytes))=some (some (.int .i64 0),1,8):=by kernel_rfl
theorem RowI.push {B:Nat}{W:World}{v:Value}{l:List Int}(h:RowI B W v l)(hB:B<=W.heap.size)(p:Int)(hl:l.length+1<=1099511627776):
 ∃ v' W',(Builtin.append_ #[26,26] 26 #[v,.slice (some ⟨W.heap.size,0,none⟩) 1 1]).run Tryz.prog (W.alloc (.cells #[.int .i64 p] 3))=.ok v' W'/\RowI B W' v' (l++[p])/\Below B W W':=by
 obtain⟨i0,hi0,hz0,hz1,hz2⟩:=info_parts xzdh;have hUB:Below W.heap.size W (W.alloc (.cells #[.int .i64 p] 3)):=(Below.refl _ _).alloc (Nat.le_refl _) _;have h1:=h.step hUB;have hnew:=BlkIs.new W 3 #[.int .i64 p]
 obtain⟨v',W',hr,hown,hgr,_,_⟩:=run_append_own_at (P:=Tryz.prog) (w:=W.alloc (.cells #[.int .i64 p] 3)) B 26 26 3 i0 (.int .i64 0) 1 8 Tryz.underlying26 hi0 hz0 hz1 hz2 rfl (by decide) v l.length _ h1
  ⟨W.heap.size,0,none⟩ 1 1 [.int .i64 p] rfl (fun j u hu=>by
   rw [Addr.add_lit,Nat.zero_add];have:=hnew.range j u (by simpa using hu)
   simpa using this) (by simp [Value.oneCell']) (by unfold maxLen;omega) (by omega) (by have:=hUB.size;omega)
 refine⟨v',W',hr,?_,(hUB.mono hB).grown hgr (by have:=hUB.size;omega) (fun q hq=>(World.ownsRow.lt h1 q hq).1)⟩;unfold RowI;rw [List.map_append,List.length_append];exact hown
theorem yzag {P:Program}{op:Oper}{a:Act}{w:World}{K:Act->World->Prop}{Q:Exit->Act->World->Prop}(s x:Operand)(t t2:TypeId)(hop:op.op=Op.call {callee:=Callee.builtin Builtin.append,args:=#[s,x],argTypes:=#[t,t2]}){v xv v':Value}{w':World}(hs:a.eval s=v)(hx:a.eval x=xv)
 (hrun:(Builtin.append_ #[t,t2] op.type #[v,xv]).run P w=.ok v' w')(h:K (a.put op.dst v') w'):op.wp P a w K Q:=by
 unfold Oper.wp execOp;simp only [hop,resolve,invoke,builtin,Sem.run_bind,Sem.run_pure,Result.andThen_ok,List.map_toArray,List.map_cons,List.map_nil,hs,hx,hrun];exact h
section
variable {P : Program} {op : Oper} {ops : Array Oper} {rest : List Oper} {a : Act} {w : World} {Q : Exit → Act → World → Prop}
theorem xzan (hg:op.guard=none)(s x:Operand)(t t2:TypeId)(hop:op.op=Op.call {callee:=Callee.builtin Builtin.append,args:=#[s,x],argTypes:=#[t,t2]}){v xv v':Value}{w':World}(hs:a.eval s=v)(hx:a.eval x=xv)
 (hrun:(Builtin.append_ #[t,t2] op.type #[v,xv]).run P w=.ok v' w')(h:wpList P ops Q rest (a.put op.dst v') w'):wpList P ops Q (op::rest) a w:=
 wpList_plain hg fun _ hK=>yzag s x t t2 hop hs hx hrun (hK _ _ h)
end
def Nf.setAt (N:Nf)(p:Int):Nat->Bool:=N.sets.getD p.toNat fun _=>false
def beginL (N:Nf)(c:Nat):List Int:=N.first.filter fun p=>N.setAt p c
end
section
open Go.RowKit
attribute [local irreducible] FreeW
set_option maxRecDepth 20000 in
set_option maxHeartbeats 2000000 in
theorem yzfe (l r:List Int)(v v':Value)(w:World)(hl:IntsV w l v)(hr:IntsV w r v'):Calls Tryz.prog 15 #[v,v'] w fun e w'=>e=.returned (.bool (decide (l=r)))/\Below w.heap.size w w':=by
 obtain⟨A,c,rfl,hc,hs⟩:=hl;obtain⟨A',c',rfl,hc',hs'⟩:=hr;have HS:=zd hs;have HS':=zd hs';clear hs hs'
 by_cases hlen:l.length=r.length
 case neg=>
  have e0:((l.length:Int) != (r.length:Int))=true:=by simp;omega
  have HF:=zd (show decide (l=r)=false by simp;intro e;exact hlen (by rw [e]));clear hlen
  go_enter Tryz.func15,Tryz.ntmps15
  go_wp2;go_ret;exact⟨by rw [HF.out];rfl,Below.refl _ _⟩
 have e0:((l.length:Int) != (r.length:Int))=false:=by simp;omega
 have HL:=zd hlen;obtain⟨R,hR⟩:∃ R,R=decide (l=r):=⟨_,rfl⟩;rw [<-hR];have HR:=zd hR;clear hlen hR
 go_enter Tryz.func15,Tryz.ntmps15
 go_wp2
 go_loopw [5] (fun i wr=>∃ j:Nat,i=.int .i64 j/\j<=l.length/\Hid (Below w.heap.size w wr/\l.take j=r.take j)) (fun i _=>l.length - (intOf i).toNat)
 case atStart=>exact⟨0,rfl,Nat.zero_le _,zd ⟨Below.refl _ _,rfl⟩⟩
 case round=>
  obtain⟨j,rfl,hj,HH⟩:=hrel
  by_cases hp:j<l.length
  ·have hk1:IntKind.i64.wrap ((j:Int)+1)=((j+1:Nat):Int):=by rw [IntKind.wrap_i64];omega
   have hdl:decide ((j:Int)<(l.length:Int))=true:=by simp;omega
   have hp':j<r.length:=by rw [<-HL.out];exact hp
   have hi1:(j:Int)<(l.length:Int):=by omega
   have hi2:(j:Int)<(r.length:Int):=by omega
   obtain⟨b,o,rfl,hlt,hg⟩:=HS.out (by intro e;rw [e]at hp;simp at hp);obtain⟨b',o',rfl,hlt',hg'⟩:=HS'.out (by intro e;rw [e]at hp';simp at hp');have HX:=zd (fun(u:World) (hu:Below w.heap.size w u)=>(hu.cell (p:=⟨b,o+j,none⟩) hlt).trans (hg j hp));have HY:=zd (fun(u:World) (hu:Below w.heap.size w u)=>(hu.cell (p:=⟨b',o'+j,none⟩) hlt').trans (hg' j hp'));have ht1:=List.take_succ_eq_append_getElem hp;have ht2:=List.take_succ_eq_append_getElem hp'
   have hne:l[j]≠r[j]->l≠r:=fun h e=>h (by subst e;rfl)
   clear hg hg';generalize l[j]=x at*;generalize r[j]=y at*;have HT:=zd (And.intro ht1 (And.intro ht2 hne));clear ht1 ht2 hne hp'
   by_cases hxy:x=y
   ·have e1:(x != y)=false:=by simp [hxy]
    have HN:=zd (show l.take (j+1)=r.take (j+1)by rw [HT.out.1,HT.out.2.1,HH.out.2,hxy]);clear hxy
    go_wp2_with fail
    refine xzbp 26 (fun u=>Hid (Below w.heap.size w u)) (by kernel_rfl) (by kernel_rfl) rfl (zd HH.out.1.drew) (fun u u' h hb=>zd (h.out.trans (hb.mono h.out.size))) ?_
    repeat
     refine xzaf fun K hK=>?_
     (first
      |skip)
     go_simp
     apply Exists.intro
     refine⟨fun u h1=>?_,hK _ ?_⟩
     ·have y0:=HX.out u h1.out
      have y1:=HY.out u h1.out;unfold freeAt;go_simp
      first
       |exact xzar
       |(apply xzah
         first
          |fail
         )
     clear hK K
    refine xzdf ?_;intro u hC hb2;have HC:=zd hC.out;clear hC hb2;go_wp2;exact⟨⟨j+1,rfl,hp,zd ⟨HC.out,HN.out⟩⟩,by simp [intOf];omega⟩
   ·have e1:(x != y)=true:=by simp [hxy]
    have HN:=zd (show R=false by rw [HR.out];simp;exact HT.out.2.2 hxy);clear hxy
    go_wp2_with fail
    refine xzbp 26 (fun u=>Hid (Below w.heap.size w u)) (by kernel_rfl) (by kernel_rfl) rfl (zd HH.out.1.drew) (fun u u' h hb=>zd (h.out.trans (hb.mono h.out.size))) ?_
    repeat
     refine xzaf fun K hK=>?_
     (first
      |skip)
     go_simp
     apply Exists.intro
     refine⟨fun u h1=>?_,hK _ ?_⟩
     ·have y0:=HX.out u h1.out
      have y1:=HY.out u h1.out;unfold freeAt;go_simp
      first
       |exact xzar
       |(apply xzah
         first
          |fail
         )
     clear hK K
    refine xzdf ?_;intro u hC hb2;have HC:=zd hC.out;clear hC hb2;go_wp2;go_ret;exact⟨by rw [HN.out];rfl,HC.out⟩
  ·have hdl:decide ((j:Int)<(l.length:Int))=false:=by simp;omega
   have HN:=zd (show R=true by
    have:=HH.out.2;rw [List.take_of_length_le (by omega),List.take_of_length_le (by rw [<-HL.out];omega)]at this
    rw [HR.out,this];simp)
   go_wp2;go_ret;exact⟨by rw [HN.out];rfl,HH.out.1⟩
end
section
open Go.RowKit
theorem xzay {k:Int}{m:Nat->Bool}{n:Nat}{lo hi:Int}(h:okNode k m n lo hi=true):
 (k=0/\n=0)\/(k=1/\n=0)\/(k=2/\2<=n)\/(k=3/\2<=n)\/(k=4/\n=1/\0<=lo/\lo<=64/\(hi= -1\/lo<=hi/\hi<=64)):=by
 unfold okNode at h
 split at h
 ·cases h
 ·split at h
  ·rename_i h2;have:=of_decide_eq_true h;omega
  ·split at h
   ·rename_i h2;have:=of_decide_eq_true h;omega
   ·split at h
    ·have:=of_decide_eq_true h;omega
    ·cases h
theorem xzcz {k:Int}{m:Nat->Bool}{l:List Tree}{lo hi:Int}(h:Tree.ok (.node k m l lo hi)=true):(∀ t∈l,t.ok=true)/\okNode k m l.length lo hi=true:=by
 unfold Tree.ok at h;rw [Bool.and_eq_true,xzha]at h;exact h
mutual
def Tree.void:Tree->Bool
 | .node k m l lo _=>if k=0 then false else if k=1 then setEq m (fun _=>false)else if k=2 then anyVoid l else if k=3 then allVoid l else(decide (0<lo)&&headVoid l)
def anyVoid:List Tree->Bool
 |[]=>false
 |t::r=>t.void||anyVoid r
def allVoid:List Tree->Bool
 |[]=>true
 |t::r=>t.void&&allVoid r
def headVoid:List Tree->Bool
 |[]=>false
 |t::_=>t.void
end
theorem xzgb:∀ {l:List Tree},anyVoid l=true↔ ∃ t∈l,t.void=true
 |[]=>by simp [anyVoid]
 |a::l=>by simp only [anyVoid,Bool.or_eq_true,List.mem_cons,exists_eq_or_imp,xzgb (l:=l)]
theorem allVoid_iff:∀ {l:List Tree},allVoid l=true↔ ∀ t∈l,t.void=true
 |[]=>by simp [allVoid]
 |a::l=>by simp only [allVoid,Bool.and_eq_true,List.mem_cons,forall_eq_or_imp,allVoid_iff (l:=l)]
theorem xzbj {l:List Tree}{i:Nat}(h:i<l.length){t:Tree}(ht:t∈l.take (i+1)):t∈l.take i\/t=l[i]:=by
 rw [<-List.take_append_getElem h,List.mem_append]at ht
 rcases ht with ht|ht
 ·exact .inl ht
 ·exact .inr (by simpa using ht)
set_option maxHeartbeats 4000000 in
theorem xzsw:∀ (T:Tree) (v:Value) (w:World),T.ok=true->T.At w v->Calls Tryz.prog 57 #[v] w fun e w'=>e=.returned (.bool T.void)/\Below w.heap.size w w':=by
 intro T
 induction T using Tree.ind with
 |h k m l lo hi ih=>
  intro v w hok hat;obtain⟨A,c,rfl,hc,hs⟩:=hat.open;obtain⟨hoks,hn⟩:=xzcz hok;have hkind:=xzay hn;have HS:=zd hs;have IH:=zd (fun t ht v w=>ih t ht v w (hoks t ht));have hbox:=BlkIs.new w 49 (reL k m A l.length c lo hi).toArray;have hB0:Below w.heap.size w (w.alloc (.cells (reL k m A l.length c lo hi).toArray 49)):=(Below.refl _ _).alloc (Nat.le_refl _) _;have HB0:=zd (And.intro hB0 hbox);clear hat hs ih hok hoks hn hbox hB0;unfold reV reL at*;unfold Tree.void
  rcases hkind with⟨rfl,hl⟩|⟨rfl,hl⟩|⟨rfl,hl⟩|⟨rfl,hl⟩|⟨rfl,hl,hlo⟩
  ·rw [if_pos rfl]
   go_enter Tryz.func57,Tryz.ntmps57
   go_wp2;go_ret;exact⟨rfl,(Below.refl _ _).alloc (Nat.le_refl _) _⟩
  ·rw [if_neg (by decide),if_pos rfl]
   have he:=xzgp m (fun _=>false);rw [xzcy]at he;unfold setV at he;generalize setEq m (fun _=>false)=q at*
   go_enter Tryz.func57,Tryz.ntmps57
   go_wp2;go_ret;exact⟨rfl,(Below.refl _ _).alloc (Nat.le_refl _) _⟩
  ·rw [if_neg (by decide),if_neg (by decide),if_pos rfl]
   obtain⟨R,hR⟩:∃ R,anyVoid l=R:=⟨_,rfl⟩;rw [hR];have HR:=zd hR;clear hR
   go_enter Tryz.func57,Tryz.ntmps57
   go_wp2
   go_loopw [3] (fun i wr=>∃ j:Nat,i=.int .i64 j/\j<=l.length/\Hid (Below w.heap.size w wr/\BlkIs wr w.heap.size 49 (reL 2 m A l.length c lo hi).toArray/\∀ t∈l.take j,t.void=false)) (fun i _=>l.length - (intOf i).toNat)
   case atStart=>exact⟨0,rfl,Nat.zero_le _,zd ⟨HB0.out.1,HB0.out.2,by simp⟩⟩
   case round=>
    obtain⟨j,rfl,hj,HH⟩:=hrel;obtain⟨hb,hbl,hall⟩:=HH.out;have HB:=zd HH.out;unfold reL at hbl;obtain⟨_,_,_,_,_,c5,_,_⟩:=hbl.eight
    by_cases hp:j<l.length
    ·have hdl:decide ((j:Int)<(l.length:Int))=true:=by simp;omega
     obtain⟨b,o,rfl,hbw,hg⟩:=HS.out (by intro e;subst e;simp at hp);obtain⟨cs,hcat,hlen,hrow⟩:=hg j hp;obtain⟨A',n',c',rfl⟩:=hcat.eight;obtain⟨r0,r1,r2,r3,r4,r5,r6,r7⟩:=xzai hrow hb;have hcall:=IH.out _ (List.getElem_mem hp) _ wr (hcat.step hb)
     have hk1:IntKind.i64.wrap ((j:Int)+1)=((j+1:Nat):Int):=by rw [IntKind.wrap_i64];omega
     by_cases hx:(l[j]).void=true
     ·rw [hx]at hcall
      have HC:=zd hcall;have HA:=zd (show R=true by rw [<-HR.out,xzgb];exact⟨_,List.getElem_mem hp,hx⟩);clear hrow hcat hcall hg hb hbl hall hx
      go_wp2_with fail
      refine HC.out.mono ?_;rintro e w1 ⟨rfl,hb1⟩;have HB1:=zd hb1;clear hb1;go_wp2;go_ret;rw [HA.out];exact⟨rfl,HB.out.1.trans (HB1.out.mono HB.out.1.size)⟩
     ·have hx2:(l[j]).void=false:=by simpa using hx
      rw [hx2]at hcall;have HC:=zd hcall;have HA:=zd (show ∀ t∈l.take (j+1),t.void=false from fun t ht=>(xzbj hp ht).elim (hall t) (fun e=>e▸hx2));clear hrow hcat hcall hg hb hbl hall hx hx2
      go_wp2_with fail
      refine HC.out.mono ?_;rintro e w1 ⟨rfl,hb1⟩;have HB1:=zd hb1;clear hb1;go_wp2;exact⟨⟨j+1,by go_num,hp,zd ⟨HB.out.1.trans (HB1.out.mono HB.out.1.size),HB.out.2.1.step HB1.out,HA.out⟩⟩,by simp [intOf];omega⟩
    ·have hdl:decide ((j:Int)<(l.length:Int))=false:=by simp;omega
     obtain rfl:j=l.length:=by omega
     rw [List.take_length]at hall
     have HA:=zd (show R=false by
      rw [<-HR.out,Bool.eq_false_iff];intro h;rw [xzgb]at h;obtain⟨t,ht,hv⟩:=h
      rw [hall t ht]at hv;cases hv)
     clear hall hbl;go_wp2;go_ret;rw [HA.out];exact⟨rfl,hb⟩
  ·rw [if_neg (by decide),if_neg (by decide),if_neg (by decide),if_pos rfl]
   obtain⟨R,hR⟩:∃ R,allVoid l=R:=⟨_,rfl⟩;rw [hR];have HR:=zd hR;clear hR
   go_enter Tryz.func57,Tryz.ntmps57
   go_wp2
   go_loopw [4] (fun i wr=>∃ j:Nat,i=.int .i64 j/\j<=l.length/\Hid (Below w.heap.size w wr/\BlkIs wr w.heap.size 49 (reL 3 m A l.length c lo hi).toArray/\∀ t∈l.take j,t.void=true)) (fun i _=>l.length - (intOf i).toNat)
   case atStart=>exact⟨0,rfl,Nat.zero_le _,zd ⟨HB0.out.1,HB0.out.2,by simp⟩⟩
   case round=>
    obtain⟨j,rfl,hj,HH⟩:=hrel;obtain⟨hb,hbl,hall⟩:=HH.out;have HB:=zd HH.out;unfold reL at hbl;obtain⟨_,_,_,_,_,c5,_,_⟩:=hbl.eight
    by_cases hp:j<l.length
    ·have hdl:decide ((j:Int)<(l.length:Int))=true:=by simp;omega
     obtain⟨b,o,rfl,hbw,hg⟩:=HS.out (by intro e;subst e;simp at hp);obtain⟨cs,hcat,hlen,hrow⟩:=hg j hp;obtain⟨A',n',c',rfl⟩:=hcat.eight;obtain⟨r0,r1,r2,r3,r4,r5,r6,r7⟩:=xzai hrow hb;have hcall:=IH.out _ (List.getElem_mem hp) _ wr (hcat.step hb)
     have hk1:IntKind.i64.wrap ((j:Int)+1)=((j+1:Nat):Int):=by rw [IntKind.wrap_i64];omega
     by_cases hx:(l[j]).void=true
     ·rw [hx]at hcall
      have HC:=zd hcall;have HA:=zd (show ∀ t∈l.take (j+1),t.void=true from fun t ht=>(xzbj hp ht).elim (hall t) (fun e=>e▸hx));clear hrow hcat hcall hg hb hbl hall hx
      go_wp2_with fail
      refine HC.out.mono ?_;rintro e w1 ⟨rfl,hb1⟩;have HB1:=zd hb1;clear hb1;go_wp2;exact⟨⟨j+1,by go_num,hp,zd ⟨HB.out.1.trans (HB1.out.mono HB.out.1.size),HB.out.2.1.step HB1.out,HA.out⟩⟩,by simp [intOf];omega⟩
     ·have hx2:(l[j]).void=false:=by simpa using hx
      rw [hx2]at hcall;have HC:=zd hcall
      have HA:=zd (show R=false by
       rw [<-HR.out,Bool.eq_false_iff];intro h;rw [allVoid_iff]at h
       rw [h _ (List.getElem_mem hp)]at hx2;cases hx2)
      clear hrow hcat hcall hg hb hbl hall hx hx2
      go_wp2_with fail
      refine HC.out.mono ?_;rintro e w1 ⟨rfl,hb1⟩;have HB1:=zd hb1;clear hb1;go_wp2;go_ret;rw [HA.out];exact⟨rfl,HB.out.1.trans (HB1.out.mono HB.out.1.size)⟩
    ·have hdl:decide ((j:Int)<(l.length:Int))=false:=by simp;omega
     obtain rfl:j=l.length:=by omega
     rw [List.take_length]at hall;have HA:=zd (show R=true by rw [<-HR.out,allVoid_iff];exact hall);clear hall hbl;go_wp2;go_ret;rw [HA.out];exact⟨rfl,hb⟩
  ·rw [if_neg (by decide),if_neg (by decide),if_neg (by decide),if_neg (by decide)]
   obtain⟨t,rfl⟩:∃ t,l=[t]:=by
    match l,hl with
    |[t],_=>exact⟨t,rfl⟩
   obtain⟨b,o,rfl,hbw,hg⟩:=HS.out (by simp);obtain⟨cs,hcat,hlen,hrow⟩:=hg 0 (by simp);obtain⟨A',n',c',rfl⟩:=hcat.eight;rw [show o+0*8=o by omega]at hrow;simp only [List.getElem_cons_zero]at hcat hrow;obtain⟨r0,r1,r2,r3,r4,r5,r6,r7⟩:=xzai hrow (Below.refl _ _);have hcall:=IH.out t (by simp) _ _ (hcat.step HB0.out.1)
   have hhv:headVoid [t]=t.void:=by unfold headVoid;rfl
   rw [hhv];unfold reL at hcall;generalize t.void=q at*;have HC:=zd hcall;clear hcall hrow hcat hg hc hlen hl hhv
   by_cases h0:0<lo
   ·have hd:decide (lo>0)=true:=by simp;omega
    rw [show decide (0<lo)=true by simp [h0],Bool.true_and]
    go_enter Tryz.func57,Tryz.ntmps57
    go_wp2_with fail
    refine HC.out.mono ?_;rintro e w1 ⟨rfl,hb1⟩;have HB1:=zd hb1;clear hb1;go_wp2;go_ret;exact⟨rfl,HB0.out.1.trans (HB1.out.mono HB0.out.1.size)⟩
   ·have hd:decide (lo>0)=false:=by simp;omega
    rw [show decide (0<lo)=false by simp;omega,Bool.false_and]
    go_enter Tryz.func57,Tryz.ntmps57
    go_wp2;go_ret;exact⟨rfl,(Below.refl _ _).alloc (Nat.le_refl _) _⟩
end
end Go.Proofs.YtgbljnnmhmlifaaGreatDoor
