/-
 THE TAG BEHIND A TEXT IS THE FIRST RULE WHOSE TEXT IT IS; where a text of a rule begins so, a place is left (pure). Condition: each rule's nodes may be, at most 40 rules, at most 2000 places.
-/
import Derived.Test.YthoaaginadjaoaaQG30
import Derived.Test.YthoaaginadjaoaaQG29
import Derived.Test.YthoaaginadjaoaaQG04
import Derived.Test.YthoaaginadjaoaaQG11
import Derived.Test.YthoaaginadjaoaaQG09
namespace Go.Proofs.Ythoaaginadjaoaa
section
open Go.RowKit
theorem xzsh (l:List Tree)(hok:∀ t∈l,t.ok=true)(h40:l.length<=40)(hp:(buildN l).sets.length<=2000):(buildN l).may=true:=by
 obtain⟨ps,h⟩:=xzsg l hok;have e:buildN l=⟨(Bs.all Bs.none 0 l).S.sets,(Bs.all Bs.none 0 l).R,(Bs.all Bs.none 0 l).F,(Bs.all Bs.none 0 l).S.follow,(Bs.all Bs.none 0 l).E,(Bs.all Bs.none 0 l).em⟩:=rfl;rw [e]at hp ⊢;unfold Nf.may Nf.sized Nf.rest okR;simp only [Bool.and_eq_true,decide_eq_true_eq,beq_iff_eq,List.all_eq_true];refine⟨⟨⟨hp,h.lr⟩,h.ok.1,h.le⟩,fun r hr=>?_,fun r hr=>h.ok.2 r hr,h.fr,?_⟩
 ·have:=h.rr r hr;omega
 ·have hpl:=h.pl
  rcases h.em with⟨e1,_⟩|⟨k,hk,e1,_⟩<;>omega
theorem xzkg (l:List Tree)(hok:∀ t∈l,t.ok=true):(buildN l).sets.length=sumN l:=by
 have:∀ (l:List Tree) (x:Bs) (i:Int),x.S.Ok->(∀ t∈l,t.ok=true)->(Bs.all x i l).S.sets.length=x.S.sets.length+sumN l:=by
  intro l
  induction l with
  |nil=>intro x i _ _;simp [Bs.all,sumN]
  |cons t r ih=>
   intro x i hx h;obtain⟨o1,_,o3⟩:=xzbj t x.S (xzcw t (h t (by simp))) hx;simp only [Bs.all,sumN];rw [ih _ _ o1 fun y hy=>h y (by simp [hy])]
   show(partP t x.S).1.sets.length+_=_
   omega
 have:=this l Bs.none 0 mk0_ok hok
 simpa [buildN,Bs.none]using this
theorem Rch.mid {G:Gr}{s:List UInt8}{a i b m x:Nat}(h:Rch G s a i b m)(h1:i<=x)(h2:x<=m):∃ q,Rch G s a i q x/\Rch G s q x b m:=by
 induction h with
 |refl=>
  obtain rfl:x=i:=by omega
  exact⟨_,.refl,.refl⟩
 | @step q m r h3 h4 h5 ih=>
  by_cases hx:x=m+1
  ·subst hx
   exact⟨r,.step h3 h4 h5,.refl⟩
  ·obtain⟨y,g1,g2⟩:=ih (by omega)
   exact⟨y,g1,.step g2 h4 h5⟩
end
section
open Go.RowKit
end
section
open Go.RowKit
attribute [local irreducible] FreeW
end
section
open Go.RowKit
end
section
open Go.RowKit
end
section
open Go.RowKit
attribute [local irreducible] FreeW
def Great8 (l:List Tree)(w:World):Ending->World->Prop:=fun e w'=>(∃ b:Bool,e=.returned (.bool b)/\(b=false->l.length<=45/\(∀ t∈l,t.great=false/\t.heavy=false)/\((∀ t∈l,t.ok=true/\t.nodes<=1048576)->sumP l<=150\/2000<sumP l)))/\Below w.heap.size w w'
set_option maxRecDepth 20000 in
set_option maxHeartbeats 8000000 in
theorem xzpk (l:List Tree)(v:Value)(w:World)(hat:TreesV w l v):Calls Try.prog 5 #[v] w (Great8 l w):=by
 obtain⟨A,c,rfl,hc,hs⟩:=hat;have HS:=zd hs;clear hs
 go_enter Try.func5,Try.ntmps5
 go_wp2
 go_loopw [3,4] (fun n i wr=>∃ (j:Nat) (z:Int),n=.int .i64 z/\i=.int .i64 j/\j<=l.length/\Hid (Below w.heap.size w wr/\(∀ t∈l.take j,t.great=false/\t.heavy=false)/\(l.length<=45->(∀ t∈l.take j,t.ok=true/\t.nodes<=1048576)->z=sumP (l.take j)))) (fun _ i _=>l.length - (intOf i).toNat)
 case atStart=>exact⟨0,0,rfl,rfl,Nat.zero_le _,zd ⟨Below.refl _ _,fun t ht=>by simp at ht,fun _ _=>rfl⟩⟩
 case round=>
  obtain⟨j,z,rfl,rfl,hj,HH⟩:=hrel
  by_cases hp:j<l.length
  ·have hdl:decide ((j:Int)<(l.length:Int))=true:=by simp;omega
   obtain⟨b,o,rfl,hbw,hg⟩:=HS.out (by intro e;subst e;simp at hp);obtain⟨A',n',c',hcat,hrow⟩:=rangeT hg hp;obtain⟨r0,r1,r2,r3,r4,r5,r6,r7⟩:=xzaj hrow HH.out.1
   have hk1:IntKind.i64.wrap ((j:Int)+1)=((j+1:Nat):Int):=by rw [IntKind.wrap_i64];omega
   have hG:=xzld l[j] _ wr (hcat.step HH.out.1);have HV:=zd (fun u (hu:Below w.heap.size w u)=>xzse l[j] _ u (hcat.step hu));have HP:=zd (fun u (hu:Below w.heap.size w u)=>xzka l[j] _ u (hcat.step hu));have HQ:=zd (fun u (hu:Below w.heap.size w u) (h1:l[j].ok=true) (h2:l[j].nodes<=1048576)=>xzbt l[j] h1 h2 _ u (hcat.step hu));have HR:=zd (fun(u:World) (hu:Below w.heap.size w u)=>xzaj hrow hu)
   have hmem:∀ t∈l.take (j+1),t∈l.take j\/t=l[j]:=fun t ht=>xzfd hp ht
   have htk:=List.take_succ_eq_append_getElem hp;have HM:=zd (And.intro hmem htk)
   have HP2:=zd (show ∀ u,Below w.heap.size w u->Calls Try.prog 8 #[.agg (reL l[j].kind l[j].set A' n' c' l[j].lo l[j].hi).toArray] u fun e w'=>(∃ y:Int,e=.returned (.int .i64 y)/\(l[j].ok=true/\l[j].nodes<=1048576->y=l[j].places))/\Below u.heap.size u w' from fun u hu=>by
    by_cases hx:l[j].ok=true/\l[j].nodes<=1048576
    ·exact(HQ.out u hu hx.1 hx.2).mono fun e w' ⟨h1,h2⟩=>⟨⟨_,h1,fun _=>rfl⟩,h2⟩
    ·exact(HP.out u hu).mono fun e w' ⟨⟨y,h1⟩,h2⟩=>⟨⟨y,h1,fun h=>absurd h hx⟩,h2⟩)
   have HG:=zd hG
   have hsum:IntKind.i64.wrap (z+l[j].places)=z+l[j].places\/ ¬ (l.length<=45/\∀ t∈l.take (j+1),t.ok=true/\t.nodes<=1048576):=by
    by_cases hx:l.length<=45/\∀ t∈l.take (j+1),t.ok=true/\t.nodes<=1048576
    ·left
     have hz:=HH.out.2.2 hx.1 fun t ht=>hx.2 t (by rw [htk];exact List.mem_append_left _ ht)
     have h1:=xzcc (l.take j)
     have h2:=sumP_pos (l.take j) fun t ht=>(hx.2 t (by rw [htk];exact List.mem_append_left _ ht)).1
     have h3:=xzbg l[j];have h4:=xzav l[j] (hx.2 _ (by rw [htk];exact List.mem_append_right _ (List.mem_singleton.2 rfl))).1
     have h5:(l.take j).length<=45:=by rw [List.length_take];omega
     rw [IntKind.wrap_i64];omega
    ·exact .inr hx
   have HSM:=zd hsum;have HIN:=zd (List.getElem_mem hp);unfold reL at HP2 HV HG;clear hcat hrow hG hg HP HQ hmem htk hsum;generalize(l[j]).kind=kk at*;generalize(l[j]).set=mm at*;generalize(l[j]).lo=ll at*;generalize(l[j]).hi=hh at*;obtain⟨gb,hgb⟩:∃ gb,(l[j]).great=gb:=⟨_,rfl⟩;obtain⟨vb,hvb⟩:∃ vb,(l[j]).heavy=vb:=⟨_,rfl⟩;rw [hgb]at HG;rw [hvb]at HV;have HGV:=zd (And.intro hgb hvb);clear hgb hvb
   cases gb with
   |true=>
    go_wp2_with fail
    refine HG.out.mono ?_;rintro e w1 ⟨rfl,hb1⟩;have HB1:=zd (HH.out.1.trans (hb1.mono HH.out.1.size));clear hb1;go_wp2;go_ret;exact⟨⟨true,rfl,fun h=>by cases h⟩,HB1.out⟩
   |false=>
    go_wp2_with fail
    refine HG.out.mono ?_;rintro e w1 ⟨rfl,hb1⟩;have hB1:=HH.out.1.trans (hb1.mono HH.out.1.size);clear hb1 r0 r1 r2 r3 r4 r5 r6 r7;obtain⟨r0,r1,r2,r3,r4,r5,r6,r7⟩:=HR.out w1 hB1;have HB1:=zd hB1;clear hB1
    cases vb with
    |true=>
     go_wp2_with fail
     refine(HV.out _ HB1.out).mono ?_;rintro e w2 ⟨rfl,hb2⟩;have HB2:=zd (HB1.out.trans (hb2.mono HB1.out.size));clear hb2;go_wp2;go_ret;exact⟨⟨true,rfl,fun h=>by cases h⟩,HB2.out⟩
    |false=>
     go_wp2_with fail
     refine(HV.out _ HB1.out).mono ?_;rintro e w2 ⟨rfl,hb2⟩;have hB2:=HB1.out.trans (hb2.mono HB1.out.size);clear hb2 r0 r1 r2 r3 r4 r5 r6 r7;obtain⟨r0,r1,r2,r3,r4,r5,r6,r7⟩:=HR.out w2 hB2;have HB2:=zd hB2;clear hB2
     go_wp2_with fail
     refine(HP2.out _ HB2.out).mono ?_;rintro e w3 ⟨⟨y,rfl,hy⟩,hb3⟩;have HB3:=zd (HB2.out.trans (hb3.mono HB2.out.size));have HY:=zd hy;clear hb3 hy r0 r1 r2 r3 r4 r5 r6 r7;go_wp2;refine⟨⟨j+1,_,rfl,by go_num,hp,zd ⟨HB3.out,fun t ht=>?_,fun h45 hall=>?_⟩⟩,by simp [intOf];omega⟩
     ·rcases HM.out.1 t ht with ht|rfl
      ·exact HH.out.2.1 t ht
      ·exact HGV.out
     ·have hx:=hall l[j] (by rw [HM.out.2];exact List.mem_append_right _ (List.mem_singleton.2 rfl))
      rw [HY.out hx]
      rcases HSM.out with h|h
      ·have hw:wrap64 (z+(l[j]).places)=z+(l[j]).places:=by rw [<-xznx];exact h
       have hz:=HH.out.2.2 h45 fun t ht=>hall t (by rw [HM.out.2];exact List.mem_append_left _ ht)
       rw [HM.out.2,xzbq,<-hz]
       first
        |exact h
        |exact hw
      ·exact absurd ⟨h45,hall⟩ h
  ·have hdl:decide ((j:Int)<(l.length:Int))=false:=by simp;omega
   obtain rfl:j=l.length:=by omega
   have HE:=HH.out;rw [List.take_length]at HE;have HX:=zd HE;clear HE
   by_cases h45:45<l.length
   ·have q1:decide ((l.length:Int)>45)=true:=by simp;omega
    have q2:decide ((45:Int)<(l.length:Int))=true:=by simp;omega
    go_wp2;go_ret;exact⟨⟨true,rfl,fun h=>by cases h⟩,HX.out.1⟩
   have q1:decide ((l.length:Int)>45)=false:=by simp;omega
   have q2:decide ((45:Int)<(l.length:Int))=false:=by simp;omega
   by_cases h150:150<z
   ·have q3:decide (z>150)=true:=by simp;omega
    have q4:decide (150<z)=true:=by simp;omega
    by_cases h2000:z<=2000
    ·have q5:decide (z<=2000)=true:=by simp;omega
     go_wp2;go_ret;exact⟨⟨true,rfl,fun h=>by cases h⟩,HX.out.1⟩
    ·have q5:decide (z<=2000)=false:=by simp;omega
     go_wp2;go_ret;exact⟨⟨false,rfl,fun _=>⟨by omega,HX.out.2.1,fun h=>by have:=HX.out.2.2 (by omega) h;omega⟩⟩,HX.out.1⟩
   ·have q3:decide (z>150)=false:=by simp;omega
    have q4:decide (150<z)=false:=by simp;omega
    go_wp2;go_ret;exact⟨⟨false,rfl,fun _=>⟨by omega,HX.out.2.1,fun h=>by have:=HX.out.2.2 (by omega) h;omega⟩⟩,HX.out.1⟩
def mayL (l:List Tree):Bool:=l.all (fun t=>t.may)&&(decide (1<=l.length)&&decide (l.length<=40))
set_option maxRecDepth 20000 in
set_option maxHeartbeats 8000000 in
theorem xzuv (l:List Tree)(v:Value)(w:World)(hat:TreesV w l v):Calls Try.prog 10 #[v] w fun e w'=>e=.returned (.bool (mayL l))/\Below w.heap.size w w':=by
 obtain⟨A,c,rfl,hc,hs⟩:=hat;have HS:=zd hs;obtain⟨R,hR⟩:∃ R,R=mayL l:=⟨_,rfl⟩;rw [<-hR];have HR:=zd hR;clear hs hR
 go_enter Try.func10,Try.ntmps10
 go_wp2
 go_loopw [3] (fun i wr=>∃ (j:Nat),i=.int .i64 j/\j<=l.length/\Hid (Below w.heap.size w wr/\∀ t∈l.take j,t.may=true)) (fun i _=>l.length - (intOf i).toNat)
 case atStart=>exact⟨0,rfl,Nat.zero_le _,zd ⟨Below.refl _ _,fun t ht=>by simp at ht⟩⟩
 case round=>
  obtain⟨j,rfl,hj,HH⟩:=hrel
  by_cases hp:j<l.length
  ·have hdl:decide ((j:Int)<(l.length:Int))=true:=by simp;omega
   obtain⟨b,o,rfl,hbw,hg⟩:=HS.out (by intro e;subst e;simp at hp);obtain⟨A',n',c',hcat,hrow⟩:=rangeT hg hp;obtain⟨r0,r1,r2,r3,r4,r5,r6,r7⟩:=xzaj hrow HH.out.1
   have hk1:IntKind.i64.wrap ((j:Int)+1)=((j+1:Nat):Int):=by rw [IntKind.wrap_i64];omega
   have hG:=xzfv l[j] _ wr (hcat.step HH.out.1);have HM:=zd (fun t (ht:t∈l.take (j+1))=>xzfd hp ht);have HIN:=zd (List.getElem_mem hp);unfold reL at hG;have HG:=zd hG;clear hcat hrow hG hg;generalize(l[j]).kind=kk at*;generalize(l[j]).set=mm at*;generalize(l[j]).lo=ll at*;generalize(l[j]).hi=hh at*;obtain⟨gb,hgb⟩:∃ gb,(l[j]).may=gb:=⟨_,rfl⟩;rw [hgb]at HG;have HGV:=zd hgb;clear hgb
   cases gb with
   |false=>
    have HF:=zd (show R=false by
     rw [HR.out];unfold mayL
     have:l.all (fun t=>t.may)=false:=by
      rw [Bool.eq_false_iff];intro h;have:=List.all_eq_true.1 h _ HIN.out;rw [HGV.out]at this;cases this
     rw [this];rfl)
    go_wp2_with fail
    refine HG.out.mono ?_;rintro e w1 ⟨rfl,hb1⟩;have HB1:=zd (HH.out.1.trans (hb1.mono HH.out.1.size));clear hb1;go_wp2;go_ret;exact⟨by rw [HF.out];rfl,HB1.out⟩
   |true=>
    go_wp2_with fail
    refine HG.out.mono ?_;rintro e w1 ⟨rfl,hb1⟩;have HB1:=zd (HH.out.1.trans (hb1.mono HH.out.1.size));clear hb1;go_wp2;refine⟨⟨j+1,by go_num,hp,zd ⟨HB1.out,fun t ht=>?_⟩⟩,by simp [intOf];omega⟩
    rcases HM.out t ht with ht|rfl
    ·exact HH.out.2 t ht
    ·exact HGV.out
  ·have hdl:decide ((j:Int)<(l.length:Int))=false:=by simp;omega
   obtain rfl:j=l.length:=by omega
   have HE:=HH.out;rw [List.take_length]at HE;have HX:=zd HE
   have HF:=zd (show R=(decide (1<=l.length)&&decide (l.length<=40))by
    rw [HR.out];unfold mayL;have:l.all (fun t=>t.may)=true:=List.all_eq_true.2 HX.out.2
    rw [this];rfl)
   clear HE
   by_cases h1:1<=l.length
   ·have q1:decide ((l.length:Int)>=1)=true:=by simp;omega
    have q2:decide ((1:Int)<=(l.length:Int))=true:=by simp;omega
    by_cases h40:l.length<=40
    ·have q3:decide ((l.length:Int)<=40)=true:=by simp;omega
     have HF2:=zd (show R=true by rw [HF.out,decide_eq_true h1,decide_eq_true h40];rfl);go_wp2;go_ret;exact⟨by rw [HF2.out];rfl,HX.out.1⟩
    ·have q3:decide ((l.length:Int)<=40)=false:=by simp;omega
     have HF2:=zd (show R=false by rw [HF.out,decide_eq_false h40,Bool.and_false]);go_wp2;go_ret;exact⟨by rw [HF2.out];rfl,HX.out.1⟩
   ·have q1:decide ((l.length:Int)>=1)=false:=by simp;omega
    have q2:decide ((1:Int)<=(l.length:Int))=false:=by simp;omega
    have HF2:=zd (show R=false by rw [HF.out,decide_eq_false h1];rfl);go_wp2;go_ret;exact⟨by rw [HF2.out];rfl,HX.out.1⟩
end
section
open Go.RowKit
attribute [local irreducible] FreeW
end
end Go.Proofs.Ythoaaginadjaoaa
