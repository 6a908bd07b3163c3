/-
 WHAT nfa's apart ANSWERS: a contract. Condition: at most 2^20 rows, 2^30 numbers in all.
-/
import Derived.Laws.ResultCell
import Derived.Test.YtdjpphjpnkfeiaaGreatDoorQG22
namespace Go.Proofs.YtdjpphjpnkfeiaaGreatDoor
section
open Go.RowKit
attribute [local irreducible] FreeW textFrame
theorem yzaq (n:Nat)(h:n<=1099511627776)(w:World):(Instr.makeSlice 25 (.int .i64 (n:Nat)) (.int .i64 (n:Nat))).run Tryz.prog w=.ok (.slice (some ⟨w.heap.size,0,none⟩) n n) (w.alloc (.cells (madeCells #[.slice none 0 0] n) 26)):=
 run_make_row' (P:=Tryz.prog) 25 26 (.slice none 0 0) 24 Tryz.underlying25 xzpw rfl .i64 .i64 n (by omega) (by omega) w
def offL (ll:List (List Int))(j:Nat):Nat:=((ll.take j).flatten).length
theorem xzgr (ll:List (List Int))(j:Nat)(h:j<ll.length):offL ll (j+1)=offL ll j+ll[j].length:=by
 unfold offL;rw [List.take_succ_eq_append_getElem h,List.flatten_append,List.length_append];simp
theorem xzvu (ll:List (List Int)):offL ll ll.length=ll.flatten.length:=by unfold offL;rw [List.take_length]
theorem xzpz (ll:List (List Int)):∀ j,offL ll j<=ll.flatten.length:=fun j=>by
 unfold offL;have:=congrArg List.flatten (List.take_append_drop j ll);rw [List.flatten_append]at this;rw [<-this];simp
theorem xzvv (ll:List (List Int)):∀ (i:Nat) (h:i<ll.length) (k:Nat) (hk:k<ll[i].length),ll.flatten[offL ll i+k]? =some ll[i][k]:=fun i h k hk=>by
 have e:=congrArg List.flatten (List.take_append_drop i ll);rw [List.flatten_append,List.drop_eq_getElem_cons h]at e;unfold offL;rw [<-e,List.getElem?_append_right (by omega)];simp only [Nat.add_sub_cancel_left,List.flatten_cons];rw [List.getElem?_append_left hk]
 simp [hk]
set_option maxRecDepth 20000 in
set_option maxHeartbeats 16000000 in
theorem yzar (ll:List (List Int))(v:Value)(w:World)(hv:RowsI w ll v)(hnl:ll.length<=1099511627776)(hall0:ll.flatten.length<=1099511627776):
 Calls Tryz.prog 61 #[v] w fun x w'=>∃ v',x=.returned v'/\RowsI (hide w' (low w.heap.size)) ll v'/\Below w.heap.size w w':=by
 obtain⟨A,c,rfl,hc,hs⟩:=hv;have HS:=zd hs;clear hs;obtain⟨all,hal⟩:∃ all,all=ll.flatten.length:=⟨_,rfl⟩;rw [<-hal]at hall0;have hall:=hall0;have HAL:=zd hal;clear hal
 go_enter Tryz.func61,Tryz.ntmps61
 go_wp2
 go_loopw [3,13] (fun s i wr=>∃ j:Nat,s=.int .i64 ((offL ll j:Nat):Int)/\i=.int .i64 (j:Int)/\j<=ll.length/\Hid (offL ll j<=all/\Below w.heap.size w wr/\wr=w)) (fun _ i _=>ll.length - (intOf i).toNat)
 case atStart=>exact⟨0,by simp [offL],rfl,Nat.zero_le _,zd ⟨by simp [offL],Below.refl _ _,rfl⟩⟩
 case round=>
  obtain⟨j,rfl,rfl,hj,HH0⟩:=hrel;have HH:=zd (And.intro HH0.out.1 HH0.out.2.1);obtain rfl:=HH0.out.2.2;clear HH0
  by_cases hp:j<ll.length
  ·have hk1:IntKind.i64.wrap ((j:Int)+1)=((j+1:Nat):Int):=by rw [IntKind.wrap_i64];omega
   have hdl:decide ((j:Int)<(ll.length:Int))=true:=by simp;omega
   obtain⟨b,o,rfl,hb,hg⟩:=HS.out (by intro e;rw [e]at hp;simp at hp);obtain⟨u,hu1,hu2⟩:=hg j hp;obtain⟨A',c',rfl,_⟩:=hu2.form;have hsc:=xzgr ll j hp;have hle:=xzpz ll (j+1)
   have hle2:offL ll (j+1)<=all:=by rw [HAL.out];exact hle
   have hk2:IntKind.i64.wrap ((offL ll j:Int)+(ll[j].length:Int))=((offL ll (j+1):Nat):Int):=by rw [IntKind.wrap_i64];omega
   have HL:=zd hle2;clear hg hu2 hsc hle hle2;generalize ll[j].length=rl at*;go_wp2;exact⟨⟨j+1,rfl,rfl,hp,zd ⟨HL.out,HH.out.2,by trivial⟩⟩,by simp [intOf];omega⟩
  ·have hdl:decide ((j:Int)<(ll.length:Int))=false:=by simp;omega
   obtain rfl:j=ll.length:=by omega
   have hoff:offL ll ll.length=all:=by rw [HAL.out];exact xzvu ll
   rw [hoff];clear hoff
   go_wp2_with fail
   refine xzaf 6 49 (fun u=>Hid (Below wr.heap.size wr u)) (fun _ u u'=>Below u.heap.size u u')
    (fun i v u=>match i with
     |0=>v=.int .i64 (all:Int)
     |1=>∃ g,v=.slice (some ⟨g,0,none⟩) all all/\BlkIs u g 3 (madeCells #[.int .i64 0] all)/\wr.heap.size<=g
     |2=>v=.slice A ll.length c
     |3=>v=.int .i64 (ll.length:Int)
     |4=>∃ g,v=.slice (some ⟨g,0,none⟩) ll.length ll.length/\BlkIs u g 26 (madeCells #[.slice none 0 0] ll.length)/\wr.heap.size<=g
     |5=>∃ g,v=.slice (some ⟨g,0,none⟩) all all/\BlkIs u g 3 (madeCells #[.int .i64 0] all)/\wr.heap.size<=g
     |_=>True) (by kernel_rfl) (by kernel_rfl) rfl (zd (HH.out.2.drew)) ?_ ?_ ?_ ?_
   ·intro i u u' hix hC hr
    exact zd (hC.out.trans (hr.mono hC.out.size))
   ·intro i j v u u' hix hj hne hv hr
    match i,hix,hne,hv with
    |0,_,_,hv=>exact hv
    |1,_,hne,hv=>
     obtain⟨g,e1,e2,e3⟩:=hv;exact⟨g,e1,e2.step hr,e3⟩
    |2,_,_,hv=>exact hv
    |3,_,_,hv=>exact hv
    |4,_,hne,hv=>
     obtain⟨g,e1,e2,e3⟩:=hv;exact⟨g,e1,e2.step hr,e3⟩
    |5,_,hne,hv=>
     obtain⟨g,e1,e2,e3⟩:=hv;exact⟨g,e1,e2.step hr,e3⟩
    |i+6,hix,_,_=>omega
   ·intro i hix vs u hC hw oq ho
    match i,hix,hw,ho with
    |0,_,hw,ho=>
     simp only [zq,zh]at ho;subst ho;refine⟨rfl,?_⟩;clear hw;simp only [xzaa,tmpsTo];go_simp;exact xzab (Below.refl _ _) rfl
    |1,_,hw,ho=>
     have e0:vs 0=.int .i64 (all:Int):=hw 0 (by omega) (by kernel_rfl);simp only [zq,zh]at ho;subst ho;refine⟨rfl,?_⟩;clear hw;simp only [xzaa,tmpsTo,putT,zr];rw [e0];clear e0;have hmk:=yzai all hall u;go_simp;exact xzab ((Below.refl _ _).alloc (Nat.le_refl _) _) ⟨_,rfl,BlkIs.new _ _ _,hC.out.size⟩
    |2,_,hw,ho=>
     simp only [zq,zh]at ho;subst ho;refine⟨rfl,?_⟩;clear hw;simp only [xzaa,tmpsTo,putT,zr];go_simp;exact xzab (Below.refl _ _) rfl
    |3,_,hw,ho=>
     have e2:vs 2=.slice A ll.length c:=hw 2 (by omega) (by kernel_rfl);simp only [zq,zh]at ho;subst ho;refine⟨rfl,?_⟩;clear hw;simp only [xzaa,tmpsTo,putT,zr];rw [e2];clear e2;go_simp;exact xzab (Below.refl _ _) rfl
    |4,_,hw,ho=>
     have e3:vs 3=.int .i64 (ll.length:Int):=hw 3 (by omega) (by kernel_rfl);simp only [zq,zh]at ho;subst ho;refine⟨rfl,?_⟩;clear hw;simp only [xzaa,tmpsTo,putT,zr];rw [e3];clear e3;have hmk:=yzaq ll.length hnl u;go_simp;exact xzab ((Below.refl _ _).alloc (Nat.le_refl _) _) ⟨_,rfl,BlkIs.new _ _ _,hC.out.size⟩
    |5,_,hw,ho=>
     obtain⟨g,e1,hg1,hg2⟩:∃ g,vs 1=.slice (some ⟨g,0,none⟩) all all/\BlkIs u g 3 (madeCells #[.int .i64 0] all)/\wr.heap.size<=g:=hw 1 (by omega) (by kernel_rfl);simp only [zq,zh]at ho;subst ho;refine⟨rfl,?_⟩;clear hw;simp only [xzaa,tmpsTo,putT,zr];rw [e1];go_simp;exact xzab (Below.refl _ _) ⟨g,rfl,hg1,hg2⟩
    |i+6,hix,_,_=>omega
   intro vs1 u hC hV;obtain⟨g,e1,hg1,hg2⟩:∃ g,vs1 5=.slice (some ⟨g,0,none⟩) all all/\BlkIs u g 3 (madeCells #[.int .i64 0] all)/\wr.heap.size<=g:=hV 5 (by omega);obtain⟨G,e4,hG1,hG2⟩:∃ G,vs1 4=.slice (some ⟨G,0,none⟩) ll.length ll.length/\BlkIs u G 26 (madeCells #[.slice none 0 0] ll.length)/\wr.heap.size<=G:=hV 4 (by omega)
   have hne:g≠G:=fun e=>by
    rw [e]at hg1;have:=hg1.symm.trans hG1
    injection this with this
    injection this with _ this
    cases this
   have H0:=zd (And.intro hg1 (And.intro hG1 (And.intro hg2 (And.intro hG2 hne))));have HCB:=zd hC.out;clear hV hg1 hG1 hg2 hG2 hC;simp only [xzaa,tmpsTo,putT,zr,List.drop_succ_cons,List.drop_zero];rw [e1,e4];clear e1 e4;generalize vs1 0=q0;generalize vs1 1=q1;generalize vs1 2=q2;generalize vs1 3=q3;go_wp2;obtain⟨w0,hw0⟩:∃ w0,w0=wr:=⟨_,rfl⟩;rw [<-hw0]at HCB H0 HS;obtain⟨gz,hgz⟩:∃ gz:Nat->Value,∀ i,gz i=.slice none 0 0:=⟨fun _=>.slice none 0 0,fun _=>rfl⟩
   go_loopw [6,29] (fun s i wz=>∃ (j o':Nat),s=.slice (some ⟨g,o',none⟩) (all - offL ll j) (all - offL ll j)/\i=.int .i64 (j:Int)/\j<=ll.length/\Hid ((offL ll j<all->o'=offL ll j)/\Below w0.heap.size w0 wz/\
    (∃ cs:Array Value,BlkIs wz g 3 cs/\cs.size=all/\∀ k,k<offL ll j->cs[k]? =(ll.flatten[k]?).map (Value.int .i64))/\
    (∃ cs:Array Value,BlkIs wz G 26 cs/\cs.size=ll.length/\∀ (k:Nat) (hk:k<ll.length),k<j->∃ ok,cs[k]? =some (.slice (some ⟨g,ok,none⟩) ll[k].length ll[k].length)/\(ll[k]≠[]->ok=offL ll k)))) (fun _ i _=>ll.length - (intOf i).toNat)
   case atStart=>exact⟨0,0,by simp [offL],rfl,Nat.zero_le _,zd ⟨fun _=>by simp [offL],HCB.out,⟨_,H0.out.1,xzgb _,fun k hk=>by simp [offL]at hk⟩,⟨_,H0.out.2.1,by rw [size_madeCells],fun k _ hk=>by omega⟩⟩⟩
   case round=>
    obtain⟨j,o',rfl,rfl,hj,HH⟩:=hrel
    by_cases hp:j<ll.length
    ·have hk1:IntKind.i64.wrap ((j:Int)+1)=((j+1:Nat):Int):=by rw [IntKind.wrap_i64];omega
     have hdl:decide ((j:Int)<(ll.length:Int))=true:=by simp;omega
     have hji:(j:Int)<(ll.length:Int):=by omega
     obtain⟨b,o,rfl,hb,hgg⟩:=HS.out (by intro e;rw [e]at hp;simp at hp);obtain⟨u,hu1,hu2⟩:=hgg j hp;obtain⟨ho',hbw,⟨cs,k1,k2,k3⟩,⟨ds,m1,m2,m3⟩⟩:=HH.out;have hsc:=xzgr ll j hp;have hle:=xzpz ll (j+1)
     have hfl:=fun q hq=>xzvv ll j hp q hq
     have hcell:=(hbw.cell (p:=⟨b,o+j,none⟩) hb).trans hu1
     have hrow:IntsV wr ll[j] u:=hu2.sub fun p _ h=>(hbw.cell (World.block_lt_of_cell? _ p h)).trans h
     obtain⟨A',c',rfl,_⟩:=hu2.form
     have hcp:∃ U1,(Builtin.copy_ #[26,26] 3 #[.slice (some ⟨g,o',none⟩) (all - offL ll j) (all - offL ll j),.slice A' ll[j].length c']).run Tryz.prog wr=.ok (goInt ll[j].length) U1/\Below w0.heap.size w0 U1/\
      (∃ cs:Array Value,BlkIs U1 g 3 cs/\cs.size=all/\∀ k,k<offL ll (j+1)->cs[k]? =(ll.flatten[k]?).map (Value.int .i64))/\BlkIs U1 G 26 ds:=by
      by_cases hne:ll[j]=[]
      ·refine⟨wr,?_,hbw,⟨cs,k1,k2,fun k hk=>k3 k (by rw [hsc,hne]at hk;simpa using hk)⟩,m1⟩
       rw [hne];exact run_copy_none (P:=Tryz.prog) wr 26 26 3 3 (some ⟨g,o',none⟩) A' _ _ 0 c' Tryz.underlying26 (by kernel_rfl) (by simp)
      ·have hlp:=List.length_pos_iff.2 hne
       have hall2:ll.flatten.length=all:=HAL.out.symm;obtain rfl:=ho' (by omega);obtain⟨b2,o2,c2,h1,hre⟩:=hrow.run hne
       injection h1 with h1 _ h2
       subst h1 h2
       have hr:=run_copy_row (P:=Tryz.prog) wr 26 26 3 3 g (offL ll j) (all - offL ll j) (all - offL ll j) ⟨b2,o2,none⟩ ll[j].length c' cs 3 (ll[j].map (Value.int .i64)) Tryz.underlying26 (by kernel_rfl) k1
        (by rw [List.length_map];exact(Nat.min_eq_left (by omega)).symm) (fun q v hq=>by
         rw [List.getElem?_map]at hq
         cases e:ll[j][q]? with
         |none=>rw [e]at hq;cases hq
         |some x=>
          rw [e]at hq;obtain⟨hq2,rfl⟩:=List.getElem?_eq_some_iff.1 e;rw [Addr.add_lit]
          exact(hre.2 q hq2).trans hq) (by simp;omega) (yzaj _)
       simp only [List.length_map]at hr;refine⟨_,hr,xzny hbw H0.out.2.2.1 _,⟨_,k1.setRow,?_,fun k hk=>?_⟩,(setRow_other wr g G _ (Ne.symm H0.out.2.2.2.2)).trans m1⟩
       ·simp;omega
       ·have hz:(cs.toList.take (offL ll j)).length=offL ll j:=by rw [List.length_take,Array.length_toList];omega
        simp only [List.getElem?_toArray]
        by_cases hlo:k<offL ll j
        ·rw [List.append_assoc,List.getElem?_append_left (by omega),List.getElem?_take_of_lt hlo]
         have:=k3 k hlo
         simpa using this
        ·rw [List.getElem?_append_left (by rw [List.length_append,hz,List.length_map];omega),List.getElem?_append_right (by omega),hz,List.getElem?_map]
         obtain⟨q,rfl⟩:∃ q,k=offL ll j+q:=⟨k - offL ll j,by omega⟩;rw [Nat.add_sub_cancel_left,hfl q (by omega),List.getElem?_eq_getElem (by omega)]
     obtain⟨U1,hrun,n1,n2,n3⟩:=hcp;have n3d:BlkIs U1.drew G 26 ds:=n3;have hcg:U1.drew.cell? ⟨G,j,none⟩=ds[j]? :=n3d.cell j;have hfz:=n3d.frozen j;obtain⟨dv,hdv⟩:∃ dv,ds[j]? =some dv:=⟨_,Array.getElem?_eq_getElem (by omega)⟩;rw [hdv]at hcg;have hcg1:U1.cell? ⟨G,j,none⟩=some dv:=hcg;have hfz1:U1.frozen? ⟨G,j,none⟩=false:=hfz
     have HFN:=zd (show ∀ on,(offL ll (j+1)<all->on=offL ll (j+1))->(offL ll (j+1)<all->on=offL ll (j+1))/\Below w0.heap.size w0 (U1.setCell ⟨G,j,none⟩ (.slice (some ⟨g,o',none⟩) ll[j].length ll[j].length)).drew/\
      (∃ cs:Array Value,BlkIs (U1.setCell ⟨G,j,none⟩ (.slice (some ⟨g,o',none⟩) ll[j].length ll[j].length)).drew g 3 cs/\cs.size=all/\∀ k,k<offL ll (j+1)->cs[k]? =(ll.flatten[k]?).map (Value.int .i64))/\
      (∃ cs:Array Value,BlkIs (U1.setCell ⟨G,j,none⟩ (.slice (some ⟨g,o',none⟩) ll[j].length ll[j].length)).drew G 26 cs/\cs.size=ll.length/\∀ (k:Nat) (hk:k<ll.length),k<j+1->∃ ok,cs[k]? =some (.slice (some ⟨g,ok,none⟩) ll[k].length ll[k].length)/\(ll[k]≠[]->ok=offL ll k))from fun on hon=>by
      obtain⟨cs',p1,p2,p3⟩:=n2;refine⟨hon,(n1.setCell (p:=⟨G,j,none⟩) H0.out.2.2.2.1 _).drew,⟨cs',(p1.far (p:=⟨G,j,none⟩) H0.out.2.2.2.2 _).drew,p2,p3⟩,⟨_,(n3.put j _).drew,by simpa using m2,fun k hk hkj=>?_⟩⟩
      by_cases e:k=j
      ·subst e
       refine⟨o',by simp [m2,hk],fun hne=>ho' ?_⟩;have hlp:=List.length_pos_iff.2 hne;have:=HAL.out;omega
      ·obtain⟨ok,q1,q2⟩:=m3 k hk (by omega)
       exact⟨ok,by rw [Array.getElem?_setIfInBounds_ne (Ne.symm e)];exact q1,q2⟩)
     have HER:=zd (show all - offL ll (j+1)=all - offL ll j - ll[j].length by omega);have HON:=zd (show offL ll (j+1)=offL ll j+ll[j].length/\offL ll (j+1)<=all/\(offL ll j<all->o'=offL ll j)from⟨hsc,by rw [HAL.out];exact hle,ho'⟩)
     have hni:((ll[j].length:Nat):Int)<=((all - offL ll j:Nat):Int):=by have:=HON.out;omega
     have hn0:(ll[j].length:Int)<=9223372036854775807:=by have:=HON.out;omega
     clear hb hgg hu1 hu2 ho' hbw k1 k2 k3 m1 m2 m3 hsc hle hfl hrow n1 n2 n3 n3d hdv hcg HH;generalize ll[j].length=n at*;generalize hrem:all - offL ll j=rem at*;have HREM:=zd hrem;clear hrem
     by_cases hfull:rem=n
     ·subst hfull
      simp only [Nat.sub_self]at HER
      go_wp2_with fail
      refine xzeg 11 49 10 (fun cph u=>match cph with|false=>u=U1.drew|true=>u=U1.drew.setCell ⟨G,j,none⟩ (.slice (some ⟨g,o',none⟩) rem rem)) (fun i u u'=>(i=10->u'=u.setCell ⟨G,j,none⟩ (.slice (some ⟨g,o',none⟩) rem rem))/\(i≠10->u'=u))
       (fun i v u=>match i with
        |0=>v=.slice (some ⟨G,0,none⟩) ll.length ll.length
        |1=>v=.int .i64 (j:Int)
        |2=>v=.slice (some ⟨g,o',none⟩) rem rem
        |3=>v=.int .i64 (rem:Int)
        |4=>v=.int .i64 (rem:Int)
        |5=>v=.slice (some ⟨g,o',none⟩) rem rem
        |6=>v=.slice (some ⟨g,o',none⟩) rem rem
        |7=>v=.int .i64 (rem:Int)
        |8=>v=.slice (some ⟨g,o',none⟩) 0 0
        |9=>v=.pointer (some ⟨G,j,none⟩)
        |10=>True
        |_=>True) (by kernel_rfl) (by kernel_rfl) rfl rfl ?_ ?_ ?_ ?_
      ·intro i cph u u' hix hcx hC hr
       by_cases hi10:i=10
       ·rw [show(cph||decide (i=10))=true by simp [hi10],hr.1 hi10]
        have:=hcx hi10;subst this;have hC:u=U1.drew:=hC;rw [hC]
       ·rw [show(cph||decide (i=10))=cph by simp [hi10],hr.2 hi10]
        exact hC
      ·intro i j v u u' hix hj hne hv hr
       match i,hix,hne,hv with
       |0,_,_,hv=>exact hv
       |1,_,_,hv=>exact hv
       |2,_,_,hv=>exact hv
       |3,_,_,hv=>exact hv
       |4,_,_,hv=>exact hv
       |5,_,_,hv=>exact hv
       |6,_,_,hv=>exact hv
       |7,_,_,hv=>exact hv
       |8,_,_,hv=>exact hv
       |9,_,_,hv=>exact hv
       |10,_,hne,hv=>
        trivial
       |i+11,hix,_,_=>omega
      ·intro i hix cph vs u hcx hC hw oq ho
       match i,hix,hcx,hw,ho with
       |0,_,hcx,hw,ho=>
        simp only [zq,zh]at ho;subst ho;refine⟨rfl,?_⟩;clear hw hcx;simp only [xzaa,tmpsTo];go_simp;exact xzbc (rfl) rfl
       |1,_,hcx,hw,ho=>
        simp only [zq,zh]at ho;subst ho;refine⟨rfl,?_⟩;clear hw hcx;simp only [xzaa,tmpsTo,putT,zr];go_simp;exact xzbc (rfl) rfl
       |2,_,hcx,hw,ho=>
        simp only [zq,zh]at ho;subst ho;refine⟨rfl,?_⟩;clear hw hcx;simp only [xzaa,tmpsTo,putT,zr];go_simp;exact xzbc (rfl) rfl
       |3,_,hcx,hw,ho=>
        simp only [zq,zh]at ho;subst ho;refine⟨rfl,?_⟩;clear hw hcx;simp only [xzaa,tmpsTo,putT,zr];go_simp;exact xzbc (rfl) rfl
       |4,_,hcx,hw,ho=>
        simp only [zq,zh]at ho;subst ho;refine⟨rfl,?_⟩;clear hw hcx;simp only [xzaa,tmpsTo,putT,zr];go_simp;exact xzbc (rfl) rfl
       |5,_,hcx,hw,ho=>
        have e2:vs 2=.slice (some ⟨g,o',none⟩) rem rem:=hw 2 (by omega) (by kernel_rfl);have e3:vs 3=.int .i64 (rem:Int):=hw 3 (by omega) (by kernel_rfl);have e4:vs 4=.int .i64 (rem:Int):=hw 4 (by omega) (by kernel_rfl);simp only [zq,zh]at ho;subst ho;refine⟨rfl,?_⟩;clear hw hcx;simp only [xzaa,tmpsTo,putT,zr];rw [e2,e3,e4];clear e2 e3 e4;go_simp;exact xzbc (rfl) rfl
       |6,_,hcx,hw,ho=>
        simp only [zq,zh]at ho;subst ho;refine⟨rfl,?_⟩;clear hw hcx;simp only [xzaa,tmpsTo,putT,zr];go_simp;exact xzbc (rfl) rfl
       |7,_,hcx,hw,ho=>
        simp only [zq,zh]at ho;subst ho;refine⟨rfl,?_⟩;clear hw hcx;simp only [xzaa,tmpsTo,putT,zr];go_simp;exact xzbc (rfl) rfl
       |8,_,hcx,hw,ho=>
        have e6:vs 6=.slice (some ⟨g,o',none⟩) rem rem:=hw 6 (by omega) (by kernel_rfl);have e7:vs 7=.int .i64 (rem:Int):=hw 7 (by omega) (by kernel_rfl);simp only [zq,zh]at ho;subst ho;refine⟨rfl,?_⟩;clear hw hcx;simp only [xzaa,tmpsTo,putT,zr];rw [e6,e7];clear e6 e7;go_simp;exact xzbc (rfl) rfl
       |9,_,hcx,hw,ho=>
        have e0:vs 0=.slice (some ⟨G,0,none⟩) ll.length ll.length:=hw 0 (by omega) (by kernel_rfl);have e1:vs 1=.int .i64 (j:Int):=hw 1 (by omega) (by kernel_rfl);simp only [zq,zh]at ho;subst ho;refine⟨rfl,?_⟩;clear hw hcx;simp only [xzaa,tmpsTo,putT,zr];rw [e0,e1];clear e0 e1;go_simp;exact xzbc (rfl) rfl
       |10,_,hcx,hw,ho=>
        have e5:vs 5=.slice (some ⟨g,o',none⟩) rem rem:=hw 5 (by omega) (by kernel_rfl);have e9:vs 9=.pointer (some ⟨G,j,none⟩):=hw 9 (by omega) (by kernel_rfl);simp only [zq,zh]at ho;subst ho;refine⟨rfl,?_⟩;clear hw;simp only [xzaa,tmpsTo,putT,zr];rw [e5,e9];clear e5 e9;have hc:=hcx rfl;subst hc;have hC:u=U1.drew:=hC;subst hC;clear hcx hw;go_simp
        first|exact xzgq rfl trivial|exact xzgq ⟨fun _=>rfl,fun h=>absurd rfl h⟩ trivial
       |i+11,hix,_,_,_=>omega
      intro vs1 u hC hV;have hC:u=U1.drew.setCell ⟨G,j,none⟩ (.slice (some ⟨g,o',none⟩) rem rem):=hC;subst hC;have h8:vs1 8=.slice (some ⟨g,o',none⟩) 0 0:=hV 8 (by omega);clear hV;simp only [xzaa,tmpsTo,putT,zr,List.drop_succ_cons,List.drop_zero];rw [h8];clear h8;generalize vs1 0=q0;generalize vs1 1=q1;generalize vs1 2=q2;generalize vs1 3=q3;generalize vs1 4=q4;generalize vs1 5=q5;generalize vs1 6=q6;generalize vs1 7=q7;generalize vs1 9=q9;generalize vs1 10=q10;go_wp2;refine⟨⟨j+1,o',by rw [HER.out],rfl,hp,zd (HFN.out _ ?_)⟩,by simp [intOf];omega⟩;intro hlt;have:=HON.out;have:=HREM.out;omega
     ·have hfull2: ¬ rem=n:=hfull
      go_wp2_with fail
      refine xzeg 11 49 10 (fun cph u=>match cph with|false=>u=U1.drew|true=>u=U1.drew.setCell ⟨G,j,none⟩ (.slice (some ⟨g,o',none⟩) n n)) (fun i u u'=>(i=10->u'=u.setCell ⟨G,j,none⟩ (.slice (some ⟨g,o',none⟩) n n))/\(i≠10->u'=u))
       (fun i v u=>match i with
        |0=>v=.slice (some ⟨G,0,none⟩) ll.length ll.length
        |1=>v=.int .i64 (j:Int)
        |2=>v=.slice (some ⟨g,o',none⟩) rem rem
        |3=>v=.int .i64 (n:Int)
        |4=>v=.int .i64 (n:Int)
        |5=>v=.slice (some ⟨g,o',none⟩) n n
        |6=>v=.slice (some ⟨g,o',none⟩) rem rem
        |7=>v=.int .i64 (n:Int)
        |8=>v=.slice (some ⟨g,o'+n,none⟩) (rem - n) (rem - n)
        |9=>v=.pointer (some ⟨G,j,none⟩)
        |10=>True
        |_=>True) (by kernel_rfl) (by kernel_rfl) rfl rfl ?_ ?_ ?_ ?_
      ·intro i cph u u' hix hcx hC hr
       by_cases hi10:i=10
       ·rw [show(cph||decide (i=10))=true by simp [hi10],hr.1 hi10]
        have:=hcx hi10;subst this;have hC:u=U1.drew:=hC;rw [hC]
       ·rw [show(cph||decide (i=10))=cph by simp [hi10],hr.2 hi10]
        exact hC
      ·intro i j v u u' hix hj hne hv hr
       match i,hix,hne,hv with
       |0,_,_,hv=>exact hv
       |1,_,_,hv=>exact hv
       |2,_,_,hv=>exact hv
       |3,_,_,hv=>exact hv
       |4,_,_,hv=>exact hv
       |5,_,_,hv=>exact hv
       |6,_,_,hv=>exact hv
       |7,_,_,hv=>exact hv
       |8,_,_,hv=>exact hv
       |9,_,_,hv=>exact hv
       |10,_,hne,hv=>
        trivial
       |i+11,hix,_,_=>omega
      ·intro i hix cph vs u hcx hC hw oq ho
       match i,hix,hcx,hw,ho with
       |0,_,hcx,hw,ho=>
        simp only [zq,zh]at ho;subst ho;refine⟨rfl,?_⟩;clear hw hcx;simp only [xzaa,tmpsTo];go_simp;exact xzbc (rfl) rfl
       |1,_,hcx,hw,ho=>
        simp only [zq,zh]at ho;subst ho;refine⟨rfl,?_⟩;clear hw hcx;simp only [xzaa,tmpsTo,putT,zr];go_simp;exact xzbc (rfl) rfl
       |2,_,hcx,hw,ho=>
        simp only [zq,zh]at ho;subst ho;refine⟨rfl,?_⟩;clear hw hcx;simp only [xzaa,tmpsTo,putT,zr];go_simp;exact xzbc (rfl) rfl
       |3,_,hcx,hw,ho=>
        simp only [zq,zh]at ho;subst ho;refine⟨rfl,?_⟩;clear hw hcx;simp only [xzaa,tmpsTo,putT,zr];go_simp;exact xzbc (rfl) rfl
       |4,_,hcx,hw,ho=>
        simp only [zq,zh]at ho;subst ho;refine⟨rfl,?_⟩;clear hw hcx;simp only [xzaa,tmpsTo,putT,zr];go_simp;exact xzbc (rfl) rfl
       |5,_,hcx,hw,ho=>
        have e2:vs 2=.slice (some ⟨g,o',none⟩) rem rem:=hw 2 (by omega) (by kernel_rfl);have e3:vs 3=.int .i64 (n:Int):=hw 3 (by omega) (by kernel_rfl);have e4:vs 4=.int .i64 (n:Int):=hw 4 (by omega) (by kernel_rfl);simp only [zq,zh]at ho;subst ho;refine⟨rfl,?_⟩;clear hw hcx;simp only [xzaa,tmpsTo,putT,zr];rw [e2,e3,e4];clear e2 e3 e4;go_simp;exact xzbc (rfl) rfl
       |6,_,hcx,hw,ho=>
        simp only [zq,zh]at ho;subst ho;refine⟨rfl,?_⟩;clear hw hcx;simp only [xzaa,tmpsTo,putT,zr];go_simp;exact xzbc (rfl) rfl
       |7,_,hcx,hw,ho=>
        simp only [zq,zh]at ho;subst ho;refine⟨rfl,?_⟩;clear hw hcx;simp only [xzaa,tmpsTo,putT,zr];go_simp;exact xzbc (rfl) rfl
       |8,_,hcx,hw,ho=>
        have e6:vs 6=.slice (some ⟨g,o',none⟩) rem rem:=hw 6 (by omega) (by kernel_rfl);have e7:vs 7=.int .i64 (n:Int):=hw 7 (by omega) (by kernel_rfl);simp only [zq,zh]at ho;subst ho;refine⟨rfl,?_⟩;clear hw hcx;simp only [xzaa,tmpsTo,putT,zr];rw [e6,e7];clear e6 e7;go_simp;exact xzbc (rfl) rfl
       |9,_,hcx,hw,ho=>
        have e0:vs 0=.slice (some ⟨G,0,none⟩) ll.length ll.length:=hw 0 (by omega) (by kernel_rfl);have e1:vs 1=.int .i64 (j:Int):=hw 1 (by omega) (by kernel_rfl);simp only [zq,zh]at ho;subst ho;refine⟨rfl,?_⟩;clear hw hcx;simp only [xzaa,tmpsTo,putT,zr];rw [e0,e1];clear e0 e1;go_simp;exact xzbc (rfl) rfl
       |10,_,hcx,hw,ho=>
        have e5:vs 5=.slice (some ⟨g,o',none⟩) n n:=hw 5 (by omega) (by kernel_rfl);have e9:vs 9=.pointer (some ⟨G,j,none⟩):=hw 9 (by omega) (by kernel_rfl);simp only [zq,zh]at ho;subst ho;refine⟨rfl,?_⟩;clear hw;simp only [xzaa,tmpsTo,putT,zr];rw [e5,e9];clear e5 e9;have hc:=hcx rfl;subst hc;have hC:u=U1.drew:=hC;subst hC;clear hcx hw;go_simp
        first|exact xzgq rfl trivial|exact xzgq ⟨fun _=>rfl,fun h=>absurd rfl h⟩ trivial
       |i+11,hix,_,_,_=>omega
      intro vs1 u hC hV;have hC:u=U1.drew.setCell ⟨G,j,none⟩ (.slice (some ⟨g,o',none⟩) n n):=hC;subst hC;have h8:vs1 8=.slice (some ⟨g,o'+n,none⟩) (rem - n) (rem - n):=hV 8 (by omega);clear hV;simp only [xzaa,tmpsTo,putT,zr,List.drop_succ_cons,List.drop_zero];rw [h8];clear h8;generalize vs1 0=q0;generalize vs1 1=q1;generalize vs1 2=q2;generalize vs1 3=q3;generalize vs1 4=q4;generalize vs1 5=q5;generalize vs1 6=q6;generalize vs1 7=q7;generalize vs1 9=q9;generalize vs1 10=q10;go_wp2;refine⟨⟨j+1,o'+n,by rw [HER.out],rfl,hp,zd (HFN.out _ ?_)⟩,by simp [intOf];omega⟩;intro hlt;have:=HON.out;have:=HREM.out;omega
    ·obtain rfl:j=ll.length:=by omega
     have hdl:decide ((ll.length:Int)<(ll.length:Int))=false:=by simp
     go_wp2;go_ret;obtain⟨_,hlow,⟨cs,k1,k2,k3⟩,⟨ds,m1,m2,m3⟩⟩:=HH.out;subst hw0;refine⟨_,rfl,?_,hlow⟩;rw [xzvu]at k3;refine⟨_,_,rfl,⟨Nat.le_refl _,by omega⟩,fun hne=>⟨G,0,rfl,by rw [xzpt];exact m1.lt,fun i hi=>?_⟩⟩;obtain⟨ok,n1,n2⟩:=m3 i hi hi;have hG0:low _ G=false:=low_no.2 H0.out.2.2.2.1;have hg0:low _ g=false:=low_no.2 H0.out.2.2.1;refine⟨_,by rw [Nat.zero_add];exact xzea hG0 ((m1.cell i).trans n1),?_⟩;refine RunAt.ints ⟨⟨Nat.le_refl _,?_⟩,fun q hq=>?_⟩
     ·have h1:=xzgr ll i hi
      have h2:=xzpz ll (i+1);have:=HAL.out;omega
     ·have e:=n2 (by intro e;rw [e]at hq;simp at hq)
      subst e;have h1:=xzgr ll i hi;have h2:=xzpz ll (i+1);exact xzea hg0 (by rw [k1.cell,k3 _ (by omega),xzvv ll i hi q hq];rfl)
end
section
open Go.RowKit
attribute [local irreducible] FreeW textFrame
structure Bs where
 S:Mk
 R:List Int
 F:List Int
 E:List Bool
 em:Int
def Bs.add (x:Bs)(i:Int)(T:Tree):Bs:=⟨(partP T x.S).1,x.R++List.replicate T.plN i,x.F++(partP T x.S).2.first,marksE (x.E++List.replicate T.plN false) (partP T x.S).2.ends,if(partP T x.S).2.empty&&x.em== -1 then i else x.em⟩
def Bs.none:Bs:=⟨⟨[],[]⟩,[],[],[], -1⟩
def Bs.all:Bs->Int->List Tree->Bs
 |x,_,[]=>x
 |x,i,t::r=>Bs.all (x.add i t) (i+1) r
theorem Bs.all_snoc (t:Tree):∀ (l:List Tree) (x:Bs) (i:Int),Bs.all x i (l++[t])=(Bs.all x i l).add (i+l.length) t
 |[],x,i=>by simp [Bs.all]
 |y::l,x,i=>by
  simp only [List.cons_append,Bs.all,Bs.all_snoc t l,List.length_cons]
  congr 1
  omega
def buildN (l:List Tree):Nf:=let x:=Bs.all Bs.none 0 l;⟨x.S.sets,x.R,x.F,x.S.follow,x.E,x.em⟩
structure Bs.Ok (x:Bs)(n c:Nat):Prop where
 ks:x.S.Ok
 kn:x.S.sets.length=n
 kr:x.R.length=n
 ke:x.E.length=n
 kf:x.F.length<=c*2000
theorem Bs.add_ok {x:Bs}{n c:Nat}(h:x.Ok n c)(i:Int)(T:Tree)(hT:T.okT)(hn:n+T.plN<=2000):(x.add i T).Ok (n+T.plN) (c+1):=by
 obtain⟨h1,h2,h3⟩:=xzkl T x.S hT h.ks;have h4:=xzay h2.1;refine⟨h1,by rw [<-h.kn];exact h3,by simp [Bs.add,h.kr],by simp [Bs.add,xzid,h.ke],?_⟩;have:=h.kf;have:=h.kn;simp only [Bs.add,List.length_append];omega
theorem Bs.all_ok:∀ (l:List Tree) (x:Bs) (i:Int) (n c:Nat),x.Ok n c->okTs l->n+sumN l<=2000->(Bs.all x i l).Ok (n+sumN l) (c+l.length)
 |[],x,i,n,c,h,_,_=>by simpa [Bs.all,sumN]using h
 |t::l,x,i,n,c,h,hT,hn=>by
  unfold okTs at hT;simp only [sumN]at hn;have h1:=Bs.add_ok h i t hT.1 (by omega);have:=Bs.all_ok l (x.add i t) (i+1) _ _ h1 hT.2 (by omega);simp only [Bs.all,sumN,List.length_cons];rw [show n+(t.plN+sumN l)=n+t.plN+sumN l by omega,show c+(l.length+1)=c+1+l.length by omega];exact this
theorem xzrt {W:World}{v:Value}{l:List (Nat->Bool)}(h:W.ownsRow 0 48 4 v l.length (cellsS l)):SetsV W l v:=by
 rcases h.2 with⟨rfl,h1⟩|⟨g,cap,cur,rfl,h2,h3,h4,h5,h6,h7⟩
 ·obtain rfl:=List.eq_nil_of_length_eq_zero h1
  exact⟨_,_,rfl,⟨Nat.le_refl _,by decide⟩,fun h=>absurd rfl h⟩
 ·refine⟨_,cap,rfl,⟨h4,by unfold maxLen at h5;omega⟩,fun _=>⟨g,0,rfl,(Array.getElem?_eq_some_iff.1 h3).1,fun i hi k hk=>?_⟩⟩
  have e:(cellsS l)[i*4+k]? =some (.int .u64 (wd l[i] k:Nat)):=by
   have hs:=congrArg cellsS (List.take_append_drop i l);rw [xzmj,List.drop_eq_getElem_cons hi]at hs
   have hl:(cellsS (l.take i)).length=i*4:=by rw [xzia,List.length_take];omega
   rw [<-hs,List.getElem?_append_right (by omega),hl,Nat.add_sub_cancel_left];simp only [cellsS,List.flatMap_cons]
   have hk4:k=0\/k=1\/k=2\/k=3:=by omega
   rcases hk4 with rfl|rfl|rfl|rfl<;>rfl
  have:=h.cells (g:=g) rfl _ _ e
  rwa [Addr.add_lit,<-Nat.add_assoc]at this
theorem xzod {W:World}{v:Value}{l:List Bool}(h:W.ownsRow 0 4 1 v l.length (l.map Value.bool)):BoolsV W l v:=by
 rcases h.2 with⟨rfl,h1⟩|⟨g,cap,cur,rfl,h2,h3,h4,h5,h6,h7⟩
 ·obtain rfl:=List.eq_nil_of_length_eq_zero h1
  exact⟨_,_,rfl,⟨Nat.le_refl _,by decide⟩,fun h=>absurd rfl h⟩
 ·refine⟨_,cap,rfl,⟨h4,by unfold maxLen at h5;omega⟩,fun _=>⟨g,0,rfl,(Array.getElem?_eq_some_iff.1 h3).1,fun i hi=>?_⟩⟩
  have:=h.cells (g:=g) rfl i (.bool l[i]) (by simp [hi])
  rwa [Addr.add_lit]at this
theorem xzmm {M K:Nat->Bool}{W:World}{pb:Nat}{S:Mk}{r f e m vs vf:Value}{xs:List Value}(h:MkI M K W pb S r f e m vs vf xs):RowsI W S.follow vf:=by
 by_cases hne:S.follow=[]
 ·obtain⟨A,c,rfl,hc⟩:=xzbb h.own3
  exact⟨A,c,rfl,hc,fun h=>absurd hne h⟩
 ·obtain⟨g,c,rfl,hc,_,_,hg,hr⟩:=h.place hne
  refine⟨_,c,rfl,hc,fun _=>⟨g,0,rfl,hg,fun i hi=>?_⟩⟩;obtain⟨A,n,c',h1,_,h2⟩:=hr i hi;exact⟨_,by rw [Nat.zero_add];exact h1,h2.bare⟩
end
end Go.Proofs.YtdjpphjpnkfeiaaGreatDoor
