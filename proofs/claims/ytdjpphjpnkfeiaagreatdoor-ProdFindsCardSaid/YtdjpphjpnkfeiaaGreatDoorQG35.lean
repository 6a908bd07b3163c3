/-
 WHAT prod's start AND newWalk ANSWER: a walker that has found where the empty text comes to: contracts. Conditions: two automata lie there, their classes being bytes, their states being less than 32768, their rows in range.
-/
import Derived.Test.YtdjpphjpnkfeiaaGreatDoorQG33
import Derived.Test.YtdjpphjpnkfeiaaGreatDoorQG34
namespace Go.Proofs.YtdjpphjpnkfeiaaGreatDoor
open Go.RowKit
attribute [local irreducible] FreeW textFrame
theorem xzxj (D:Df):ksIn D.first:=by unfold Df.first ksIn;split<;>omega
theorem xzsa {o:Oper}{a:Act}{w:World}(t:TypeId)(parts:Array (Nat×Operand))(ho:o.op=.build t parts){cells:Array Value}(hc:Tryz.prog.built t (parts.map fun(i,x)=>(i,a.eval x)).toList=some cells):(execOp a.eval o).run Tryz.prog w=.ok (.value (.agg cells)) w:=by
 unfold execOp;simp only [ho,Sem.run_bind,run_build w t _ cells hc,Result.andThen_ok]
 rfl
theorem BytR.form {B:Nat}{W:World}{v:Value}{l:List Nat}(h:BytR B W v l):∃ A c,v=.slice A l.length c:=by
 rcases h.2 with⟨rfl,e⟩|⟨g,cap,cur,rfl,_⟩
 ·exact⟨none,0,by rw [e]⟩
 ·exact⟨_,_,rfl⟩
def wkG (f f':Nat->Nat)(n n':Int)(a1 a2 b1 b2 vy vf:Value)(M:Nat)(i:Nat):Value:=
 if i<259 then dfF f n a1 a2 i else
 if i<518 then dfF f' n' b1 b2 (i - 259)else
 if i=518 then vy else
 if i=519 then vf else .map (some M)
theorem yzfn (f f':Nat->Nat)(n n':Int)(A0 A1 B0 B1 Y:Option Addr)(x0 x1 x2 x3 y0 y1 y2 y3 z0 z1:Nat)(M:Nat):
 Tryz.prog.built 99 [(0,.agg (dfC f n (.slice A0 x0 x1) (.slice A1 x2 x3))),(1,.agg (dfC f' n' (.slice B0 y0 y1) (.slice B1 y2 y3))),(2,.slice Y z0 z1),(4,.map (some M))]=some (cellsN 521 (wkG f f' n n' (.slice A0 x0 x1) (.slice A1 x2 x3) (.slice B0 y0 y1) (.slice B1 y2 y3) (.slice Y z0 z1) (.slice none 0 0) M)):=by kernel_rfl
set_option maxRecDepth 20000 in
set_option maxHeartbeats 8000000 in
theorem xzxk (A B:Df)(va vb:Value)(w:World)(ha:DfAt w A va)(hb:DfAt w B vb):
 Calls Tryz.prog 50 #[va,vb] w fun e w'=>e=.returned (.agg #[.int .i16 A.first,.int .i16 B.first])/\Below w.heap.size w w':=by
 have HAA:=zd (And.intro ha hb);obtain⟨An,cn,At,ct,rfl⟩:=xzal ha;obtain⟨Bn,dn,Bt,dt,rfl⟩:=xzal hb;obtain⟨W1,hbx,hsz,hb1,hx1⟩:=xzat A.of A.n (.slice An A.next.length cn) (.slice At A.tag.length ct) w;obtain⟨W2,hbx2,hsz2,hb2,hx2⟩:=xzat B.of B.n (.slice Bn B.next.length dn) (.slice Bt B.tag.length dt) W1
 have h2s:W2.heap.size=w.heap.size+2:=by omega
 have hd1:=(DfB.of hx1).step hb2;have hd2:=DfB.of hx2;rw [hsz]at hd2;obtain⟨W3,hW3⟩:∃ W3,W2.alloc (.cells #[.int .i16 0,.int .i16 0] 65)=W3:=⟨_,rfl⟩
 have hb3:Below W2.heap.size W2 W3:=by rw [<-hW3];exact(Below.refl _ _).alloc (Nat.le_refl _) _
 have hx3:BlkIs W3 (w.heap.size+2) 65 #[.int .i16 0,.int .i16 0]:=by rw [<-hW3,<-h2s];exact BlkIs.new _ _ _
 have HB:=zd (And.intro ((hb1.trans (hb2.mono (by omega))).trans (hb3.mono (by omega))) (And.intro (hd1.step hb3) (And.intro (hd2.step hb3) hx3)));have HFA:=zd (fun(u:World) (hu:Below w.heap.size w u)=>xzim A _ u (HAA.out.1.step hu));have HFB:=zd (fun(u:World) (hu:Below w.heap.size w u)=>xzim B _ u (HAA.out.2.step hu));have HLA:=zd (fun(u:World) (hu:DfB u w.heap.size A.of A.n (.slice An A.next.length cn) (.slice At A.tag.length ct))=>loadDf hu);have HLB:=zd (fun(u:World) (hu:DfB u (w.heap.size+1) B.of B.n (.slice Bn B.next.length dn) (.slice Bt B.tag.length dt))=>loadDf hu);obtain⟨da,hda⟩:∃ dc,dfC A.of A.n (.slice An A.next.length cn) (.slice At A.tag.length ct)=dc:=⟨_,rfl⟩;obtain⟨db,hdb⟩:∃ dc,dfC B.of B.n (.slice Bn B.next.length dn) (.slice Bt B.tag.length dt)=dc:=⟨_,rfl⟩;rw [hda]at hbx HFA HLA;rw [hdb]at hbx2 HFB HLB
 have hdsa:da.size=259:=by rw [<-hda];exact xzac _ _ _ _
 have hdsb:db.size=259:=by rw [<-hdb];exact xzac _ _ _ _
 rw [hda,hdb];clear hb1 hx1 hd1 hda hb2 hx2 hd2 hdb ha hb hb3 hx3 HAA h2s
 go_enter Tryz.func50,Tryz.ntmps50
 go_wp2_with fail
 refine xzaf 5 10 (fun u=>Hid (Below w.heap.size w u/\DfB u w.heap.size A.of A.n (.slice An A.next.length cn) (.slice At A.tag.length ct)/\DfB u (w.heap.size+1) B.of B.n (.slice Bn B.next.length dn) (.slice Bt B.tag.length dt)/\BlkIs u (w.heap.size+2) 65 #[.int .i16 0,.int .i16 0])) (fun _ u u'=>Below u.heap.size u u')
  (fun i v u=>match i with
   |0=>v=.agg da
   |1=>v=.int .i16 A.first
   |2=>v=.agg db
   |3=>v=.int .i16 B.first
   |4=>v=.agg #[.int .i16 A.first,.int .i16 B.first]
   |_=>True) (by kernel_rfl) (by kernel_rfl) rfl (zd ⟨HB.out.1.drew,HB.out.2.1,HB.out.2.2.1,HB.out.2.2.2.drew⟩) ?_ ?_ ?_ ?_
 ·intro i u u' hix hC hr
  exact zd ⟨hC.out.1.trans (hr.mono hC.out.1.size),hC.out.2.1.step hr,hC.out.2.2.1.step hr,hC.out.2.2.2.step hr⟩
 ·intro i j v u u' hix hj hne hv hr
  match i,hix,hne,hv with
  |0,_,_,hv=>exact hv
  |1,_,_,hv=>exact hv
  |2,_,_,hv=>exact hv
  |3,_,_,hv=>exact hv
  |4,_,_,hv=>exact hv
  |i+5,hix,_,_=>omega
 ·intro i hix vs u hC hw oq ho
  match i,hix,hw,ho with
  |0,_,hw,ho=>
   simp only [zq,zh]at ho;subst ho;refine⟨rfl,?_⟩;clear hw;simp only [xzaa,tmpsTo];rw [xzah 35 (.tmp 2) _ rfl rfl (HLA.out u hC.out.2.1)];exact xzab (Below.refl _ _) rfl
  |1,_,hw,ho=>
   have e0:vs 0=.agg da:=hw 0 (by omega) (by kernel_rfl);simp only [zq,zh]at ho;subst ho;refine⟨rfl,?_⟩;clear hw;simp only [xzaa,tmpsTo,putT,zr];rw [e0];clear e0;go_simp;refine xzak ((HFA.out u hC.out.1).mono ?_);rintro e u' ⟨rfl,hbu⟩;exact⟨_,rfl,hbu,rfl⟩
  |2,_,hw,ho=>
   simp only [zq,zh]at ho;subst ho;refine⟨rfl,?_⟩;clear hw;simp only [xzaa,tmpsTo,putT,zr];rw [xzah 35 (.tmp 3) _ rfl rfl (HLB.out u hC.out.2.2.1)];exact xzab (Below.refl _ _) rfl
  |3,_,hw,ho=>
   have e2:vs 2=.agg db:=hw 2 (by omega) (by kernel_rfl);simp only [zq,zh]at ho;subst ho;refine⟨rfl,?_⟩;clear hw;simp only [xzaa,tmpsTo,putT,zr];rw [e2];clear e2;go_simp;refine xzak ((HFB.out u hC.out.1).mono ?_);rintro e u' ⟨rfl,hbu⟩;exact⟨_,rfl,hbu,rfl⟩
  |4,_,hw,ho=>
   have e1:vs 1=.int .i16 A.first:=hw 1 (by omega) (by kernel_rfl);have e3:vs 3=.int .i16 B.first:=hw 3 (by omega) (by kernel_rfl);simp only [zq,zh]at ho;subst ho;refine⟨rfl,?_⟩;clear hw;simp only [xzaa,tmpsTo,putT,zr];rw [e1,e3];clear e1 e3;go_simp;exact xzab (Below.refl _ _) rfl
  |i+5,hix,_,_=>omega
 intro vs1 u hC hV;have h4:vs1 4=.agg #[.int .i16 A.first,.int .i16 B.first]:=hV 4 (by omega);clear hV;simp only [xzaa,tmpsTo,putT,zr,List.drop_succ_cons,List.drop_zero];rw [h4];clear h4;generalize vs1 0=q0;generalize vs1 1=q1;generalize vs1 2=q2;generalize vs1 3=q3;have k0:=hC.out.2.2.2.cell 0;have k1:=hC.out.2.2.2.cell 1;have f0:=hC.out.2.2.2.frozen 0;have f1:=hC.out.2.2.2.frozen 1;simp only [zq]at k0 k1;have hput:=((hC.out.2.2.2.put 0 (.int .i16 A.first)).put 1 (.int .i16 B.first));simp only [zr]at hput;have hl9:=run_loadVar_mid (P:=Tryz.prog) _ (w.heap.size+2) 0 65 [.int .i16 A.first,.int .i16 B.first] _ (by have:=hput.range;simpa using this) Tryz.underlying65 rfl (by rw [xzxh];rfl);have HFIN:=zd ((hC.out.1.setCell (p:=⟨w.heap.size+2,0,none⟩) (by show w.heap.size<=w.heap.size+2;omega) (.int .i16 A.first)).setCell (p:=⟨w.heap.size+2,1,none⟩) (by show w.heap.size<=w.heap.size+2;omega) (.int .i16 B.first));clear hC hput;go_wp2;exact bodyPost_ret (xzae rfl rfl hl9) rfl ⟨rfl,HFIN.out⟩
def NewIs (A B:Df)(w0 w:World):Ending->World->Prop:=fun e w'=>∃ a1 a2 b1 b2 vy M g Z vf,e=.returned (.pointer (some ⟨g,0,none⟩))/\foundZ Z=startF A B/\ParZ Z/\Wk ⟨A,B,a1,a2,b1,b2,vy,M,g,w.heap.size+2,w0⟩ Z vf w'/\Below w.heap.size w w'
set_option maxRecDepth 20000 in
set_option maxHeartbeats 16000000 in
theorem xzsb (A B:Df)(va vb:Value)(w0 w:World)(ha0:DfAt w0 A va)(hb0:DfAt w0 B vb)(hw0:Below w0.heap.size w0 w)(hfa:∀ b,b<256->A.of b<256)(hfb:∀ b,b<256->B.of b<256):
 Calls Tryz.prog 23 #[va,vb] w (NewIs A B w0 w):=by
 have ha:=ha0.step hw0;have hb:=hb0.step hw0;have HAA:=zd (And.intro ha hb);have HA0:=zd (And.intro ha0 (And.intro hb0 hw0));obtain⟨An,cn,At,ct,rfl⟩:=xzal ha;obtain⟨Bn,dn,Bt,dt,rfl⟩:=xzal hb;obtain⟨W1,hbx,hsz,hb1,hx1⟩:=xzat A.of A.n (.slice An A.next.length cn) (.slice At A.tag.length ct) w;obtain⟨W2,hbx2,hsz2,hb2,hx2⟩:=xzat B.of B.n (.slice Bn B.next.length dn) (.slice Bt B.tag.length dt) W1
 have h2s:W2.heap.size=w.heap.size+2:=by omega
 have hd1:=(DfB.of hx1).step hb2;have hd2:=DfB.of hx2;rw [hsz]at hd2;have HB:=zd (And.intro (hb1.trans (hb2.mono (by omega))) (And.intro hd1 (And.intro hd2 (Nat.le_of_eq h2s.symm))));have HLE:=zd (fun(u:World) (hu:Below w.heap.size w u)=>xzxf A B _ _ u (HAA.out.1.step hu) (HAA.out.2.step hu) hfa hfb);have HST:=zd (fun(u:World) (hu:Below w.heap.size w u)=>xzxk A B _ _ u (HAA.out.1.step hu) (HAA.out.2.step hu));have HLA:=zd (fun(u:World) (hu:DfB u w.heap.size A.of A.n (.slice An A.next.length cn) (.slice At A.tag.length ct))=>loadDf hu);have HLB:=zd (fun(u:World) (hu:DfB u (w.heap.size+1) B.of B.n (.slice Bn B.next.length dn) (.slice Bt B.tag.length dt))=>loadDf hu);have HBW:=zd (fun(Ay:Option Addr) (cy M:Nat)=>yzfn A.of B.of A.n B.n An At Bn Bt Ay A.next.length cn A.tag.length ct B.next.length dn B.tag.length dt (lbs A B).length cy M);obtain⟨da,hda⟩:∃ dc,dfC A.of A.n (.slice An A.next.length cn) (.slice At A.tag.length ct)=dc:=⟨_,rfl⟩;obtain⟨db,hdb⟩:∃ dc,dfC B.of B.n (.slice Bn B.next.length dn) (.slice Bt B.tag.length dt)=dc:=⟨_,rfl⟩;rw [hda]at hbx HLE HST HLA HAA HA0;rw [hdb]at hbx2 HLE HST HLB HAA HA0;rw [hda,hdb]at HBW
 have hdsa:da.size=259:=by rw [<-hda];exact xzac _ _ _ _
 have hdsb:db.size=259:=by rw [<-hdb];exact xzac _ _ _ _
 rw [hda,hdb];have HDC:=zd (And.intro hda hdb);clear hb1 hx1 hd1 hda hb2 hx2 hd2 hdb ha hb h2s ha0 hb0 hw0
 go_enter Tryz.func23,Tryz.ntmps23
 go_wp2_with fail
 refine xziu 11 23 (fun u=>Hid (Below w.heap.size w u/\DfB u w.heap.size A.of A.n (.slice An A.next.length cn) (.slice At A.tag.length ct)/\DfB u (w.heap.size+1) B.of B.n (.slice Bn B.next.length dn) (.slice Bt B.tag.length dt)/\w.heap.size+2<=u.heap.size)) (fun i u u'=>(i=7->∃ M,w.heap.size+2<=M/\u.grownBy u' (some M)/\∃ es c,u.heap[M]? =some (.map es c))/\(i≠7->Below u.heap.size u u'))
  (fun i L vs u=>match i with
   |0=>vs 0=.agg da
   |1=>vs 1=.agg db
   |2=>vs 2=.agg da
   |3=>vs 3=.agg db
   |4=>∃ Ay cy,vs 4=.slice Ay (lbs A B).length cy/\BytR (w.heap.size+2) u (vs 4) (lbs A B)
   |5=>∃ M,vs 5=.map (some M)/\w.heap.size+2<=M/\(L 7=false->ksMap u M 0 (fun _=>false))
   |6=>vs 6=.agg #[.int .i16 (-1),.int .i16 (-1)]
   |7=>L 7=true/\∃ M,vs 5=.map (some M)/\w.heap.size+2<=M/\ksMap u M 1 (fun s=>decide (s=((-1:Int),(-1:Int)))||false)
   |8=>L 7=true/\∃ M,vs 8=.map (some M)/\w.heap.size+2<=M/\ksMap u M 1 (fun s=>decide (s=((-1:Int),(-1:Int)))||false)
   |9=>∃ Ay cy M,vs 4=.slice Ay (lbs A B).length cy/\vs 8=.map (some M)/\vs 9=.agg (cellsN 521 (wkG A.of B.of A.n B.n (.slice An A.next.length cn) (.slice At A.tag.length ct) (.slice Bn B.next.length dn) (.slice Bt B.tag.length dt) (.slice Ay (lbs A B).length cy) (.slice none 0 0) M))
   |10=>∃ cells b,vs 9=.agg cells/\vs 10=.pointer (some ⟨b,0,none⟩)/\BlkIs u b 99 cells/\w.heap.size+2<=b
   |_=>True) (by kernel_rfl) (by kernel_rfl) rfl (zd ⟨HB.out.1.drew,HB.out.2.1,HB.out.2.2.1,HB.out.2.2.2⟩) ?_ ?_ ?_ ?_ ?_
 ·intro i u u' hix hC hr
  by_cases hj7:i=7
  ·obtain⟨M,hM,hg,es,c,hm⟩:=hr.1 hj7
   have hf:∀ k,k<w.heap.size+2->u'.heap[k]? =u.heap[k]? :=fun k hk=>hg.block k (by have:=hC.out.2.2.2;omega) (fun e=>by have:=Option.some.inj e;omega)
   refine zd ⟨(Tn.grown hg).2.2 _ _ hC.out.1.size (fun k e=>by have:=Option.some.inj e;omega) hC.out.1,fun k hk=>(xzbi (hf _ (by omega))).trans (hC.out.2.1 k hk),fun k hk=>(xzbi (hf _ (by omega))).trans (hC.out.2.2.1 k hk),Nat.le_trans hC.out.2.2.2 hg.size⟩
  ·have hb:=hr.2 hj7
   exact zd ⟨hC.out.1.trans (hb.mono hC.out.1.size),hC.out.2.1.step hb,hC.out.2.2.1.step hb,Nat.le_trans hC.out.2.2.2 hb.size⟩
 ·intro i j L vs u u' hix hj hne hLj hv hr
  match i,hix,hne,hv with
  |0,_,_,hv=>exact hv
  |1,_,_,hv=>exact hv
  |2,_,_,hv=>exact hv
  |3,_,_,hv=>exact hv
  |4,_,hne,hv=>
   obtain⟨Ay,cy,e1,e2⟩:=hv;refine⟨Ay,cy,e1,?_⟩
   by_cases hj7:j=7
   ·obtain⟨M,_,hg,es,c,hm⟩:=hr.1 hj7
    refine e2.kept hg (.inr fun e=>?_);obtain⟨cur,hc⟩:=xzcq e2 e;unfold BlkIs at hc;rw [hc]at hm;cases hm
   ·exact e2.step (hr.2 hj7)
  |5,_,hne,hv=>
   obtain⟨M,e1,e2,e4⟩:=hv;refine⟨M,e1,e2,fun h=>?_⟩
   by_cases hj7:j=7
   ·rw [hj7]at h;simp at h
   ·simp only [if_neg (Ne.symm hj7)]at h
    exact(e4 h).heap ((hr.2 hj7).block M (e4 h).lt)
  |6,_,_,hv=>exact hv
  |7,_,hne,hv=>
   obtain⟨e0,M,e1,e2,e3⟩:=hv
   by_cases hj7:j=7
   ·rw [hj7]at hLj;rw [e0]at hLj;cases hLj
   ·exact⟨by simp only [if_neg (Ne.symm hj7)];exact e0,M,e1,e2,e3.heap ((hr.2 hj7).block M e3.lt)⟩
  |8,_,hne,hv=>
   obtain⟨e0,M,e1,e2,e3⟩:=hv
   by_cases hj7:j=7
   ·rw [hj7]at hLj;rw [e0]at hLj;cases hLj
   ·exact⟨by simp only [if_neg (Ne.symm hj7)];exact e0,M,e1,e2,e3.heap ((hr.2 hj7).block M e3.lt)⟩
  |9,_,hne,hv=>
   exact hv
  |10,_,hne,hv=>
   obtain⟨cells,b,e1,e2,e3,e4⟩:=hv;refine⟨cells,b,e1,e2,?_,e4⟩
   by_cases hj7:j=7
   ·obtain⟨M,_,hg,es,c,hm⟩:=hr.1 hj7
    refine xzbw e3 hg fun e=>?_
    unfold BlkIs at e3;rw [Option.some.inj e,hm]at e3;cases e3
   ·exact e3.step (hr.2 hj7)
  |i+11,hix,_,_=>omega
 ·intro i L vs vs' u hix hl hv
  match i,hix,hl,hv with
  |0,_,hl,hv=>exact(hl 0 (by omega) (.inl rfl)).symm.trans hv
  |1,_,hl,hv=>exact(hl 1 (by omega) (.inl rfl)).symm.trans hv
  |2,_,hl,hv=>exact(hl 2 (by omega) (.inl rfl)).symm.trans hv
  |3,_,hl,hv=>exact(hl 3 (by omega) (.inl rfl)).symm.trans hv
  |4,_,hl,hv=>
   rw [<-hl 4 (by omega) (.inl rfl)];exact hv
  |5,_,hl,hv=>
   obtain⟨M,e1,e2⟩:=hv;exact⟨M,(hl 5 (by omega) (.inl rfl)).symm.trans e1,e2⟩
  |6,_,hl,hv=>exact(hl 6 (by omega) (.inl rfl)).symm.trans hv
  |7,_,hl,hv=>
   obtain⟨e0,M,e1,e2⟩:=hv;exact⟨e0,M,(hl 5 (by omega) (.inr (by kernel_rfl))).symm.trans e1,e2⟩
  |8,_,hl,hv=>
   obtain⟨e0,M,e1,e2⟩:=hv;exact⟨e0,M,(hl 8 (by omega) (.inl rfl)).symm.trans e1,e2⟩
  |9,_,hl,hv=>
   obtain⟨Ay,cy,M,e1,e2,e3⟩:=hv;exact⟨Ay,cy,M,(hl 4 (by omega) (.inr (by kernel_rfl))).symm.trans e1,(hl 8 (by omega) (.inr (by kernel_rfl))).symm.trans e2,(hl 9 (by omega) (.inl rfl)).symm.trans e3⟩
  |10,_,hl,hv=>
   obtain⟨cells,b,e1,e2,e3⟩:=hv;exact⟨cells,b,(hl 9 (by omega) (.inr (by kernel_rfl))).symm.trans e1,(hl 10 (by omega) (.inl rfl)).symm.trans e2,e3⟩
  |i+11,hix,_,_=>omega
 ·intro i hix L vs u hLi hC hw oq ho
  match i,hix,hLi,hw,ho with
  |0,_,hLi,hw,ho=>
   simp only [zq,zh]at ho;subst ho;refine⟨rfl,?_⟩;clear hw;refine xzio (R':=fun a b=>b=a) (V':=fun x _=>x=.agg da) ?_ ?_
   ·simp only [xzaa,tmpsTo]
    rw [xzah 35 (.tmp 2) _ rfl rfl (HLA.out u hC.out.2.1)];exact xzdl rfl rfl
   ·rintro x u' rfl rfl
    exact⟨⟨fun h=>absurd h (by decide),fun _=>Below.refl _ _⟩,if_pos rfl⟩
  |1,_,hLi,hw,ho=>
   simp only [zq,zh]at ho;subst ho;refine⟨rfl,?_⟩;clear hw;refine xzio (R':=fun a b=>b=a) (V':=fun x _=>x=.agg db) ?_ ?_
   ·simp only [xzaa,tmpsTo,putT,zr]
    rw [xzah 35 (.tmp 3) _ rfl rfl (HLB.out u hC.out.2.2.1)];exact xzdl rfl rfl
   ·rintro x u' rfl rfl
    exact⟨⟨fun h=>absurd h (by decide),fun _=>Below.refl _ _⟩,if_pos rfl⟩
  |2,_,hLi,hw,ho=>
   simp only [zq,zh]at ho;subst ho;refine⟨rfl,?_⟩;clear hw;refine xzio (R':=fun a b=>b=a) (V':=fun x _=>x=.agg da) ?_ ?_
   ·simp only [xzaa,tmpsTo,putT,zr]
    rw [xzah 35 (.tmp 2) _ rfl rfl (HLA.out u hC.out.2.1)];exact xzdl rfl rfl
   ·rintro x u' rfl rfl
    exact⟨⟨fun h=>absurd h (by decide),fun _=>Below.refl _ _⟩,if_pos rfl⟩
  |3,_,hLi,hw,ho=>
   simp only [zq,zh]at ho;subst ho;refine⟨rfl,?_⟩;clear hw;refine xzio (R':=fun a b=>b=a) (V':=fun x _=>x=.agg db) ?_ ?_
   ·simp only [xzaa,tmpsTo,putT,zr]
    rw [xzah 35 (.tmp 3) _ rfl rfl (HLB.out u hC.out.2.2.1)];exact xzdl rfl rfl
   ·rintro x u' rfl rfl
    exact⟨⟨fun h=>absurd h (by decide),fun _=>Below.refl _ _⟩,if_pos rfl⟩
  |4,_,hLi,hw,ho=>
   have e2:vs 2=.agg da:=hw 2 (by omega) (by kernel_rfl);have e3:vs 3=.agg db:=hw 3 (by omega) (by kernel_rfl);simp only [zq,zh]at ho;subst ho;refine⟨rfl,?_⟩;clear hw;refine xzio (R':=fun a b=>Below a.heap.size a b) (V':=fun x u'=>BytR u.heap.size u' x (lbs A B)) ?_ ?_
   ·simp only [xzaa,tmpsTo,putT,zr]
    rw [e2,e3];go_simp;refine yzbr ((HLE.out u hC.out.1).mono ?_);rintro e u' ⟨v,rfl,hby,hbu⟩;exact⟨v,rfl,hbu,hby⟩
   ·intro x u' hbu hby
    obtain⟨Ay,cy,rfl⟩:=BytR.form hby
    exact⟨⟨fun h=>absurd h (by decide),fun _=>hbu⟩,Ay,cy,if_pos rfl,show BytR _ _ (if 4=4 then _ else _) _ by rw [if_pos rfl];exact hby.low hC.out.2.2.2⟩
  |5,_,hLi,hw,ho=>
   simp only [zq,zh]at ho;subst ho;refine⟨rfl,?_⟩;have hmm:=run_makeMap (P:=Tryz.prog) 96 u;clear hw;refine xzio (R':=fun a b=>b=a.alloc (.map #[] 0)) (V':=fun x u'=>x=.map (some u.heap.size)) ?_ ?_
   ·simp only [xzaa,tmpsTo,putT,zr]
    go_simp;exact xzdl rfl rfl
   ·rintro x u' rfl rfl
    exact⟨⟨fun h=>absurd h (by decide),fun _=>(Below.refl _ _).alloc (Nat.le_refl _) _⟩,u.heap.size,if_pos rfl,hC.out.2.2.2,fun _=>ksMap.start u⟩
  |6,_,hLi,hw,ho=>
   simp only [zq,zh]at ho;subst ho;refine⟨rfl,?_⟩;clear hw;refine xzio (R':=fun a b=>b=a) (V':=fun x _=>x=.agg #[.int .i16 (-1),.int .i16 (-1)]) ?_ ?_
   ·simp only [xzaa,tmpsTo,putT,zr]
    go_simp;exact xzdl rfl rfl
   ·rintro x u' rfl rfl
    exact⟨⟨fun h=>absurd h (by decide),fun _=>Below.refl _ _⟩,if_pos rfl⟩
  |7,_,hLi,hw,ho=>
   obtain⟨M,e5,hlo,hmp⟩:=hw 5 (by omega) (by kernel_rfl);have e6:vs 6=.agg #[.int .i16 (-1),.int .i16 (-1)]:=hw 6 (by omega) (by kernel_rfl);simp only [zq,zh]at ho;subst ho;refine⟨rfl,?_⟩;have hmp:=hmp hLi;obtain⟨u',hrun,hm',hg'⟩:=hmp.put (a:= -1) (b:= -1) ⟨by decide,by decide⟩ ⟨by decide,by decide⟩ (by decide);clear hw;refine xzio (R':=fun a b=>b=u') (V':=fun _ _=>True) ?_ ?_
   ·simp only [xzaa,tmpsTo,putT,zr]
    rw [e6];rw [e5];go_simp;exact yzbq rfl trivial
   ·rintro x u2 rfl -
    exact⟨⟨fun _=>⟨M,hlo,hg',hmp.block⟩,fun h=>absurd rfl h⟩,if_pos rfl,M,(if_neg (by decide)).trans e5,hlo,hm'⟩
  |8,_,hLi,hw,ho=>
   obtain⟨e0,M,e5,hlo,hmp⟩:=hw 7 (by omega) (by kernel_rfl);simp only [zq,zh]at ho;subst ho;refine⟨rfl,?_⟩;clear hw;refine xzio (R':=fun a b=>b=a) (V':=fun x _=>x=.map (some M)) ?_ ?_
   ·simp only [xzaa,tmpsTo,putT,zr]
    rw [e5];go_simp;exact xzdl rfl rfl
   ·rintro x u' rfl rfl
    exact⟨⟨fun h=>absurd h (by decide),fun _=>Below.refl _ _⟩,(if_neg (by decide)).trans e0,M,if_pos rfl,hlo,hmp⟩
  |9,_,hLi,hw,ho=>
   have e0:vs 0=.agg da:=hw 0 (by omega) (by kernel_rfl);have e1:vs 1=.agg db:=hw 1 (by omega) (by kernel_rfl);obtain⟨Ay,cy,e4,_⟩:=hw 4 (by omega) (by kernel_rfl);obtain⟨_,M,e8,_⟩:=hw 8 (by omega) (by kernel_rfl);simp only [zq,zh]at ho;subst ho;refine⟨rfl,?_⟩;have hbw:=HBW.out Ay cy M;clear hw;refine xzio (R':=fun a b=>b=a) (V':=fun x _=>x=.agg (cellsN 521 (wkG A.of B.of A.n B.n (.slice An A.next.length cn) (.slice At A.tag.length ct) (.slice Bn B.next.length dn) (.slice Bt B.tag.length dt) (.slice Ay (lbs A B).length cy) (.slice none 0 0) M))) ?_ ?_
   ·simp only [xzaa,tmpsTo,putT,zr]
    rw [e0,e1];rw [e4,e8];rw [xzsa 99 #[(0,.tmp 6),(1,.tmp 7),(2,.tmp 10),(4,.tmp 13)] rfl (cells:=cellsN 521 (wkG A.of B.of A.n B.n (.slice An A.next.length cn) (.slice At A.tag.length ct) (.slice Bn B.next.length dn) (.slice Bt B.tag.length dt) (.slice Ay (lbs A B).length cy) (.slice none 0 0) M)) (by simpa [Act.eval]using hbw)];exact xzdl rfl rfl
   ·rintro x u' rfl rfl
    exact⟨⟨fun h=>absurd h (by decide),fun _=>Below.refl _ _⟩,Ay,cy,M,(if_neg (by decide)).trans e4,(if_neg (by decide)).trans e8,if_pos rfl⟩
  |10,_,hLi,hw,ho=>
   obtain⟨Ay,cy,M,_,_,e9⟩:=hw 9 (by omega) (by kernel_rfl);simp only [zq,zh]at ho;subst ho;refine⟨rfl,?_⟩;obtain⟨wc,hwc⟩:∃ wc,cellsN 521 (wkG A.of B.of A.n B.n (.slice An A.next.length cn) (.slice At A.tag.length ct) (.slice Bn B.next.length dn) (.slice Bt B.tag.length dt) (.slice Ay (lbs A B).length cy) (.slice none 0 0) M)=wc:=⟨_,rfl⟩;rw [hwc]at e9;clear hw;refine xzio (R':=fun a b=>b=a.alloc (.cells wc 99)) (V':=fun x u'=>x=.pointer (some ⟨u.heap.size,0,none⟩)) ?_ ?_
   ·simp only [xzaa,tmpsTo,putT,zr]
    rw [e9];go_simp;exact xzdl rfl rfl
   ·rintro x u' rfl rfl
    exact⟨⟨fun h=>absurd h (by decide),fun _=>(Below.refl _ _).alloc (Nat.le_refl _) _⟩,wc,u.heap.size,(if_neg (by decide)).trans e9,if_pos rfl,BlkIs.new _ _ _,hC.out.2.2.2⟩
  |i+11,hix,_,_,_=>omega
 intro vs1 u hC hV;obtain⟨Ay,cy,e4,hby⟩:∃ Ay cy,vs1 4=.slice Ay (lbs A B).length cy/\BytR (w.heap.size+2) u (vs1 4) (lbs A B):=hV 4 (by omega);obtain⟨_,M,e8,hlo,hmp⟩:_/\∃ M,vs1 8=.map (some M)/\w.heap.size+2<=M/\ksMap u M 1 (fun s=>decide (s=((-1:Int),(-1:Int)))||false):=hV 8 (by omega);obtain⟨Ay',cy',M',e4',e8',e9⟩:∃ Ay cy M,vs1 4=.slice Ay (lbs A B).length cy/\vs1 8=.map (some M)/\vs1 9=.agg (cellsN 521 (wkG A.of B.of A.n B.n (.slice An A.next.length cn) (.slice At A.tag.length ct) (.slice Bn B.next.length dn) (.slice Bt B.tag.length dt) (.slice Ay (lbs A B).length cy) (.slice none 0 0) M)):=hV 9 (by omega);obtain⟨cells,g,e9',e10,hbk,hglo⟩:∃ cells b,vs1 9=.agg cells/\vs1 10=.pointer (some ⟨b,0,none⟩)/\BlkIs u b 99 cells/\w.heap.size+2<=b:=hV 10 (by omega);clear hV
 rw [e4]at e4' hby
 injection e4' with q1 _ q2
 subst q1;subst q2;rw [e8]at e8'
 injection e8' with q3
 injection q3 with q3
 subst q3;rw [e9]at e9'
 injection e9' with q4
 subst q4
 have hseen:seenZ []=fun s=>decide (s=((-1:Int),(-1:Int)))||false:=by
  funext s
  unfold seenZ noS
  simp
 have hwk:Wk ⟨A,B,.slice An A.next.length cn,.slice At A.tag.length ct,.slice Bn B.next.length dn,.slice Bt B.tag.length dt,.slice Ay (lbs A B).length cy,M,g,w.heap.size+2,w0⟩ [] (.slice none 0 0) u:=by
  refine⟨HA0.out.2.2.trans (hC.out.1.mono HA0.out.2.2.size),⟨by show w0.heap.size<=w.heap.size+2;have:=HA0.out.2.2.size;omega,hglo,hlo,hC.out.2.2.2⟩,hbk,by rw [hseen];exact hmp,World.ownsRow_nil _ _ _ _,hby,?_⟩;rw [HDC.out.1,HDC.out.2];exact⟨HA0.out.1,HA0.out.2.1⟩
 have HC:=zd hC.out;have HWK:=zd hwk;clear hwk hmp hbk hby hseen hC;simp only [xzaa,tmpsTo,putT,zr,List.drop_succ_cons,List.drop_zero];rw [e10];clear e10 e4 e8 e9;generalize vs1 0=q0;generalize vs1 1=q1;generalize vs1 2=q2;generalize vs1 3=q3;generalize vs1 4=q4;generalize vs1 5=q5;generalize vs1 6=q6;generalize vs1 8=q8;generalize vs1 9=q9;obtain⟨p,hp⟩:∃ p:WP,(⟨A,B,.slice An A.next.length cn,.slice At A.tag.length ct,.slice Bn B.next.length dn,.slice Bt B.tag.length dt,.slice Ay (lbs A B).length cy,M,g,w.heap.size+2,w0⟩:WP)=p:=⟨_,rfl⟩
 have hpg:p.g=g:=by rw [<-hp]
 have hpn:p.n1=w.heap.size+2:=by rw [<-hp]
 rw [hp]at HWK;have HP:=zd hp
 have HME:=zd (fun(u1:World) (h1:Below u.heap.size u u1)=>show Calls Tryz.prog 49 #[.pointer (some ⟨g,0,none⟩),.agg #[.int .i16 A.first,.int .i16 B.first,.int .i64 (-1),.int .u8 0]] u1 (MeetIs p [] ⟨(A.first,B.first),[], -1,0⟩ u1)from by
  have:=xzxi p [] _ u1 (HWK.out.step h1) ⟨(A.first,B.first),[], -1,0⟩ (xzxj A) (xzxj B) (by decide);rw [hpg]at this
  exact this)
 have HPN:=zd hpn;clear hp hpg hpn
 go_wp2_with(first
  |((with_reducible refine xzag rfl (.tmp 2) ?_ ?_ HC.out.2.1 ?_);exact rfl;exact rfl;rw [HDC.out.1])
  |((with_reducible refine xzag rfl (.tmp 3) ?_ ?_ HC.out.2.2.1 ?_);exact rfl;exact rfl;rw [HDC.out.2])
  |(go_at_call 50;refine(HST.out u HC.out.1).mono ?_;rintro e u1 ⟨rfl,hbu⟩;have HBU:=zd hbu;clear hbu)
  |(go_at_call 49;refine(HME.out u1 HBU.out).mono ?_;rintro e u2 ⟨rfl,vf',hwk2,hkp⟩;have HW2:=zd (And.intro hwk2 hkp);clear hwk2 hkp))
 go_ret;refine⟨_,_,_,_,_,M,g,_,vf',rfl,xzjs [] _,?_,by rw [HP.out];exact HW2.out.1,?_⟩
 ·unfold meetZ
  split
  ·intro i hi;simp at hi
  ·exact ParZ.snoc (fun i hi=>by simp at hi) (by show(0:Nat)<256;decide) (.inl ⟨rfl,rfl⟩)
 ·exact HW2.out.2.below _ _ (by rw [HPN.out];omega) (HC.out.1.trans (HBU.out.mono HC.out.1.size))
end Go.Proofs.YtdjpphjpnkfeiaaGreatDoor
