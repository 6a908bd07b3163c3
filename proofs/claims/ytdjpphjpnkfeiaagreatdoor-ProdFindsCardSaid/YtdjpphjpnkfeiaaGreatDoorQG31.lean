/-
 WHAT dfa's trimmed AND dfa.Trim ANSWER: contracts. Condition: the automaton's classes are bytes.
-/
import Derived.Test.YtdjpphjpnkfeiaaGreatDoorQG30
import Derived.Test.YtdjpphjpnkfeiaaGreatDoorQG11
namespace Go.Proofs.YtdjpphjpnkfeiaaGreatDoor
open Go.RowKit
attribute [local irreducible] FreeW textFrame
structure LP (w W5:World)(g n:Nat)(K sn:List Int)(v:Value)(W:World):Prop where
 below:Below w.heap.size w W
 same:∀ k,k<W5.heap.size->k≠g->W.heap[k]? =W5.heap[k]?
 size:W5.heap.size<=W.heap.size
 blk:BlkF W g 3 n (numF sn)
 row:RowI W5.heap.size W v K
 lt:g<W5.heap.size
 lo:w.heap.size<=g
theorem LP.mark {w W5:World}{g n:Nat}{K:List Int}{v:Value}{W:World}(h:LP w W5 g n K K v W){x:Nat}(hx:(x:Int)∉K):LP w W5 g n K (K++[(x:Int)]) v (W.setCell ⟨g,x,none⟩ (.int .i64 (K.length:Nat))):=
 ⟨h.below.setCell (p:=⟨g,x,none⟩) h.lo _,fun k hk hg=>(Below.heap_setCell _ _ _ _ hg).trans (h.same k hk hg),by rw [World.size_setCell];exact h.size,by rw [<-yzfi hx];exact h.blk.put _ _,
  xzbd h.row fun k hk=>Below.heap_setCell _ _ _ _ (fun e=>by have h1:=(World.ownsRow.lt h.row k hk).1;have h2:=h.lt;have h3:k=g:=e;omega),h.lt,h.lo⟩
theorem LP.push {w W5:World}{g n:Nat}{K sn:List Int}{v:Value}{W:World}(h:LP w W5 g n K sn v W)(x:Int)(hl:K.length+1<=1073741824):
 ∃ v' W',(Builtin.append_ #[26,26] 26 #[v,.slice (some ⟨W.heap.size,0,none⟩) 1 1]).run Tryz.prog (W.alloc (.cells #[.int .i64 x] 3))=.ok v' W'/\LP w W5 g n (K++[x]) sn v' W':=by
 obtain⟨v',W',hr,hrow,hb⟩:=h.row.push h.size x (by omega);have hz:=h.size;have hlt:=h.lt;have hlo:=h.lo;exact⟨v',W',hr,h.below.trans (hb.mono (by omega)),fun k hk hg=>(hb.block k hk).trans (h.same k hk hg),Nat.le_trans hz hb.size,(hb.block g hlt).trans h.blk,hrow,hlt,hlo⟩
theorem LP.cell {w W5:World}{g n:Nat}{K sn:List Int}{v:Value}{W:World}(h:LP w W5 g n K sn v W){b o:Nat}{y:Value}(hc:W5.cell? ⟨b,o,none⟩=some y)(hb:b≠g):W.cell? ⟨b,o,none⟩=some y:=
 (xzbi (h.same b (World.block_lt_of_cell? W5 ⟨b,o,none⟩ hc) hb)).trans hc
def rowTk (D:Df)(K:List Int)(i:Int):List Int:=(D.next.getD i.toNat []).map (numL K)
def tagTk (D:Df)(i:Int):Int:=D.tag.getD i.toNat (-1)
theorem yzbi (D:Df):trimP D=⟨D.of,D.n,(keptL D).map (rowTk D (keptL D)),(keptL D).map (tagTk D)⟩:=rfl
set_option maxRecDepth 20000 in
set_option maxHeartbeats 16000000 in
theorem xzrx (D:Df)(v:Value)(w:World)(h:DfAt w D v)(hm:MayD D):
 Calls Tryz.prog 55 #[v] w fun e w'=>∃ v',e=.returned v'/\DfAt w' (trimP D) v'/\(∀ k W',k<w.heap.size->Wrote k w' W'->DfAt W' (trimP D) v')/\Below w.heap.size w w':=by
 have HAT:=zd h;obtain⟨vn,vt,rfl,hrn,hrt⟩:=h;obtain⟨W1,hbx,hsz,hb1,hx1⟩:=xzat D.of D.n vn vt w;obtain⟨W2,hW2⟩:∃ W2,W1.alloc (.cells df0 35)=W2:=⟨_,rfl⟩
 have hs2:W2.heap.size=w.heap.size+2:=by rw [<-hW2];simp [hsz]
 have hb12:Below W1.heap.size W1 W2:=by rw [<-hW2];exact(Below.refl _ _).alloc (Nat.le_refl _) _
 have hb2:Below w.heap.size w W2:=hb1.trans (hb12.mono (by omega));have hd2:=(DfB.of hx1).step hb12
 have hr2:BlkIs W2 (w.heap.size+1) 35 df0:=by rw [<-hW2,<-hsz];exact BlkIs.new _ _ _
 obtain⟨An,cn,rfl,hcn,hgn⟩:=hrn;obtain⟨At,ct,rfl,hct,hgt⟩:=hrt;obtain⟨dc,hdc⟩:∃ dc,dfC D.of D.n (.slice An D.next.length cn) (.slice At D.tag.length ct)=dc:=⟨_,rfl⟩;have HLD:=zd (fun(u:World) (hu:DfB u w.heap.size D.of D.n (.slice An D.next.length cn) (.slice At D.tag.length ct))=>loadDf hu);rw [hdc]at hbx HAT HLD
 have hds:dc.size=259:=by rw [<-hdc];exact xzac _ _ _ _
 obtain⟨d0,hd0⟩:∃ d0,df0=d0:=⟨_,rfl⟩;have z:=zeroDf;rw [hd0]at z hW2;have HZ:=zd hd0;rw [hdc];have HDC:=zd hdc;have HM:=zd hm;have HG:=zd (And.intro hgn hgt);have H2:=zd (And.intro hb2 (And.intro hd2 (And.intro hr2 hs2)));have hfew:=hm.few;have htl:=hm.tags;have HLV:=zd (yzfh D _ W2 (HAT.out.step hb2) hm);clear hb1 hx1 hb12 hb2 hd2 hr2 hgn hgt hdc hm hd0
 go_enter Tryz.func55,Tryz.ntmps55
 go_wp2_with(first
  |((with_reducible refine xzbt (.tmp 1) ?_ ?_ H2.out.2.1 ?_ ?_);exact rfl;exact rfl;kernel_rfl;rw [HDC.out])
  |(go_at_call 69
    refine HLV.out.mono ?_;rintro e w3 ⟨g3,rfl,hg3,hbl3,hb3⟩;have hs2:=H2.out.2.2.2;obtain⟨W4,hW4⟩:∃ W4,w3.alloc (.cells #[.int .i64 (-1)] 3)=W4:=⟨_,rfl⟩
    have hs4:W4.heap.size=w3.heap.size+1:=by rw [<-hW4];simp
    have hb34:Below w3.heap.size w3 W4:=by rw [<-hW4];exact(Below.refl _ _).alloc (Nat.le_refl _) _
    have hb24:Below W2.heap.size W2 W4:=hb3.trans (hb34.mono hb3.size)
    have h4c:W4.cell? ⟨w3.heap.size,0,none⟩=some (.int .i64 (-1)):=by rw [<-hW4];exact(BlkIs.new w3 3 #[.int .i64 (-1)]).cell 0
    have k257:=(hb24.cell (p:=⟨w.heap.size,257,none⟩) (by show w.heap.size<_;omega)).trans H2.out.2.1.cells.2.1;have HRP:=zd (xzrw D.next.length (by omega) w3.heap.size W4 h4c);have H4:=zd (And.intro hb24 (And.intro ((hb34.block g3 (BlkIs.lt hbl3)).trans hbl3) (And.intro hg3 (And.intro (BlkIs.lt hbl3) hs4))))
    clear hbl3 hb3 hb34 hb24 h4c hg3 HLV hs2 hs4)
  |(go_at_call 70;refine HRP.out.mono ?_;rintro e wa ⟨rfl,hnum,hba⟩;have HA:=zd (And.intro hnum hba);clear hnum hba HRP))
 clear hs2;have hs2:=H2.out.2.2.2;have hs4:=H4.out.2.2.2.2;have hg3:=H4.out.2.2.1;have hg3b:=H4.out.2.2.2.1;have hsa:=HA.out.2.size;have hsa4:=H4.out.1.size;have hgl5:W4.heap.size<wa.heap.size:=BlkIs.lt HA.out.1;have hbaw:Below W2.heap.size W2 wa:=H4.out.1.trans (HA.out.2.mono hsa4);have HDW:=zd (H2.out.2.1.step hbaw);have HWA:=zd (H2.out.1.trans (hbaw.mono (by omega)));have HC257:=zd HDW.out.cells.2.1;have HLT:=zd (show w.heap.size<wa.heap.size by omega);have HFI:=zd (fun(u:World) (hu:Below wa.heap.size wa u)=>xzwp D _ u (HAT.out.step (HWA.out.trans (hu.mono (Nat.le_of_lt HLT.out)))))
 have HFO:=zd (fun(u:World) (hu:Below wa.heap.size wa u) (v3:Value) (h3:RowI wa.heap.size u v3 (firstL D)) (h3n:firstL D=[]->v3=.slice none 0 0)=>
  xzql D.next (firstL D) (.slice An D.next.length cn) v3 u ((show RowsI w D.next (.slice An D.next.length cn)from⟨_,_,rfl,hcn,HG.out.1⟩).step (HWA.out.trans (hu.mono (Nat.le_of_lt HLT.out)))) h3.ints h3n HM.out.wf (xzdx D) (by omega))
 clear k257 hbx hds hbaw
 refine xzaf 7 75 (fun u=>Hid (Below wa.heap.size wa u)) (fun _ u u'=>Below u.heap.size u u')
  (fun i v u=>match i with
   |0=>v=.pointer (some ⟨w.heap.size,257,none⟩)
   |1=>v=.slice An D.next.length cn
   |2=>v=.agg dc
   |3=>RowI wa.heap.size u v (firstL D)/\(firstL D=[]->v=.slice none 0 0)
   |4=>RowI wa.heap.size u v (foundL D.next (firstL D))
   |5=>v=.int .i64 (foundL D.next (firstL D)).length
   |6=>v=.int .i64 0
   |_=>True) (by kernel_rfl) (by kernel_rfl) rfl (zd (Below.refl _ _).drew) ?_ ?_ ?_ ?_
 ·intro i u u' hix hC hr
  exact zd (hC.out.trans (hr.mono hC.out.size))
 ·intro i j v u u' hix hj hne hv hr
  match i,hix,hne,hv with
  |0,_,_,hv=>exact hv
  |1,_,_,hv=>exact hv
  |2,_,_,hv=>exact hv
  |3,_,hne,hv=>
   exact⟨hv.1.step hr,hv.2⟩
  |4,_,hne,hv=>
   exact hv.step hr
  |5,_,_,hv=>exact hv
  |6,_,_,hv=>exact hv
  |i+7,hix,_,_=>omega
 ·intro i hix vs u hC hw oq ho
  match i,hix,hw,ho with
  |0,_,hw,ho=>
   simp only [zq,zh]at ho;subst ho;refine⟨rfl,?_⟩;have k257:=(hC.out.cell (p:=⟨w.heap.size,257,none⟩) HLT.out).trans HC257.out;clear hw;simp only [xzaa,tmpsTo];go_simp;exact xzab (Below.refl _ _) rfl
  |1,_,hw,ho=>
   have e0:vs 0=.pointer (some ⟨w.heap.size,257,none⟩):=hw 0 (by omega) (by kernel_rfl);simp only [zq,zh]at ho;subst ho;refine⟨rfl,?_⟩;have k257:=(hC.out.cell (p:=⟨w.heap.size,257,none⟩) HLT.out).trans HC257.out;clear hw;simp only [xzaa,tmpsTo,putT,zr];rw [e0];clear e0;go_simp;exact xzab (Below.refl _ _) rfl
  |2,_,hw,ho=>
   simp only [zq,zh]at ho;subst ho;refine⟨rfl,?_⟩;have k257:=(hC.out.cell (p:=⟨w.heap.size,257,none⟩) HLT.out).trans HC257.out;clear hw;simp only [xzaa,tmpsTo,putT,zr];rw [xzah 35 (.tmp 1) _ rfl rfl (HLD.out u (HDW.out.step hC.out))];exact xzab (Below.refl _ _) rfl
  |3,_,hw,ho=>
   have e2:vs 2=.agg dc:=hw 2 (by omega) (by kernel_rfl);simp only [zq,zh]at ho;subst ho;refine⟨rfl,?_⟩;have k257:=(hC.out.cell (p:=⟨w.heap.size,257,none⟩) HLT.out).trans HC257.out;clear hw;simp only [xzaa,tmpsTo,putT,zr];rw [e2];clear e2;go_simp;refine xzak ((HFI.out u hC.out).mono ?_);rintro e u' ⟨v',rfl,h1,h2,h3⟩;exact⟨_,rfl,h3,h1.low (by have:=hC.out.size;omega),h2⟩
  |4,_,hw,ho=>
   have e1:vs 1=.slice An D.next.length cn:=hw 1 (by omega) (by kernel_rfl);have h3:RowI wa.heap.size u (vs 3) (firstL D)/\(firstL D=[]->vs 3=.slice none 0 0):=hw 3 (by omega) (by kernel_rfl);simp only [zq,zh]at ho;subst ho;refine⟨rfl,?_⟩;have k257:=(hC.out.cell (p:=⟨w.heap.size,257,none⟩) HLT.out).trans HC257.out;clear hw;simp only [xzaa,tmpsTo,putT,zr];rw [e1];clear e1;generalize vs 3=v3 at*;go_simp;refine xzak ((HFO.out u hC.out v3 h3.1 h3.2).mono ?_);rintro e u' ⟨v',rfl,h1,h2⟩;exact⟨_,rfl,h2,h1.low (by have:=hC.out.size;omega)⟩
  |5,_,hw,ho=>
   have h4:RowI wa.heap.size u (vs 4) (foundL D.next (firstL D)):=hw 4 (by omega) (by kernel_rfl);obtain⟨A4,c4,e4,_⟩:=xzbj h4;simp only [zq,zh]at ho;subst ho;refine⟨rfl,?_⟩;have k257:=(hC.out.cell (p:=⟨w.heap.size,257,none⟩) HLT.out).trans HC257.out;clear hw;simp only [xzaa,tmpsTo,putT,zr];rw [e4];clear e4 h4;go_simp;exact xzab (Below.refl _ _) rfl
  |6,_,hw,ho=>
   simp only [zq,zh]at ho;subst ho;refine⟨rfl,?_⟩;have k257:=(hC.out.cell (p:=⟨w.heap.size,257,none⟩) HLT.out).trans HC257.out;clear hw;simp only [xzaa,tmpsTo,putT,zr];go_simp;exact xzab (Below.refl _ _) rfl
  |i+7,hix,_,_=>omega
 intro vs1 u hC hV;have h4:RowI wa.heap.size u (vs1 4) (foundL D.next (firstL D)):=hV 4 (by omega);have h5:vs1 5=.int .i64 (foundL D.next (firstL D)).length:=hV 5 (by omega);have h6:vs1 6=.int .i64 0:=hV 6 (by omega);clear hV;simp only [xzaa,tmpsTo,putT,zr,List.drop_succ_cons,List.drop_zero];rw [h5,h6];clear h5 h6;generalize vs1 4=v4 at*;generalize vs1 0=p0;generalize vs1 1=p1;generalize vs1 2=p2;generalize vs1 3=p3;obtain⟨Aq,cq,rfl,hcq⟩:=xzbj h4;have hQI:=xzfq HM.out.wf (xzdx D);obtain⟨Q,hQ⟩:∃ Q,foundL D.next (firstL D)=Q:=⟨_,rfl⟩;have HKL:=zd (show Q.filter (lvB D)=keptL D by rw [<-hQ];rfl);rw [hQ]at h4 hQI hcq;rw [hQ];have hql:=xzcb _ _ hQI;have hbz:=hC.out.size
 have HLP:=zd (show LP w u W4.heap.size D.next.length [] [] (.slice none 0 0) u from
  ⟨HWA.out.trans (hC.out.mono (Nat.le_of_lt HLT.out)),fun _ _ _=>rfl,Nat.le_refl _,yzbf ((hC.out.block _ hgl5).trans HA.out.1),RowI.nil _ _,by omega,by omega⟩)
 have hQI4:IntsV u Q (.slice Aq Q.length cq):=h4.ints
 have HQC:=zd (show ∀ (k:Nat) (hk:k<Q.length),∃ b o,Aq=some ⟨b,o,none⟩/\b≠W4.heap.size/\u.cell? ⟨b,o+k,none⟩=some (.int .i64 Q[k])from fun k hk=>by
  obtain⟨A',c',e',_,hs⟩:=hQI4;obtain⟨b,o,e2,hlt,hg⟩:=hs (by intro e;subst e;simp at hk)
  injection e' with e'
  rw [e2]at e';have h9:=(World.ownsRow.lt h4 b (by rw [e'];rfl)).1
  exact⟨b,o,e',by omega,hg k hk⟩)
 have HBL:=zd (show ∀ x:Nat,x<D.next.length->u.cell? ⟨g3,x,none⟩=some (.bool (lvB D x))from fun x hx=>
  BlkF.cell (F:=fun i=>.bool (lvB D i)) ((hC.out.block g3 (by omega)).trans ((HA.out.2.block g3 (by omega)).trans H4.out.2.1)) hx)
 have HQI:=zd hQI;have HOLD:=zd (And.intro hC.out (show DfB u w.heap.size D.of D.n (.slice An D.next.length cn) (.slice At D.tag.length ct)from HDW.out.step hC.out));have HRV:=zd (show BlkIs u (w.heap.size+1) 35 df0 from(hC.out.block _ (by omega)).trans ((HA.out.2.block _ (by omega)).trans ((H4.out.1.block _ (by omega)).trans H2.out.2.2.1)))
 have hus:w.heap.size+2<=u.heap.size:=by omega
 have h45:w.heap.size+2<=W4.heap.size/\W4.heap.size<u.heap.size:=by omega
 have hg3n:g3≠W4.heap.size:=by omega
 clear hW4 hW2 hsz hQ h4 hQI4 hQI hbz hs2 hs4 hg3 hg3b hsa hsa4 hgl5 hC HFI HFO HC257 HDW HWA HA H4 H2;go_wp2
 go_loopw [4,7,24] (fun v _ i wr=>∃ k:Nat,i=.int .i64 k/\k<=Q.length/\Hid (LP w u W4.heap.size D.next.length ((Q.take k).filter (lvB D)) ((Q.take k).filter (lvB D)) v wr)) (fun _ _ i _=>Q.length - (intOf i).toNat)
 case atStart=>exact⟨0,rfl,Nat.zero_le _,HLP⟩
 case round=>
  obtain⟨k,rfl,hk,HH⟩:=hrel;obtain⟨W6,rfl⟩:∃ W6,W6=wr:=⟨_,rfl⟩
  by_cases hp:k<Q.length
  ·have hk1:IntKind.i64.wrap ((k:Int)+1)=((k+1:Nat):Int):=by rw [IntKind.wrap_i64];omega
   have hdl:decide ((k:Int)<(Q.length:Int))=true:=by simp;omega
   obtain⟨b,o,rfl,hbn,hcq1⟩:=HQC.out k hp;have hcell:=HH.out.cell hcq1 hbn;obtain⟨x,hx⟩:∃ x:Nat,Q[k]=(x:Nat):=⟨Q[k].toNat,by have:=(HQI.out.2 _ (List.getElem_mem hp)).1;omega⟩
   have hxn:x<D.next.length:=by have:=(HQI.out.2 _ (List.getElem_mem hp)).2;omega
   have i1:decide ((x:Int)<(D.next.length:Int))=true:=by simp;omega
   have hcb:=HH.out.cell (HBL.out x hxn) hg3n
   have hts:(Q.take (k+1)).filter (lvB D)=(Q.take k).filter (lvB D)++(if lvB D x then [(x:Int)]else []):=by
    rw [xzij (by rw [List.getElem?_eq_getElem hp]) (lvB D),hx]
   have hnm:(x:Int)∉(Q.take k).filter (lvB D):=fun hmm=>by
    have h1:=(List.mem_filter.1 hmm).1;obtain⟨j,hj,e⟩:=List.getElem_of_mem h1
    have hj2:j<k:=by rw [List.length_take]at hj;omega
    rw [List.getElem_take]at e;have:=(List.getElem_inj HQI.out.1).1 (e.trans hx.symm);omega
   have hkl:((Q.take k).filter (lvB D)).length<=600:=by
    have:=List.length_filter_le (lvB D) (Q.take k);rw [List.length_take]at this;omega
   rw [hx]at hcell;obtain⟨K,hK⟩:∃ K,(Q.take k).filter (lvB D)=K:=⟨_,rfl⟩;rw [hK]at hts hnm hkl HH;clear hK hx hcq1
   cases hl:lvB D x with
   |false=>
    rw [hl]at hcb hts
    have HN:=zd (show LP w u W4.heap.size D.next.length ((Q.take (k+1)).filter (lvB D)) ((Q.take (k+1)).filter (lvB D)) u4 W6 by
     rw [hts];simpa using HH.out)
    clear hts hnm;go_wp2;exact⟨⟨k+1,rfl,hp,HN⟩,by simp [intOf];omega⟩
   |true=>
    rw [hl]at hcb hts;have hc2:=BlkF.cell HH.out.blk hxn;have hfz:=BlkIs.frozen HH.out.blk x;obtain⟨v',W',hrun,hlp⟩:=(HH.out.mark hnm).push (x:Int) (by omega);rw [World.size_setCell]at hrun
    have HN:=zd (show LP w u W4.heap.size D.next.length ((Q.take (k+1)).filter (lvB D)) ((Q.take (k+1)).filter (lvB D)) v' W' by
     rw [hts,if_pos rfl];exact hlp)
    obtain⟨Ak,ck,rfl,_⟩:=xzbj HH.out.row;clear hts hnm hlp
    go_wp2_with(refine xzan rfl _ _ 26 26 rfl rfl rfl hrun ?_)
    exact⟨⟨k+1,rfl,hp,HN⟩,by simp [intOf];omega⟩
  ·have hdl:decide ((k:Int)<(Q.length:Int))=false:=by simp;omega
   obtain rfl:k=Q.length:=by omega
   have hlp:=HH.out;rw [List.take_length,HKL.out]at hlp;obtain⟨K,hK⟩:∃ K,keptL D=K:=⟨_,rfl⟩;rw [hK]at hlp;have hKI:=xzdc HM.out.wf;rw [hK]at hKI;have HKK:=zd hK;have HKI:=zd hKI;have hKl:=xzcb _ _ hKI
   have hlt6:w.heap.size+2<=W6.heap.size:=by have:=hlp.size;omega
   have hd6:DfB W6 w.heap.size D.of D.n (.slice An D.next.length cn) (.slice At D.tag.length ct):=fun k hk=>(xzbi (hlp.same w.heap.size (by omega) (by omega))).trans (HOLD.out.2 k hk)
   have hr6:BlkIs W6 (w.heap.size+1) 35 df0:=(hlp.same _ (by omega) (by omega)).trans HRV.out;obtain⟨Ak,ck,rfl,hck⟩:=xzbj hlp.row
   have HKC:=zd (show ∀ (k:Nat) (hk:k<K.length),∃ b o,Ak=some ⟨b,o,none⟩/\b<W6.heap.size/\W6.cell? ⟨b,o+k,none⟩=some (.int .i64 K[k])from fun k hk=>by
    obtain⟨A',c',e',_,hs⟩:=hlp.row.ints;obtain⟨b,o,e2,hlt,hg⟩:=hs (by intro e;subst e;simp at hk)
    injection e' with e'
    rw [e2]at e'
    exact⟨b,o,e',hlt,hg k hk⟩)
   have HNU:=zd (yzbg hlp.blk (by omega));have HBW:=zd hlp.below;obtain⟨U7,hU7⟩:∃ U7,W6.alloc (.cells df0 35)=U7:=⟨_,rfl⟩
   have hb7:Below W6.heap.size W6 U7:=by rw [<-hU7];exact(Below.refl _ _).alloc (Nat.le_refl _) _
   have hx7:BlkIs U7 W6.heap.size 35 df0:=by rw [<-hU7];exact BlkIs.new _ _ _
   obtain⟨W8,hsc,hx8,hw8⟩:=xzbe (P:=Tryz.prog) hx7 (new:=dfC D.of D.n (.slice none 0 0) (.slice none 0 0)) (by rw [xzac];exact(xzac _ _ _ _).symm) (xzct _ _ _ _ rfl rfl)
   have HTS:=zd (show TrS W6 W6.heap.size D.of D.n (fun k=>if k<W6.heap.size then 9 else if k=W6.heap.size then 1 else 0) ⟨[],[],[]⟩ ⟨.slice none 0 0,.slice none 0 0⟩ W8 from
    ⟨hw8.2.1 _ _ (Nat.le_refl _) hb7,Nat.le_refl _,fun _=>hx8,fun _=>RowI.nil _ _,fun _=>World.ownsRow_nil _ _ _ _,⟨rfl,fun i h=>absurd h (by simp)⟩,by simp,fun k hk=>by simp [hk],⟨fun k e=>by(cases e),fun k e=>by(cases e)⟩⟩)
   have hb1:=xzqn D.of D.n;have hcs:(clsC D.of D.n).size=257:=xzaj _ _;have hd1s:(dfC D.of D.n (.slice none 0 0) (.slice none 0 0)).size=259:=xzac _ _ _ _;obtain⟨cl,hcl⟩:∃ cl,clsC D.of D.n=cl:=⟨_,rfl⟩;obtain⟨d1,hd1⟩:∃ d1,dfC D.of D.n (.slice none 0 0) (.slice none 0 0)=d1:=⟨_,rfl⟩;rw [hcl,hd1]at hb1;rw [hd1]at hsc hd1s;rw [hcl]at hcs;rw [HZ.out]at hU7;have HCL:=zd hcl;have HD6:=zd (And.intro (show w.heap.size<W6.heap.size by omega) hd6.cells.2);have HD6B:=zd (And.intro hd6 hr6);clear hlp hK hKI hb7 hx7 hx8 hw8 hcl hd1 hd6 hr6 HQC HBL HQI HOLD HRV HLP HKL HH hus h45 hg3n
   go_wp2_with(first
    |((with_reducible refine xzhq (.tmp 42) ?_ ?_ HD6B.out.1 ?_ ?_);exact rfl;exact rfl;kernel_rfl;rw [HCL.out])
    |(refine xzaz rfl 35 _ rfl (cells:=d1) (by refine(congrArg (Tryz.prog.built 35) ?_).trans hb1;kernel_rfl) ?_))
   clear hb1 hcs hd1s hsc hU7 z
   go_loopw [10,47] (fun _ i wr=>∃ j:Nat,i=.int .i64 j/\j<=K.length/\Hid (∃ ρ S V,TrS W6 W6.heap.size D.of D.n ρ S V wr/\S.R=(K.take j).map (rowTk D K)/\S.T=(K.take j).map (tagTk D))) (fun _ i _=>K.length - (intOf i).toNat)
   case atStart=>exact⟨0,rfl,Nat.zero_le _,zd ⟨_,_,_,HTS.out,rfl,rfl⟩⟩
   case round=>
    obtain⟨j,rfl,hj,HH⟩:=hrel;obtain⟨wj,rfl⟩:∃ wj,wj=wr:=⟨_,rfl⟩;obtain⟨ρ,S,V,htr,hSR,hST⟩:=HH.out;have HTR:=zd htr;have HSS:=zd (And.intro hSR hST)
    have hsl:S.R.length=j/\S.T.length=j:=by rw [hSR,hST,List.length_map,List.length_map,List.length_take];omega
    clear hSR hST HTS HH
    by_cases hp:j<K.length
    ·have hk1:IntKind.i64.wrap ((j:Int)+1)=((j+1:Nat):Int):=by rw [IntKind.wrap_i64];omega
     have hdl:decide ((j:Int)<(K.length:Int))=true:=by simp;omega
     obtain⟨b,o,rfl,hbl,hkc⟩:=HKC.out j hp;have hcell:=(htr.below.cell (p:=⟨b,o+j,none⟩) hbl).trans hkc;obtain⟨x,hx⟩:∃ x:Nat,K[j]=(x:Nat):=⟨K[j].toNat,by have:=(HKI.out.2 _ (List.getElem_mem hp)).1;omega⟩
     have hxn:x<D.next.length:=by have:=(HKI.out.2 _ (List.getElem_mem hp)).2;omega
     have hxt:x<D.tag.length:=by omega
     have i1:decide ((x:Int)<(D.next.length:Int))=true:=by simp;omega
     have i2:decide ((x:Int)<(D.tag.length:Int))=true:=by simp;omega
     obtain⟨bn,on,rfl,hltn,hgr⟩:=HG.out.1 (by intro e;rw [e]at hxn;simp at hxn);obtain⟨bt,ot,rfl,hltt,hgt⟩:=HG.out.2 (by intro e;rw [e]at hxt;simp at hxt);obtain⟨vr,hrc,hrr⟩:=hgr x hxn;have HTC:=zd (show bt<W6.heap.size/\W6.cell? ⟨bt,ot+x,none⟩=some (.int .i64 D.tag[x])from⟨by omega,(HBW.out.cell (p:=⟨bt,ot+x,none⟩) hltt).trans (hgt x hxt)⟩);have hrin:=(HM.out.rows _ (List.getElem_mem hxn)).2;have hrs:=HM.out.short _ (List.getElem_mem hxn);have HRW:=zd (show rowTk D K (x:Nat)=(D.next[x]).map (numL K)by unfold rowTk;rw [Int.toNat_natCast,List.getD_eq_getElem?_getD,List.getElem?_eq_getElem hxn];rfl);have HTW:=zd (show tagTk D (x:Nat)=D.tag[x]by unfold tagTk;rw [Int.toNat_natCast,List.getD_eq_getElem?_getD,List.getElem?_eq_getElem hxt];rfl);have HTK:=zd (show K.take (j+1)=K.take j++[(x:Int)]by rw [List.take_succ_eq_append_getElem hp,hx]);rw [hx]at hcell;generalize D.next[x]=r at*;generalize D.tag[x]=tx at*
     obtain⟨Ar,cr,rfl,hcr⟩:∃ A c,vr=.slice A r.length c/\IntsV w r (.slice A r.length c):=by
      obtain⟨A,c,e,h9⟩:=hrr;exact⟨A,c,e,by rw [<-e];exact⟨A,c,e,h9⟩⟩
     have HRC:=zd (show bn<W6.heap.size/\W6.cell? ⟨bn,on+x,none⟩=some (.slice Ar r.length cr)from⟨by omega,(HBW.out.cell (p:=⟨bn,on+x,none⟩) hltn).trans hrc⟩)
     have HRE:=zd (fun(u':World) (hu:Below W6.heap.size W6 u')=>show Calls Tryz.prog 73 #[.slice Ar r.length cr,.slice (some ⟨W4.heap.size,0,none⟩) D.next.length D.next.length] u' (fun e w'=>e=.returned (.slice (some ⟨u'.heap.size,0,none⟩) r.length r.length)/\BlkF w' u'.heap.size 3 r.length (intF (r.map (numL K)))/\Below u'.heap.size u' w')by
      have h1:=xzkt r _ _ _ u' (hcr.step (HBW.out.trans (hu.mono (Nat.le_of_lt HD6.out.1)))) (HNU.out.step hu) (by simpa using hrin) (by omega)
      rwa [ren_num hrin (fun x hx=>(HKI.out.2 x hx).1)]at h1)
     have hne1:V.vn.ownBlock≠some W6.heap.size:=fun e=>by
      have h1:=HTR.out.ro.2 _ e;have h2:=HTR.out.r0;rw [h1]at h2;cases h2
     have HNE:=zd (And.intro hne1 hne1);have HOW:=zd (show ∀ k,V.vn.ownBlock=some k->k<wj.heap.size from fun k hk=>(World.ownsRow.lt (HTR.out.n fun h=>h) k hk).2);have HSL:=zd (show S.R.length+1<=1073741824 by omega);have HRS:=zd hrs;have HSZ:=zd hsl;clear htr hbl hkc hx hltn hltt hgr hgt hrc hrr hrin hrs hcr hne1 hsl
     go_wp2_with fail
     refine xzaf 12 75 (fun u=>Hid (Tn V.vn.ownBlock wj u/\u.ownsRow W6.heap.size 26 1 V.vn S.R.length S.hn/\u.cell? ⟨W6.heap.size,257,none⟩=some V.vn/\Below W6.heap.size W6 u)) (fun i u u'=>(i=10->u.grownBy u' V.vn.ownBlock/\u'.ownsRow W6.heap.size 26 1 V.vn S.R.length S.hn)/\(i≠10->Below u.heap.size u u'))
      (fun i v u=>match i with
       |0=>v=.pointer (some ⟨W6.heap.size,257,none⟩)
       |1=>v=V.vn
       |2=>v=.pointer (some ⟨w.heap.size,257,none⟩)
       |3=>v=.slice (some ⟨bn,on,none⟩) D.next.length cn
       |4=>v=.int .i64 (x:Nat)
       |5=>v=.pointer (some ⟨bn,on+x,none⟩)
       |6=>v=.slice Ar r.length cr
       |7=>v=.slice (some ⟨W4.heap.size,0,none⟩) D.next.length D.next.length
       |8=>∃ b,v=.slice (some ⟨b,0,none⟩) r.length r.length/\BlkF u b 3 r.length (intF (r.map (numL K)))/\wj.heap.size<=b
       |9=>∃ b9 b,v=.slice (some ⟨b9,0,none⟩) 1 1/\u.cell? ⟨b9,0,none⟩=some (.slice (some ⟨b,0,none⟩) r.length r.length)/\BlkF u b 3 r.length (intF (r.map (numL K)))/\wj.heap.size<=b/\wj.heap.size<=b9
       |10=>∃ b,u.ownsRow W6.heap.size 26 1 v (S.R.length+1) (S.hn++[.slice (some ⟨b,0,none⟩) r.length r.length])/\(v.ownBlock=V.vn.ownBlock\/ ∃ b',v.ownBlock=some b'/\wj.heap.size<=b')/\BlkF u b 3 r.length (intF (r.map (numL K)))/\wj.heap.size<=b/\v.ownBlock≠some b
       |11=>v=.pointer (some ⟨W6.heap.size,257,none⟩)
       |_=>True) (by kernel_rfl) (by kernel_rfl) rfl (zd ⟨Tn.below (Below.refl _ _).drew,xzau (HTR.out.n fun h=>h) (fun _ _=>rfl),(DfB.of (HTR.out.blk fun h=>h)).cells.2.1,HTR.out.below.drew⟩) ?_ ?_ ?_ ?_
     ·intro i u u' hix hC hr
      by_cases hi8:i=10
      ·obtain⟨g1,g2⟩:=hr.1 hi8
       exact zd ⟨hC.out.1.trans (Tn.grown g1),g2,(xzbi ((Tn.grown g1).2.1 _ (World.block_lt_of_cell? u ⟨W6.heap.size,257,none⟩ hC.out.2.2.1) HNE.out.1)).trans hC.out.2.2.1,(Tn.grown g1).2.2 _ _ hC.out.2.2.2.size (fun k hk=>(World.ownsRow.lt hC.out.2.1 k hk).1) hC.out.2.2.2⟩
      ·have hb:=hr.2 hi8
       exact zd ⟨hC.out.1.trans (Tn.below hb),xzau hC.out.2.1 (fun k hk=>hb.block k (World.ownsRow.lt hC.out.2.1 k hk).2),(hb.cell (p:=⟨W6.heap.size,257,none⟩) (World.block_lt_of_cell? u ⟨W6.heap.size,257,none⟩ hC.out.2.2.1)).trans hC.out.2.2.1,hC.out.2.2.2.trans (hb.mono hC.out.2.2.2.size)⟩
     ·intro i j v u u' hix hj hne hv hr
      match i,hix,hne,hv with
      |0,_,_,hv=>exact hv
      |1,_,_,hv=>exact hv
      |2,_,_,hv=>exact hv
      |3,_,_,hv=>exact hv
      |4,_,_,hv=>exact hv
      |5,_,_,hv=>exact hv
      |6,_,_,hv=>exact hv
      |7,_,_,hv=>exact hv
      |8,_,hne,hv=>
       obtain⟨b,e1,e2,e3⟩:=hv;refine⟨b,e1,?_,e3⟩
       by_cases hj8:j=10
       ·exact((hr.1 hj8).1.block b (BlkIs.lt e2) (fun e=>by have:=HOW.out b e.symm;omega)).trans e2
       ·exact((hr.2 hj8).block b (BlkIs.lt e2)).trans e2
      |9,_,hne,hv=>
       obtain⟨b9,b,e1,e2,e3,e4,e5⟩:=hv;refine⟨b9,b,e1,?_,?_,e4,e5⟩
       ·by_cases hj8:j=10
        ·exact(xzbi ((hr.1 hj8).1.block b9 (World.block_lt_of_cell? u ⟨b9,0,none⟩ e2) (fun e=>by have:=HOW.out b9 e.symm;omega))).trans e2
        ·exact((hr.2 hj8).cell (p:=⟨b9,0,none⟩) (World.block_lt_of_cell? u ⟨b9,0,none⟩ e2)).trans e2
       ·by_cases hj8:j=10
        ·exact((hr.1 hj8).1.block b (BlkIs.lt e3) (fun e=>by have:=HOW.out b e.symm;omega)).trans e3
        ·exact((hr.2 hj8).block b (BlkIs.lt e3)).trans e3
      |10,_,hne,hv=>
       obtain⟨b,e1,e2,e3,e4,e5⟩:=hv;have hb:=hr.2 (Ne.symm hne);exact⟨b,xzau e1 fun k hk=>hb.block k (World.ownsRow.lt e1 k hk).2,e2,(hb.block b (BlkIs.lt e3)).trans e3,e4,e5⟩
      |11,_,_,hv=>exact hv
      |i+12,hix,_,_=>omega
     ·intro i hix vs u hC hw oq ho
      match i,hix,hw,ho with
      |0,_,hw,ho=>
       simp only [zq,zh]at ho;subst ho;refine⟨rfl,?_⟩;have k257:=hC.out.2.2.1;have d257:=(hC.out.2.2.2.cell (p:=⟨w.heap.size,257,none⟩) HD6.out.1).trans HD6.out.2.1;have rcl:=(hC.out.2.2.2.cell (p:=⟨bn,on+x,none⟩) HRC.out.1).trans HRC.out.2;clear hw;simp only [xzaa,tmpsTo];go_simp;exact xzab (Below.refl _ _) rfl
      |1,_,hw,ho=>
       have e0:vs 0=.pointer (some ⟨W6.heap.size,257,none⟩):=hw 0 (by omega) (by kernel_rfl);simp only [zq,zh]at ho;subst ho;refine⟨rfl,?_⟩;have k257:=hC.out.2.2.1;have d257:=(hC.out.2.2.2.cell (p:=⟨w.heap.size,257,none⟩) HD6.out.1).trans HD6.out.2.1;have rcl:=(hC.out.2.2.2.cell (p:=⟨bn,on+x,none⟩) HRC.out.1).trans HRC.out.2;clear hw;simp only [xzaa,tmpsTo,putT,zr];rw [e0];clear e0;go_simp;exact xzab (Below.refl _ _) rfl
      |2,_,hw,ho=>
       simp only [zq,zh]at ho;subst ho;refine⟨rfl,?_⟩;have k257:=hC.out.2.2.1;have d257:=(hC.out.2.2.2.cell (p:=⟨w.heap.size,257,none⟩) HD6.out.1).trans HD6.out.2.1;have rcl:=(hC.out.2.2.2.cell (p:=⟨bn,on+x,none⟩) HRC.out.1).trans HRC.out.2;clear hw;simp only [xzaa,tmpsTo,putT,zr];go_simp;exact xzab (Below.refl _ _) rfl
      |3,_,hw,ho=>
       have e2:vs 2=.pointer (some ⟨w.heap.size,257,none⟩):=hw 2 (by omega) (by kernel_rfl);simp only [zq,zh]at ho;subst ho;refine⟨rfl,?_⟩;have k257:=hC.out.2.2.1;have d257:=(hC.out.2.2.2.cell (p:=⟨w.heap.size,257,none⟩) HD6.out.1).trans HD6.out.2.1;have rcl:=(hC.out.2.2.2.cell (p:=⟨bn,on+x,none⟩) HRC.out.1).trans HRC.out.2;clear hw;simp only [xzaa,tmpsTo,putT,zr];rw [e2];clear e2;go_simp;exact xzab (Below.refl _ _) rfl
      |4,_,hw,ho=>
       simp only [zq,zh]at ho;subst ho;refine⟨rfl,?_⟩;have k257:=hC.out.2.2.1;have d257:=(hC.out.2.2.2.cell (p:=⟨w.heap.size,257,none⟩) HD6.out.1).trans HD6.out.2.1;have rcl:=(hC.out.2.2.2.cell (p:=⟨bn,on+x,none⟩) HRC.out.1).trans HRC.out.2;clear hw;simp only [xzaa,tmpsTo,putT,zr];go_simp;exact xzab (Below.refl _ _) rfl
      |5,_,hw,ho=>
       have e3:vs 3=.slice (some ⟨bn,on,none⟩) D.next.length cn:=hw 3 (by omega) (by kernel_rfl);have e4:vs 4=.int .i64 (x:Nat):=hw 4 (by omega) (by kernel_rfl);simp only [zq,zh]at ho;subst ho;refine⟨rfl,?_⟩;have k257:=hC.out.2.2.1;have d257:=(hC.out.2.2.2.cell (p:=⟨w.heap.size,257,none⟩) HD6.out.1).trans HD6.out.2.1;have rcl:=(hC.out.2.2.2.cell (p:=⟨bn,on+x,none⟩) HRC.out.1).trans HRC.out.2;clear hw;simp only [xzaa,tmpsTo,putT,zr];rw [e3,e4];clear e3 e4;go_simp;exact xzab (Below.refl _ _) rfl
      |6,_,hw,ho=>
       have e5:vs 5=.pointer (some ⟨bn,on+x,none⟩):=hw 5 (by omega) (by kernel_rfl);simp only [zq,zh]at ho;subst ho;refine⟨rfl,?_⟩;have k257:=hC.out.2.2.1;have d257:=(hC.out.2.2.2.cell (p:=⟨w.heap.size,257,none⟩) HD6.out.1).trans HD6.out.2.1;have rcl:=(hC.out.2.2.2.cell (p:=⟨bn,on+x,none⟩) HRC.out.1).trans HRC.out.2;clear hw;simp only [xzaa,tmpsTo,putT,zr];rw [e5];clear e5;go_simp;exact xzab (Below.refl _ _) rfl
      |7,_,hw,ho=>
       simp only [zq,zh]at ho;subst ho;refine⟨rfl,?_⟩;have k257:=hC.out.2.2.1;have d257:=(hC.out.2.2.2.cell (p:=⟨w.heap.size,257,none⟩) HD6.out.1).trans HD6.out.2.1;have rcl:=(hC.out.2.2.2.cell (p:=⟨bn,on+x,none⟩) HRC.out.1).trans HRC.out.2;clear hw;simp only [xzaa,tmpsTo,putT,zr];go_simp;exact xzab (Below.refl _ _) rfl
      |8,_,hw,ho=>
       have e6:vs 6=.slice Ar r.length cr:=hw 6 (by omega) (by kernel_rfl);have e7:vs 7=.slice (some ⟨W4.heap.size,0,none⟩) D.next.length D.next.length:=hw 7 (by omega) (by kernel_rfl);simp only [zq,zh]at ho;subst ho;refine⟨rfl,?_⟩;have k257:=hC.out.2.2.1;have d257:=(hC.out.2.2.2.cell (p:=⟨w.heap.size,257,none⟩) HD6.out.1).trans HD6.out.2.1;have rcl:=(hC.out.2.2.2.cell (p:=⟨bn,on+x,none⟩) HRC.out.1).trans HRC.out.2;clear hw;simp only [xzaa,tmpsTo,putT,zr];rw [e6,e7];clear e6 e7;go_simp;refine xzak ((HRE.out u hC.out.2.2.2).mono ?_);rintro e u' ⟨rfl,h1,h2⟩;exact⟨_,rfl,h2,u.heap.size,rfl,h1,hC.out.1.1⟩
      |9,_,hw,ho=>
       obtain⟨b,e8,hb1,hb2⟩:∃ b,vs 8=.slice (some ⟨b,0,none⟩) r.length r.length/\BlkF u b 3 r.length (intF (r.map (numL K)))/\wj.heap.size<=b:=hw 8 (by omega) (by kernel_rfl);simp only [zq,zh]at ho;subst ho;refine⟨rfl,?_⟩;have k257:=hC.out.2.2.1;have d257:=(hC.out.2.2.2.cell (p:=⟨w.heap.size,257,none⟩) HD6.out.1).trans HD6.out.2.1;have rcl:=(hC.out.2.2.2.cell (p:=⟨bn,on+x,none⟩) HRC.out.1).trans HRC.out.2;clear hw;simp only [xzaa,tmpsTo,putT,zr];rw [e8];clear e8;go_simp;exact xzab ((Below.refl _ _).alloc (Nat.le_refl _) _) ⟨_,rfl,b,(BlkIs.new u 26 #[.slice (some ⟨b,0,none⟩) r.length r.length]).cell 0,((Below.refl u.heap.size u).alloc (Nat.le_refl _) _ |>.block b (BlkIs.lt hb1)).trans hb1,hb2,hC.out.1.1⟩
      |10,_,hw,ho=>
       have e1:vs 1=V.vn:=hw 1 (by omega) (by kernel_rfl);obtain⟨b9,b,e9,hb1,hb2,hb3,hb4⟩:∃ b9 b,vs 9=.slice (some ⟨b9,0,none⟩) 1 1/\u.cell? ⟨b9,0,none⟩=some (.slice (some ⟨b,0,none⟩) r.length r.length)/\BlkF u b 3 r.length (intF (r.map (numL K)))/\wj.heap.size<=b/\wj.heap.size<=b9:=hw 9 (by omega) (by kernel_rfl);simp only [zq,zh]at ho;subst ho;refine⟨rfl,?_⟩;have k257:=hC.out.2.2.1;have d257:=(hC.out.2.2.2.cell (p:=⟨w.heap.size,257,none⟩) HD6.out.1).trans HD6.out.2.1;have rcl:=(hC.out.2.2.2.cell (p:=⟨bn,on+x,none⟩) HRC.out.1).trans HRC.out.2;clear hw;simp only [xzaa,tmpsTo,putT,zr];rw [e1];clear e1;rw [e9];obtain⟨v',W',hrun,k1,k2,k3,k4⟩:=xzlk hC.out.2.1 hb1 rfl (c:=1) (by have:=HSL.out;omega) (by have:=hC.out.2.2.2.size;omega);rw [xzca (.tmp 52) (.tmp 60) 25 25 rfl rfl rfl hrun]
       have hbo:V.vn.ownBlock≠some b:=fun e=>by have:=HOW.out b e;omega
       refine xzab ⟨fun _=>⟨k2,k3⟩,fun h=>absurd rfl h⟩ ⟨b,k1,?_,(k2.block b (BlkIs.lt hb2) (fun e=>hbo e.symm)).trans hb2,hb3,?_⟩
       ·rcases k4 with k4|k4
        ·exact .inl k4
        ·exact .inr ⟨_,k4,hC.out.1.1⟩
       ·rcases k4 with k4|k4
        ·rw [k4];exact hbo
        ·rw [k4];intro e;injection e with e;have:=BlkIs.lt hb2;omega
      |11,_,hw,ho=>
       simp only [zq,zh]at ho;subst ho;refine⟨rfl,?_⟩;have k257:=hC.out.2.2.1;have d257:=(hC.out.2.2.2.cell (p:=⟨w.heap.size,257,none⟩) HD6.out.1).trans HD6.out.2.1;have rcl:=(hC.out.2.2.2.cell (p:=⟨bn,on+x,none⟩) HRC.out.1).trans HRC.out.2;clear hw;simp only [xzaa,tmpsTo,putT,zr];go_simp;exact xzab (Below.refl _ _) rfl
      |i+12,hix,_,_=>omega
     intro vs1 u7 hC hV;obtain⟨b7,k1,k2,k3,k4,k5⟩:∃ b,u7.ownsRow W6.heap.size 26 1 (vs1 10) (S.R.length+1) (S.hn++[.slice (some ⟨b,0,none⟩) r.length r.length])/\((vs1 10).ownBlock=V.vn.ownBlock\/ ∃ b',(vs1 10).ownBlock=some b'/\wj.heap.size<=b')/\BlkF u7 b 3 r.length (intF (r.map (numL K)))/\wj.heap.size<=b/\(vs1 10).ownBlock≠some b:=hV 10 (by omega);have h11:vs1 11=.pointer (some ⟨W6.heap.size,257,none⟩):=hV 11 (by omega);clear hV;simp only [xzaa,tmpsTo,putT,zr,List.drop_succ_cons,List.drop_zero];rw [h11];clear h11;generalize vs1 10=v10 at*;generalize vs1 0=p0;generalize vs1 1=p1;generalize vs1 2=p2;generalize vs1 3=p3;generalize vs1 4=p4;generalize vs1 5=p5;generalize vs1 6=p6;generalize vs1 7=p7;generalize vs1 8=p8;generalize vs1 9=p9;generalize vs1 11=p11;obtain⟨⟨ρ2,htr2⟩,⟨y7,hc7⟩,fz7⟩:=HTR.out.pushN hC.out.1 (r:=r.map (numL K)) k1 k2 rfl (yzbh k3 (by simp) (by have:=HRS.out;omega)) rfl k4 (BlkIs.lt k3) k5;obtain⟨A10,c10,e10,_⟩:=xzbj k1;subst e10;obtain⟨wk,hwk⟩:∃ wk,u7.setCell ⟨W6.heap.size,257,none⟩ (.slice A10 (S.R.length+1) c10)=wk:=⟨_,rfl⟩;rw [hwk]at htr2;obtain⟨S2,hS2⟩:∃ S2:TrD,({S with R:=S.R++[r.map (numL K)],hn:=S.hn++[.slice (some ⟨b7,0,none⟩) r.length r.length]}:TrD)=S2:=⟨_,rfl⟩;obtain⟨V2,hV2⟩:∃ V2:TrV,({V with vn:=.slice A10 (S.R.length+1) c10}:TrV)=V2:=⟨_,rfl⟩;rw [hS2,hV2]at htr2
     have HS2:=zd (show S2.R=S.R++[r.map (numL K)]/\S2.T=S.T by rw [<-hS2];exact⟨rfl,rfl⟩);have HT2:=zd htr2
     have hne2:V2.vt.ownBlock≠some W6.heap.size:=fun e=>by
      have h1:=HT2.out.ro.1 _ e;have h2:=HT2.out.r0;rw [h1]at h2;cases h2
     have HNE2:=zd (And.intro hne2 hne2);have HOW2:=zd (show ∀ k,V2.vt.ownBlock=some k->k<wk.heap.size from fun k hk=>(World.ownsRow.lt (HT2.out.t fun h=>h) k hk).2);have HSL2:=zd (show S2.T.length+1<=1073741824 by rw [HS2.out.2];have:=HSZ.out.2;omega);clear htr2 hne2 hS2 hV2 k1 k2 k3 k4 k5 hC
     go_wp2_with fail
     refine xzaf 10 75 (fun u=>Hid (Tn V2.vt.ownBlock wk u/\RowI W6.heap.size u V2.vt S2.T/\u.cell? ⟨W6.heap.size,258,none⟩=some V2.vt/\Below W6.heap.size W6 u)) (fun i u u'=>(i=8->u.grownBy u' V2.vt.ownBlock/\RowI W6.heap.size u' V2.vt S2.T)/\(i≠8->Below u.heap.size u u'))
      (fun i v u=>match i with
       |0=>v=.pointer (some ⟨W6.heap.size,258,none⟩)
       |1=>v=V2.vt
       |2=>v=.pointer (some ⟨w.heap.size,258,none⟩)
       |3=>v=.slice (some ⟨bt,ot,none⟩) D.tag.length ct
       |4=>v=.int .i64 (x:Nat)
       |5=>v=.pointer (some ⟨bt,ot+x,none⟩)
       |6=>v=.int .i64 tx
       |7=>∃ b,v=.slice (some ⟨b,0,none⟩) 1 1/\u.cell? ⟨b,0,none⟩=some (.int .i64 tx)/\wk.heap.size<=b
       |8=>RowI W6.heap.size u v (S2.T++[tx])/\(v.ownBlock=V2.vt.ownBlock\/ ∃ b,v.ownBlock=some b/\wk.heap.size<=b)
       |9=>v=.pointer (some ⟨W6.heap.size,258,none⟩)
       |_=>True) (by kernel_rfl) (by kernel_rfl) rfl (zd ⟨Tn.below (Below.refl _ _).drew,xzbd (HT2.out.t fun h=>h) (fun _ _=>rfl),(DfB.of (HT2.out.blk fun h=>h)).cells.2.2,HT2.out.below.drew⟩) ?_ ?_ ?_ ?_
     ·intro i u u' hix hC hr
      by_cases hi8:i=8
      ·obtain⟨g1,g2⟩:=hr.1 hi8
       exact zd ⟨hC.out.1.trans (Tn.grown g1),g2,(xzbi ((Tn.grown g1).2.1 _ (World.block_lt_of_cell? u ⟨W6.heap.size,258,none⟩ hC.out.2.2.1) HNE2.out.1)).trans hC.out.2.2.1,(Tn.grown g1).2.2 _ _ hC.out.2.2.2.size (fun k hk=>(World.ownsRow.lt hC.out.2.1 k hk).1) hC.out.2.2.2⟩
      ·have hb:=hr.2 hi8
       exact zd ⟨hC.out.1.trans (Tn.below hb),xzbd hC.out.2.1 (fun k hk=>hb.block k (World.ownsRow.lt hC.out.2.1 k hk).2),(hb.cell (p:=⟨W6.heap.size,258,none⟩) (World.block_lt_of_cell? u ⟨W6.heap.size,258,none⟩ hC.out.2.2.1)).trans hC.out.2.2.1,hC.out.2.2.2.trans (hb.mono hC.out.2.2.2.size)⟩
     ·intro i j v u u' hix hj hne hv hr
      match i,hix,hne,hv with
      |0,_,_,hv=>exact hv
      |1,_,_,hv=>exact hv
      |2,_,_,hv=>exact hv
      |3,_,_,hv=>exact hv
      |4,_,_,hv=>exact hv
      |5,_,_,hv=>exact hv
      |6,_,_,hv=>exact hv
      |7,_,hne,hv=>
       obtain⟨b,e1,e2,e3⟩:=hv;refine⟨b,e1,?_,e3⟩
       by_cases hj8:j=8
       ·exact(xzbi ((hr.1 hj8).1.block b (World.block_lt_of_cell? u ⟨b,0,none⟩ e2) (fun e=>by have:=HOW2.out b e.symm;omega))).trans e2
       ·exact((hr.2 hj8).cell (p:=⟨b,0,none⟩) (World.block_lt_of_cell? u ⟨b,0,none⟩ e2)).trans e2
      |8,_,hne,hv=>
       exact⟨xzbd hv.1 fun k hk=>(hr.2 (Ne.symm hne)).block k (World.ownsRow.lt hv.1 k hk).2,hv.2⟩
      |9,_,_,hv=>exact hv
      |i+10,hix,_,_=>omega
     ·intro i hix vs u hC hw oq ho
      match i,hix,hw,ho with
      |0,_,hw,ho=>
       simp only [zq,zh]at ho;subst ho;refine⟨rfl,?_⟩;have k258:=hC.out.2.2.1;have d258:=(hC.out.2.2.2.cell (p:=⟨w.heap.size,258,none⟩) HD6.out.1).trans HD6.out.2.2;have tcl:=(hC.out.2.2.2.cell (p:=⟨bt,ot+x,none⟩) HTC.out.1).trans HTC.out.2;clear hw;simp only [xzaa,tmpsTo];go_simp;exact xzab (Below.refl _ _) rfl
      |1,_,hw,ho=>
       have e0:vs 0=.pointer (some ⟨W6.heap.size,258,none⟩):=hw 0 (by omega) (by kernel_rfl);simp only [zq,zh]at ho;subst ho;refine⟨rfl,?_⟩;have k258:=hC.out.2.2.1;have d258:=(hC.out.2.2.2.cell (p:=⟨w.heap.size,258,none⟩) HD6.out.1).trans HD6.out.2.2;have tcl:=(hC.out.2.2.2.cell (p:=⟨bt,ot+x,none⟩) HTC.out.1).trans HTC.out.2;clear hw;simp only [xzaa,tmpsTo,putT,zr];rw [e0];clear e0;go_simp;exact xzab (Below.refl _ _) rfl
      |2,_,hw,ho=>
       simp only [zq,zh]at ho;subst ho;refine⟨rfl,?_⟩;have k258:=hC.out.2.2.1;have d258:=(hC.out.2.2.2.cell (p:=⟨w.heap.size,258,none⟩) HD6.out.1).trans HD6.out.2.2;have tcl:=(hC.out.2.2.2.cell (p:=⟨bt,ot+x,none⟩) HTC.out.1).trans HTC.out.2;clear hw;simp only [xzaa,tmpsTo,putT,zr];go_simp;exact xzab (Below.refl _ _) rfl
      |3,_,hw,ho=>
       have e2:vs 2=.pointer (some ⟨w.heap.size,258,none⟩):=hw 2 (by omega) (by kernel_rfl);simp only [zq,zh]at ho;subst ho;refine⟨rfl,?_⟩;have k258:=hC.out.2.2.1;have d258:=(hC.out.2.2.2.cell (p:=⟨w.heap.size,258,none⟩) HD6.out.1).trans HD6.out.2.2;have tcl:=(hC.out.2.2.2.cell (p:=⟨bt,ot+x,none⟩) HTC.out.1).trans HTC.out.2;clear hw;simp only [xzaa,tmpsTo,putT,zr];rw [e2];clear e2;go_simp;exact xzab (Below.refl _ _) rfl
      |4,_,hw,ho=>
       simp only [zq,zh]at ho;subst ho;refine⟨rfl,?_⟩;have k258:=hC.out.2.2.1;have d258:=(hC.out.2.2.2.cell (p:=⟨w.heap.size,258,none⟩) HD6.out.1).trans HD6.out.2.2;have tcl:=(hC.out.2.2.2.cell (p:=⟨bt,ot+x,none⟩) HTC.out.1).trans HTC.out.2;clear hw;simp only [xzaa,tmpsTo,putT,zr];go_simp;exact xzab (Below.refl _ _) rfl
      |5,_,hw,ho=>
       have e3:vs 3=.slice (some ⟨bt,ot,none⟩) D.tag.length ct:=hw 3 (by omega) (by kernel_rfl);have e4:vs 4=.int .i64 (x:Nat):=hw 4 (by omega) (by kernel_rfl);simp only [zq,zh]at ho;subst ho;refine⟨rfl,?_⟩;have k258:=hC.out.2.2.1;have d258:=(hC.out.2.2.2.cell (p:=⟨w.heap.size,258,none⟩) HD6.out.1).trans HD6.out.2.2;have tcl:=(hC.out.2.2.2.cell (p:=⟨bt,ot+x,none⟩) HTC.out.1).trans HTC.out.2;clear hw;simp only [xzaa,tmpsTo,putT,zr];rw [e3,e4];clear e3 e4;go_simp;exact xzab (Below.refl _ _) rfl
      |6,_,hw,ho=>
       have e5:vs 5=.pointer (some ⟨bt,ot+x,none⟩):=hw 5 (by omega) (by kernel_rfl);simp only [zq,zh]at ho;subst ho;refine⟨rfl,?_⟩;have k258:=hC.out.2.2.1;have d258:=(hC.out.2.2.2.cell (p:=⟨w.heap.size,258,none⟩) HD6.out.1).trans HD6.out.2.2;have tcl:=(hC.out.2.2.2.cell (p:=⟨bt,ot+x,none⟩) HTC.out.1).trans HTC.out.2;clear hw;simp only [xzaa,tmpsTo,putT,zr];rw [e5];clear e5;go_simp;exact xzab (Below.refl _ _) rfl
      |7,_,hw,ho=>
       have e6:vs 6=.int .i64 tx:=hw 6 (by omega) (by kernel_rfl);simp only [zq,zh]at ho;subst ho;refine⟨rfl,?_⟩;have k258:=hC.out.2.2.1;have d258:=(hC.out.2.2.2.cell (p:=⟨w.heap.size,258,none⟩) HD6.out.1).trans HD6.out.2.2;have tcl:=(hC.out.2.2.2.cell (p:=⟨bt,ot+x,none⟩) HTC.out.1).trans HTC.out.2;clear hw;simp only [xzaa,tmpsTo,putT,zr];rw [e6];clear e6;go_simp;exact xzab ((Below.refl _ _).alloc (Nat.le_refl _) _) ⟨_,rfl,(BlkIs.new u 3 #[.int .i64 tx]).cell 0,hC.out.1.1⟩
      |8,_,hw,ho=>
       have e1:vs 1=V2.vt:=hw 1 (by omega) (by kernel_rfl);obtain⟨b,e7,hb1,hb2⟩:∃ b,vs 7=.slice (some ⟨b,0,none⟩) 1 1/\u.cell? ⟨b,0,none⟩=some (.int .i64 tx)/\wk.heap.size<=b:=hw 7 (by omega) (by kernel_rfl);simp only [zq,zh]at ho;subst ho;refine⟨rfl,?_⟩;have k258:=hC.out.2.2.1;have d258:=(hC.out.2.2.2.cell (p:=⟨w.heap.size,258,none⟩) HD6.out.1).trans HD6.out.2.2;have tcl:=(hC.out.2.2.2.cell (p:=⟨bt,ot+x,none⟩) HTC.out.1).trans HTC.out.2;clear hw;simp only [xzaa,tmpsTo,putT,zr];rw [e1];clear e1;rw [e7];obtain⟨v',W',hrun,k1,k2,k3,k4⟩:=xzfp hC.out.2.1 hb1 (c:=1) (by have:=HSL2.out;omega) (by have:=hC.out.2.2.2.size;omega);rw [xzca (.tmp 64) (.tmp 70) 26 26 rfl rfl rfl hrun];refine xzab ⟨fun _=>⟨k2,k3⟩,fun h=>absurd rfl h⟩ ⟨k1,?_⟩
       rcases k4 with k4|k4
       ·exact .inl k4
       ·exact .inr ⟨_,k4,hC.out.1.1⟩
      |9,_,hw,ho=>
       simp only [zq,zh]at ho;subst ho;refine⟨rfl,?_⟩;have k258:=hC.out.2.2.1;have d258:=(hC.out.2.2.2.cell (p:=⟨w.heap.size,258,none⟩) HD6.out.1).trans HD6.out.2.2;have tcl:=(hC.out.2.2.2.cell (p:=⟨bt,ot+x,none⟩) HTC.out.1).trans HTC.out.2;clear hw;simp only [xzaa,tmpsTo,putT,zr];go_simp;exact xzab (Below.refl _ _) rfl
      |i+10,hix,_,_=>omega
     intro vs2 u8 hC hV;obtain⟨k1,k2⟩:RowI W6.heap.size u8 (vs2 8) (S2.T++[tx])/\((vs2 8).ownBlock=V2.vt.ownBlock\/ ∃ b,(vs2 8).ownBlock=some b/\wk.heap.size<=b):=hV 8 (by omega);have h11:vs2 9=.pointer (some ⟨W6.heap.size,258,none⟩):=hV 9 (by omega);clear hV;simp only [xzaa,tmpsTo,putT,zr,List.drop_succ_cons,List.drop_zero];rw [h11];clear h11;generalize vs2 8=v8 at*;generalize vs2 0=r0;generalize vs2 1=r1;generalize vs2 2=r2;generalize vs2 3=r3;generalize vs2 4=r4;generalize vs2 5=r5;generalize vs2 6=r6;generalize vs2 7=r7;generalize vs2 9=p9;obtain⟨⟨ρ3,htr3⟩,⟨y8,hc8⟩,fz8⟩:=HT2.out.pushT hC.out.1 k1 k2;obtain⟨A8,c8,e8,_⟩:=xzbj k1;rw [List.length_append,List.length_singleton]at e8;subst e8
     have HN:=zd (show ∃ ρ S V,TrS W6 W6.heap.size D.of D.n ρ S V (u8.setCell ⟨W6.heap.size,258,none⟩ (.slice A8 (S2.T.length+1) c8))/\S.R=(K.take (j+1)).map (rowTk D K)/\S.T=(K.take (j+1)).map (tagTk D)from
      ⟨ρ3,_,_,htr3,by
       show S2.R=_
       rw [HS2.out.1,HTK.out,List.map_append,HSS.out.1,List.map_singleton,HRW.out],by
       show S2.T++[tx]=_
       rw [HS2.out.2,HTK.out,List.map_append,HSS.out.2,List.map_singleton,HTW.out]⟩)
     clear htr3 k1 k2 hC;go_wp2;exact⟨⟨j+1,rfl,hp,HN⟩,by simp [intOf];omega⟩
    ·have hdl:decide ((j:Int)<(K.length:Int))=false:=by simp;omega
     obtain rfl:j=K.length:=by omega
     obtain⟨An2,cn2,en2,_⟩:=xzbj (HTR.out.n fun h=>h);obtain⟨At2,ct2,et2,_⟩:=xzbj (HTR.out.t fun h=>h);obtain⟨W9,hsc,hb9,hw9⟩:=xzbe (P:=Tryz.prog) (show BlkIs wj (w.heap.size+1) 35 df0 from(htr.below.block _ (by have:=hlt6;omega)).trans HD6B.out.2) (new:=dfC D.of D.n V.vn V.vt) (by rw [xzac];exact(xzac _ _ _ _).symm) (xzct _ _ _ _ (by rw [en2];rfl) (by rw [et2];rfl))
     have hat9:∀ W',wj.heap.size<=W'.heap.size->(∀ b,W6.heap.size<=b->W'.heap[b]? =wj.heap[b]?)->DfAt W' (trimP D) (.agg (dfC D.of D.n V.vn V.vt)):=fun W' hz hbb=>by
      have:=TrX.wrote htr hz hbb;rw [HSS.out.1,HSS.out.2,List.take_length]at this;rw [yzbi,HKK.out];exact this
     have HDT:=zd (show DfAt W9 (trimP D) (.agg (dfC D.of D.n V.vn V.vt))/\(∀ k W',k<w.heap.size->Wrote k W9 W'->DfAt W' (trimP D) (.agg (dfC D.of D.n V.vn V.vt)))/\Below w.heap.size w W9 from
      ⟨hat9 W9 (Nat.le_of_eq hw9.2.2.symm) (fun b hb=>hw9.1 b (by omega)),fun k W' hk hw=>hat9 W' (by rw [hw.2.2,hw9.2.2];exact Nat.le_refl _) (fun b hb=>(hw.1 b (by omega)).trans (hw9.1 b (by omega))),hw9.2.1 _ _ (by omega) (HBW.out.trans (htr.below.mono (Nat.le_of_lt HD6.out.1)))⟩)
     have hl9:=loadVarDf (DfB.of hb9);have hds:(dfC D.of D.n V.vn V.vt).size=259:=xzac _ _ _ _;have HB8:=zd (DfB.of (htr.blk fun h=>h));obtain⟨d9,hd9⟩:∃ d9,dfC D.of D.n V.vn V.vt=d9:=⟨_,rfl⟩;rw [hd9]at hsc hl9 hds HDT;have HD9:=zd hd9;clear htr hb9 hw9 hd9 hat9
     go_wp2_with((with_reducible refine xzbt (.tmp 8) ?_ ?_ HB8.out ?_ ?_);exact rfl;exact rfl;kernel_rfl;rw [HD9.out])
     exact bodyPost_ret (xzae rfl rfl hl9) rfl ⟨_,rfl,HDT.out⟩
end Go.Proofs.YtdjpphjpnkfeiaaGreatDoor
