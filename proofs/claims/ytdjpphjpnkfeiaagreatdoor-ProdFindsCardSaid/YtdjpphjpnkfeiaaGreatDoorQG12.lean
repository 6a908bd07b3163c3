/-
 WHAT newMaker OF THE SUBSETS ANSWERS: a contract. Condition: the automaton with choices may be, has at most 2000 sets; the table of math/bits lies as it is laid.
-/
import Derived.Test.YtdjpphjpnkfeiaaGreatDoorQG11
import Derived.Test.YtdjpphjpnkfeiaaGreatDoorQG07
namespace Go.Proofs.YtdjpphjpnkfeiaaGreatDoor
section
open Go.RowKit
attribute [local irreducible] FreeW textFrame
set_option maxRecDepth 20000 in
set_option maxHeartbeats 16000000 in
theorem xzno (N:Nf)(v:Value)(w:World)(h:NfaAt w N v)(hms:N.sets.length<=2000)(hT:Tab w)(hfn:N.follow.length<=2000)(hin:∀ l∈N.follow,∀ p∈l,0<=p/\p<2048):
 Calls Tryz.prog 63 #[v] w fun e w'=>e=.returned (.pointer (some ⟨w.heap.size+2,0,none⟩))/\∃ ρ V bs,SM (spN N w) ρ ⟨[],[],[],[],N.follow.map setOf,(List.range (clN N)).map fun j=>takesTo N (lbN N j) N.sets.length⟩ V bs w':=by
 obtain⟨A0,A1,A2,A3,A4,c0,c1,c2,c3,c4,rfl⟩:=h.form;obtain⟨W1,hW1⟩:∃ W1,w.alloc (.cells #[.slice A0 N.sets.length c0,.slice A1 N.rules.length c1,.slice A2 N.first.length c2,.slice A3 N.follow.length c3,.slice A4 N.ends.length c4,.int .i64 N.empty] 86)=W1:=⟨_,rfl⟩;obtain⟨W2,hW2⟩:∃ W2,W1.alloc (.map #[] 0)=W2:=⟨_,rfl⟩;obtain⟨mkC,hmkC⟩:∃ mkC,(cellsN 301 (mkF (mk0 (.slice A0 N.sets.length c0) (.slice A1 N.rules.length c1) (.slice A2 N.first.length c2) (.slice A3 N.follow.length c3) (.slice A4 N.ends.length c4) N.empty (w.heap.size+1))))=mkC:=⟨_,rfl⟩;obtain⟨W3,hW3⟩:∃ W3,W2.alloc (.cells mkC 129)=W3:=⟨_,rfl⟩
 have hs1:W1.heap.size=w.heap.size+1:=by rw [<-hW1];simp
 have hs2:W2.heap.size=w.heap.size+2:=by rw [<-hW2];simp [hs1]
 have hb1:Below w.heap.size w W1:=by rw [<-hW1];exact(Below.refl _ _).alloc (Nat.le_refl _) _
 have hb2:Below w.heap.size w W2:=by rw [<-hW2];exact hb1.alloc (by omega) _
 have hb3:Below w.heap.size w W3:=by rw [<-hW3];exact hb2.alloc (by omega) _
 have hx1:BlkIs W1 w.heap.size 86 #[.slice A0 N.sets.length c0,.slice A1 N.rules.length c1,.slice A2 N.first.length c2,.slice A3 N.follow.length c3,.slice A4 N.ends.length c4,.int .i64 N.empty]:=by rw [<-hW1];exact BlkIs.new _ _ _
 have hx3:BlkIs W3 w.heap.size 86 #[.slice A0 N.sets.length c0,.slice A1 N.rules.length c1,.slice A2 N.first.length c2,.slice A3 N.follow.length c3,.slice A4 N.ends.length c4,.int .i64 N.empty]:=by rw [<-hW3,<-hW2];exact(hx1.alloc _).alloc _
 have hg3:BlkF W3 (w.heap.size+2) 129 301 (mkF (mk0 (.slice A0 N.sets.length c0) (.slice A1 N.rules.length c1) (.slice A2 N.first.length c2) (.slice A3 N.follow.length c3) (.slice A4 N.ends.length c4) N.empty (w.heap.size+1))):=by rw [<-hW3,<-hs2,<-hmkC];exact BlkIs.new _ _ _
 have hm3:NumIs W3 (w.heap.size+1) []:=by
  have h0:=xzuq W1;rw [hW2,hs1]at h0;exact h0.heap (by rw [<-hW3];exact((Below.refl W2.heap.size W2).alloc (Nat.le_refl _) _).block _ (by omega))
 have hset:SetsV w N.sets (.slice A0 N.sets.length c0):=by
  obtain⟨_,_,_,_,_,e,h0,_⟩:=h
  injection e with e
  injection e with e
  simp only [List.cons.injEq]at e;obtain⟨rfl,_⟩:=e;exact h0
 obtain⟨cl,hcl⟩:∃ cl,clsC (ofN N) (clN N:Nat)=cl:=⟨_,rfl⟩;have HPT:=zd (fun(u:World) (hu:Below w.heap.size w u)=>xzzs N.sets (by omega) A0 c0 (yzej hset) u (hT.step hu) (yzei (hset.step hu)));rw [show clsC (num (saysG N.sets)) (cnt (saysG N.sets) 256:Nat)=cl from hcl]at HPT
 have hcs:cl.size=257:=by rw [<-hcl];exact xzaj _ _
 have hc1:cl.all (·.oneCell')=true:=by rw [<-hcl];exact xzej _ _
 have HPC:=zd (fun(u:World) (hu:BlkF u (w.heap.size+2) 129 301 (mkF (mk0 (.slice A0 N.sets.length c0) (.slice A1 N.rules.length c1) (.slice A2 N.first.length c2) (.slice A3 N.follow.length c3) (.slice A4 N.ends.length c4) N.empty (w.heap.size+1))))=>putsC _ (ofN N) (clN N) hu);rw [hcl]at HPC;have HCL:=zd (And.intro hcs (And.intro hc1 hcl));clear hcs hc1 hcl;have hbm:=yzeh A0 A1 A2 A3 A4 N.sets.length N.rules.length N.first.length N.follow.length N.ends.length c0 c1 c2 c3 c4 N.empty (w.heap.size+1);have hbx:=box_mk (mk0 (.slice A0 N.sets.length c0) (.slice A1 N.rules.length c1) (.slice A2 N.first.length c2) (.slice A3 N.follow.length c3) (.slice A4 N.ends.length c4) N.empty (w.heap.size+1)) W2;rw [hmkC]at hbm hbx;rw [hW3,hs2]at hbx;have HG3:=zd (And.intro hg3 (And.intro hm3 hb3));have HNF:=zd h
 have HFO:=zd (show N.follow≠[]->∃ b o,A3=some ⟨b,o,none⟩/\b<w.heap.size/\∀ (i:Nat) (h:i<N.follow.length),∃ u,w.cell? ⟨b,o+i,none⟩=some u/\IntsV w N.follow[i] u by
  obtain⟨_,_,_,_,_,e,_,_,_,h3,_⟩:=h
  injection e with e
  injection e with e
  simp only [List.cons.injEq]at e;obtain⟨_,_,_,rfl,_⟩:=e;obtain⟨A,c,e,_,hs⟩:=h3
  injection e with e _ _
  subst e
  exact hs)
 have HFI:=zd (fun(k:Nat) (hk:k<N.follow.length)=>hin _ (List.getElem_mem hk));have HFN:=zd (show N.follow.length<=2000 from hfn);have HSN:=zd (show N.sets.length<=2000 by omega);have HTT:=zd hT;have HX3:=zd hx3;obtain⟨d0,d1,d2,d3,d4,d5⟩:=six hx1;obtain⟨d30,d31,d32,d33,d34,d35⟩:=six hx3;clear hfn hin h hset hg3 hm3 hx1 hx3 hmkC hT hb1 hb2;have hmm:=run_makeMap (P:=Tryz.prog) 124 W1;rw [hW2,hs1]at hmm
 go_enter Tryz.func63,Tryz.ntmps63
 go_wp2_with(refine xzaz rfl 129 _ rfl (cells:=mkC) (by refine(congrArg (Tryz.prog.built 129) ?_).trans hbm;kernel_rfl) ?_)
 go_at_call 82
 refine(HPT.out _ HG3.out.2.2).mono ?_;rintro e u3 ⟨rfl,hbu⟩;have hb3:=HG3.out.2.2.trans (hbu.mono HG3.out.2.2.size);have hg3:=BlkIs.step HG3.out.1 hbu
 have hth:u3.there (w.heap.size+2) 0 cl.size:=by
  rw [HCL.out.1]
  exact fun j hj=>BlkIs.there hg3 j (by rw [xzax];omega)
 obtain⟨W4,hW4⟩:∃ W4,u3.setCells (w.heap.size+2) 0 cl.toList=W4:=⟨_,rfl⟩;have hg4:=HPC.out u3 hg3;rw [hW4]at hg4;have hW:=Wrote.cells (w.heap.size+2) cl.toList 0 u3;rw [hW4]at hW;have hb4:=hW.2.1 _ _ (by omega) hb3;have hm4:NumIs W4 (w.heap.size+1) []:=(HG3.out.2.1.heap (hbu.block _ HG3.out.2.1.lt)).heap (hW.1 _ (by omega));have HSM:=zd (yzek N w W4 _ _ _ _ _ HNF.out hb4 hg4 hm4);have hW0:=hW;clear hg4 hb4 hm4 hW hg3 hb3;have hc1:=HCL.out.2.1;have hci:=HCL.out.1;have hsc:=xzeu (P:=Tryz.prog) hth hc1;rw [hW4]at hsc;have hx4:=hW0.blk (show w.heap.size≠w.heap.size+2 by omega) (BlkIs.step HX3.out hbu);obtain⟨_,_,_,d43,_⟩:=six hx4;clear hx4 hW0 hbu hbm hbx hmm hW1 hW2 hW3 hW4 hth hc1 HPC HG3 HPT HCL HX3;go_wp2;clear hsc hci
 go_loopw [5,21] (fun _ i wr=>∃ k:Nat,i=.int .i64 k/\k<=N.follow.length/\Hid (∃ ρ V bs,SM (spN N w) ρ ⟨[],[],[],[],(N.follow.take k).map setOf,[]⟩ V bs wr)) (fun _ i _=>N.follow.length - (intOf i).toNat)
 case atStart=>exact⟨0,rfl,Nat.zero_le _,zd ⟨_,_,_,HSM.out⟩⟩
 case round=>
  obtain⟨k,rfl,hk,HH⟩:=hrel;obtain⟨w2,rfl⟩:∃ w2,w2=wr:=⟨_,rfl⟩;obtain⟨ρ,V,bs,hsm⟩:=HH.out
  by_cases hp:k<N.follow.length
  ·have hk1:IntKind.i64.wrap ((k:Int)+1)=((k+1:Nat):Int):=by have:=HFN.out;rw [IntKind.wrap_i64];omega
   have hdl:decide ((k:Int)<(N.follow.length:Int))=true:=by simp;omega
   obtain⟨l,hl⟩:∃ l,N.follow[k]=l:=⟨_,rfl⟩
   obtain⟨bf,o,vl,rfl,hcell,hvl⟩:∃ bf o vl,A3=some ⟨bf,o,none⟩/\w2.cell? ⟨bf,o+k,none⟩=some vl/\IntsV w l vl:=by
    obtain⟨b,o,e1,hlt,hg⟩:=HFO.out (by intro e;rw [e]at hp;simp at hp);obtain⟨u,h1,h2⟩:=hg k hp;exact⟨b,o,u,e1,(hsm.below.cell (p:=⟨b,o+k,none⟩) hlt).trans h1,hl▸h2⟩
   have HIN:=zd (HFI.out k hp);rw [hl]at HIN;have HRO:=zd (fun(u:World) (hu:Below w.heap.size w u)=>xzyt l vl u (hvl.step hu) HIN.out)
   have htk:(N.follow.take (k+1)).map setOf=(N.follow.take k).map setOf++[setOf l]:=by
    rw [List.take_add_one,List.getElem?_eq_getElem hp,hl];simp
   obtain⟨FL,hFL⟩:∃ FL,(N.follow.take k).map setOf=FL:=⟨_,rfl⟩;have HLN:=zd (show FL.length+1<=1073741824 by rw [<-hFL];simp;have:=HFN.out;omega);rw [hFL]at htk hsm;have HTK:=zd htk;have HC0:=zd (And.intro hsm.below (And.intro (hsm.fo (fun h=>h)) hsm.cells.2.2.2.2.2.2.2.2.2.1));have HOW:=zd (show ∀ k,V.fol.ownBlock=some k->k<w2.heap.size from fun k hk=>(World.ownsRow.lt (hsm.fo (fun h=>h)) k hk).2)
   have HNE:=zd (show V.fol.ownBlock≠some (w.heap.size+2)from fun e=>by
    have h1:=hsm.ro.2.2.1 _ e;have h2:=hsm.ro.1;rw [show(spN N w).g=w.heap.size+2 from rfl]at h2
    rw [h1]at h2;cases h2)
   have HWS:=zd (show w.heap.size<=w2.heap.size from hsm.size);have HGL:=zd (show w.heap.size+2<w2.heap.size from BlkIs.lt (hsm.blk (fun h=>h)));have HSM2:=zd hsm;clear hsm hl htk hFL hvl HIN HH HSM
   go_wp2_with fail
   refine xzaf 9 67 (fun u=>Hid (Tn V.fol.ownBlock w2 u/\Below w.heap.size w u/\RowsP w.heap.size u V.fol FL/\u.cell? ⟨w.heap.size+2,265,none⟩=some V.fol)) (fun i u u'=>(i=8->u.grownBy u' V.fol.ownBlock/\RowsP w.heap.size u' V.fol FL)/\(i≠8->Below u.heap.size u u'))
    (fun i v u=>match i with
     |0=>v=.pointer (some ⟨w.heap.size+2,0,none⟩)
     |1=>v=.pointer (some ⟨w.heap.size+2,0,none⟩)
     |2=>v=.pointer (some ⟨w.heap.size+2,0,none⟩)
     |3=>v=.pointer (some ⟨w.heap.size+2,265,none⟩)
     |4=>v=V.fol
     |5=>v=vl
     |6=>v=.agg (rowA (setOf l))
     |7=>∃ b,v=.slice (some ⟨b,0,none⟩) 1 1/\RowAt u b 0 (setOf l)/\w2.heap.size<=b
     |8=>RowsP w.heap.size u v (FL++[setOf l])/\(v.ownBlock=V.fol.ownBlock\/ ∃ b,v.ownBlock=some b/\w2.heap.size<=b)
     |_=>True) (by kernel_rfl) (by kernel_rfl) rfl (zd ⟨Tn.below (Below.refl _ _).drew,HC0.out.1.drew,HC0.out.2.1.heap (fun _ _=>rfl),HC0.out.2.2⟩) ?_ ?_ ?_ ?_
   ·intro i u u' hix hC hr
    by_cases hi8:i=8
    ·obtain⟨g1,g2⟩:=hr.1 hi8
     have n1:V.fol.ownBlock≠some (w.heap.size+2):=HNE.out;exact zd ⟨hC.out.1.trans (Tn.grown g1),(Tn.grown g1).2.2 _ _ (by have:=hC.out.1.1;have:=HWS.out;omega) (fun k hk=>(World.ownsRow.lt hC.out.2.2.1 k hk).1) hC.out.2.1,g2,(xzbi ((Tn.grown g1).2.1 _ (by have:=hC.out.1.1;have:=HGL.out;omega) n1)).trans hC.out.2.2.2⟩
    ·have hb:=hr.2 hi8
     exact zd ⟨hC.out.1.trans (Tn.below hb),hC.out.2.1.trans (hb.mono (by have:=hC.out.1.1;have:=HWS.out;omega)),hC.out.2.2.1.heap (fun k hk=>hb.block k (World.ownsRow.lt hC.out.2.2.1 k hk).2),(hb.cell (p:=⟨w.heap.size+2,265,none⟩) (by have:=hC.out.1.1;have:=HGL.out;show w.heap.size+2<u.heap.size;omega)).trans hC.out.2.2.2⟩
   ·intro i j v u u' hix hj hne hv hr
    match i,hix,hne,hv with
    |0,_,_,hv=>exact hv
    |1,_,_,hv=>exact hv
    |2,_,_,hv=>exact hv
    |3,_,_,hv=>exact hv
    |4,_,_,hv=>exact hv
    |5,_,_,hv=>exact hv
    |6,_,_,hv=>exact hv
    |7,_,hne,hv=>
     obtain⟨b,e1,e2,e3⟩:=hv;refine⟨b,e1,?_,e3⟩
     by_cases hj8:j=8
     ·exact e2.heap ((hr.1 hj8).1.block b (World.block_lt_of_cell? u ⟨b,0+0,none⟩ (e2 0 (by decide))) (fun e=>by have:=HOW.out b e.symm;omega))
     ·exact e2.step (hr.2 hj8)
    |8,_,hne,hv=>
     exact⟨hv.1.heap fun k hk=>(hr.2 (Ne.symm hne)).block k (World.ownsRow.lt hv.1 k hk).2,hv.2⟩
    |i+9,hix,_,_=>omega
   ·intro i hix vs u hC hw oq ho
    match i,hix,hw,ho with
    |0,_,hw,ho=>
     simp only [zq,zh]at ho;subst ho;refine⟨rfl,?_⟩;have k265:=hC.out.2.2.2;clear hw;simp only [xzaa,tmpsTo];go_simp;exact xzab (Below.refl _ _) rfl
    |1,_,hw,ho=>
     simp only [zq,zh]at ho;subst ho;refine⟨rfl,?_⟩;have k265:=hC.out.2.2.2;clear hw;simp only [xzaa,tmpsTo,putT,zr];go_simp;exact xzab (Below.refl _ _) rfl
    |2,_,hw,ho=>
     have e1:vs 1=.pointer (some ⟨w.heap.size+2,0,none⟩):=hw 1 (by omega) (by kernel_rfl);simp only [zq,zh]at ho;subst ho;refine⟨rfl,?_⟩;have k265:=hC.out.2.2.2;clear hw;simp only [xzaa,tmpsTo,putT,zr];rw [e1];clear e1;go_simp;exact xzab (Below.refl _ _) rfl
    |3,_,hw,ho=>
     have e2:vs 2=.pointer (some ⟨w.heap.size+2,0,none⟩):=hw 2 (by omega) (by kernel_rfl);simp only [zq,zh]at ho;subst ho;refine⟨rfl,?_⟩;have k265:=hC.out.2.2.2;clear hw;simp only [xzaa,tmpsTo,putT,zr];rw [e2];clear e2;go_simp;exact xzab (Below.refl _ _) rfl
    |4,_,hw,ho=>
     have e3:vs 3=.pointer (some ⟨w.heap.size+2,265,none⟩):=hw 3 (by omega) (by kernel_rfl);simp only [zq,zh]at ho;subst ho;refine⟨rfl,?_⟩;have k265:=hC.out.2.2.2;clear hw;simp only [xzaa,tmpsTo,putT,zr];rw [e3];clear e3;go_simp;exact xzab (Below.refl _ _) rfl
    |5,_,hw,ho=>
     simp only [zq,zh]at ho;subst ho;refine⟨rfl,?_⟩;have k265:=hC.out.2.2.2;clear hw;simp only [xzaa,tmpsTo,putT,zr];go_simp;exact xzab (Below.refl _ _) rfl
    |6,_,hw,ho=>
     have e5:vs 5=vl:=hw 5 (by omega) (by kernel_rfl);simp only [zq,zh]at ho;subst ho;refine⟨rfl,?_⟩;have k265:=hC.out.2.2.2;clear hw;simp only [xzaa,tmpsTo,putT,zr];rw [e5];clear e5;go_simp;refine xzak ((HRO.out u hC.out.2.1).mono ?_);rintro e u' ⟨rfl,hbu⟩;exact⟨_,rfl,hbu,rfl⟩
    |7,_,hw,ho=>
     have e6:vs 6=.agg (rowA (setOf l)):=hw 6 (by omega) (by kernel_rfl);simp only [zq,zh]at ho;subst ho;refine⟨rfl,?_⟩;have k265:=hC.out.2.2.2;clear hw;simp only [xzaa,tmpsTo,putT,zr];rw [e6];clear e6;rw [xzfh (x:=.agg (rowA (setOf l))) 123 (.tmp 31) rfl rfl (xzhj (setOf l) u)];exact xzab ⟨fun h=>absurd h (by decide),fun _=>(Below.refl _ _).alloc (Nat.le_refl _) _⟩ ⟨_,rfl,BlkF.row (newF _ _ _) (xzbm _),hC.out.1.1⟩
    |8,_,hw,ho=>
     have e4:vs 4=V.fol:=hw 4 (by omega) (by kernel_rfl);obtain⟨b,e7,hb1,hb2⟩:∃ b,vs 7=.slice (some ⟨b,0,none⟩) 1 1/\RowAt u b 0 (setOf l)/\w2.heap.size<=b:=hw 7 (by omega) (by kernel_rfl);simp only [zq,zh]at ho;subst ho;refine⟨rfl,?_⟩;have k265:=hC.out.2.2.2;clear hw;simp only [xzaa,tmpsTo,putT,zr];rw [e4];clear e4;rw [e7];obtain⟨v',W',hrun,k1,k2,k3,k4⟩:=xzfg hC.out.2.2.1 hb1 (c:=1) (by have:=HLN.out;omega) (by have:=hC.out.1.1;have:=HWS.out;omega);rw [xzca (.tmp 29) (.tmp 32) 123 123 rfl rfl rfl hrun];refine xzab ?_ ?_
     ·exact⟨fun _=>⟨k2,k3⟩,fun h=>absurd rfl h⟩
     ·refine⟨k1,?_⟩
      rcases k4 with k4|k4
      ·exact .inl k4
      ·exact .inr ⟨_,k4,hC.out.1.1⟩
    |i+9,hix,_,_=>omega
   intro vs1 u hC hV;have h8:RowsP w.heap.size u (vs1 8) (FL++[setOf l])/\((vs1 8).ownBlock=V.fol.ownBlock\/ ∃ b,(vs1 8).ownBlock=some b/\w2.heap.size<=b):=hV 8 (by omega);have h0:vs1 0=.pointer (some ⟨w.heap.size+2,0,none⟩):=hV 0 (by omega);clear hV;simp only [xzaa,tmpsTo,putT,zr,List.drop_succ_cons,List.drop_zero];rw [h0];clear h0;generalize vs1 8=v8 at*;generalize vs1 1=q1;generalize vs1 2=q2;generalize vs1 3=q3;generalize vs1 4=q4;generalize vs1 5=q5;generalize vs1 6=q6;generalize vs1 7=q7;obtain⟨⟨ρ',hn⟩,⟨x265,c265⟩,fz⟩:=sm_fol HSM2.out hC.out.1 h8.1 h8.2;have HN:=zd hn;obtain⟨A8,cc8,e8,hc8⟩:=h8.1.form;rw [show(FL++[setOf l]).length=FL.length+1 by simp]at e8;subst e8;have c265':u.cell? ⟨w.heap.size+2,265,none⟩=some x265:=c265;have fz':u.frozen? ⟨w.heap.size+2,265,none⟩=false:=fz;clear hn h8 hC HC0 HOW HNE HRO c265 fz;go_wp2;exact⟨⟨k+1,rfl,hp,zd ⟨ρ',{V with fol:=.slice A8 (FL.length+1) cc8},bs,by rw [HTK.out];exact HN.out⟩⟩,by simp [intOf];omega⟩
  ·have hdl:decide ((k:Int)<(N.follow.length:Int))=false:=by simp;omega
   obtain rfl:k=N.follow.length:=by omega
   rw [List.take_length]at hsm;have c256:w2.cell? ⟨w.heap.size+2,256,none⟩=some (.int .i64 (clN N:Nat)):=hsm.cells.1;have HSM1:=zd (show ∃ ρ V bs,SM (spN N w) ρ ⟨[],[],[],[],N.follow.map setOf,[]⟩ V bs w2 from⟨_,_,_,hsm⟩);clear hsm HH HSM d0 d1 d2 d4 d5 d30 d31 d32 d34 d35;go_wp2
   go_loopw [6,43] (fun _ i wr=>∃ k:Nat,i=.int .i64 k/\k<=clN N/\Hid (∃ ρ V bs,SM (spN N w) ρ ⟨[],[],[],[],N.follow.map setOf,(List.range k).map fun j=>takesTo N (lbN N j) N.sets.length⟩ V bs wr)) (fun _ i _=>clN N - (intOf i).toNat)
   case atStart=>exact⟨0,rfl,Nat.zero_le _,HSM1⟩
   case round=>
    obtain⟨k,rfl,hk,HH⟩:=hrel;obtain⟨w2,rfl⟩:∃ w2,w2=wr:=⟨_,rfl⟩;obtain⟨ρ,V,bs,hsm⟩:=HH.out;have hcl6:=xzzo N
    by_cases hp:k<clN N
    ·have hk1:IntKind.i64.wrap ((k:Int)+1)=((k+1:Nat):Int):=by rw [IntKind.wrap_i64];omega
     have hdl:decide ((k:Int)<(clN N:Int))=true:=by simp;omega
     obtain⟨hl1,hl2,_⟩:=xzzn N hp;have HLW:=zd (show IntKind.u8.wrap ((lbN N k:Nat):Int)=((lbN N k:Nat):Int)by rw [IntKind.wrap_u8];omega)
     have htk:((List.range (k+1)).map fun j=>takesTo N (lbN N j) N.sets.length)=((List.range k).map fun j=>takesTo N (lbN N j) N.sets.length)++[takesTo N (lbN N k) N.sets.length]:=by
      rw [List.range_succ];simp
     obtain⟨TL,hTL⟩:∃ TL,((List.range k).map fun j=>takesTo N (lbN N j) N.sets.length)=TL:=⟨_,rfl⟩;have HLN:=zd (show TL.length+1<=1073741824 by rw [<-hTL];simp;omega);rw [hTL]at htk hsm;have HTK:=zd htk;obtain⟨hv1,hv2,hv3,_⟩:=hsm.vals
     have hdc:∀ u:World,BlkF u (w.heap.size+2) 129 301 (mkF V)->(Instr.loadAt 33 (.pointer (some ⟨w.heap.size+2,0,none⟩))).run Tryz.prog u=.ok (.agg (clsC (ofN N) (clN N:Nat))) u:=fun u hu=>by
      have:=loadDc (DfB.ofMk hu);rw [show V.of=ofN N from hv1,show V.n=clN N from hv2]at this;exact this
     have hsv:SetsV w N.sets V.v0:=by
      obtain⟨_,_,_,_,_,e,h0,_⟩:=hsm.nfa
      injection e with e
      injection e with e
      simp only [List.cons.injEq]at e;obtain⟨rfl,_⟩:=e;exact h0
     have HFR:=zd (fun(u:World) (hu:Below w.heap.size w u)=>show Calls Tryz.prog 85 #[.agg (clsC (ofN N) (clN N:Nat)),.int .i64 (k:Nat)] u (fun e w'=>e=.returned (.int .i64 (lbN N k:Nat))/\Below u.heap.size u w')by
      have:=xznh (ofN N) (clN N:Nat) (k:Nat) (xzrf N) u (HTT.out.step hu);rw [hl1]at this
      exact this)
     have HRO:=zd (fun(u:World) (hu:Below w.heap.size w u) (hm:BlkF u (w.heap.size+2) 129 301 (mkF V))=>xzub N (lbN N k) hl2 (w.heap.size+2) V.v0 u (xzaq hm).2.2.2.1 (hsv.step hu) HSN.out);have HC0:=zd (And.intro hsm.below (And.intro (hsm.ta (fun h=>h)) (hsm.blk (fun h=>h))));have HOW:=zd (show ∀ k,V.tak.ownBlock=some k->k<w2.heap.size from fun k hk=>(World.ownsRow.lt (hsm.ta (fun h=>h)) k hk).2)
     have HNE:=zd (show V.tak.ownBlock≠some (w.heap.size+2)from fun e=>by
      have h1:=hsm.ro.2.2.2.1 _ e;have h2:=hsm.ro.1;rw [show(spN N w).g=w.heap.size+2 from rfl]at h2
      rw [h1]at h2;cases h2)
     have HWS:=zd (show w.heap.size<=w2.heap.size from hsm.size);have HGL:=zd (show w.heap.size+2<w2.heap.size from BlkIs.lt (hsm.blk (fun h=>h)));have HSM2:=zd hsm;clear hsm htk hTL HH HSM1 hl1 hl2 hv1 hv2 hv3 hsv hcl6
     go_wp2_with fail
     refine xzaf 17 67 (fun u=>Hid (Tn V.tak.ownBlock w2 u/\Below w.heap.size w u/\RowsP w.heap.size u V.tak TL/\BlkF u (w.heap.size+2) 129 301 (mkF V))) (fun i u u'=>(i=16->u.grownBy u' V.tak.ownBlock/\RowsP w.heap.size u' V.tak TL)/\(i≠16->Below u.heap.size u u'))
      (fun i v u=>match i with
       |0=>v=.pointer (some ⟨w.heap.size+2,0,none⟩)
       |1=>v=.pointer (some ⟨w.heap.size+2,0,none⟩)
       |2=>v=.pointer (some ⟨w.heap.size+2,0,none⟩)
       |3=>v=.pointer (some ⟨w.heap.size+2,266,none⟩)
       |4=>v=V.tak
       |5=>v=.pointer (some ⟨w.heap.size+2,0,none⟩)
       |6=>v=.pointer (some ⟨w.heap.size+2,0,none⟩)
       |7=>v=.pointer (some ⟨w.heap.size+2,0,none⟩)
       |8=>v=.pointer (some ⟨w.heap.size+2,0,none⟩)
       |9=>v=.pointer (some ⟨w.heap.size+2,0,none⟩)
       |10=>v=.agg (clsC (ofN N) (clN N:Nat))
       |11=>v=.int .i64 (k:Nat)
       |12=>v=.int .i64 (lbN N k:Nat)
       |13=>v=.int .u8 (lbN N k:Nat)
       |14=>v=.agg (rowA (takesTo N (lbN N k) N.sets.length))
       |15=>∃ b,v=.slice (some ⟨b,0,none⟩) 1 1/\RowAt u b 0 (takesTo N (lbN N k) N.sets.length)/\w2.heap.size<=b
       |16=>RowsP w.heap.size u v (TL++[takesTo N (lbN N k) N.sets.length])/\(v.ownBlock=V.tak.ownBlock\/ ∃ b,v.ownBlock=some b/\w2.heap.size<=b)
       |_=>True) (by kernel_rfl) (by kernel_rfl) rfl (zd ⟨Tn.below (Below.refl _ _).drew,HC0.out.1.drew,HC0.out.2.1.heap (fun _ _=>rfl),HC0.out.2.2⟩) ?_ ?_ ?_ ?_
     ·intro i u u' hix hC hr
      by_cases hi8:i=16
      ·obtain⟨g1,g2⟩:=hr.1 hi8
       have n1:V.tak.ownBlock≠some (w.heap.size+2):=HNE.out;exact zd ⟨hC.out.1.trans (Tn.grown g1),(Tn.grown g1).2.2 _ _ (by have:=hC.out.1.1;have:=HWS.out;omega) (fun k hk=>(World.ownsRow.lt hC.out.2.2.1 k hk).1) hC.out.2.1,g2,((Tn.grown g1).2.1 _ (by have:=hC.out.1.1;have:=HGL.out;omega) n1).trans hC.out.2.2.2⟩
      ·have hb:=hr.2 hi8
       exact zd ⟨hC.out.1.trans (Tn.below hb),hC.out.2.1.trans (hb.mono (by have:=hC.out.1.1;have:=HWS.out;omega)),hC.out.2.2.1.heap (fun k hk=>hb.block k (World.ownsRow.lt hC.out.2.2.1 k hk).2),BlkIs.step hC.out.2.2.2 hb⟩
     ·intro i j v u u' hix hj hne hv hr
      match i,hix,hne,hv with
      |0,_,_,hv=>exact hv
      |1,_,_,hv=>exact hv
      |2,_,_,hv=>exact hv
      |3,_,_,hv=>exact hv
      |4,_,_,hv=>exact hv
      |5,_,_,hv=>exact hv
      |6,_,_,hv=>exact hv
      |7,_,_,hv=>exact hv
      |8,_,_,hv=>exact hv
      |9,_,_,hv=>exact hv
      |10,_,_,hv=>exact hv
      |11,_,_,hv=>exact hv
      |12,_,_,hv=>exact hv
      |13,_,_,hv=>exact hv
      |14,_,_,hv=>exact hv
      |15,_,hne,hv=>
       obtain⟨b,e1,e2,e3⟩:=hv;refine⟨b,e1,?_,e3⟩
       by_cases hj8:j=16
       ·exact e2.heap ((hr.1 hj8).1.block b (World.block_lt_of_cell? u ⟨b,0+0,none⟩ (e2 0 (by decide))) (fun e=>by have:=HOW.out b e.symm;omega))
       ·exact e2.step (hr.2 hj8)
      |16,_,hne,hv=>
       exact⟨hv.1.heap fun k hk=>(hr.2 (Ne.symm hne)).block k (World.ownsRow.lt hv.1 k hk).2,hv.2⟩
      |i+17,hix,_,_=>omega
     ·intro i hix vs u hC hw oq ho
      match i,hix,hw,ho with
      |0,_,hw,ho=>
       simp only [zq,zh]at ho;subst ho;refine⟨rfl,?_⟩;have k266:=(xzaq hC.out.2.2.2).2.2.2.2.2.2.2.2.2.2.1;clear hw;simp only [xzaa,tmpsTo];go_simp;exact xzab (Below.refl _ _) rfl
      |1,_,hw,ho=>
       simp only [zq,zh]at ho;subst ho;refine⟨rfl,?_⟩;have k266:=(xzaq hC.out.2.2.2).2.2.2.2.2.2.2.2.2.2.1;clear hw;simp only [xzaa,tmpsTo,putT,zr];go_simp;exact xzab (Below.refl _ _) rfl
      |2,_,hw,ho=>
       have e1:vs 1=.pointer (some ⟨w.heap.size+2,0,none⟩):=hw 1 (by omega) (by kernel_rfl);simp only [zq,zh]at ho;subst ho;refine⟨rfl,?_⟩;have k266:=(xzaq hC.out.2.2.2).2.2.2.2.2.2.2.2.2.2.1;clear hw;simp only [xzaa,tmpsTo,putT,zr];rw [e1];clear e1;go_simp;exact xzab (Below.refl _ _) rfl
      |3,_,hw,ho=>
       have e2:vs 2=.pointer (some ⟨w.heap.size+2,0,none⟩):=hw 2 (by omega) (by kernel_rfl);simp only [zq,zh]at ho;subst ho;refine⟨rfl,?_⟩;have k266:=(xzaq hC.out.2.2.2).2.2.2.2.2.2.2.2.2.2.1;clear hw;simp only [xzaa,tmpsTo,putT,zr];rw [e2];clear e2;go_simp;exact xzab (Below.refl _ _) rfl
      |4,_,hw,ho=>
       have e3:vs 3=.pointer (some ⟨w.heap.size+2,266,none⟩):=hw 3 (by omega) (by kernel_rfl);simp only [zq,zh]at ho;subst ho;refine⟨rfl,?_⟩;have k266:=(xzaq hC.out.2.2.2).2.2.2.2.2.2.2.2.2.2.1;clear hw;simp only [xzaa,tmpsTo,putT,zr];rw [e3];clear e3;go_simp;exact xzab (Below.refl _ _) rfl
      |5,_,hw,ho=>
       simp only [zq,zh]at ho;subst ho;refine⟨rfl,?_⟩;have k266:=(xzaq hC.out.2.2.2).2.2.2.2.2.2.2.2.2.2.1;clear hw;simp only [xzaa,tmpsTo,putT,zr];go_simp;exact xzab (Below.refl _ _) rfl
      |6,_,hw,ho=>
       simp only [zq,zh]at ho;subst ho;refine⟨rfl,?_⟩;have k266:=(xzaq hC.out.2.2.2).2.2.2.2.2.2.2.2.2.2.1;clear hw;simp only [xzaa,tmpsTo,putT,zr];go_simp;exact xzab (Below.refl _ _) rfl
      |7,_,hw,ho=>
       have e6:vs 6=.pointer (some ⟨w.heap.size+2,0,none⟩):=hw 6 (by omega) (by kernel_rfl);simp only [zq,zh]at ho;subst ho;refine⟨rfl,?_⟩;have k266:=(xzaq hC.out.2.2.2).2.2.2.2.2.2.2.2.2.2.1;clear hw;simp only [xzaa,tmpsTo,putT,zr];rw [e6];clear e6;go_simp;exact xzab (Below.refl _ _) rfl
      |8,_,hw,ho=>
       have e7:vs 7=.pointer (some ⟨w.heap.size+2,0,none⟩):=hw 7 (by omega) (by kernel_rfl);simp only [zq,zh]at ho;subst ho;refine⟨rfl,?_⟩;have k266:=(xzaq hC.out.2.2.2).2.2.2.2.2.2.2.2.2.2.1;clear hw;simp only [xzaa,tmpsTo,putT,zr];rw [e7];clear e7;go_simp;exact xzab (Below.refl _ _) rfl
      |9,_,hw,ho=>
       have e8:vs 8=.pointer (some ⟨w.heap.size+2,0,none⟩):=hw 8 (by omega) (by kernel_rfl);simp only [zq,zh]at ho;subst ho;refine⟨rfl,?_⟩;have k266:=(xzaq hC.out.2.2.2).2.2.2.2.2.2.2.2.2.2.1;clear hw;simp only [xzaa,tmpsTo,putT,zr];rw [e8];clear e8;go_simp;exact xzab (Below.refl _ _) rfl
      |10,_,hw,ho=>
       have e9:vs 9=.pointer (some ⟨w.heap.size+2,0,none⟩):=hw 9 (by omega) (by kernel_rfl);simp only [zq,zh]at ho;subst ho;refine⟨rfl,?_⟩;have k266:=(xzaq hC.out.2.2.2).2.2.2.2.2.2.2.2.2.2.1;clear hw;simp only [xzaa,tmpsTo,putT,zr];rw [e9];clear e9;rw [xzdb 33 (.tmp 55) _ rfl rfl (hdc u hC.out.2.2.2)];exact xzab ⟨fun h=>absurd h (by decide),fun _=>Below.refl _ _⟩ rfl
      |11,_,hw,ho=>
       simp only [zq,zh]at ho;subst ho;refine⟨rfl,?_⟩;have k266:=(xzaq hC.out.2.2.2).2.2.2.2.2.2.2.2.2.2.1;clear hw;simp only [xzaa,tmpsTo,putT,zr];go_simp;exact xzab (Below.refl _ _) rfl
      |12,_,hw,ho=>
       have e10:vs 10=.agg (clsC (ofN N) (clN N:Nat)):=hw 10 (by omega) (by kernel_rfl);have e11:vs 11=.int .i64 (k:Nat):=hw 11 (by omega) (by kernel_rfl);simp only [zq,zh]at ho;subst ho;refine⟨rfl,?_⟩;have k266:=(xzaq hC.out.2.2.2).2.2.2.2.2.2.2.2.2.2.1;clear hw;simp only [xzaa,tmpsTo,putT,zr];rw [e10,e11];clear e10 e11;go_simp;refine xzak ((HFR.out u hC.out.2.1).mono ?_);rintro e u' ⟨rfl,hbu⟩;exact⟨_,rfl,hbu,rfl⟩
      |13,_,hw,ho=>
       have e12:vs 12=.int .i64 (lbN N k:Nat):=hw 12 (by omega) (by kernel_rfl);simp only [zq,zh]at ho;subst ho;refine⟨rfl,?_⟩;have k266:=(xzaq hC.out.2.2.2).2.2.2.2.2.2.2.2.2.2.1;clear hw;simp only [xzaa,tmpsTo,putT,zr];rw [e12];clear e12;have hlw:=HLW.out;go_simp;exact xzab (Below.refl _ _) rfl
      |14,_,hw,ho=>
       have e5:vs 5=.pointer (some ⟨w.heap.size+2,0,none⟩):=hw 5 (by omega) (by kernel_rfl);have e13:vs 13=.int .u8 (lbN N k:Nat):=hw 13 (by omega) (by kernel_rfl);simp only [zq,zh]at ho;subst ho;refine⟨rfl,?_⟩;have k266:=(xzaq hC.out.2.2.2).2.2.2.2.2.2.2.2.2.2.1;clear hw;simp only [xzaa,tmpsTo,putT,zr];rw [e5,e13];clear e5 e13;go_simp;refine xzak ((HRO.out u hC.out.2.1 hC.out.2.2.2).mono ?_);rintro e u' ⟨rfl,hbu⟩;exact⟨_,rfl,hbu,rfl⟩
      |15,_,hw,ho=>
       have e14:vs 14=.agg (rowA (takesTo N (lbN N k) N.sets.length)):=hw 14 (by omega) (by kernel_rfl);simp only [zq,zh]at ho;subst ho;refine⟨rfl,?_⟩;have k266:=(xzaq hC.out.2.2.2).2.2.2.2.2.2.2.2.2.2.1;clear hw;simp only [xzaa,tmpsTo,putT,zr];rw [e14];clear e14;rw [xzfh (x:=.agg (rowA (takesTo N (lbN N k) N.sets.length))) 123 (.tmp 60) rfl rfl (xzhj (takesTo N (lbN N k) N.sets.length) u)];exact xzab ⟨fun h=>absurd h (by decide),fun _=>(Below.refl _ _).alloc (Nat.le_refl _) _⟩ ⟨_,rfl,BlkF.row (newF _ _ _) (xzbm _),hC.out.1.1⟩
      |16,_,hw,ho=>
       have e4:vs 4=V.tak:=hw 4 (by omega) (by kernel_rfl);obtain⟨b,e15,hb1,hb2⟩:∃ b,vs 15=.slice (some ⟨b,0,none⟩) 1 1/\RowAt u b 0 (takesTo N (lbN N k) N.sets.length)/\w2.heap.size<=b:=hw 15 (by omega) (by kernel_rfl);simp only [zq,zh]at ho;subst ho;refine⟨rfl,?_⟩;have k266:=(xzaq hC.out.2.2.2).2.2.2.2.2.2.2.2.2.2.1;clear hw;simp only [xzaa,tmpsTo,putT,zr];rw [e4];clear e4;rw [e15];obtain⟨v',W',hrun,k1,k2,k3,k4⟩:=xzfg hC.out.2.2.1 hb1 (c:=1) (by have:=HLN.out;omega) (by have:=hC.out.1.1;have:=HWS.out;omega);rw [xzca (.tmp 50) (.tmp 61) 123 123 rfl rfl rfl hrun];refine xzab ?_ ?_
       ·exact⟨fun _=>⟨k2,k3⟩,fun h=>absurd rfl h⟩
       ·refine⟨k1,?_⟩
        rcases k4 with k4|k4
        ·exact .inl k4
        ·exact .inr ⟨_,k4,hC.out.1.1⟩
      |i+17,hix,_,_=>omega
     intro vs1 u hC hV;have h8:RowsP w.heap.size u (vs1 16) (TL++[takesTo N (lbN N k) N.sets.length])/\((vs1 16).ownBlock=V.tak.ownBlock\/ ∃ b,(vs1 16).ownBlock=some b/\w2.heap.size<=b):=hV 16 (by omega);have h0:vs1 0=.pointer (some ⟨w.heap.size+2,0,none⟩):=hV 0 (by omega);clear hV;simp only [xzaa,tmpsTo,putT,zr,List.drop_succ_cons,List.drop_zero];rw [h0];clear h0;generalize vs1 16=v8 at*;generalize vs1 1=q1;generalize vs1 2=q2;generalize vs1 3=q3;generalize vs1 4=q4;generalize vs1 5=q5;generalize vs1 6=q6;generalize vs1 7=q7;generalize vs1 8=q8;generalize vs1 9=q9;generalize vs1 10=q10;generalize vs1 11=q11;generalize vs1 12=q12;generalize vs1 13=q13;generalize vs1 14=q14;generalize vs1 15=q15;obtain⟨⟨ρ',hn⟩,⟨x265,c265⟩,fz⟩:=sm_tak HSM2.out hC.out.1 h8.1 h8.2;have HN:=zd hn;obtain⟨A8,cc8,e8,hc8⟩:=h8.1.form;rw [show(TL++[takesTo N (lbN N k) N.sets.length]).length=TL.length+1 by simp]at e8;subst e8;have c265':u.cell? ⟨w.heap.size+2,266,none⟩=some x265:=c265;have fz':u.frozen? ⟨w.heap.size+2,266,none⟩=false:=fz;clear hn h8 hC HC0 HOW HNE HRO HFR hdc c265 fz;go_wp2;exact⟨⟨k+1,rfl,hp,zd ⟨ρ',{V with tak:=.slice A8 (TL.length+1) cc8},bs,by rw [HTK.out];exact HN.out⟩⟩,by simp [intOf];omega⟩
    ·have hdl:decide ((k:Int)<(clN N:Int))=false:=by simp;omega
     obtain rfl:k=clN N:=by omega
     have HSM3:=zd hsm;clear hsm HH HSM1;go_wp2;go_ret;exact⟨rfl,_,_,_,HSM3.out⟩
end
section
open Go.RowKit
section turn
variable {P : Program} {ops : Array Oper} {C : Bool → World → Prop}
def StandsT (ops:Array Oper)(xo:Nat)(C:Bool->World->Prop)(h:Nat)(V:Nat->Value->World->Prop)(a0:Act)(listed:Array Bool)(a:Act)(u:World):Prop:=
 HeadInv .any ops h listed/\∃ vs:Nat->Value,Came ops (fun i=>listed.getD i false) vs a0 a/\C (listed.getD xo false) u/\(∀ i,i<h->listed.getD i false=true->V i (vs i) u)
def StepT (P:Program)(ops:Array Oper)(xo:Nat)(C:Bool->World->Prop)(R:Nat->World->World->Prop)(V:Nat->Value->World->Prop)(a0:Act)(i:Nat):Prop:=
 ∀ (c:Bool) (vs:Nat->Value) (u:World),(i=xo->c=false)->C c u->(∀ j,j<i->Region.waitsFor .any ops i j=true->V j (vs j) u)->∀ o,ops[i]? =some o->o.guard=none/\actUpon P u (R i) (V i) ((execOp (textFrame ops vs a0 i).eval o).run P u)
variable {xo : Nat} {h N : Nat} {R : Nat → World → World → Prop} {V : Nat → Value → World → Prop} {a0 : Act}
theorem xzrg (hsel:Region.noSelect ops=true)(hh:h<=ops.size)(hD:distinctB ops h N=true)(hK:looksB ops h h=true)(hN:a0.tmps.size=N)
 (hCs:∀ i c u u',i<h->(i=xo->c=false)->C c u->R i u u'->C (c||decide (i=xo)) u')(hVs:∀ i j v u u',i<h->j<h->i≠j->V i v u->R j u u'->V i v u'){Q:Exit->Act->World->Prop}{listed:Array Bool}{a:Act}{u:World}(hst:StandsT ops xo C h V a0 listed a u)
 {i:Nat} (hi:i<h) (hr:i∈Region.ready .any ops listed) (hv:StepT P ops xo C R V a0 i):
 wpOp P ops Q i (fun a' u'=>StandsT ops xo C h V a0 (listed.setIfInBounds i true) a' u') a u:=by
 obtain⟨inv,vs,hc,hC,hV⟩:=hst;have hcc:=xzci hD hN hh vs i (by omega);obtain⟨hun,o',ho',hall⟩:=mem_ready.1 hr;have hunf:=getD_both hun
 have hlt:=fun j hj=>xzdm inv j hj
 have hsz:a.tmps.size=(textFrame ops vs a0 i).tmps.size:=hc.2.1.trans hcc.2.1.symm
 have hwait:∀ j,j<i->Region.waitsFor .any ops i j=true->listed.getD j false=true:=fun j _ h3=>by
  obtain⟨oi,hoi,e,he,hbd,hon⟩:=Region.waitsFor_spec h3;obtain rfl:oi=o':=Option.some.inj (hoi.symm.trans ho');have hl:=hall e he hbd;rw [hon]at hl;exact hl
 have hlook:∀ t∈o'.looksAt ops,a.tmps.getD t undef=(textFrame ops vs a0 i).tmps.getD t undef:=fun t ht=>by
  by_cases hwr:∃ j oj,j<h/\ops[j]? =some oj/\oj.dst=some t/\j≠i
  ·obtain⟨j,oj,hj,hoj,hd,hne⟩:=hwr
   obtain⟨h1,h2,h3⟩:=xzcw hK hi ho' ht hj hoj hd hne;have hl:=hwait j h1 h3;rw [hc.2.2.1 j oj t hoj hl hd,hcc.2.2.1 j oj t hoj (by simpa using h1) hd]
  ·have hn1:∀ j oj,ops[j]? =some oj->listed.getD j false=true->oj.dst≠some t:=fun j oj hoj hl hd=>by
    by_cases e:j=i
    ·subst e;rw [hunf]at hl;cases hl
    ·exact hwr ⟨j,oj,hlt j hl,hoj,hd,e⟩
   have hn2:∀ j oj,ops[j]? =some oj->decide (j<i)=true->oj.dst≠some t:=fun j oj hoj hl hd=>
    hwr ⟨j,oj,by have:=of_decide_eq_true hl;omega,hoj,hd,by have:=of_decide_eq_true hl;omega⟩
   rw [hc.2.2.2 t hn1,hcc.2.2.2 t hn2]
 obtain⟨hex,hwa⟩:=xzeq (ops:=ops) (Region.noSelect_spec hsel i o' · · ho') hsz hlook
 have hset:∀ (x:Value) (u':World),R i u u'->V i x u'->StandsT ops xo C h V a0 (listed.setIfInBounds i true) (a.put o'.dst x) u':=fun x u' hbu hx=>by
  refine⟨inv.set hr (by omega),fun j=>if j=i then x else vs j,?_,?_,fun j h1 h3=>?_⟩
  ·refine hc.put hD hN (fun j hj=>hlt j hj) hi ho' hunf x (fun j=>?_) (fun j hj=>?_) (by simp)
   ·by_cases e:j=i
    ·subst e
     have:j<listed.size:=by rw [inv.size];omega
     simp [this]
    ·rw [getD_set_ne false (Ne.symm e)];simp [e]
   ·have hne:j≠i:=fun e=>by subst e;rw [hunf]at hj;cases hj
    simp [hne]
  ·have hi2:i<listed.size:=by rw [inv.size];omega
   have hcs:=hCs i _ _ _ hi (fun e=>by rw [<-e];exact hunf) hC hbu
   have eq:(listed.setIfInBounds i true).getD xo false=(listed.getD xo false||decide (i=xo)):=by
    by_cases e:i=xo
    ·subst e;simp [hi2]
    ·rw [getD_set_ne false e];simp [e]
   rw [eq];exact hcs
  ·by_cases e:j=i
   ·subst e;simpa using hx
   ·rw [getD_set_ne false (Ne.symm e)]at h3
    simp only [if_neg e];exact hVs j i _ _ _ h1 hi e (hV j h1 h3) hbu
 obtain⟨hg,hf⟩:=hv _ vs u (fun e=>by rw [<-e];exact hunf) hC (fun j hj hw=>hV j (by omega) (hwait j hj hw)) o' ho';unfold wpOp;simp only [ho']
 have hw:Region.wanted o' (yielded ops a.tmps)=true:=by unfold Region.wanted;rw [hg]
 rw [if_pos hw];refine .inl ?_;rw [<-hex]at hf;unfold Oper.wp;generalize(execOp a.eval o').run P u=r at hf
 cases r with
 |ok nx w'=>
  cases nx<;>simp only [actUpon]at hf<;>simp only [Oper.upon]
  case value x=>exact hset x w' hf.1 hf.2
  case enter f args=>
   obtain⟨rfl,hcall⟩:=hf
   exact hcall.mono fun e w'' ⟨v,he,hbw,hvw⟩=>by subst he;exact hset v w'' hbw hvw
 |halt x w'=>simp only [actUpon]at hf
theorem xzzt {Q:Exit->Act->World->Prop}(hB:freeB ops h h N=true)(hN:a0.tmps.size=N)(hCs:∀ i c u u',i<h->(i=xo->c=false)->C c u->R i u u'->C (c||decide (i=xo)) u')(hVs:∀ i j v u u',i<h->j<h->i≠j->V i v u->R j u u'->V i v u')
 (hS:∀ i,i<h->StepT P ops xo C R V a0 i)
 (hend:∀ a u,StandsT ops xo C h V a0 (headArr ops.size h) a u->wpList P ops Q (ops.toList.drop h) a u):
 ∀ (d:Nat) (listed:Array Bool) (a:Act) (u:World),toCome listed h=d->StandsT ops xo C h V a0 listed a u->wpAny P .any ops Q (d+(ops.size - h)) listed a u:=by
 simp only [freeB,Bool.and_eq_true,Bool.or_eq_true,decide_eq_true_eq]at hB;obtain⟨⟨⟨⟨⟨⟨⟨hsel,hnh⟩,hh⟩,hD⟩,hK⟩,hA⟩,hT⟩,hSq⟩:=hB;intro d
 induction d with
 |zero=>
  intro listed a u hd hst;have hl:=xzcz hst.1 (xzcx hd);subst hl;have:=wpAny_of_seq (md:=.any) (Q':=Q) (ops.toList.drop h) h (headArr ops.size h) a u (fun j=>by simp) (by simpa using hSq) (hend a u hst)
  simpa using this
 |succ d ih=>
  intro listed a u hd hst
  have hex:∃ i,i<h/\listed.getD i false=false:=by
   have hpos:0<((List.range h).filter fun i=> !listed.getD i false).length:=by unfold toCome at hd;omega
   obtain⟨i,hi⟩:=List.exists_mem_of_length_pos hpos;rw [List.mem_filter]at hi;exact⟨i,List.mem_range.1 hi.1,by simpa using hi.2⟩
  obtain⟨i0,hi0,hu0⟩:=hex;have hs:=hst.1.size;obtain⟨j0,hj0⟩:=xzcy hh hA hs i0 i0 (Nat.le_refl _) hi0 hu0;rw [show d+1+(ops.size - h)=(d+(ops.size - h))+1 by omega];refine⟨fun he=>(by rw [he]at hj0;cases hj0),fun i hi=>?_⟩
  have hil:i<ops.size:=by
   obtain⟨_,o,ho,_⟩:=mem_ready.1 hi;exact(Array.getElem?_eq_some_iff.1 ho).1
  have hih:i<h:=by
   rcases Nat.lt_or_ge i h with hlt|hge
   ·exact hlt
   ·rcases hT with hT|hT
    ·omega
    ·exact absurd hi (tail_waits hT.1 hT.2 (by omega) hst.1 (h - i0) i0 rfl hi0 (getD_in (by omega) hu0) i hge)
  have hun:=getD_both (mem_ready.1 hi).1;have hset:=xzdr hih (by omega) hun;exact wpOp_mono (fun a' u' hst'=>ih _ a' u' (by omega) hst') (xzrg hsel hh hD hK hN hCs hVs hst hih hi (hS i hih))
theorem xzck {id:Nat}{l:List Oper}{Q:Exit->Act->World->Prop}{a:Act}{w:World}(h N:Nat)(xo:Nat)(C:Bool->World->Prop)(R:Nat->World->World->Prop)(V:Nat->Value->World->Prop)
 (hm:P.follows .mixedOrders=true)(hB:freeB l.toArray h h N=true)(hN:a.tmps.size=N)(hC0:C false w.drew)(hCs:∀ i c u u',i<h->(i=xo->c=false)->C c u->R i u u'->C (c||decide (i=xo)) u')(hVs:∀ i j v u u',i<h->j<h->i≠j->V i v u->R j u u'->V i v u')
 (hS:∀ i,i<h->StepT P l.toArray xo C R V a i)
 (hE:∀ (vs:Nat->Value) (u:World),C (decide (xo<h)) u->(∀ i,i<h->V i (vs i) u)->wpList P l.toArray Q (l.drop h) (textFrame l.toArray vs a h) u):(Code.region id l.toArray true).wp P Q a w:=by
 have hB':=hB;simp only [freeB,Bool.and_eq_true,Bool.or_eq_true,decide_eq_true_eq]at hB';obtain⟨⟨⟨⟨⟨⟨⟨hsel,hnh⟩,hh⟩,hD⟩,hK⟩,hA⟩,hT⟩,hSq⟩:=hB';refine wp_region_any hm ?_
 have inv0:HeadInv .any l.toArray h (Array.replicate l.toArray.size false):=
  ⟨by simp,fun j oj _ hl=>(by rw [getD_replicate_false]at hl;cases hl),fun t _ ht=>getD_in (by simpa using ht) (getD_replicate_false _ _)⟩
 have hst0:StandsT l.toArray xo C h V a (Array.replicate l.toArray.size false) a w.drew:=by
  refine⟨inv0,fun _=>undef,⟨rfl,rfl,fun i o t _ hi=>?_,fun _ _=>rfl⟩,by rw [getD_replicate_false];exact hC0,fun i _ hl=>?_⟩
  ·have hi':(Array.replicate l.toArray.size false).getD i false=true:=hi
   rw [getD_replicate_false]at hi';cases hi'
  ·rw [getD_replicate_false]at hl;cases hl
 have hcome:toCome (Array.replicate l.toArray.size false) h=h:=by
  unfold toCome;rw [List.filter_eq_self.2 (fun i _=>by rw [getD_replicate_false];rfl)]
  simp
 have:=xzzt (P:=P) (Q:=Q) hB hN hCs hVs hS (fun a' u hst=>?_) h _ a w.drew hcome hst0
 ·rw [show h+(l.toArray.size - h)=l.toArray.size by omega]at this
  exact this
 ·obtain⟨inv,vs,hc,hC,hV⟩:=hst
  have hg:∀ i,i<h->(headArr l.toArray.size h).getD i false=true:=fun i hi=>by rw [xzbp,if_pos (by omega)];simpa using hi
  have hcall:Came l.toArray (fun j=>decide (j<h)) vs a a':=by
   refine⟨hc.1,hc.2.1,fun i o t ho hi ht=>hc.2.2.1 i o t ho (hg i (of_decide_eq_true hi)) ht,fun t ht=>hc.2.2.2 t fun i o ho hi=>ht i o ho ?_⟩;have:=xzdm inv i hi
   simpa using this
  have he:=hcall.unique (xzci hD hN hh vs h (Nat.le_refl _)) (fun _ _=>rfl);subst he;rw [show(headArr l.toArray.size h).getD xo false=decide (xo<h)from ?_]at hC
  ·simpa using hE vs u hC (fun i hi=>hV i hi (hg i hi))
  ·rw [xzbp]
   split
   ·rfl
   ·exact(decide_eq_false (by omega)).symm
end turn
end
end Go.Proofs.YtdjpphjpnkfeiaaGreatDoor
